/-
  Proved: for any numbers and any uint rifflelaw07.CarveParts returns true, and each argument reads afterwards as it read before. No other condition.
-/
import Derived.Test.YtfnpdflapmbnjaaPkW
import Derived.Test.YtfnpdflapmbnjaaCvPart1
import Derived.Test.YtfnpdflapmbnjaaPkO
namespace Go.Proofs.Ytfnpdflapmbnjaa.carveParts
open Go.Proofs.Ytfnpdflapmbnjaa.Sh
open Go.Joins Go.ChangeShapes Go.WideShapes Go.ChangeAt Go.RowKit Go.Deep
set_option linter.unusedVariables false

theorem u64_wf {n : Int} (h : (Lit.int .u64 n).wf = true) : 0 ≤ n ∧ n < 18446744073709551616 := by
  simp [Lit.wf, IntKind.min, IntKind.max, IntKind.signed, IntKind.bits] at h
  omega
/-- A cell with one axis, its axes with their capacity, and no error. -/
def RetK (w : World) (v : List Int) (e : Ending) (w' : World) : Prop := ∃ A c B c2, e = .returned (.tuple #[.agg #[.slice A 1 c, .slice B v.length c2], .int .i64 0]) ∧ Ints w' A [(v.length : Int)] ∧ Ints w' B v ∧ (1 ≤ c ∧ c ≤ maxLen) ∧ Below w.heap.size w w'
theorem retK {w : World} {v D V : List Int} {E : Int} {e : Ending} {w' : World} (hE : E = 0) (hD : D = [(v.length : Int)]) (hV : V = v) (h : RetC w D V (.int .i64 E) e w') : RetK w v e w' := by
  subst hE hD hV
  obtain ⟨x, rfl, ⟨A, c, B, c2, rfl, h1, h2, _, _, h5, h6⟩, hb⟩ := h
  exact ⟨A, c, B, c2, rfl, h1.ints, h2.ints, ⟨h5, h6⟩, hb⟩
theorem list7_x (W0 : World) (B : Option Addr) (c : Nat) (x : Int) (w : World) (l : Below W0.heap.size W0 w) (i : Ints w B [x]) : Calls Try.prog 34 #[.slice B 1 c] w (fun e w' => ∃ A1, e = .returned (.agg #[.slice A1 1 1, .slice B 1 c]) ∧ Ints w' A1 [1] ∧ Ints w' B [x] ∧ Below W0.heap.size W0 w' ∧ Below w.heap.size w w') :=
  (list7_n B 1 c w (by omega)).mono fun e w' ⟨A1, h1, h2, h3⟩ => ⟨A1, h1, h2, i.below h3, below_next l h3, h3⟩
theorem take_k (W0 : World) (A : Option Addr) (c : Nat) (B : Option Addr) (c2 : Nat) (x : Int) (A' : Option Addr) (c' : Nat) (B' : Option Addr) (c2' : Nat) (l v : List Int) (w : World) (hl : l.length ≤ 64) (h : taE [1] [x] [(l.length : Int)] l = 0 ∧ taD [1] [x] [(l.length : Int)] l = [(v.length : Int)] ∧ taV [1] [x] [(l.length : Int)] l = v)
    (id : Ints w A [1]) (iv : Ints w B [x]) (ie : Ints W0 A' [(l.length : Int)]) (iu : Ints W0 B' l) (lb : Below W0.heap.size W0 w) :
    Calls Try.prog 30 #[.agg #[.slice A 1 c, .slice B 1 c2], .agg #[.slice A' 1 c', .slice B' l.length c2']] w (RetK w v) :=
  (take_any A c [1] B c2 [x] A' c' [(l.length : Int)] B' c2' l w id iv (ie.below lb) (iu.below lb) (by simp) (by simp) (by simp) (by omega)).mono fun _ _ q => retK h.1 h.2.1 h.2.2 q
theorem drop_k (W0 : World) (A : Option Addr) (c : Nat) (B : Option Addr) (c2 : Nat) (x : Int) (A' : Option Addr) (c' : Nat) (B' : Option Addr) (c2' : Nat) (l v : List Int) (w : World) (hl : l.length ≤ 64) (h : coE [1] [x] [(l.length : Int)] l = 0 ∧ drD [1] [x] [(l.length : Int)] l = [(v.length : Int)] ∧ drV [1] [x] [(l.length : Int)] l = v)
    (id : Ints w A [1]) (iv : Ints w B [x]) (ie : Ints W0 A' [(l.length : Int)]) (iu : Ints W0 B' l) (lb : Below W0.heap.size W0 w) :
    Calls Try.prog 32 #[.agg #[.slice A 1 c, .slice B 1 c2], .agg #[.slice A' 1 c', .slice B' l.length c2']] w (RetK w v) :=
  (drop_any A c [1] B c2 [x] A' c' [(l.length : Int)] B' c2' l w id iv (ie.below lb) (iu.below lb) (by simp) (by simp) (by simp) (by omega)).mono fun _ _ q => retK h.1 h.2.1 h.2.2 q
theorem join_k (A : Option Addr) (c : Nat) (B : Option Addr) (c2 : Nat) (v : List Int) (A' : Option Addr) (c' : Nat) (B' : Option Addr) (c2' : Nat) (u l : List Int) (w : World) (h : v ++ u = l) (hl : l.length ≤ 64) (id : Ints w A [(v.length : Int)]) (iv : Ints w B v) (ie : Ints w A' [(u.length : Int)]) (iu : Ints w B' u) (hc : 1 ≤ c ∧ c ≤ maxLen) (hc' : 1 ≤ c' ∧ c' ≤ maxLen) :
    Calls Try.prog 20 #[.agg #[.slice A 1 c, .slice B v.length c2], .agg #[.slice A' 1 c', .slice B' u.length c2']] w (RetK w l) := by
  have hs : v.length + u.length ≤ 64 := by rw [← List.length_append, h]; exact hl
  have hx := join_x hs
  refine (join_any A c [(v.length : Int)] B c2 v A' c' [(u.length : Int)] B' c2' u w id iv ie iu (by simp) (by omega) (by simp) (by omega) hc.1 hc.2 hc'.1 hc'.2).mono fun _ _ q => retK hx.1 ?_ (hx.2.2.trans h) q
  rw [hx.2.1, ← List.length_append, h]
theorem rsame_k (A : Option Addr) (c : Nat) (B : Option Addr) (c2 : Nat) (v : List Int) (A' : Option Addr) (c' : Nat) (B' : Option Addr) (c2' : Nat) (w : World) (hv : v.length ≤ 64) (id : Ints w A [(v.length : Int)]) (iv : Ints w B v) (ie : Ints w A' [(v.length : Int)]) (iu : Ints w B' v) :
    Calls Try.prog 14 #[.agg #[.slice A 1 c, .slice B v.length c2], .agg #[.slice A' 1 c', .slice B' v.length c2']] w fun r w' => r = .returned (.bool true) ∧ Below w.heap.size w w' :=
  rsame_eq A c [(v.length : Int)] B c2 v A' c' B' c2' w (by simp) (by omega) id iv ie iu
/-- Behind a cell of one axis that lies in a new box. -/
def CutT (w : World) (v : List Int) (s7 s8 : Value) (wx : World) : Prop := ∃ g A k B e, s7 = .pointer (some ⟨g, 0, none⟩) ∧ s8 = .int .i64 0 ∧ Box wx g (.slice A 1 k) (.slice B v.length e) ∧ Ints wx A [(v.length : Int)] ∧ Ints wx B v ∧ (1 ≤ k ∧ k ≤ maxLen) ∧ w.heap.size ≤ g ∧ Below w.heap.size w wx
section
variable {w W : World} {v : List Int} {A B : Option Addr} {k e : Nat} (hL : Below w.heap.size w W) (j1 : Ints W A [(v.length : Int)]) (j2 : Ints W B v) (h1 : 1 ≤ k ∧ k ≤ maxLen)
include hL j1 j2 h1
theorem ct1 : CutT w v (.pointer (some ⟨W.heap.size, 0, none⟩)) (.int .i64 0) (W.alloc (.cells #[.slice A 1 k, .slice B v.length e] 25)) :=
  have b1 := below_new W (.cells #[.slice A 1 k, .slice B v.length e] 25)
  ⟨_, A, k, B, e, rfl, rfl, Box.new W _ _, j1.below b1, j2.below b1, h1, hL.size, below_next hL b1⟩
theorem ct2 {g : Nat} (bx : Box W g (.slice none 0 0) (.slice none 0 0)) (hg : w.heap.size ≤ g) : CutT w v (.pointer (some ⟨g, 0, none⟩)) (.int .i64 0) ((W.setCell ⟨g, 0, none⟩ (.slice A 1 k)).setCell ⟨g, 1, none⟩ (.slice B v.length e)) :=
  ⟨_, A, k, B, e, rfl, rfl, (bx.set0 _).set1 _, j1.set_box bx _ _, j2.set_box bx _ _, h1, hg, (hL.setCell (p := ⟨g, 0, none⟩) hg _).setCell (p := ⟨g, 1, none⟩) hg _⟩
end
theorem one_b (w : World) (o : Obj) (x : Int) : Ints ((w.alloc o).alloc (.cells #[.int .i64 x] 2)) (some ⟨w.heap.size + 1, 0, none⟩) [x] := by
  have h := one_new (w.alloc o) x
  rw [show (w.alloc o).heap.size = w.heap.size + 1 from by simp] at h
  exact h
theorem box_b (w : World) (x : Int) : Box ((w.alloc (.cells #[.int .i64 x] 2)).alloc (.cells #[.slice none 0 0, .slice none 0 0] 25)) (w.heap.size + 1) (.slice none 0 0) (.slice none 0 0) := by
  have h := Box.new (w.alloc (.cells #[.int .i64 x] 2)) (.slice none 0 0) (.slice none 0 0)
  rw [show (w.alloc (.cells #[.int .i64 x] 2)).heap.size = w.heap.size + 1 from by simp] at h
  exact h
set_option maxHeartbeats 8000000 in
set_option maxRecDepth 100000 in
theorem walk (A : Option Addr) (c : Nat) (l : List Int) (n : Int) (w : World) (iv : Ints w A l) (hn0 : 0 ≤ n) (hn : n < 18446744073709551616) (hl0 : l.length ≤ maxLen) :
    Calls Try.prog 9 #[.slice A l.length c, .int .u64 n] w fun e w' => e = .returned (.bool true) ∧ Below w.heap.size w w' := by
  unfold maxLen at hl0
  by_cases h1 : 64 < l.length
  · have L := Lib.hid (Below.refl w.heap.size w)
    have hx : (64 : Int) < (l.length : Int) := by omega
    go_enter Try.func9, Try.ntmps9
    go_wp2_with fail
    refine (lives7_any _).mono ?_
    rintro r w1 ⟨rfl, hb⟩
    replace L := Lib.hid (below_next L.out hb)
    clear hb
    go_wp2
    go_ret
    exact ⟨rfl, L.out⟩
  have hl : l.length ≤ 64 := by omega
  have hx : ¬ (64 : Int) < (l.length : Int) := by omega
  obtain ⟨K, hK⟩ : ∃ K : Nat, (K : Int) = n % ((l.length : Int) + 1) := ⟨(n % ((l.length : Int) + 1)).toNat, Int.toNat_of_nonneg (Int.emod_nonneg _ (by omega))⟩
  have hKl : K ≤ l.length := by have := Int.emod_lt_of_pos n (show 0 < (l.length : Int) + 1 by omega); omega
  have e1 : (n.tmod ((l.length : Int) + 1)) = (K : Int) := by rw [hK, Int.tmod_eq_emod_of_nonneg hn0]
  have e2 : IntKind.u64.wrap ((l.length : Int) + 1) = (l.length : Int) + 1 := IntWalk.u64_in _ (by omega)
  have e3 : ¬ ((l.length : Int) + 1 = 0) := by omega
  clear hK h1
  have L := Lib.hid (Below.refl w.heap.size w)
  have IV := Lib.hid iv
  clear iv
  go_enter Try.func9, Try.ntmps9
  go_wp2_with fail
  refine (list7_n _ _ _ _ (by omega)).mono ?_
  rintro r w1 ⟨A6, rfl, hi, hb⟩
  replace L := Lib.hid (below_next L.out hb)
  replace IV := Lib.hid (IV.out.below hb)
  clear hb
  have I6 := Lib.hid hi
  clear hi
  have KB := Lib.hid (below_new w1 (.cells #[.slice A6 1 1, .slice A l.length c] 25))
  have K6 := Lib.hid (Box.new w1 (.slice A6 1 1) (.slice A l.length c))
  replace L := Lib.hid (below_next L.out KB.out)
  replace IV := Lib.hid (IV.out.below KB.out)
  replace I6 := Lib.hid (I6.out.below KB.out)
  go_upto_region 5 with (fail)
  clear KB
  generalize hW : w1.alloc (.cells #[.slice A6 1 1, .slice A l.length c] 25) = W6 at *
  clear hW
  generalize w1.heap.size = g6 at *
  obtain ⟨V1, hV1⟩ : ∃ V, (l.drop 0).take K = V := ⟨_, rfl⟩
  obtain ⟨V2, hV2⟩ : ∃ V, (l.drop K).take (l.length - K) = V := ⟨_, rfl⟩
  obtain ⟨V3, hV3⟩ : ∃ V, (l.drop 0).take (l.length - K) = V := ⟨_, rfl⟩
  obtain ⟨V4, hV4⟩ : ∃ V, (l.drop (l.length - K)).take K = V := ⟨_, rfl⟩
  have l1 : V1.length = K := by rw [← hV1]; simp; omega
  have l2 : V2.length = l.length - K := by rw [← hV2]; simp
  have l3 : V3.length = l.length - K := by rw [← hV3]; simp
  have l4 : V4.length = K := by rw [← hV4]; simp; omega
  have T1 := Lib.hid (show taE [1] [(K : Int)] [(l.length : Int)] l = 0 ∧ taD [1] [(K : Int)] [(l.length : Int)] l = [(V1.length : Int)] ∧ taV [1] [(K : Int)] [(l.length : Int)] l = V1 by
    have h := take_x (x := (K : Int)) (a := 0) hl (show absI (K : Int) = K by unfold absI; omega) hKl (by rw [if_neg (by omega)]; rfl)
    rw [l1, ← hV1]; exact h)
  have T2 := Lib.hid (show coE [1] [(K : Int)] [(l.length : Int)] l = 0 ∧ drD [1] [(K : Int)] [(l.length : Int)] l = [(V2.length : Int)] ∧ drV [1] [(K : Int)] [(l.length : Int)] l = V2 by
    have h := drop_x (x := (K : Int)) (a := K) hl (show absI (K : Int) = K by unfold absI; omega) hKl (by split <;> omega)
    rw [l2, ← hV2]; exact h)
  have T3 := Lib.hid (show coE [1] [-(K : Int)] [(l.length : Int)] l = 0 ∧ drD [1] [-(K : Int)] [(l.length : Int)] l = [(V3.length : Int)] ∧ drV [1] [-(K : Int)] [(l.length : Int)] l = V3 by
    have h := drop_x (x := -(K : Int)) (a := 0) hl (show absI (-(K : Int)) = K by unfold absI; omega) hKl (by rw [if_neg (by omega)]; rfl)
    rw [l3, ← hV3]; exact h)
  have T4 := Lib.hid (show taE [1] [-(K : Int)] [(l.length : Int)] l = 0 ∧ taD [1] [-(K : Int)] [(l.length : Int)] l = [(V4.length : Int)] ∧ taV [1] [-(K : Int)] [(l.length : Int)] l = V4 by
    have h4 : K = 0 → (l.drop 0).take K = V4 := fun h0 => by rw [← hV4, h0]; simp
    by_cases h0 : K = 0
    · have h := take_x (x := -(K : Int)) (a := 0) hl (show absI (-(K : Int)) = K by unfold absI; omega) hKl (by rw [if_neg (by omega)]; rfl)
      rw [l4, ← h4 h0]; exact h
    · have h := take_x (x := -(K : Int)) (a := l.length - K) hl (show absI (-(K : Int)) = K by unfold absI; omega) hKl (by rw [if_pos (by omega)]; omega)
      rw [l4, ← hV4]; exact h)
  have J1 := Lib.hid (show V1 ++ V2 = l by rw [← hV1, ← hV2]; exact parts_pos)
  have J2 := Lib.hid (show V3 ++ V4 = l by
    rw [← hV3, ← hV4]
    have h := parts_pos (l := l) (k := l.length - K)
    rw [show l.length - (l.length - K) = K by omega] at h
    exact h)
  have hneg : IntKind.i64.wrap (-(K : Int)) = -(K : Int) := IntWalk.i64_in _ (by omega)
  clear hV1 hV2 hV3 hV4 l1 l2 l3 l4 e1 e2 e3
  have I6x := Lib.hid I6.out
  have IVx := Lib.hid IV.out
  have K6x := Lib.hid K6.out
  obtain ⟨qK60, qK61, fK60, fK61⟩ := K6.out.all
  have hg6 := K6.out.lt
  have RX : W6 = W6 := rfl
  have q1 : ¬ g6 = W6.heap.size := by omega
  have q2 : ¬ W6.heap.size = g6 := by omega
  have q3 : ¬ g6 = W6.heap.size + 1 := by omega
  have q4 : ¬ W6.heap.size + 1 = g6 := by omega
  have LA0 := Lib.hid (show Below W6.heap.size W6 (W6.alloc (.cells #[.int .i64 ((K : Int))] 2)).drew from (below_new W6 (.cells #[.int .i64 ((K : Int))] 2)).drew)
  have LA1 := Lib.hid (show Below W6.heap.size W6 ((W6.alloc (.cells #[.slice none 0 0, .slice none 0 0] 25)).alloc (.cells #[.int .i64 ((K : Int))] 2)).drew from (below_next (below_new W6 (.cells #[.slice none 0 0, .slice none 0 0] 25)) (below_new _ (.cells #[.int .i64 ((K : Int))] 2))).drew)
  have LA2 := Lib.hid (show Below W6.heap.size W6 ((W6.alloc (.cells #[.int .i64 ((K : Int))] 2)).alloc (.cells #[.slice none 0 0, .slice none 0 0] 25)).drew from (below_next (below_new W6 (.cells #[.int .i64 ((K : Int))] 2)) (below_new _ (.cells #[.slice none 0 0, .slice none 0 0] 25))).drew)
  have RA0 := Lib.hid (show Ints (W6.alloc (.cells #[.int .i64 ((K : Int))] 2)).drew (some ⟨W6.heap.size, 0, none⟩) [(K : Int)] from one_new W6 ((K : Int)))
  have RA1 := Lib.hid (show Ints ((W6.alloc (.cells #[.slice none 0 0, .slice none 0 0] 25)).alloc (.cells #[.int .i64 ((K : Int))] 2)).drew (some ⟨W6.heap.size + 1, 0, none⟩) [(K : Int)] from one_b W6 _ ((K : Int)))
  have RA2 := Lib.hid (show Ints ((W6.alloc (.cells #[.int .i64 ((K : Int))] 2)).alloc (.cells #[.slice none 0 0, .slice none 0 0] 25)).drew (some ⟨W6.heap.size, 0, none⟩) [(K : Int)] from (one_new W6 ((K : Int))).below (below_new _ _).drew)
  go_cut [7, 8] (fun sa sb wx => CutT W6 V1 sa sb wx)
  case first =>
    go_region_held3 (fun w' => w'.cell? ⟨g6, 0, none⟩ = some (.slice A6 1 1) ∧ w'.cell? ⟨g6, 1, none⟩ = some (.slice A l.length c))
      (first
        | with_reducible exact KK2.out
        | with_reducible exact KK.out
        | go_keep)
      (first
        | (go_at_call 34; (with_reducible refine (list7_x W6 _ _ _ _ LA0.out RA0.out).mono ?_); rintro r wA ⟨AA, rfl, hi, hR, hL, hb⟩; have II := Lib.hid hi; have RR := Lib.hid hR; have LL := Lib.hid hL; clear hi hR hL hb; have N0 := Lib.hid (Below.refl wA.heap.size wA); have N1 := Lib.hid (below_new wA (.cells #[.slice none 0 0, .slice none 0 0] 25)); have LL1 := Lib.hid (below_next LL.out N1.out); have II1 := Lib.hid (II.out.below N1.out); have RR1 := Lib.hid (RR.out.below N1.out); have hwA : g6 < wA.heap.size := Nat.lt_of_lt_of_le hg6 LL.out.size; have y1 : ¬ g6 = wA.heap.size := (by omega); have y2 : ¬ wA.heap.size = g6 := (by omega); have KK := Lib.hid (show wA.cell? ⟨g6, 0, none⟩ = some (.slice A6 1 1) ∧ wA.cell? ⟨g6, 1, none⟩ = some (.slice A l.length c) from ⟨(K6.out.next LL.out).c0, (K6.out.next LL.out).c1⟩))
        | (go_at_call 34; (with_reducible refine (list7_x W6 _ _ _ _ LA1.out RA1.out).mono ?_); rintro r wA ⟨AA, rfl, hi, hR, hL, hb⟩; have BX := Lib.hid (((Box.new W6 (.slice none 0 0) (.slice none 0 0)).alloc (.cells #[.int .i64 ((K : Int))] 2)).drew.next hb); obtain ⟨x10, x11, x12, x13⟩ := BX.out.all; have lx := BX.out.lt; have II := Lib.hid hi; have RR := Lib.hid hR; have LL := Lib.hid hL; clear hi hR hL hb; have N0 := Lib.hid (Below.refl wA.heap.size wA); have N1 := Lib.hid (below_new wA (.cells #[.slice none 0 0, .slice none 0 0] 25)); have LL1 := Lib.hid (below_next LL.out N1.out); have II1 := Lib.hid (II.out.below N1.out); have RR1 := Lib.hid (RR.out.below N1.out); have hwA : g6 < wA.heap.size := Nat.lt_of_lt_of_le hg6 LL.out.size; have y1 : ¬ g6 = wA.heap.size := (by omega); have y2 : ¬ wA.heap.size = g6 := (by omega); have KK := Lib.hid (show wA.cell? ⟨g6, 0, none⟩ = some (.slice A6 1 1) ∧ wA.cell? ⟨g6, 1, none⟩ = some (.slice A l.length c) from ⟨(K6.out.next LL.out).c0, (K6.out.next LL.out).c1⟩))
        | (go_at_call 34; (with_reducible refine (list7_x W6 _ _ _ _ LA2.out RA2.out).mono ?_); rintro r wA ⟨AA, rfl, hi, hR, hL, hb⟩; have BX := Lib.hid ((box_b W6 ((K : Int))).drew.next hb); obtain ⟨x10, x11, x12, x13⟩ := BX.out.all; have lx := BX.out.lt; have II := Lib.hid hi; have RR := Lib.hid hR; have LL := Lib.hid hL; clear hi hR hL hb; have N0 := Lib.hid (Below.refl wA.heap.size wA); have N1 := Lib.hid (below_new wA (.cells #[.slice none 0 0, .slice none 0 0] 25)); have LL1 := Lib.hid (below_next LL.out N1.out); have II1 := Lib.hid (II.out.below N1.out); have RR1 := Lib.hid (RR.out.below N1.out); have hwA : g6 < wA.heap.size := Nat.lt_of_lt_of_le hg6 LL.out.size; have y1 : ¬ g6 = wA.heap.size := (by omega); have y2 : ¬ wA.heap.size = g6 := (by omega); have KK := Lib.hid (show wA.cell? ⟨g6, 0, none⟩ = some (.slice A6 1 1) ∧ wA.cell? ⟨g6, 1, none⟩ = some (.slice A l.length c) from ⟨(K6.out.next LL.out).c0, (K6.out.next LL.out).c1⟩))
        | (go_at_call 30; (with_reducible refine (take_k W6 _ _ _ _ _ _ _ _ _ l V1 _ hl T1.out II.out RR.out I6.out IV.out LL.out).mono ?_); rintro r wB ⟨A7, k7, B7, e7, rfl, j1, j2, hk7, hb⟩; (try clear x10 x11 x12 x13 lx); (try (replace BX := Lib.hid (BX.out.next hb); obtain ⟨x10, x11, x12, x13⟩ := BX.out.all)); have LB := Lib.hid (below_next LL.out hb); have J1' := Lib.hid j1; have J2' := Lib.hid j2; have HK7 := Lib.hid hk7; clear hb j1 j2 hk7; have kB1 := (K6.out.next LB.out).c0; have kB2 := (K6.out.next LB.out).c1; have hwB : g6 < wB.heap.size := Nat.lt_of_lt_of_le hg6 LB.out.size; have z1 : ¬ g6 = wB.heap.size := (by omega); have z2 : ¬ wB.heap.size = g6 := (by omega); have KK2 := Lib.hid (show wB.cell? ⟨g6, 0, none⟩ = some (.slice A6 1 1) ∧ wB.cell? ⟨g6, 1, none⟩ = some (.slice A l.length c) from ⟨(K6.out.next LB.out).c0, (K6.out.next LB.out).c1⟩))
        | (go_at_call 30; (with_reducible refine (take_k W6 _ _ _ _ _ _ _ _ _ l V1 _ hl T1.out II1.out RR1.out I6.out IV.out LL1.out).mono ?_); rintro r wB ⟨A7, k7, B7, e7, rfl, j1, j2, hk7, hb⟩; (try clear x10 x11 x12 x13 lx); have BX := Lib.hid ((Box.new wA (.slice none 0 0) (.slice none 0 0)).next hb); obtain ⟨x10, x11, x12, x13⟩ := BX.out.all; have hgx := LL.out.size; have LB := Lib.hid (below_next LL1.out hb); have J1' := Lib.hid j1; have J2' := Lib.hid j2; have HK7 := Lib.hid hk7; clear hb j1 j2 hk7; have kB1 := (K6.out.next LB.out).c0; have kB2 := (K6.out.next LB.out).c1; have hwB : g6 < wB.heap.size := Nat.lt_of_lt_of_le hg6 LB.out.size; have z1 : ¬ g6 = wB.heap.size := (by omega); have z2 : ¬ wB.heap.size = g6 := (by omega); have KK2 := Lib.hid (show wB.cell? ⟨g6, 0, none⟩ = some (.slice A6 1 1) ∧ wB.cell? ⟨g6, 1, none⟩ = some (.slice A l.length c) from ⟨(K6.out.next LB.out).c0, (K6.out.next LB.out).c1⟩)))
    all_goals (go_wp2_with fail; go_meet; (first | with_reducible exact ct1 LB.out J1'.out J2'.out HK7.out | with_reducible exact ct2 LB.out J1'.out J2'.out HK7.out BX.out (by omega)))
  case rest =>
    obtain ⟨g7, A7, k7, B7, e7, rfl, rfl, b1, j1, j2, hk7, hgg, hb⟩ := hcut
    clear qK60 qK61 fK60 fK61
    have n7_K6 : _ < g7 := Nat.lt_of_lt_of_le K6.out.lt hgg
    replace L := Lib.hid (below_next L.out hb)
    replace IV := Lib.hid (IV.out.below hb)
    replace I6 := Lib.hid (I6.out.below hb)
    replace K6 := Lib.hid (K6.out.next hb)
    have K7 := Lib.hid b1
    have P7 := Lib.hid j1
    have Q7 := Lib.hid j2
    clear b1 j1 j2 hb hgg hg6 q1 q2 q3 q4 RX LA0 LA1 LA2 RA0 RA1 RA2 I6x IVx K6x
    obtain ⟨W7, hws⟩ : ∃ W, W = wc := ⟨_, rfl⟩
    subst hws
    go_upto_region 6 with (fail)
    have I6x := Lib.hid I6.out
    have IVx := Lib.hid IV.out
    have K6x := Lib.hid K6.out
    obtain ⟨qK60, qK61, fK60, fK61⟩ := K6.out.all
    have hg6 := K6.out.lt
    have RX : W7 = W7 := rfl
    have q1 : ¬ g6 = W7.heap.size := by omega
    have q2 : ¬ W7.heap.size = g6 := by omega
    have q3 : ¬ g6 = W7.heap.size + 1 := by omega
    have q4 : ¬ W7.heap.size + 1 = g6 := by omega
    have LA0 := Lib.hid (show Below W7.heap.size W7 (W7.alloc (.cells #[.int .i64 ((K : Int))] 2)).drew from (below_new W7 (.cells #[.int .i64 ((K : Int))] 2)).drew)
    have LA1 := Lib.hid (show Below W7.heap.size W7 ((W7.alloc (.cells #[.slice none 0 0, .slice none 0 0] 25)).alloc (.cells #[.int .i64 ((K : Int))] 2)).drew from (below_next (below_new W7 (.cells #[.slice none 0 0, .slice none 0 0] 25)) (below_new _ (.cells #[.int .i64 ((K : Int))] 2))).drew)
    have LA2 := Lib.hid (show Below W7.heap.size W7 ((W7.alloc (.cells #[.int .i64 ((K : Int))] 2)).alloc (.cells #[.slice none 0 0, .slice none 0 0] 25)).drew from (below_next (below_new W7 (.cells #[.int .i64 ((K : Int))] 2)) (below_new _ (.cells #[.slice none 0 0, .slice none 0 0] 25))).drew)
    have RA0 := Lib.hid (show Ints (W7.alloc (.cells #[.int .i64 ((K : Int))] 2)).drew (some ⟨W7.heap.size, 0, none⟩) [(K : Int)] from one_new W7 ((K : Int)))
    have RA1 := Lib.hid (show Ints ((W7.alloc (.cells #[.slice none 0 0, .slice none 0 0] 25)).alloc (.cells #[.int .i64 ((K : Int))] 2)).drew (some ⟨W7.heap.size + 1, 0, none⟩) [(K : Int)] from one_b W7 _ ((K : Int)))
    have RA2 := Lib.hid (show Ints ((W7.alloc (.cells #[.int .i64 ((K : Int))] 2)).alloc (.cells #[.slice none 0 0, .slice none 0 0] 25)).drew (some ⟨W7.heap.size, 0, none⟩) [(K : Int)] from (one_new W7 ((K : Int))).below (below_new _ _).drew)
    go_cut [9, 10] (fun sa sb wx => CutT W7 V2 sa sb wx)
    case first =>
      go_region_held3 (fun w' => w'.cell? ⟨g6, 0, none⟩ = some (.slice A6 1 1) ∧ w'.cell? ⟨g6, 1, none⟩ = some (.slice A l.length c))
        (first
          | with_reducible exact KK2.out
          | with_reducible exact KK.out
          | go_keep)
        (first
          | (go_at_call 34; (with_reducible refine (list7_x W7 _ _ _ _ LA0.out RA0.out).mono ?_); rintro r wA ⟨AA, rfl, hi, hR, hL, hb⟩; have II := Lib.hid hi; have RR := Lib.hid hR; have LL := Lib.hid hL; clear hi hR hL hb; have N0 := Lib.hid (Below.refl wA.heap.size wA); have N1 := Lib.hid (below_new wA (.cells #[.slice none 0 0, .slice none 0 0] 25)); have LL1 := Lib.hid (below_next LL.out N1.out); have II1 := Lib.hid (II.out.below N1.out); have RR1 := Lib.hid (RR.out.below N1.out); have hwA : g6 < wA.heap.size := Nat.lt_of_lt_of_le hg6 LL.out.size; have y1 : ¬ g6 = wA.heap.size := (by omega); have y2 : ¬ wA.heap.size = g6 := (by omega); have KK := Lib.hid (show wA.cell? ⟨g6, 0, none⟩ = some (.slice A6 1 1) ∧ wA.cell? ⟨g6, 1, none⟩ = some (.slice A l.length c) from ⟨(K6.out.next LL.out).c0, (K6.out.next LL.out).c1⟩))
          | (go_at_call 34; (with_reducible refine (list7_x W7 _ _ _ _ LA1.out RA1.out).mono ?_); rintro r wA ⟨AA, rfl, hi, hR, hL, hb⟩; have BX := Lib.hid (((Box.new W7 (.slice none 0 0) (.slice none 0 0)).alloc (.cells #[.int .i64 ((K : Int))] 2)).drew.next hb); obtain ⟨x10, x11, x12, x13⟩ := BX.out.all; have lx := BX.out.lt; have II := Lib.hid hi; have RR := Lib.hid hR; have LL := Lib.hid hL; clear hi hR hL hb; have N0 := Lib.hid (Below.refl wA.heap.size wA); have N1 := Lib.hid (below_new wA (.cells #[.slice none 0 0, .slice none 0 0] 25)); have LL1 := Lib.hid (below_next LL.out N1.out); have II1 := Lib.hid (II.out.below N1.out); have RR1 := Lib.hid (RR.out.below N1.out); have hwA : g6 < wA.heap.size := Nat.lt_of_lt_of_le hg6 LL.out.size; have y1 : ¬ g6 = wA.heap.size := (by omega); have y2 : ¬ wA.heap.size = g6 := (by omega); have KK := Lib.hid (show wA.cell? ⟨g6, 0, none⟩ = some (.slice A6 1 1) ∧ wA.cell? ⟨g6, 1, none⟩ = some (.slice A l.length c) from ⟨(K6.out.next LL.out).c0, (K6.out.next LL.out).c1⟩))
          | (go_at_call 34; (with_reducible refine (list7_x W7 _ _ _ _ LA2.out RA2.out).mono ?_); rintro r wA ⟨AA, rfl, hi, hR, hL, hb⟩; have BX := Lib.hid ((box_b W7 ((K : Int))).drew.next hb); obtain ⟨x10, x11, x12, x13⟩ := BX.out.all; have lx := BX.out.lt; have II := Lib.hid hi; have RR := Lib.hid hR; have LL := Lib.hid hL; clear hi hR hL hb; have N0 := Lib.hid (Below.refl wA.heap.size wA); have N1 := Lib.hid (below_new wA (.cells #[.slice none 0 0, .slice none 0 0] 25)); have LL1 := Lib.hid (below_next LL.out N1.out); have II1 := Lib.hid (II.out.below N1.out); have RR1 := Lib.hid (RR.out.below N1.out); have hwA : g6 < wA.heap.size := Nat.lt_of_lt_of_le hg6 LL.out.size; have y1 : ¬ g6 = wA.heap.size := (by omega); have y2 : ¬ wA.heap.size = g6 := (by omega); have KK := Lib.hid (show wA.cell? ⟨g6, 0, none⟩ = some (.slice A6 1 1) ∧ wA.cell? ⟨g6, 1, none⟩ = some (.slice A l.length c) from ⟨(K6.out.next LL.out).c0, (K6.out.next LL.out).c1⟩))
          | (go_at_call 32; (with_reducible refine (drop_k W7 _ _ _ _ _ _ _ _ _ l V2 _ hl T2.out II.out RR.out I6.out IV.out LL.out).mono ?_); rintro r wB ⟨A7, k7, B7, e7, rfl, j1, j2, hk7, hb⟩; (try clear x10 x11 x12 x13 lx); (try (replace BX := Lib.hid (BX.out.next hb); obtain ⟨x10, x11, x12, x13⟩ := BX.out.all)); have LB := Lib.hid (below_next LL.out hb); have J1' := Lib.hid j1; have J2' := Lib.hid j2; have HK7 := Lib.hid hk7; clear hb j1 j2 hk7; have kB1 := (K6.out.next LB.out).c0; have kB2 := (K6.out.next LB.out).c1; have hwB : g6 < wB.heap.size := Nat.lt_of_lt_of_le hg6 LB.out.size; have z1 : ¬ g6 = wB.heap.size := (by omega); have z2 : ¬ wB.heap.size = g6 := (by omega); have KK2 := Lib.hid (show wB.cell? ⟨g6, 0, none⟩ = some (.slice A6 1 1) ∧ wB.cell? ⟨g6, 1, none⟩ = some (.slice A l.length c) from ⟨(K6.out.next LB.out).c0, (K6.out.next LB.out).c1⟩))
          | (go_at_call 32; (with_reducible refine (drop_k W7 _ _ _ _ _ _ _ _ _ l V2 _ hl T2.out II1.out RR1.out I6.out IV.out LL1.out).mono ?_); rintro r wB ⟨A7, k7, B7, e7, rfl, j1, j2, hk7, hb⟩; (try clear x10 x11 x12 x13 lx); have BX := Lib.hid ((Box.new wA (.slice none 0 0) (.slice none 0 0)).next hb); obtain ⟨x10, x11, x12, x13⟩ := BX.out.all; have hgx := LL.out.size; have LB := Lib.hid (below_next LL1.out hb); have J1' := Lib.hid j1; have J2' := Lib.hid j2; have HK7 := Lib.hid hk7; clear hb j1 j2 hk7; have kB1 := (K6.out.next LB.out).c0; have kB2 := (K6.out.next LB.out).c1; have hwB : g6 < wB.heap.size := Nat.lt_of_lt_of_le hg6 LB.out.size; have z1 : ¬ g6 = wB.heap.size := (by omega); have z2 : ¬ wB.heap.size = g6 := (by omega); have KK2 := Lib.hid (show wB.cell? ⟨g6, 0, none⟩ = some (.slice A6 1 1) ∧ wB.cell? ⟨g6, 1, none⟩ = some (.slice A l.length c) from ⟨(K6.out.next LB.out).c0, (K6.out.next LB.out).c1⟩)))
      all_goals (go_wp2_with fail; go_meet; (first | with_reducible exact ct1 LB.out J1'.out J2'.out HK7.out | with_reducible exact ct2 LB.out J1'.out J2'.out HK7.out BX.out (by omega)))
    case rest =>
      obtain ⟨g9, A9, k9, B9, e9, rfl, rfl, b1, j1, j2, hk9, hgg, hb⟩ := hcut
      clear qK60 qK61 fK60 fK61
      have n9_K6 : _ < g9 := Nat.lt_of_lt_of_le K6.out.lt hgg
      have n9_K7 : _ < g9 := Nat.lt_of_lt_of_le K7.out.lt hgg
      replace L := Lib.hid (below_next L.out hb)
      replace IV := Lib.hid (IV.out.below hb)
      replace I6 := Lib.hid (I6.out.below hb)
      replace K6 := Lib.hid (K6.out.next hb)
      replace K7 := Lib.hid (K7.out.next hb)
      replace P7 := Lib.hid (P7.out.below hb)
      replace Q7 := Lib.hid (Q7.out.below hb)
      have K9 := Lib.hid b1
      have P9 := Lib.hid j1
      have Q9 := Lib.hid j2
      clear b1 j1 j2 hb hgg hg6 q1 q2 q3 q4 RX LA0 LA1 LA2 RA0 RA1 RA2 I6x IVx K6x
      obtain ⟨W9, hws⟩ : ∃ W, W = wc := ⟨_, rfl⟩
      subst hws
      obtain ⟨qK70, qK71, -, -⟩ := K7.out.all
      obtain ⟨qK90, qK91, -, -⟩ := K9.out.all
      go_wp2_with fail
      refine (join_k _ _ _ _ V1 _ _ _ _ V2 l _ J1.out hl P7.out Q7.out P9.out Q9.out hk7 hk9).mono ?_
      rintro r w21 ⟨A11, k11, B11, e11, rfl, j1, j2, hk11, hb⟩
      clear qK70 qK71 qK90 qK91
      replace L := Lib.hid (below_next L.out hb)
      replace IV := Lib.hid (IV.out.below hb)
      replace I6 := Lib.hid (I6.out.below hb)
      replace K6 := Lib.hid (K6.out.next hb)
      replace K7 := Lib.hid (K7.out.next hb)
      replace P7 := Lib.hid (P7.out.below hb)
      replace Q7 := Lib.hid (Q7.out.below hb)
      replace K9 := Lib.hid (K9.out.next hb)
      replace P9 := Lib.hid (P9.out.below hb)
      replace Q9 := Lib.hid (Q9.out.below hb)
      clear hb
      have P11 := Lib.hid j1
      have Q11 := Lib.hid j2
      clear j1 j2
      clear P7
      clear Q7
      clear P9
      clear Q9
      clear K7
      clear K9
      have KB := Lib.hid (below_new w21 (.cells #[.slice A11 1 k11, .slice B11 l.length e11] 25))
      have K11 := Lib.hid (Box.new w21 (.slice A11 1 k11) (.slice B11 l.length e11))
      replace L := Lib.hid (below_next L.out KB.out)
      replace IV := Lib.hid (IV.out.below KB.out)
      replace I6 := Lib.hid (I6.out.below KB.out)
      replace K6 := Lib.hid (K6.out.next KB.out)
      replace P11 := Lib.hid (P11.out.below KB.out)
      replace Q11 := Lib.hid (Q11.out.below KB.out)
      go_upto_region 8 with (fail)
      clear KB
      generalize hW : w21.alloc (.cells #[.slice A11 1 k11, .slice B11 l.length e11] 25) = W11 at *
      clear hW
      generalize w21.heap.size = g11 at *
      have I6x := Lib.hid I6.out
      have IVx := Lib.hid IV.out
      have K6x := Lib.hid K6.out
      obtain ⟨qK60, qK61, fK60, fK61⟩ := K6.out.all
      have hg6 := K6.out.lt
      have RX : W11 = W11 := rfl
      have q1 : ¬ g6 = W11.heap.size := by omega
      have q2 : ¬ W11.heap.size = g6 := by omega
      have q3 : ¬ g6 = W11.heap.size + 1 := by omega
      have q4 : ¬ W11.heap.size + 1 = g6 := by omega
      have LA0 := Lib.hid (show Below W11.heap.size W11 (W11.alloc (.cells #[.int .i64 (-(K : Int))] 2)).drew from (below_new W11 (.cells #[.int .i64 (-(K : Int))] 2)).drew)
      have LA1 := Lib.hid (show Below W11.heap.size W11 ((W11.alloc (.cells #[.slice none 0 0, .slice none 0 0] 25)).alloc (.cells #[.int .i64 (-(K : Int))] 2)).drew from (below_next (below_new W11 (.cells #[.slice none 0 0, .slice none 0 0] 25)) (below_new _ (.cells #[.int .i64 (-(K : Int))] 2))).drew)
      have LA2 := Lib.hid (show Below W11.heap.size W11 ((W11.alloc (.cells #[.int .i64 (-(K : Int))] 2)).alloc (.cells #[.slice none 0 0, .slice none 0 0] 25)).drew from (below_next (below_new W11 (.cells #[.int .i64 (-(K : Int))] 2)) (below_new _ (.cells #[.slice none 0 0, .slice none 0 0] 25))).drew)
      have RA0 := Lib.hid (show Ints (W11.alloc (.cells #[.int .i64 (-(K : Int))] 2)).drew (some ⟨W11.heap.size, 0, none⟩) [-(K : Int)] from one_new W11 (-(K : Int)))
      have RA1 := Lib.hid (show Ints ((W11.alloc (.cells #[.slice none 0 0, .slice none 0 0] 25)).alloc (.cells #[.int .i64 (-(K : Int))] 2)).drew (some ⟨W11.heap.size + 1, 0, none⟩) [-(K : Int)] from one_b W11 _ (-(K : Int)))
      have RA2 := Lib.hid (show Ints ((W11.alloc (.cells #[.int .i64 (-(K : Int))] 2)).alloc (.cells #[.slice none 0 0, .slice none 0 0] 25)).drew (some ⟨W11.heap.size, 0, none⟩) [-(K : Int)] from (one_new W11 (-(K : Int))).below (below_new _ _).drew)
      go_cut [13, 14] (fun sa sb wx => CutT W11 V3 sa sb wx)
      case first =>
        go_region_held3 (fun w' => w'.cell? ⟨g6, 0, none⟩ = some (.slice A6 1 1) ∧ w'.cell? ⟨g6, 1, none⟩ = some (.slice A l.length c))
          (first
            | with_reducible exact KK2.out
            | with_reducible exact KK.out
            | go_keep)
          (first
            | (go_at_call 34; (with_reducible refine (list7_x W11 _ _ _ _ LA0.out RA0.out).mono ?_); rintro r wA ⟨AA, rfl, hi, hR, hL, hb⟩; have II := Lib.hid hi; have RR := Lib.hid hR; have LL := Lib.hid hL; clear hi hR hL hb; have N0 := Lib.hid (Below.refl wA.heap.size wA); have N1 := Lib.hid (below_new wA (.cells #[.slice none 0 0, .slice none 0 0] 25)); have LL1 := Lib.hid (below_next LL.out N1.out); have II1 := Lib.hid (II.out.below N1.out); have RR1 := Lib.hid (RR.out.below N1.out); have hwA : g6 < wA.heap.size := Nat.lt_of_lt_of_le hg6 LL.out.size; have y1 : ¬ g6 = wA.heap.size := (by omega); have y2 : ¬ wA.heap.size = g6 := (by omega); have KK := Lib.hid (show wA.cell? ⟨g6, 0, none⟩ = some (.slice A6 1 1) ∧ wA.cell? ⟨g6, 1, none⟩ = some (.slice A l.length c) from ⟨(K6.out.next LL.out).c0, (K6.out.next LL.out).c1⟩))
            | (go_at_call 34; (with_reducible refine (list7_x W11 _ _ _ _ LA1.out RA1.out).mono ?_); rintro r wA ⟨AA, rfl, hi, hR, hL, hb⟩; have BX := Lib.hid (((Box.new W11 (.slice none 0 0) (.slice none 0 0)).alloc (.cells #[.int .i64 (-(K : Int))] 2)).drew.next hb); obtain ⟨x10, x11, x12, x13⟩ := BX.out.all; have lx := BX.out.lt; have II := Lib.hid hi; have RR := Lib.hid hR; have LL := Lib.hid hL; clear hi hR hL hb; have N0 := Lib.hid (Below.refl wA.heap.size wA); have N1 := Lib.hid (below_new wA (.cells #[.slice none 0 0, .slice none 0 0] 25)); have LL1 := Lib.hid (below_next LL.out N1.out); have II1 := Lib.hid (II.out.below N1.out); have RR1 := Lib.hid (RR.out.below N1.out); have hwA : g6 < wA.heap.size := Nat.lt_of_lt_of_le hg6 LL.out.size; have y1 : ¬ g6 = wA.heap.size := (by omega); have y2 : ¬ wA.heap.size = g6 := (by omega); have KK := Lib.hid (show wA.cell? ⟨g6, 0, none⟩ = some (.slice A6 1 1) ∧ wA.cell? ⟨g6, 1, none⟩ = some (.slice A l.length c) from ⟨(K6.out.next LL.out).c0, (K6.out.next LL.out).c1⟩))
            | (go_at_call 34; (with_reducible refine (list7_x W11 _ _ _ _ LA2.out RA2.out).mono ?_); rintro r wA ⟨AA, rfl, hi, hR, hL, hb⟩; have BX := Lib.hid ((box_b W11 (-(K : Int))).drew.next hb); obtain ⟨x10, x11, x12, x13⟩ := BX.out.all; have lx := BX.out.lt; have II := Lib.hid hi; have RR := Lib.hid hR; have LL := Lib.hid hL; clear hi hR hL hb; have N0 := Lib.hid (Below.refl wA.heap.size wA); have N1 := Lib.hid (below_new wA (.cells #[.slice none 0 0, .slice none 0 0] 25)); have LL1 := Lib.hid (below_next LL.out N1.out); have II1 := Lib.hid (II.out.below N1.out); have RR1 := Lib.hid (RR.out.below N1.out); have hwA : g6 < wA.heap.size := Nat.lt_of_lt_of_le hg6 LL.out.size; have y1 : ¬ g6 = wA.heap.size := (by omega); have y2 : ¬ wA.heap.size = g6 := (by omega); have KK := Lib.hid (show wA.cell? ⟨g6, 0, none⟩ = some (.slice A6 1 1) ∧ wA.cell? ⟨g6, 1, none⟩ = some (.slice A l.length c) from ⟨(K6.out.next LL.out).c0, (K6.out.next LL.out).c1⟩))
            | (go_at_call 32; (with_reducible refine (drop_k W11 _ _ _ _ _ _ _ _ _ l V3 _ hl T3.out II.out RR.out I6.out IV.out LL.out).mono ?_); rintro r wB ⟨A7, k7, B7, e7, rfl, j1, j2, hk7, hb⟩; (try clear x10 x11 x12 x13 lx); (try (replace BX := Lib.hid (BX.out.next hb); obtain ⟨x10, x11, x12, x13⟩ := BX.out.all)); have LB := Lib.hid (below_next LL.out hb); have J1' := Lib.hid j1; have J2' := Lib.hid j2; have HK7 := Lib.hid hk7; clear hb j1 j2 hk7; have kB1 := (K6.out.next LB.out).c0; have kB2 := (K6.out.next LB.out).c1; have hwB : g6 < wB.heap.size := Nat.lt_of_lt_of_le hg6 LB.out.size; have z1 : ¬ g6 = wB.heap.size := (by omega); have z2 : ¬ wB.heap.size = g6 := (by omega); have KK2 := Lib.hid (show wB.cell? ⟨g6, 0, none⟩ = some (.slice A6 1 1) ∧ wB.cell? ⟨g6, 1, none⟩ = some (.slice A l.length c) from ⟨(K6.out.next LB.out).c0, (K6.out.next LB.out).c1⟩))
            | (go_at_call 32; (with_reducible refine (drop_k W11 _ _ _ _ _ _ _ _ _ l V3 _ hl T3.out II1.out RR1.out I6.out IV.out LL1.out).mono ?_); rintro r wB ⟨A7, k7, B7, e7, rfl, j1, j2, hk7, hb⟩; (try clear x10 x11 x12 x13 lx); have BX := Lib.hid ((Box.new wA (.slice none 0 0) (.slice none 0 0)).next hb); obtain ⟨x10, x11, x12, x13⟩ := BX.out.all; have hgx := LL.out.size; have LB := Lib.hid (below_next LL1.out hb); have J1' := Lib.hid j1; have J2' := Lib.hid j2; have HK7 := Lib.hid hk7; clear hb j1 j2 hk7; have kB1 := (K6.out.next LB.out).c0; have kB2 := (K6.out.next LB.out).c1; have hwB : g6 < wB.heap.size := Nat.lt_of_lt_of_le hg6 LB.out.size; have z1 : ¬ g6 = wB.heap.size := (by omega); have z2 : ¬ wB.heap.size = g6 := (by omega); have KK2 := Lib.hid (show wB.cell? ⟨g6, 0, none⟩ = some (.slice A6 1 1) ∧ wB.cell? ⟨g6, 1, none⟩ = some (.slice A l.length c) from ⟨(K6.out.next LB.out).c0, (K6.out.next LB.out).c1⟩)))
        all_goals (go_wp2_with fail; go_meet; (first | with_reducible exact ct1 LB.out J1'.out J2'.out HK7.out | with_reducible exact ct2 LB.out J1'.out J2'.out HK7.out BX.out (by omega)))
      case rest =>
        obtain ⟨g13, A13, k13, B13, e13, rfl, rfl, b1, j1, j2, hk13, hgg, hb⟩ := hcut
        clear qK60 qK61 fK60 fK61
        have n13_K6 : _ < g13 := Nat.lt_of_lt_of_le K6.out.lt hgg
        have n13_K11 : _ < g13 := Nat.lt_of_lt_of_le K11.out.lt hgg
        replace L := Lib.hid (below_next L.out hb)
        replace IV := Lib.hid (IV.out.below hb)
        replace I6 := Lib.hid (I6.out.below hb)
        replace K6 := Lib.hid (K6.out.next hb)
        replace P11 := Lib.hid (P11.out.below hb)
        replace Q11 := Lib.hid (Q11.out.below hb)
        replace K11 := Lib.hid (K11.out.next hb)
        have K13 := Lib.hid b1
        have P13 := Lib.hid j1
        have Q13 := Lib.hid j2
        clear b1 j1 j2 hb hgg hg6 q1 q2 q3 q4 RX LA0 LA1 LA2 RA0 RA1 RA2 I6x IVx K6x
        obtain ⟨W13, hws⟩ : ∃ W, W = wc := ⟨_, rfl⟩
        subst hws
        go_upto_region 9 with (fail)
        have I6x := Lib.hid I6.out
        have IVx := Lib.hid IV.out
        have K6x := Lib.hid K6.out
        obtain ⟨qK60, qK61, fK60, fK61⟩ := K6.out.all
        have hg6 := K6.out.lt
        have RX : W13 = W13 := rfl
        have q1 : ¬ g6 = W13.heap.size := by omega
        have q2 : ¬ W13.heap.size = g6 := by omega
        have q3 : ¬ g6 = W13.heap.size + 1 := by omega
        have q4 : ¬ W13.heap.size + 1 = g6 := by omega
        have LA0 := Lib.hid (show Below W13.heap.size W13 (W13.alloc (.cells #[.int .i64 (-(K : Int))] 2)).drew from (below_new W13 (.cells #[.int .i64 (-(K : Int))] 2)).drew)
        have LA1 := Lib.hid (show Below W13.heap.size W13 ((W13.alloc (.cells #[.slice none 0 0, .slice none 0 0] 25)).alloc (.cells #[.int .i64 (-(K : Int))] 2)).drew from (below_next (below_new W13 (.cells #[.slice none 0 0, .slice none 0 0] 25)) (below_new _ (.cells #[.int .i64 (-(K : Int))] 2))).drew)
        have LA2 := Lib.hid (show Below W13.heap.size W13 ((W13.alloc (.cells #[.int .i64 (-(K : Int))] 2)).alloc (.cells #[.slice none 0 0, .slice none 0 0] 25)).drew from (below_next (below_new W13 (.cells #[.int .i64 (-(K : Int))] 2)) (below_new _ (.cells #[.slice none 0 0, .slice none 0 0] 25))).drew)
        have RA0 := Lib.hid (show Ints (W13.alloc (.cells #[.int .i64 (-(K : Int))] 2)).drew (some ⟨W13.heap.size, 0, none⟩) [-(K : Int)] from one_new W13 (-(K : Int)))
        have RA1 := Lib.hid (show Ints ((W13.alloc (.cells #[.slice none 0 0, .slice none 0 0] 25)).alloc (.cells #[.int .i64 (-(K : Int))] 2)).drew (some ⟨W13.heap.size + 1, 0, none⟩) [-(K : Int)] from one_b W13 _ (-(K : Int)))
        have RA2 := Lib.hid (show Ints ((W13.alloc (.cells #[.int .i64 (-(K : Int))] 2)).alloc (.cells #[.slice none 0 0, .slice none 0 0] 25)).drew (some ⟨W13.heap.size, 0, none⟩) [-(K : Int)] from (one_new W13 (-(K : Int))).below (below_new _ _).drew)
        go_cut [15, 16] (fun sa sb wx => CutT W13 V4 sa sb wx)
        case first =>
          go_region_held3 (fun w' => w'.cell? ⟨g6, 0, none⟩ = some (.slice A6 1 1) ∧ w'.cell? ⟨g6, 1, none⟩ = some (.slice A l.length c))
            (first
              | with_reducible exact KK2.out
              | with_reducible exact KK.out
              | go_keep)
            (first
              | (go_at_call 34; (with_reducible refine (list7_x W13 _ _ _ _ LA0.out RA0.out).mono ?_); rintro r wA ⟨AA, rfl, hi, hR, hL, hb⟩; have II := Lib.hid hi; have RR := Lib.hid hR; have LL := Lib.hid hL; clear hi hR hL hb; have N0 := Lib.hid (Below.refl wA.heap.size wA); have N1 := Lib.hid (below_new wA (.cells #[.slice none 0 0, .slice none 0 0] 25)); have LL1 := Lib.hid (below_next LL.out N1.out); have II1 := Lib.hid (II.out.below N1.out); have RR1 := Lib.hid (RR.out.below N1.out); have hwA : g6 < wA.heap.size := Nat.lt_of_lt_of_le hg6 LL.out.size; have y1 : ¬ g6 = wA.heap.size := (by omega); have y2 : ¬ wA.heap.size = g6 := (by omega); have KK := Lib.hid (show wA.cell? ⟨g6, 0, none⟩ = some (.slice A6 1 1) ∧ wA.cell? ⟨g6, 1, none⟩ = some (.slice A l.length c) from ⟨(K6.out.next LL.out).c0, (K6.out.next LL.out).c1⟩))
              | (go_at_call 34; (with_reducible refine (list7_x W13 _ _ _ _ LA1.out RA1.out).mono ?_); rintro r wA ⟨AA, rfl, hi, hR, hL, hb⟩; have BX := Lib.hid (((Box.new W13 (.slice none 0 0) (.slice none 0 0)).alloc (.cells #[.int .i64 (-(K : Int))] 2)).drew.next hb); obtain ⟨x10, x11, x12, x13⟩ := BX.out.all; have lx := BX.out.lt; have II := Lib.hid hi; have RR := Lib.hid hR; have LL := Lib.hid hL; clear hi hR hL hb; have N0 := Lib.hid (Below.refl wA.heap.size wA); have N1 := Lib.hid (below_new wA (.cells #[.slice none 0 0, .slice none 0 0] 25)); have LL1 := Lib.hid (below_next LL.out N1.out); have II1 := Lib.hid (II.out.below N1.out); have RR1 := Lib.hid (RR.out.below N1.out); have hwA : g6 < wA.heap.size := Nat.lt_of_lt_of_le hg6 LL.out.size; have y1 : ¬ g6 = wA.heap.size := (by omega); have y2 : ¬ wA.heap.size = g6 := (by omega); have KK := Lib.hid (show wA.cell? ⟨g6, 0, none⟩ = some (.slice A6 1 1) ∧ wA.cell? ⟨g6, 1, none⟩ = some (.slice A l.length c) from ⟨(K6.out.next LL.out).c0, (K6.out.next LL.out).c1⟩))
              | (go_at_call 34; (with_reducible refine (list7_x W13 _ _ _ _ LA2.out RA2.out).mono ?_); rintro r wA ⟨AA, rfl, hi, hR, hL, hb⟩; have BX := Lib.hid ((box_b W13 (-(K : Int))).drew.next hb); obtain ⟨x10, x11, x12, x13⟩ := BX.out.all; have lx := BX.out.lt; have II := Lib.hid hi; have RR := Lib.hid hR; have LL := Lib.hid hL; clear hi hR hL hb; have N0 := Lib.hid (Below.refl wA.heap.size wA); have N1 := Lib.hid (below_new wA (.cells #[.slice none 0 0, .slice none 0 0] 25)); have LL1 := Lib.hid (below_next LL.out N1.out); have II1 := Lib.hid (II.out.below N1.out); have RR1 := Lib.hid (RR.out.below N1.out); have hwA : g6 < wA.heap.size := Nat.lt_of_lt_of_le hg6 LL.out.size; have y1 : ¬ g6 = wA.heap.size := (by omega); have y2 : ¬ wA.heap.size = g6 := (by omega); have KK := Lib.hid (show wA.cell? ⟨g6, 0, none⟩ = some (.slice A6 1 1) ∧ wA.cell? ⟨g6, 1, none⟩ = some (.slice A l.length c) from ⟨(K6.out.next LL.out).c0, (K6.out.next LL.out).c1⟩))
              | (go_at_call 30; (with_reducible refine (take_k W13 _ _ _ _ _ _ _ _ _ l V4 _ hl T4.out II.out RR.out I6.out IV.out LL.out).mono ?_); rintro r wB ⟨A7, k7, B7, e7, rfl, j1, j2, hk7, hb⟩; (try clear x10 x11 x12 x13 lx); (try (replace BX := Lib.hid (BX.out.next hb); obtain ⟨x10, x11, x12, x13⟩ := BX.out.all)); have LB := Lib.hid (below_next LL.out hb); have J1' := Lib.hid j1; have J2' := Lib.hid j2; have HK7 := Lib.hid hk7; clear hb j1 j2 hk7; have kB1 := (K6.out.next LB.out).c0; have kB2 := (K6.out.next LB.out).c1; have hwB : g6 < wB.heap.size := Nat.lt_of_lt_of_le hg6 LB.out.size; have z1 : ¬ g6 = wB.heap.size := (by omega); have z2 : ¬ wB.heap.size = g6 := (by omega); have KK2 := Lib.hid (show wB.cell? ⟨g6, 0, none⟩ = some (.slice A6 1 1) ∧ wB.cell? ⟨g6, 1, none⟩ = some (.slice A l.length c) from ⟨(K6.out.next LB.out).c0, (K6.out.next LB.out).c1⟩))
              | (go_at_call 30; (with_reducible refine (take_k W13 _ _ _ _ _ _ _ _ _ l V4 _ hl T4.out II1.out RR1.out I6.out IV.out LL1.out).mono ?_); rintro r wB ⟨A7, k7, B7, e7, rfl, j1, j2, hk7, hb⟩; (try clear x10 x11 x12 x13 lx); have BX := Lib.hid ((Box.new wA (.slice none 0 0) (.slice none 0 0)).next hb); obtain ⟨x10, x11, x12, x13⟩ := BX.out.all; have hgx := LL.out.size; have LB := Lib.hid (below_next LL1.out hb); have J1' := Lib.hid j1; have J2' := Lib.hid j2; have HK7 := Lib.hid hk7; clear hb j1 j2 hk7; have kB1 := (K6.out.next LB.out).c0; have kB2 := (K6.out.next LB.out).c1; have hwB : g6 < wB.heap.size := Nat.lt_of_lt_of_le hg6 LB.out.size; have z1 : ¬ g6 = wB.heap.size := (by omega); have z2 : ¬ wB.heap.size = g6 := (by omega); have KK2 := Lib.hid (show wB.cell? ⟨g6, 0, none⟩ = some (.slice A6 1 1) ∧ wB.cell? ⟨g6, 1, none⟩ = some (.slice A l.length c) from ⟨(K6.out.next LB.out).c0, (K6.out.next LB.out).c1⟩)))
          all_goals (go_wp2_with fail; go_meet; (first | with_reducible exact ct1 LB.out J1'.out J2'.out HK7.out | with_reducible exact ct2 LB.out J1'.out J2'.out HK7.out BX.out (by omega)))
        case rest =>
          obtain ⟨g15, A15, k15, B15, e15, rfl, rfl, b1, j1, j2, hk15, hgg, hb⟩ := hcut
          clear qK60 qK61 fK60 fK61
          have n15_K6 : _ < g15 := Nat.lt_of_lt_of_le K6.out.lt hgg
          have n15_K11 : _ < g15 := Nat.lt_of_lt_of_le K11.out.lt hgg
          have n15_K13 : _ < g15 := Nat.lt_of_lt_of_le K13.out.lt hgg
          replace L := Lib.hid (below_next L.out hb)
          replace IV := Lib.hid (IV.out.below hb)
          replace I6 := Lib.hid (I6.out.below hb)
          replace K6 := Lib.hid (K6.out.next hb)
          replace P11 := Lib.hid (P11.out.below hb)
          replace Q11 := Lib.hid (Q11.out.below hb)
          replace K11 := Lib.hid (K11.out.next hb)
          replace K13 := Lib.hid (K13.out.next hb)
          replace P13 := Lib.hid (P13.out.below hb)
          replace Q13 := Lib.hid (Q13.out.below hb)
          have K15 := Lib.hid b1
          have P15 := Lib.hid j1
          have Q15 := Lib.hid j2
          clear b1 j1 j2 hb hgg hg6 q1 q2 q3 q4 RX LA0 LA1 LA2 RA0 RA1 RA2 I6x IVx K6x
          obtain ⟨W15, hws⟩ : ∃ W, W = wc := ⟨_, rfl⟩
          subst hws
          obtain ⟨qK130, qK131, -, -⟩ := K13.out.all
          obtain ⟨qK150, qK151, -, -⟩ := K15.out.all
          go_wp2_with fail
          refine (join_k _ _ _ _ V3 _ _ _ _ V4 l _ J2.out hl P13.out Q13.out P15.out Q15.out hk13 hk15).mono ?_
          rintro r w31 ⟨A17, k17, B17, e17, rfl, j1, j2, hk17, hb⟩
          clear qK130 qK131 qK150 qK151
          replace L := Lib.hid (below_next L.out hb)
          replace IV := Lib.hid (IV.out.below hb)
          replace I6 := Lib.hid (I6.out.below hb)
          replace K6 := Lib.hid (K6.out.next hb)
          replace P11 := Lib.hid (P11.out.below hb)
          replace Q11 := Lib.hid (Q11.out.below hb)
          replace K11 := Lib.hid (K11.out.next hb)
          replace K13 := Lib.hid (K13.out.next hb)
          replace P13 := Lib.hid (P13.out.below hb)
          replace Q13 := Lib.hid (Q13.out.below hb)
          replace K15 := Lib.hid (K15.out.next hb)
          replace P15 := Lib.hid (P15.out.below hb)
          replace Q15 := Lib.hid (Q15.out.below hb)
          clear hb
          have P17 := Lib.hid j1
          have Q17 := Lib.hid j2
          clear j1 j2
          clear P13
          clear Q13
          clear P15
          clear Q15
          clear K13
          clear K15
          have KB := Lib.hid (below_new w31 (.cells #[.slice A17 1 k17, .slice B17 l.length e17] 25))
          have K17 := Lib.hid (Box.new w31 (.slice A17 1 k17) (.slice B17 l.length e17))
          replace L := Lib.hid (below_next L.out KB.out)
          replace IV := Lib.hid (IV.out.below KB.out)
          replace I6 := Lib.hid (I6.out.below KB.out)
          replace K6 := Lib.hid (K6.out.next KB.out)
          replace P11 := Lib.hid (P11.out.below KB.out)
          replace Q11 := Lib.hid (Q11.out.below KB.out)
          replace K11 := Lib.hid (K11.out.next KB.out)
          replace P17 := Lib.hid (P17.out.below KB.out)
          replace Q17 := Lib.hid (Q17.out.below KB.out)
          go_upto_region 11 with (fail)
          clear KB
          generalize hW : w31.alloc (.cells #[.slice A17 1 k17, .slice B17 l.length e17] 25) = W17 at *
          clear hW
          generalize w31.heap.size = g17 at *
          obtain ⟨qK110, qK111, -, -⟩ := K11.out.all
          obtain ⟨qK60, qK61, -, -⟩ := K6.out.all
          go_wp2_with fail
          refine (rsame_k _ _ _ _ l _ _ _ _ _ hl P11.out Q11.out I6.out IV.out).mono ?_
          rintro r w32 ⟨rfl, hb⟩
          clear qK110 qK111 qK60 qK61
          replace L := Lib.hid (below_next L.out hb)
          replace IV := Lib.hid (IV.out.below hb)
          replace I6 := Lib.hid (I6.out.below hb)
          replace K6 := Lib.hid (K6.out.next hb)
          replace P11 := Lib.hid (P11.out.below hb)
          replace Q11 := Lib.hid (Q11.out.below hb)
          replace K11 := Lib.hid (K11.out.next hb)
          replace P17 := Lib.hid (P17.out.below hb)
          replace Q17 := Lib.hid (Q17.out.below hb)
          replace K17 := Lib.hid (K17.out.next hb)
          clear hb
          obtain ⟨qK170, qK171, -, -⟩ := K17.out.all
          obtain ⟨qK60, qK61, -, -⟩ := K6.out.all
          go_wp2_with fail
          refine (rsame_k _ _ _ _ l _ _ _ _ _ hl P17.out Q17.out I6.out IV.out).mono ?_
          rintro r w33 ⟨rfl, hb⟩
          clear qK170 qK171 qK60 qK61
          replace L := Lib.hid (below_next L.out hb)
          replace IV := Lib.hid (IV.out.below hb)
          replace I6 := Lib.hid (I6.out.below hb)
          replace K6 := Lib.hid (K6.out.next hb)
          replace P11 := Lib.hid (P11.out.below hb)
          replace Q11 := Lib.hid (Q11.out.below hb)
          replace K11 := Lib.hid (K11.out.next hb)
          replace P17 := Lib.hid (P17.out.below hb)
          replace Q17 := Lib.hid (Q17.out.below hb)
          replace K17 := Lib.hid (K17.out.next hb)
          clear hb
          go_wp2_with fail
          refine (lives7_any _).mono ?_
          rintro r w34 ⟨rfl, hb⟩
          replace L := Lib.hid (below_next L.out hb)
          replace IV := Lib.hid (IV.out.below hb)
          replace I6 := Lib.hid (I6.out.below hb)
          replace K6 := Lib.hid (K6.out.next hb)
          replace P11 := Lib.hid (P11.out.below hb)
          replace Q11 := Lib.hid (Q11.out.below hb)
          replace K11 := Lib.hid (K11.out.next hb)
          replace P17 := Lib.hid (P17.out.below hb)
          replace Q17 := Lib.hid (Q17.out.below hb)
          replace K17 := Lib.hid (K17.out.next hb)
          clear hb
          go_wp2
          go_ret
          exact ⟨rfl, L.out⟩

set_option maxRecDepth 100000 in
theorem lifted (os : Os) (started : os.Started) (H : Type) (enc : TypeId × Value → H) :
    ReturnsInHanded {} Try.checked os 9 .any (Rows.carvePartsSpec.pre6 enc Try.prog Try.f9 Rows.carvePartsRow.domain false) (Rows.carvePartsSpec.post enc Try.prog Try.f9 false true false false) := by
  refine returnsInHanded_of_change (C := Try.checked) own started (by kernel_rfl) Try.func9
    (ChangeSpec.witness6 (enc := enc) (C := Try.checked) false ⟨#[], #[.slice none 0 0, .int .u64 0], []⟩ 8 (by kernel_rfl) (by kernel_rfl) (by kernel_rfl) (by kernel_rfl)) ?_
  intro W base args ds gs before hval0 hW hcnd _
  have hval : ∀ (j : Nat) t v, Try.f9.params[j]? = some t → args[j]? = some v → Value.okWide Try.prog W .any base t v := hval0
  have hW' := hW
  obtain ⟨p, q, hA0, hV, rfl, hfz, hnd⟩ := hW
  have hA : DataW.TrodAll enc Try.prog W 0 (fun _ => true) true Try.f9.params.toList args.toList ds p := hA0
  rw [Try.params9] at hA hval
  obtain ⟨v0, vs0, dd0, ds0, p0, q0, hargs, rfl, rfl, h0, r0⟩ := trodAll_cons hA
  obtain ⟨v1, vs1, dd1, ds1, p1, q1, rfl, rfl, rfl, h1, r1⟩ := trodAll_cons r0
  obtain ⟨rfl, rfl, rfl⟩ := trodAll_nil r1
  obtain rfl : args = #[v0, v1] := by cases args; simp_all
  obtain ⟨rfl, rfl⟩ := trodVars_none hV
  have k0 := h0
  have lt0 : ∀ x ∈ p0, x.block < W.heap.size := by obtain ⟨m, hm⟩ := k0; exact DataW.trod_lt m _ _ _ hm
  obtain ⟨A0, c0, l0, rfl, hl0⟩ := ints_arg Try.underlying23 Try.underlying2 (by kernel_rfl) (hval 0 23 v0 rfl rfl) h0
  have k1 := h1
  have lt1 : ∀ x ∈ p1, x.block < W.heap.size := by obtain ⟨m, hm⟩ := k1; exact DataW.trod_lt m _ _ _ hm
  obtain ⟨n1, rfl, _, _, wf1⟩ := open_int Try.underlying38 (hval 1 38 v1 rfl rfl) h1
  clear hA0 hval0
  refine (walk A0 c0 l0 n1 W hl0.1 (u64_wf wf1).1 (u64_wf wf1).2 hl0.2.2.2.1).mono fun e W' ⟨he, bel⟩ => ?_
  subst he
  exact ⟨_, rfl, _, _, _, [], _, [], hW', trodAll_mk1 (shut_bool Try.underlying4 _), (trodAll_cons_mk (Below.trod laidOut (by kernel_rfl) (of_decide_eq_true (by kernel_rfl)) k0 bel lt0) (trodAll_cons_mk (Below.trod laidOut (by kernel_rfl) (of_decide_eq_true (by kernel_rfl)) k1 bel lt1) trodAll_mk0)), rfl, bel.frame _, fun h => by cases h⟩

theorem over : Rows.carvePartsRow.holds Try.pinned (OpenSpec.ofChange Rows.carvePartsSpec) :=
  OpenClaim.holds_of_wide 9 Try.f9 rfl rfl rfl rfl rfl rfl rfl ⟨rfl, rfl, rfl, rfl, rfl⟩ rfl rfl rfl rfl rfl (by kernel_rfl) Try.func9 (by kernel_rfl)
    (of_decide_eq_true (by kernel_rfl)) (by unfold Func.isWrapper; first | (rw [if_pos (by decide +kernel)]; kernel_rfl) | (rw [if_neg (by decide +kernel)]; exact ⟨rfl, rfl⟩))
    (fun os started H enc _ => lifted os started H enc)

theorem proved : Rows.CarvePartsSaid := over
end Go.Proofs.Ytfnpdflapmbnjaa.carveParts
