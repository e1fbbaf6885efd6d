/-
  Proved: for any function, any two cells and any number rifflelaw05.SpreadApart returns true, and each argument reads afterwards as it read before. The card is tied to the text that lays scalar.traits; it speaks of the pruned copy of the project that this seat's roots load. No other condition.
-/
import Derived.Test.YthabimjmdnhomaaDoorSpLaw
namespace Go.Proofs.YthabimjmdnhomaaDoor.spreadApart
open Go.Proofs.YthabimjmdnhomaaDoor.Sh Go.Proofs.YthabimjmdnhomaaDoor.Sp
open Go.Joins Go.ChangeShapes Go.WideShapes Go.ChangeAt Go.RowKit Go.Deep
set_option linter.unusedVariables false

theorem cells4 : Tryd.prog.cellsOf 40 = 4 := by kernel_rfl
theorem cellsC : Tryd.prog.cellsOf 32 = 2 := by kernel_rfl
theorem trod2 {H : Type} {enc : TypeId × Value → H} {P : Program} {w : World} {base fuel : Nat} {spare : Nat → Bool} {held : Bool} {t : TypeId} {f0 f1 : Field} {v0 v1 : Value} {x : DataW H × List MemPlace} (hs : P.underlying t = some (.struct #[f0, f1])) (hone : oneCellFields P #[f0, f1] = true)
    (h : DataW.trod enc P w base spare held fuel t [v0, v1] = some x) : ∃ y0 y1 n, DataW.trod enc P w base spare held n f0.type [v0] = some y0 ∧ DataW.trod enc P w base spare held n f1.type [v1] = some y1 := by
  obtain ⟨y0, y1, n, hx, hl, h0, h1⟩ := trod_struct2 hs h
  obtain ⟨o0, k0⟩ := hone_of hone 0 f0 rfl
  obtain ⟨o1, k1⟩ := hone_of hone 1 f1 rfl
  exact ⟨y0, y1, n, by simpa [o0, k0] using h0, by simpa [o1, k1] using h1⟩
theorem cell_trod {H : Type} {enc : TypeId × Value → H} {w : World} {base fuel : Nat} {held : Bool} {v0 v1 : Value} {x : DataW H × List MemPlace} (h : DataW.trod enc Tryd.prog w base (fun _ => true) held fuel 32 [v0, v1] = some x) :
    ∃ A c l B c2 m, v0 = .slice A (List.length l) c ∧ v1 = .slice B (List.length m) c2 ∧ IntsC w A c l ∧ IntsC w B c2 m := by
  obtain ⟨y0, y1, n, h0, h1⟩ := trod2 Tryd.underlying32 (by kernel_rfl) h
  obtain ⟨A, c, l, rfl, h2⟩ := row_of (v := v0) Tryd.underlying22 Tryd.underlying3 (by kernel_rfl) h0
  obtain ⟨B, c2, m, rfl, h3⟩ := row_of (v := v1) Tryd.underlying30 Tryd.underlying2 (by kernel_rfl) h1
  exact ⟨A, c, l, B, c2, m, rfl, rfl, h2, h3⟩
theorem cells_arg {H : Type} {enc : TypeId × Value → H} {w : World} {v : Value} {d : DataW H} {p : List MemPlace} {r : Reach} {b0 base : Nat} (hv : Value.okWide Tryd.prog w r b0 40 v) (h : DataW.Trod enc Tryd.prog w base (fun _ => true) true 40 v d p) :
    ∃ A c l B c2 m A' c' l' B' c2' m', v = .agg #[.slice A (List.length l) c, .slice B (List.length m) c2, .slice A' (List.length l') c', .slice B' (List.length m') c2'] ∧ IntsC w A c l ∧ IntsC w B c2 m ∧ IntsC w A' c' l' ∧ IntsC w B' c2' m' := by
  simp only [Value.okWide, Tryd.underlying40] at hv
  obtain ⟨cs, rfl, hsz, _⟩ := hv
  rw [cells4] at hsz
  obtain ⟨c0, c1, c2, c3, rfl⟩ := array4 hsz
  obtain ⟨fuel, hf⟩ := h
  obtain ⟨xs, m, _, _, _, hl, hat⟩ := DataW.trod_array Tryd.underlying40 hf
  rw [cellsC] at hat
  have h0 := hat 0 (by omega)
  have h1 := hat 1 (by omega)
  match xs, hl with
  | [y0, y1], _ =>
    simp [Value.cells] at h0 h1
    obtain ⟨A, c, l, B, c2, m, rfl, rfl, i1, i2⟩ := cell_trod h0
    obtain ⟨A', c', l', B', c2', m', rfl, rfl, i3, i4⟩ := cell_trod h1
    exact ⟨A, c, l, B, c2, m, A', c', l', B', c2', m', rfl, i1, i2, i3, i4⟩

section
variable {c : Int} {s : Bool} {d v e u : List Int}
theorem set_R {v : List Int} (h : AllR v) (k : Nat) (x : Int) : AllR (v.set k (wrap64 x)) := fun y hy => by
  rcases List.mem_or_eq_of_mem_set hy with h1 | h1
  · exact h y h1
  · rw [h1]; exact Sc.wrap_R x
theorem twoE_0 (h : twoE c d v.length e u.length = 0) : cellB d v.length = true ∧ cellB e u.length = true ∧ Sc.hasB c 2 = true ∧ fitE d e = 0 := by
  unfold twoE at h
  split at h
  · rename_i h1
    split at h
    · rename_i h2
      exact ⟨h1.1, h1.2, h2, h⟩
    · omega
  · omega
theorem two_ne {E : Int} (hE : twoE c d v.length e u.length = E) (h : ¬ E = 0) : twoD c d v.length e u.length = [] ∧ twoV c s d v e u = [] := by
  subst hE
  exact ⟨by unfold twoD; rw [if_neg h], by unfold twoV; rw [if_neg h]⟩
theorem twoV_eq (h : twoE c d v.length e u.length = 0) : twoV c s d v e u = (List.range (sizeI (fitD d e)).toNat).map (twoF c s d v e u) := by unfold twoV; rw [if_pos h]
theorem twoV_n (h : twoE c d v.length e u.length = 0) : cellB (fitD d e) (twoV c s d v e u).length = true := by
  obtain ⟨_, _, _, hf⟩ := twoE_0 h
  obtain ⟨n, hn, _⟩ := sizeI_nat _ (fit_right hf)
  rw [twoV_eq h]
  unfold cellB
  rw [fit_right hf, hn]
  simp
theorem apart_len (k : Nat) (x : Int) (h : twoE c d v.length e u.length = 0) : twoE c d (v.set k x).length e u.length = 0 ∧ (twoV c s d (v.set k x) e u).length = (twoV c s d v e u).length := by
  have h' : twoE c d (v.set k x).length e u.length = 0 := by rw [List.length_set]; exact h
  refine ⟨h', ?_⟩
  rw [twoV_eq h, twoV_eq h']
  simp
theorem apart_at (k : Nat) (x : Int) (h : twoE c d v.length e u.length = 0) (hd : ¬ d.length = 0) (i : Nat) (hi : ¬ i = k) : (twoV c s d (v.set k x) e u).getD i 0 = (twoV c s d v e u).getD i 0 := by
  have h' : twoE c d (v.set k x).length e u.length = 0 := by rw [List.length_set]; exact h
  rw [twoV_eq h, twoV_eq h']
  rcases Nat.lt_or_ge i (sizeI (fitD d e)).toNat with hn | hn
  · simp only [List.getD, List.getElem?_map, List.getElem?_range hn, Option.map_some, Option.getD_some]
    unfold twoF
    congr 1
    rw [numA_i hd, numA_i hd]
    simp [List.getD, Ne.symm hi]
  · have e0 : (List.range (sizeI (fitD d e)).toNat)[i]? = none := List.getElem?_eq_none (by simpa using hn)
    simp only [List.getD, List.getElem?_map, e0, Option.map_none]
end
theorem front {t : TypeId} {w : World} {base : Nat} {A : Option Addr} {n c : Nat} {xs : List Int} (h : MineT t w base (.slice A n c) xs) (hp : 0 < xs.length) : ∃ g, A = some ⟨g, 0, none⟩ ∧ base ≤ g ∧ g < w.heap.size ∧ ∀ i, w.frozen? ⟨g, i, none⟩ = false := by
  have hlt := h.lt
  rcases h.2 with ⟨e, h0⟩ | ⟨g, cap, cur, e, hb, hh, _⟩
  · rw [h0] at hp; simp at hp
  · injection e with e1
    subst e1
    exact ⟨g, rfl, hb, hlt g rfl, fun i => by simp [World.frozen?, hh]⟩
theorem ints_set {w : World} {g k : Nat} {v : List Int} (h : Ints w (some ⟨g, 0, none⟩) v) (hk : k < v.length) (x : Int) : Ints (w.setCell ⟨g, k, none⟩ (.int .i64 x)) (some ⟨g, 0, none⟩) (v.set k x) := fun hp => by
  rw [List.length_set] at hp
  obtain ⟨b, off, e, hb, hc⟩ := h hp
  injection e with e
  injection e with e1 e2 e3
  subst e1 e2
  refine ⟨g, 0, rfl, by simpa [World.setCell] using hb, fun i hi => ?_⟩
  rw [List.length_set] at hi
  rw [Nat.zero_add]
  have hci := hc i hi
  rw [Nat.zero_add] at hci
  by_cases hik : k = i
  · subst hik
    rw [World.cell?_setCell_same _ _ _ (by rw [hci])]
    simp [List.getD, hi]
  · rw [World.cell?_setCell_other _ _ _ _ (fun e => hik (by injection e)), hci]
    simp [List.getD, hik]

/-- Behind the two variables that hold the cells. -/
def Cut1 (w : World) (X Y Z U C S s7 s8 : Value) (wx : World) : Prop := ∃ g7 g8, s7 = .pointer (some ⟨g7, 0, none⟩) ∧ s8 = .pointer (some ⟨g8, 0, none⟩) ∧ Box wx g7 X Y ∧ Box wx g8 Z U ∧ (wx.cell? ⟨w.heap.size, 0, none⟩ = some C ∧ wx.cell? ⟨w.heap.size, 1, none⟩ = some S) ∧ Below w.heap.size w wx
theorem box2 (W : World) (X Y Z U : Value) : Box ((W.alloc (.cells #[X, Y] 32)).alloc (.cells #[Z, U] 32)) W.heap.size X Y ∧ Box ((W.alloc (.cells #[X, Y] 32)).alloc (.cells #[Z, U] 32)) (W.heap.size + 1) Z U := by
  refine ⟨(Box.new W X Y).alloc _, ?_⟩
  have := Box.new (W.alloc (.cells #[X, Y] 32)) Z U
  rw [show (W.alloc (.cells #[X, Y] 32)).heap.size = W.heap.size + 1 from by simp] at this
  exact this
theorem cut1_a {w W : World} {X Y Z U C S : Value} (hf : W.cell? ⟨w.heap.size, 0, none⟩ = some C ∧ W.cell? ⟨w.heap.size, 1, none⟩ = some S) (hL : Below w.heap.size w W) :
    Cut1 w X Y Z U C S (.pointer (some ⟨W.heap.size, 0, none⟩)) (.pointer (some ⟨W.heap.size + 1, 0, none⟩)) ((W.alloc (.cells #[X, Y] 32)).alloc (.cells #[Z, U] 32)).drew :=
  have b := Sh.below_next (below_new W (.cells #[X, Y] 32)) (below_new _ (.cells #[Z, U] 32))
  ⟨_, _, rfl, rfl, (box2 W X Y Z U).1.drew, (box2 W X Y Z U).2.drew, keepFn b.drew hf, Sh.below_next hL b.drew⟩
theorem cut1_b {w W : World} {X Y Z U C S : Value} (hf : W.cell? ⟨w.heap.size, 0, none⟩ = some C ∧ W.cell? ⟨w.heap.size, 1, none⟩ = some S) (hL : Below w.heap.size w W) :
    Cut1 w X Y Z U C S (.pointer (some ⟨W.heap.size + 1, 0, none⟩)) (.pointer (some ⟨W.heap.size, 0, none⟩)) ((W.alloc (.cells #[Z, U] 32)).alloc (.cells #[X, Y] 32)).drew :=
  have b := Sh.below_next (below_new W (.cells #[Z, U] 32)) (below_new _ (.cells #[X, Y] 32))
  ⟨_, _, rfl, rfl, (box2 W Z U X Y).2.drew, (box2 W Z U X Y).1.drew, keepFn b.drew hf, Sh.below_next hL b.drew⟩
theorem keepC2 {W w' : World} {g : Nat} {r : Option Nat} {x y : Value} (hg : W.grownBy w' r) (h0 : W.cell? ⟨g, 0, none⟩ = some x) (h1 : W.cell? ⟨g, 1, none⟩ = some y) (hr : some g ≠ r) : w'.cell? ⟨g, 0, none⟩ = some x ∧ w'.cell? ⟨g, 1, none⟩ = some y :=
  have e := hg.block g (World.block_lt_of_cell? W ⟨g, 0, none⟩ h0) hr
  ⟨(World.cell?_of_block e).trans h0, (World.cell?_of_block e).trans h1⟩
theorem BoxC (w : World) : Box (((w.alloc (.cells #[] 2)).alloc (.cells #[.slice none 0 0, .slice none 0 0] 32)).drew) (w.heap.size + 1) (.slice none 0 0) (.slice none 0 0) := by
  have := Box.new (w.alloc (.cells #[] 2)) (.slice none 0 0) (.slice none 0 0)
  rw [show (w.alloc (.cells #[] 2)).heap.size = w.heap.size + 1 from by simp] at this
  exact this
/-- Behind the variable that holds the other cell. -/
def Cut2 (w : World) (X : Value) (v : List Int) (s13 : Value) (wx : World) : Prop := ∃ g13 g9 c9, s13 = .pointer (some ⟨g13, 0, none⟩) ∧ Box wx g13 X (.slice (some ⟨g9, 0, none⟩) v.length c9) ∧ Ints wx (some ⟨g9, 0, none⟩) v ∧ (∀ i, wx.frozen? ⟨g9, i, none⟩ = false) ∧ w.heap.size ≤ g9 ∧ w.heap.size ≤ g13 ∧ g13 ≠ g9 ∧ Below w.heap.size w wx
theorem cut2_a {w w9 : World} {X : Value} {A9 : Option Addr} {c9 : Nat} {v : List Int} (hm : MineT 2 w9 w.heap.size (.slice A9 v.length c9) v) (hp : 0 < v.length) (hb : Below w.heap.size w w9) :
    Cut2 w X v (.pointer (some ⟨w9.heap.size, 0, none⟩)) (w9.alloc (.cells #[X, .slice A9 v.length c9] 32)) := by
  obtain ⟨g9, rfl, h1, h2, h3⟩ := front hm hp
  exact ⟨_, g9, c9, rfl, Box.new w9 _ _, (hm.alloc _).ints', fun i => by rw [World.frozen?_alloc_past _ _ _ h2]; exact h3 i, h1, hb.size, by omega, Sh.below_next hb (below_new _ _)⟩
theorem cut2_b {w w9 : World} {X : Value} {A9 : Option Addr} {c9 gb : Nat} {v : List Int} {x y : Value} (hm : MineT 2 w9 w.heap.size (.slice A9 v.length c9) v) (hp : 0 < v.length) (hb : Below w.heap.size w w9) (bx : Box w9 gb x y) (hg : w.heap.size ≤ gb) :
    Cut2 w X v (.pointer (some ⟨gb, 0, none⟩)) ((w9.setCell ⟨gb, 0, none⟩ X).setCell ⟨gb, 1, none⟩ (.slice A9 v.length c9)) := by
  obtain ⟨g9, rfl, h1, h2, h3⟩ := front hm hp
  have hne : gb ≠ g9 := fun e => by
    subst e
    rcases hm.2 with ⟨e, h0⟩ | ⟨g, cap, cur, e, _, hh, _⟩
    · injection e with e; cases e
    · injection e with e
      injection e with e
      injection e with e
      subst e
      unfold Box at bx
      rw [bx] at hh
      injection hh with hh
      injection hh with _ hh
      exact absurd hh (by decide)
  have hne2 : (Value.slice (some ⟨g9, 0, none⟩) v.length c9).ownBlock ≠ some gb := fun e => by simp [Value.ownBlock] at e; exact hne e.symm
  have hm2 := (hm.setCell (p := ⟨gb, 0, none⟩) hne2 X).setCell (p := ⟨gb, 1, none⟩) hne2 (.slice (some ⟨g9, 0, none⟩) v.length c9)
  obtain ⟨g', e', _, _, h3'⟩ := front hm2 hp
  injection e' with e'
  injection e' with e'
  subst e'
  exact ⟨gb, g9, c9, rfl, (bx.set0 _).set1 _, hm2.ints', h3', h1, hg, hne, (hb.setCell hg _).setCell hg _⟩

set_option maxHeartbeats 4000000 in
set_option maxRecDepth 100000 in
theorem walk (c : Int) (s : Bool) (A : Option Addr) (c1 : Nat) (d : List Int) (B : Option Addr) (c2 : Nat) (v : List Int) (A' : Option Addr) (c1' : Nat) (e : List Int) (B' : Option Addr) (c2' : Nat) (u : List Int) (at_ : Int) (w : World)
    (hT : Sc.Tab w) (id : Ints w A d) (iv : Ints w B v) (ie : Ints w A' e) (iu : Ints w B' u) (rv : AllR v) (ru : AllR u) :
    Calls Tryd.prog 6 #[.agg #[.int .i64 c, .bool s], .agg #[.slice A d.length c1, .slice B v.length c2, .slice A' e.length c1', .slice B' u.length c2'], .int .i64 at_] w fun e w' => e = .returned (.bool true) ∧ Below w.heap.size w w' := by
  have RV := Lib.hid rv
  have RU := Lib.hid ru
  clear rv ru
  have b1 := below_new w (.cells #[.int .i64 c, .bool s] 29)
  have b2 := below_new (w.alloc (.cells #[.int .i64 c, .bool s] 29)) (.cells #[.slice A d.length c1, .slice B v.length c2, .slice A' e.length c1', .slice B' u.length c2'] 40)
  have F0 := Lib.hid (keepFn b2 (fn_new w (.int .i64 c) (.bool s)))
  have L0 := Lib.hid (Sh.below_next b1 b2)
  have HI := Lib.hid hT
  have ID := Lib.hid id
  have IV := Lib.hid iv
  have IE := Lib.hid ie
  have IU := Lib.hid iu
  clear b1 b2 hT id iv ie iu
  go_enter Tryd.func6, Tryd.ntmps6
  go_upto_region 1 with (fail)
  have x0 : ((w.alloc (.cells #[.int .i64 c, .bool s] 29)).alloc (.cells #[.slice A d.length c1, .slice B v.length c2, .slice A' e.length c1', .slice B' u.length c2'] 40)).cell? ⟨w.heap.size + 1, 0, none⟩ = some (.slice A d.length c1) := by rw [World.cell?_alloc_at _ _ _ _ (by simp)]; rfl
  have x1 : ((w.alloc (.cells #[.int .i64 c, .bool s] 29)).alloc (.cells #[.slice A d.length c1, .slice B v.length c2, .slice A' e.length c1', .slice B' u.length c2'] 40)).cell? ⟨w.heap.size + 1, 1, none⟩ = some (.slice B v.length c2) := by rw [World.cell?_alloc_at _ _ _ _ (by simp)]; rfl
  have x2 : ((w.alloc (.cells #[.int .i64 c, .bool s] 29)).alloc (.cells #[.slice A d.length c1, .slice B v.length c2, .slice A' e.length c1', .slice B' u.length c2'] 40)).cell? ⟨w.heap.size + 1, 2, none⟩ = some (.slice A' e.length c1') := by rw [World.cell?_alloc_at _ _ _ _ (by simp)]; rfl
  have x3 : ((w.alloc (.cells #[.int .i64 c, .bool s] 29)).alloc (.cells #[.slice A d.length c1, .slice B v.length c2, .slice A' e.length c1', .slice B' u.length c2'] 40)).cell? ⟨w.heap.size + 1, 3, none⟩ = some (.slice B' u.length c2') := by rw [World.cell?_alloc_at _ _ _ _ (by simp)]; rfl
  have hsz : ((w.alloc (.cells #[.int .i64 c, .bool s] 29)).alloc (.cells #[.slice A d.length c1, .slice B v.length c2, .slice A' e.length c1', .slice B' u.length c2'] 40)).heap.size = w.heap.size + 1 + 1 := by simp
  have HSZ := Lib.hid hsz
  clear hsz
  generalize hW0 : (w.alloc (.cells #[.int .i64 c, .bool s] 29)).alloc (.cells #[.slice A d.length c1, .slice B v.length c2, .slice A' e.length c1', .slice B' u.length c2'] 40) = W0 at *
  clear hW0
  go_cut [7, 8] (fun s7 s8 wx => Cut1 w (.slice A d.length c1) (.slice B v.length c2) (.slice A' e.length c1') (.slice B' u.length c2') (.int .i64 c) (.bool s) s7 s8 wx)
  case first =>
    go_region_held3 (fun w' => w'.cell? ⟨w.heap.size + 1, 0, none⟩ = some (.slice A d.length c1) ∧ w'.cell? ⟨w.heap.size + 1, 1, none⟩ = some (.slice B v.length c2) ∧ w'.cell? ⟨w.heap.size + 1, 2, none⟩ = some (.slice A' e.length c1') ∧ w'.cell? ⟨w.heap.size + 1, 3, none⟩ = some (.slice B' u.length c2'))
      (first
        | go_keep
        | exact ⟨x0, x1, x2, x3⟩)
      (fail)
    all_goals (go_wp2_with fail; go_meet; first | exact cut1_a F0.out L0.out | exact cut1_b F0.out L0.out)
  case rest =>
    obtain ⟨gA, gB, rfl, rfl, b7, b8, hf, hL⟩ := hcut
    have FF := Lib.hid hf
    have BA := Lib.hid b7
    have BB := Lib.hid b8
    have L := Lib.hid hL
    have T := Lib.hid (HI.out.below hL)
    replace ID := Lib.hid (ID.out.below hL)
    replace IV := Lib.hid (IV.out.below hL)
    replace IE := Lib.hid (IE.out.below hL)
    replace IU := Lib.hid (IU.out.below hL)
    clear hf b7 b8 hL x0 x1 x2 x3 F0 L0 HI HSZ
    by_cases h1 : d.length ≤ 10 ∧ v.length ≤ 200
    · by_cases h2 : e.length ≤ 10 ∧ u.length ≤ 200
      · obtain ⟨hd, hv⟩ := h1
        obtain ⟨he, hu⟩ := h2
        obtain ⟨E, hE⟩ : ∃ E, twoE c d v.length e u.length = E := ⟨_, rfl⟩
        by_cases h3 : E = 0
        · subst h3
          obtain ⟨-, -, -, hfit⟩ := twoE_0 hE
          obtain ⟨D, hD⟩ : ∃ D, fitD d e = D := ⟨_, rfl⟩
          have hD2 : twoD c d v.length e u.length = D := by unfold twoD; rw [if_pos hE, hD]
          obtain ⟨V, hV⟩ : ∃ V, twoV c s d v e u = V := ⟨_, rfl⟩
          have hDl : D.length ≤ 10 := by rw [← hD2]; exact twoD_len hd he
          have hVl : V.length ≤ 64 := by rw [← hV]; exact twoV_len
          have HC := Lib.hid (show cellB D V.length = true by rw [← hD, ← hV]; exact twoV_n hE)
          have HE := Lib.hid hE
          have HFE := Lib.hid hfit
          have HFD := Lib.hid hD
          have HD := Lib.hid hD2
          have HV := Lib.hid hV
          clear hE hD hD2 hV hfit
          obtain ⟨qBA0, qBA1, -, -⟩ := BA.out.all
          go_wp2_with fail
          refine (great_no _ _ _ _ _ _ _ hd hv).mono ?_
          rintro r w1 ⟨rfl, hb⟩
          clear qBA0 qBA1
          replace FF := Lib.hid (keepFn hb FF.out)
          replace BA := Lib.hid (BA.out.next hb)
          replace BB := Lib.hid (BB.out.next hb)
          replace L := Lib.hid (Sh.below_next L.out hb)
          replace T := Lib.hid (T.out.below hb)
          replace ID := Lib.hid (ID.out.below hb)
          replace IV := Lib.hid (IV.out.below hb)
          replace IE := Lib.hid (IE.out.below hb)
          replace IU := Lib.hid (IU.out.below hb)
          clear hb
          obtain ⟨qBB0, qBB1, -, -⟩ := BB.out.all
          go_wp2_with fail
          refine (great_no _ _ _ _ _ _ _ he hu).mono ?_
          rintro r w2 ⟨rfl, hb⟩
          clear qBB0 qBB1
          replace FF := Lib.hid (keepFn hb FF.out)
          replace BA := Lib.hid (BA.out.next hb)
          replace BB := Lib.hid (BB.out.next hb)
          replace L := Lib.hid (Sh.below_next L.out hb)
          replace T := Lib.hid (T.out.below hb)
          replace ID := Lib.hid (ID.out.below hb)
          replace IV := Lib.hid (IV.out.below hb)
          replace IE := Lib.hid (IE.out.below hb)
          replace IU := Lib.hid (IU.out.below hb)
          clear hb
          obtain ⟨qFF0, qFF1⟩ := FF.out
          obtain ⟨qBA0, qBA1, -, -⟩ := BA.out.all
          obtain ⟨qBB0, qBB1, -, -⟩ := BB.out.all
          go_wp2_with fail
          refine (two_w c s _ _ d _ _ v _ _ e _ _ u _ 0 D V HE.out HD.out HV.out T.out ID.out IV.out IE.out IU.out (by omega) (by omega) (by omega) (by omega) RV.out RU.out).mono ?_
          rintro r w3 ⟨x, rfl, ⟨A7, c7, B7, e7, rfl, j1, j2, -⟩, hb⟩
          clear qFF0 qFF1 qBA0 qBA1 qBB0 qBB1
          replace FF := Lib.hid (keepFn hb FF.out)
          replace BA := Lib.hid (BA.out.next hb)
          replace BB := Lib.hid (BB.out.next hb)
          replace L := Lib.hid (Sh.below_next L.out hb)
          replace T := Lib.hid (T.out.below hb)
          replace ID := Lib.hid (ID.out.below hb)
          replace IV := Lib.hid (IV.out.below hb)
          replace IE := Lib.hid (IE.out.below hb)
          replace IU := Lib.hid (IU.out.below hb)
          clear hb
          have P7 := Lib.hid j1.ints
          have Q7 := Lib.hid j2.ints
          clear j1 j2
          have KB := Lib.hid (below_new w3 (.cells #[.slice A7 D.length c7, .slice B7 V.length e7] 32))
          have K7 := Lib.hid (Box.new w3 (.slice A7 D.length c7) (.slice B7 V.length e7))
          replace FF := Lib.hid (keepFn KB.out FF.out)
          replace BA := Lib.hid (BA.out.next KB.out)
          replace BB := Lib.hid (BB.out.next KB.out)
          replace L := Lib.hid (Sh.below_next L.out KB.out)
          replace T := Lib.hid (T.out.below KB.out)
          replace ID := Lib.hid (ID.out.below KB.out)
          replace IV := Lib.hid (IV.out.below KB.out)
          replace IE := Lib.hid (IE.out.below KB.out)
          replace IU := Lib.hid (IU.out.below KB.out)
          replace P7 := Lib.hid (P7.out.below KB.out)
          replace Q7 := Lib.hid (Q7.out.below KB.out)
          go_upto_region 5 with (fail)
          clear KB
          generalize hW : w3.alloc (.cells #[.slice A7 D.length c7, .slice B7 V.length e7] 32) = W7 at *
          clear hW
          generalize w3.heap.size = g7 at *
          obtain ⟨qBA0, qBA1, -, -⟩ := BA.out.all
          obtain ⟨qBB0, qBB1, -, -⟩ := BB.out.all
          go_wp2_with fail
          refine (fit_v _ _ d _ _ e _ 0 D HFE.out HFD.out (by omega) (by omega) ID.out IE.out).mono ?_
          rintro r w4 ⟨A8, c8, rfl, hi, hb⟩
          clear qBA0 qBA1 qBB0 qBB1
          replace FF := Lib.hid (keepFn hb FF.out)
          replace BA := Lib.hid (BA.out.next hb)
          replace BB := Lib.hid (BB.out.next hb)
          replace L := Lib.hid (Sh.below_next L.out hb)
          replace T := Lib.hid (T.out.below hb)
          replace ID := Lib.hid (ID.out.below hb)
          replace IV := Lib.hid (IV.out.below hb)
          replace IE := Lib.hid (IE.out.below hb)
          replace IU := Lib.hid (IU.out.below hb)
          replace P7 := Lib.hid (P7.out.below hb)
          replace Q7 := Lib.hid (Q7.out.below hb)
          replace K7 := Lib.hid (K7.out.next hb)
          clear hb
          have IF := Lib.hid (hi)
          clear hi
          obtain ⟨qK70, qK71, -, -⟩ := K7.out.all
          go_wp2_with fail
          refine (refSame_yes _ _ D _ _ D _ (by unfold maxLen; omega) (by unfold maxLen; omega) P7.out IF.out rfl).mono ?_
          rintro r w5 ⟨rfl, hb⟩
          clear qK70 qK71
          replace FF := Lib.hid (keepFn hb FF.out)
          replace BA := Lib.hid (BA.out.next hb)
          replace BB := Lib.hid (BB.out.next hb)
          replace L := Lib.hid (Sh.below_next L.out hb)
          replace T := Lib.hid (T.out.below hb)
          replace ID := Lib.hid (ID.out.below hb)
          replace IV := Lib.hid (IV.out.below hb)
          replace IE := Lib.hid (IE.out.below hb)
          replace IU := Lib.hid (IU.out.below hb)
          replace P7 := Lib.hid (P7.out.below hb)
          replace Q7 := Lib.hid (Q7.out.below hb)
          replace K7 := Lib.hid (K7.out.next hb)
          replace IF := Lib.hid (IF.out.below hb)
          clear hb
          obtain ⟨qK70, qK71, -, -⟩ := K7.out.all
          go_wp2_with fail
          refine (cright_yes _ _ D _ _ _ _ (by unfold maxLen; omega) P7.out HC.out).mono ?_
          rintro r w6 ⟨rfl, hb⟩
          clear qK70 qK71
          replace FF := Lib.hid (keepFn hb FF.out)
          replace BA := Lib.hid (BA.out.next hb)
          replace BB := Lib.hid (BB.out.next hb)
          replace L := Lib.hid (Sh.below_next L.out hb)
          replace T := Lib.hid (T.out.below hb)
          replace ID := Lib.hid (ID.out.below hb)
          replace IV := Lib.hid (IV.out.below hb)
          replace IE := Lib.hid (IE.out.below hb)
          replace IU := Lib.hid (IU.out.below hb)
          replace P7 := Lib.hid (P7.out.below hb)
          replace Q7 := Lib.hid (Q7.out.below hb)
          replace K7 := Lib.hid (K7.out.next hb)
          replace IF := Lib.hid (IF.out.below hb)
          clear hb
          clear HC
          by_cases hd0 : d.length = 0
          · obtain ⟨qBA0, qBA1, -, -⟩ := BA.out.all
            have hz : ((d.length : Int) == 0) = true := by simp [hd0]
            clear hd0
            go_wp2_with fail
            refine (lives_any _ T.out).mono ?_
            rintro r w7 ⟨rfl, hb⟩
            clear qBA0 qBA1
            replace FF := Lib.hid (keepFn hb FF.out)
            replace BA := Lib.hid (BA.out.next hb)
            replace BB := Lib.hid (BB.out.next hb)
            replace L := Lib.hid (Sh.below_next L.out hb)
            replace T := Lib.hid (T.out.below hb)
            replace ID := Lib.hid (ID.out.below hb)
            replace IV := Lib.hid (IV.out.below hb)
            replace IE := Lib.hid (IE.out.below hb)
            replace IU := Lib.hid (IU.out.below hb)
            replace P7 := Lib.hid (P7.out.below hb)
            replace Q7 := Lib.hid (Q7.out.below hb)
            replace K7 := Lib.hid (K7.out.next hb)
            replace IF := Lib.hid (IF.out.below hb)
            clear hb
            go_wp2
            go_ret
            exact ⟨ret_bool (by simp), L.out⟩
          · have hz : ((d.length : Int) == 0) = false := by simpa using hd0
            by_cases ha0 : at_ < 0
            · obtain ⟨qBA0, qBA1, -, -⟩ := BA.out.all
              clear hd0
              go_wp2_with fail
              refine (lives_any _ T.out).mono ?_
              rintro r w7 ⟨rfl, hb⟩
              clear qBA0 qBA1
              replace FF := Lib.hid (keepFn hb FF.out)
              replace BA := Lib.hid (BA.out.next hb)
              replace BB := Lib.hid (BB.out.next hb)
              replace L := Lib.hid (Sh.below_next L.out hb)
              replace T := Lib.hid (T.out.below hb)
              replace ID := Lib.hid (ID.out.below hb)
              replace IV := Lib.hid (IV.out.below hb)
              replace IE := Lib.hid (IE.out.below hb)
              replace IU := Lib.hid (IU.out.below hb)
              replace P7 := Lib.hid (P7.out.below hb)
              replace Q7 := Lib.hid (Q7.out.below hb)
              replace K7 := Lib.hid (K7.out.next hb)
              replace IF := Lib.hid (IF.out.below hb)
              clear hb
              go_wp2
              go_ret
              exact ⟨ret_bool (by simp), L.out⟩
            · by_cases ha1 : (v.length : Int) ≤ at_
              · obtain ⟨qBA0, qBA1, -, -⟩ := BA.out.all
                clear hd0
                go_wp2_with fail
                refine (lives_any _ T.out).mono ?_
                rintro r w7 ⟨rfl, hb⟩
                clear qBA0 qBA1
                replace FF := Lib.hid (keepFn hb FF.out)
                replace BA := Lib.hid (BA.out.next hb)
                replace BB := Lib.hid (BB.out.next hb)
                replace L := Lib.hid (Sh.below_next L.out hb)
                replace T := Lib.hid (T.out.below hb)
                replace ID := Lib.hid (ID.out.below hb)
                replace IV := Lib.hid (IV.out.below hb)
                replace IE := Lib.hid (IE.out.below hb)
                replace IU := Lib.hid (IU.out.below hb)
                replace P7 := Lib.hid (P7.out.below hb)
                replace Q7 := Lib.hid (Q7.out.below hb)
                replace K7 := Lib.hid (K7.out.next hb)
                replace IF := Lib.hid (IF.out.below hb)
                clear hb
                go_wp2
                go_ret
                exact ⟨ret_bool (by simp), L.out⟩
              · obtain ⟨k, rfl⟩ : ∃ k : Nat, at_ = k := ⟨at_.toNat, by omega⟩
                have hk : k < v.length := by omega
                have hkd : decide ((v.length : Int) ≤ (k : Int)) = false := decide_eq_false (by omega)
                have hkd2 : decide (v.length ≤ k) = false := decide_eq_false (by omega)
                clear ha0 ha1
                obtain ⟨qBA0, qBA1, -, -⟩ := BA.out.all
                have HD0 := Lib.hid hd0
                clear hd0
                have HPOS := Lib.hid (show 0 < v.length by omega)
                go_upto_region 12 with (fail)
                have ZA := Lib.hid (show MineT 2 (w6.alloc (.cells #[] 2)).drew w6.heap.size (.slice (some ⟨w6.heap.size, 0, none⟩) 0 0) [] from MineT.new 2 w6 [] w6.heap.size (Nat.le_refl _) (by simp))
                have ZB := Lib.hid (show MineT 2 ((w6.alloc (.cells #[.slice none 0 0, .slice none 0 0] 32)).alloc (.cells #[] 2)).drew w6.heap.size (.slice (some ⟨w6.heap.size + 1, 0, none⟩) 0 0) [] from by have := MineT.new 2 (w6.alloc (.cells #[.slice none 0 0, .slice none 0 0] 32)) [] w6.heap.size (by simp) (by simp); rw [show (w6.alloc (.cells #[.slice none 0 0, .slice none 0 0] 32)).heap.size = w6.heap.size + 1 from by simp] at this; exact this)
                have ZC := Lib.hid (show MineT 2 ((w6.alloc (.cells #[] 2)).alloc (.cells #[.slice none 0 0, .slice none 0 0] 32)).drew w6.heap.size (.slice (some ⟨w6.heap.size, 0, none⟩) 0 0) [] from (MineT.new 2 w6 [] w6.heap.size (Nat.le_refl _) (by simp)).alloc _)
                have YA := Lib.hid (show Ints (w6.alloc (.cells #[] 2)).drew B v from IV.out.below (below_new w6 _).drew)
                have YB := Lib.hid (show Ints ((w6.alloc (.cells #[.slice none 0 0, .slice none 0 0] 32)).alloc (.cells #[] 2)).drew B v from (IV.out.below (below_new w6 _)).below (below_new _ _).drew)
                have YC := Lib.hid (show Ints ((w6.alloc (.cells #[] 2)).alloc (.cells #[.slice none 0 0, .slice none 0 0] 32)).drew B v from (IV.out.below (below_new w6 _)).below (below_new _ _).drew)
                go_cut [13] (fun s13 wx => Cut2 w6 (.slice A d.length c1) v s13 wx)
                case first =>
                  go_region_held3 (fun w' => w'.cell? ⟨gA, 0, none⟩ = some (.slice A d.length c1) ∧ w'.cell? ⟨gA, 1, none⟩ = some (.slice B v.length c2))
                    (first
                      | go_keep
                      | exact ⟨qBA0, qBA1⟩
                      | exact keepC BL9.out ⟨qBA0, qBA1⟩
                      | exact keepC ((BL9.out.setCell (Nat.le_refl _) _).setCell (Nat.le_refl _) _) ⟨qBA0, qBA1⟩
                      | exact keepC ((BL9.out.setCell (Nat.le_succ _) _).setCell (Nat.le_succ _) _) ⟨qBA0, qBA1⟩
                      | exact keepC (Sh.below_next BL9.out (below_new w9 _)) ⟨qBA0, qBA1⟩)
                    (first
                      | ((with_reducible refine step_appI numL Tryd.underlying30 rfl (.tmp 88) (.tmp 90) rfl w6.heap.size (.slice (some ⟨w6.heap.size, 0, none⟩) 0 0) [] (by simp [Act.eval]) ZA.out B c2 v (by simp [Act.eval]) YA.out (by simp; omega) (by simp) ?_); intro V9 w9 hm9 hg9 ha9; have BL9 := Lib.hid (below_turned (g := w6.heap.size) (below_new w6 (.cells #[] 2)).drew hg9 (Nat.le_refl _)); have HM9 := Lib.hid (show MineT 2 w9 w6.heap.size V9 v from hm9); clear hm9 hg9 ha9; obtain ⟨A9, c9, rfl, -⟩ := HM9.out.ints)
                      | ((with_reducible refine step_appI numL Tryd.underlying30 rfl (.tmp 88) (.tmp 90) rfl w6.heap.size (.slice (some ⟨w6.heap.size + 1, 0, none⟩) 0 0) [] (by simp [Act.eval]) ZB.out B c2 v (by simp [Act.eval]) YB.out (by simp; omega) (by simp; omega) ?_); intro V9 w9 hm9 hg9 ha9; have BL9 := Lib.hid (below_turned (g := w6.heap.size + 1) (Sh.below_next (below_new w6 (.cells #[.slice none 0 0, .slice none 0 0] 32)) (below_new _ (.cells #[] 2))).drew hg9 (Nat.le_succ _)); have BX9 := Lib.hid (Box.grown (g := w6.heap.size) (((Box.new w6 (.slice none 0 0) (.slice none 0 0)).alloc (.cells #[] 2)).drew) hg9 (fun e => by simp [Value.ownBlock] at e)); have HM9 := Lib.hid (show MineT 2 w9 w6.heap.size V9 v from hm9); clear hm9 hg9 ha9; obtain ⟨A9, c9, rfl, -⟩ := HM9.out.ints; obtain ⟨n0, n1, n2, n3⟩ := BX9.out.all)
                      | ((with_reducible refine step_appI numL Tryd.underlying30 rfl (.tmp 88) (.tmp 90) rfl w6.heap.size (.slice (some ⟨w6.heap.size, 0, none⟩) 0 0) [] (by simp [Act.eval]) ZC.out B c2 v (by simp [Act.eval]) YC.out (by simp; omega) (by simp; omega) ?_); intro V9 w9 hm9 hg9 ha9; have BL9 := Lib.hid (below_turned (g := w6.heap.size) (Sh.below_next (below_new w6 (.cells #[] 2)) (below_new _ (.cells #[.slice none 0 0, .slice none 0 0] 32))).drew hg9 (Nat.le_refl _)); have BX9 := Lib.hid (Box.grown (g := w6.heap.size + 1) (BoxC w6) hg9 (fun e => by simp [Value.ownBlock] at e)); have HM9 := Lib.hid (show MineT 2 w9 w6.heap.size V9 v from hm9); clear hm9 hg9 ha9; obtain ⟨A9, c9, rfl, -⟩ := HM9.out.ints; obtain ⟨n0, n1, n2, n3⟩ := BX9.out.all))
                  all_goals (go_wp2_with fail; go_meet)
                  · exact cut2_a HM9.out HPOS.out BL9.out
                  · exact cut2_b HM9.out HPOS.out BL9.out BX9.out (by simp)
                  · exact cut2_b HM9.out HPOS.out BL9.out BX9.out (by simp)
                case rest =>
                  obtain ⟨g13, g9, c9, rfl, bx, iv9, fz, h9, h13, hne, hb⟩ := hcut
                  clear ZA ZB ZC YA YB YC qBA0 qBA1
                  obtain ⟨b0, o0, e0, -, hc0⟩ := iv9 HPOS.out
                  injection e0 with e0
                  injection e0 with e1 e2 e3
                  subst e1 e2
                  have hck := hc0 k hk
                  rw [Nat.zero_add] at hck
                  have fzk := fz k
                  obtain ⟨n0, n1, -, -⟩ := bx.all
                  have i0 : (0 : Int) ≤ (k : Int) := by omega
                  have i1 : (k : Int) < (v.length : Int) := by omega
                  have BX := Lib.hid bx
                  have I9 := Lib.hid iv9
                  have HB := Lib.hid hb
                  clear bx iv9 fz hc0 hb
                  generalize v.getD k 0 = y at *
                  go_upto_region 14 with (fail)
                  have RS := Lib.hid (set_R RV.out k (y + 1))
                  have IS := Lib.hid (ints_set I9.out hk (wrap64 (y + 1)))
                  have BS := Lib.hid (BX.out.far (p := ⟨g9, k, none⟩) hne (.int .i64 (wrap64 (y + 1))))
                  have HS := Lib.hid (HB.out.setCell (p := ⟨g9, k, none⟩) h9 (.int .i64 (wrap64 (y + 1))))
                  have AL := Lib.hid (apart_len (s := s) k (wrap64 (y + 1)) HE.out)
                  have AA := Lib.hid (apart_at (s := s) k (wrap64 (y + 1)) HE.out HD0.out)
                  generalize hw13 : wc.setCell ⟨g9, k, none⟩ (.int .i64 (wrap64 (y + 1))) = W13 at *
                  obtain ⟨v', hv'⟩ : ∃ v', v.set k (wrap64 (y + 1)) = v' := ⟨_, rfl⟩
                  have hl' : v'.length = v.length := by rw [← hv']; simp
                  rw [hv'] at RS IS AL AA
                  have B3 := BS.out
                  rw [← hl'] at B3
                  replace BS := Lib.hid B3
                  have HL' := Lib.hid hl'
                  have hvl : v'.length ≤ 200 := by omega
                  obtain ⟨V2, hV2⟩ : ∃ V2, twoV c s d v' e u = V2 := ⟨_, rfl⟩
                  have HV2 := Lib.hid hV2
                  rw [hV2, HV.out] at AA AL
                  have HD3 := Lib.hid (show twoD c d v'.length e u.length = D by rw [hl']; exact HD.out)
                  clear hw13 hv' hl' B3 hV2 BX I9 HB hck fzk n0 n1
                  replace FF := Lib.hid (keepFn HS.out FF.out)
                  replace BA := Lib.hid (BA.out.next HS.out)
                  replace BB := Lib.hid (BB.out.next HS.out)
                  replace L := Lib.hid (Sh.below_next L.out HS.out)
                  replace T := Lib.hid (T.out.below HS.out)
                  replace ID := Lib.hid (ID.out.below HS.out)
                  replace IV := Lib.hid (IV.out.below HS.out)
                  replace IE := Lib.hid (IE.out.below HS.out)
                  replace IU := Lib.hid (IU.out.below HS.out)
                  replace P7 := Lib.hid (P7.out.below HS.out)
                  replace Q7 := Lib.hid (Q7.out.below HS.out)
                  replace K7 := Lib.hid (K7.out.next HS.out)
                  replace IF := Lib.hid (IF.out.below HS.out)
                  clear HS
                  obtain ⟨qFF0, qFF1⟩ := FF.out
                  obtain ⟨qBS0, qBS1, -, -⟩ := BS.out.all
                  obtain ⟨qBB0, qBB1, -, -⟩ := BB.out.all
                  go_wp2_with fail
                  refine (two_w c s _ _ d _ _ v' _ _ e _ _ u _ 0 D V2 AL.out.1 HD3.out HV2.out T.out ID.out IS.out IE.out IU.out (by omega) (by omega) (by omega) (by omega) RS.out RU.out).mono ?_
                  rintro r w7 ⟨x, rfl, ⟨AX, cX, BX, eX, rfl, j1, j2, -⟩, hb⟩
                  clear qFF0 qFF1 qBS0 qBS1 qBB0 qBB1
                  replace FF := Lib.hid (keepFn hb FF.out)
                  replace BA := Lib.hid (BA.out.next hb)
                  replace BB := Lib.hid (BB.out.next hb)
                  replace L := Lib.hid (Sh.below_next L.out hb)
                  replace T := Lib.hid (T.out.below hb)
                  replace ID := Lib.hid (ID.out.below hb)
                  replace IV := Lib.hid (IV.out.below hb)
                  replace IE := Lib.hid (IE.out.below hb)
                  replace IU := Lib.hid (IU.out.below hb)
                  replace P7 := Lib.hid (P7.out.below hb)
                  replace Q7 := Lib.hid (Q7.out.below hb)
                  replace K7 := Lib.hid (K7.out.next hb)
                  replace IF := Lib.hid (IF.out.below hb)
                  replace BS := Lib.hid (BS.out.next hb)
                  replace IS := Lib.hid (IS.out.below hb)
                  clear hb
                  have PX := Lib.hid j1.ints
                  have QX := Lib.hid j2.ints
                  clear j1 j2
                  have KB := Lib.hid (below_new w7 (.cells #[.slice AX D.length cX, .slice BX V2.length eX] 32))
                  have KX := Lib.hid (Box.new w7 (.slice AX D.length cX) (.slice BX V2.length eX))
                  replace FF := Lib.hid (keepFn KB.out FF.out)
                  replace BA := Lib.hid (BA.out.next KB.out)
                  replace BB := Lib.hid (BB.out.next KB.out)
                  replace L := Lib.hid (Sh.below_next L.out KB.out)
                  replace T := Lib.hid (T.out.below KB.out)
                  replace ID := Lib.hid (ID.out.below KB.out)
                  replace IV := Lib.hid (IV.out.below KB.out)
                  replace IE := Lib.hid (IE.out.below KB.out)
                  replace IU := Lib.hid (IU.out.below KB.out)
                  replace P7 := Lib.hid (P7.out.below KB.out)
                  replace Q7 := Lib.hid (Q7.out.below KB.out)
                  replace K7 := Lib.hid (K7.out.next KB.out)
                  replace IF := Lib.hid (IF.out.below KB.out)
                  replace BS := Lib.hid (BS.out.next KB.out)
                  replace IS := Lib.hid (IS.out.below KB.out)
                  replace PX := Lib.hid (PX.out.below KB.out)
                  replace QX := Lib.hid (QX.out.below KB.out)
                  go_upto_region 15 with (fail)
                  clear KB
                  generalize hW : w7.alloc (.cells #[.slice AX D.length cX, .slice BX V2.length eX] 32) = WX at *
                  clear hW
                  generalize w7.heap.size = gX at *
                  obtain ⟨qKX0, qKX1, -, -⟩ := KX.out.all
                  obtain ⟨qK70, qK71, -, -⟩ := K7.out.all
                  have hnn : ((V2.length : Int) != (V.length : Int)) = false := by rw [AL.out.2]; simp
                  go_upto_region 17 with (fail)
                  clear hnn
                  clear qKX0 qKX1 qK70 qK71
                  go_wp2
                  go_loopw [16] (fun j wr => ∃ i : Nat, i ≤ V2.length ∧ j = .int .i64 (i : Int) ∧ Below WX.heap.size WX wr) (fun j _ => V2.length - (intOf j).toNat)
                  case atStart => exact ⟨0, Nat.zero_le _, rfl, Below.refl _ _⟩
                  case round =>
                    obtain ⟨i, hi, rfl, hbr⟩ := hrel
                    obtain ⟨q0, q1, -, -⟩ := (KX.out.next hbr).all
                    obtain ⟨q2, q3, -, -⟩ := (K7.out.next hbr).all
                    have HBR := Lib.hid hbr
                    have hVV := AL.out.2
                    by_cases hlt : i < V2.length
                    · have j0 : (0 : Int) ≤ (i : Int) := by omega
                      have j1 : (i : Int) < (V2.length : Int) := by omega
                      have j2 : (i : Int) < (V.length : Int) := by omega
                      obtain ⟨bz, oz, rfl, hbz, hcz⟩ := QX.out.below hbr (by omega)
                      obtain ⟨by_, oy, rfl, hby, hcy⟩ := Q7.out.below hbr (by omega)
                      have z1 := hcz i hlt
                      have z2 := hcy i (by omega)
                      clear hcz hcy hbr hVV
                      by_cases hik : i = k
                      · have hnk : ((i : Int) != (k : Int)) = false := by simp [hik]
                        clear hik
                        go_wp2
                        go_quiet (fail)
                        go_wp2
                        go_roundw
                        case rel => exact ⟨i + 1, by omega, by go_num, by first | exact HBR.out | exact Go.Proofs.YthabimjmdnhomaaDoor.Sh.below_drewN HBR.out _⟩
                        case measure => simp [intOf]; omega
                      · have hnk : ((i : Int) != (k : Int)) = true := by simp; omega
                        rw [AA.out i hik] at z1
                        generalize V.getD i 0 = zz at *
                        clear hik
                        go_wp2
                        go_quiet (fail)
                        go_wp2
                        go_roundw
                        case rel => exact ⟨i + 1, by omega, by go_num, by first | exact HBR.out | exact Go.Proofs.YthabimjmdnhomaaDoor.Sh.below_drewN HBR.out _⟩
                        case measure => simp [intOf]; omega
                    · obtain rfl : i = V2.length := by omega
                      clear hbr hVV
                      go_wp2_with fail
                      refine (lives_any _ (T.out.below HBR.out)).mono ?_
                      rintro r w9 ⟨rfl, hb⟩
                      have L9 := Lib.hid (Sh.below_next (Sh.below_next L.out HBR.out) hb)
                      clear hb
                      go_wp2
                      go_ret
                      exact ⟨rfl, L9.out⟩
        · obtain ⟨hD, hV⟩ := two_ne (s := s) hE h3
          have hx0 : (E != 0) = true := by simpa using h3
          have HE := Lib.hid hE
          have HD := Lib.hid hD
          have HV := Lib.hid hV
          clear hE hD hV h3
          obtain ⟨qBA0, qBA1, -, -⟩ := BA.out.all
          go_wp2_with fail
          refine (great_no _ _ _ _ _ _ _ hd hv).mono ?_
          rintro r w1 ⟨rfl, hb⟩
          clear qBA0 qBA1
          replace FF := Lib.hid (keepFn hb FF.out)
          replace BA := Lib.hid (BA.out.next hb)
          replace BB := Lib.hid (BB.out.next hb)
          replace L := Lib.hid (Sh.below_next L.out hb)
          replace T := Lib.hid (T.out.below hb)
          replace ID := Lib.hid (ID.out.below hb)
          replace IV := Lib.hid (IV.out.below hb)
          replace IE := Lib.hid (IE.out.below hb)
          replace IU := Lib.hid (IU.out.below hb)
          clear hb
          obtain ⟨qBB0, qBB1, -, -⟩ := BB.out.all
          go_wp2_with fail
          refine (great_no _ _ _ _ _ _ _ he hu).mono ?_
          rintro r w2 ⟨rfl, hb⟩
          clear qBB0 qBB1
          replace FF := Lib.hid (keepFn hb FF.out)
          replace BA := Lib.hid (BA.out.next hb)
          replace BB := Lib.hid (BB.out.next hb)
          replace L := Lib.hid (Sh.below_next L.out hb)
          replace T := Lib.hid (T.out.below hb)
          replace ID := Lib.hid (ID.out.below hb)
          replace IV := Lib.hid (IV.out.below hb)
          replace IE := Lib.hid (IE.out.below hb)
          replace IU := Lib.hid (IU.out.below hb)
          clear hb
          obtain ⟨qFF0, qFF1⟩ := FF.out
          obtain ⟨qBA0, qBA1, -, -⟩ := BA.out.all
          obtain ⟨qBB0, qBB1, -, -⟩ := BB.out.all
          go_wp2_with fail
          refine (two_w c s _ _ d _ _ v _ _ e _ _ u _ E [] [] HE.out HD.out HV.out T.out ID.out IV.out IE.out IU.out (by omega) (by omega) (by omega) (by omega) RV.out RU.out).mono ?_
          rintro r w3 ⟨x, rfl, ⟨A7, c7, B7, e7, rfl, j1, j2, -⟩, hb⟩
          clear qFF0 qFF1 qBA0 qBA1 qBB0 qBB1
          replace FF := Lib.hid (keepFn hb FF.out)
          replace BA := Lib.hid (BA.out.next hb)
          replace BB := Lib.hid (BB.out.next hb)
          replace L := Lib.hid (Sh.below_next L.out hb)
          replace T := Lib.hid (T.out.below hb)
          replace ID := Lib.hid (ID.out.below hb)
          replace IV := Lib.hid (IV.out.below hb)
          replace IE := Lib.hid (IE.out.below hb)
          replace IU := Lib.hid (IU.out.below hb)
          clear hb
          clear j1 j2
          have KB := Lib.hid (below_new w3 (.cells #[.slice A7 0 c7, .slice B7 0 e7] 32))
          have K7 := Lib.hid (Box.new w3 (.slice A7 0 c7) (.slice B7 0 e7))
          replace FF := Lib.hid (keepFn KB.out FF.out)
          replace BA := Lib.hid (BA.out.next KB.out)
          replace BB := Lib.hid (BB.out.next KB.out)
          replace L := Lib.hid (Sh.below_next L.out KB.out)
          replace T := Lib.hid (T.out.below KB.out)
          replace ID := Lib.hid (ID.out.below KB.out)
          replace IV := Lib.hid (IV.out.below KB.out)
          replace IE := Lib.hid (IE.out.below KB.out)
          replace IU := Lib.hid (IU.out.below KB.out)
          go_upto_region 5 with (fail)
          clear KB
          generalize hW : w3.alloc (.cells #[.slice A7 0 c7, .slice B7 0 e7] 32) = W7 at *
          clear hW
          generalize w3.heap.size = g7 at *
          obtain ⟨qK70, qK71, -, -⟩ := K7.out.all
          go_wp2_with fail
          refine (lives_any _ T.out).mono ?_
          rintro r w4 ⟨rfl, hb⟩
          clear qK70 qK71
          replace FF := Lib.hid (keepFn hb FF.out)
          replace BA := Lib.hid (BA.out.next hb)
          replace BB := Lib.hid (BB.out.next hb)
          replace L := Lib.hid (Sh.below_next L.out hb)
          replace T := Lib.hid (T.out.below hb)
          replace ID := Lib.hid (ID.out.below hb)
          replace IV := Lib.hid (IV.out.below hb)
          replace IE := Lib.hid (IE.out.below hb)
          replace IU := Lib.hid (IU.out.below hb)
          replace K7 := Lib.hid (K7.out.next hb)
          clear hb
          go_wp2
          go_ret
          exact ⟨ret_bool (by simp), L.out⟩
      · have H1 := Lib.hid h1
        have H2 := Lib.hid h2
        clear h1 h2
        obtain ⟨qBA0, qBA1, -, -⟩ := BA.out.all
        go_wp2_with fail
        refine (great_no _ _ _ _ _ _ _ H1.out.1 H1.out.2).mono ?_
        rintro r w1 ⟨rfl, hb⟩
        clear qBA0 qBA1
        replace FF := Lib.hid (keepFn hb FF.out)
        replace BA := Lib.hid (BA.out.next hb)
        replace BB := Lib.hid (BB.out.next hb)
        replace L := Lib.hid (Sh.below_next L.out hb)
        replace T := Lib.hid (T.out.below hb)
        replace ID := Lib.hid (ID.out.below hb)
        replace IV := Lib.hid (IV.out.below hb)
        replace IE := Lib.hid (IE.out.below hb)
        replace IU := Lib.hid (IU.out.below hb)
        clear hb
        obtain ⟨qBB0, qBB1, -, -⟩ := BB.out.all
        go_wp2_with fail
        refine (great_yes _ _ _ _ _ _ _ H2.out).mono ?_
        rintro r w2 ⟨rfl, hb⟩
        clear qBB0 qBB1
        replace FF := Lib.hid (keepFn hb FF.out)
        replace BA := Lib.hid (BA.out.next hb)
        replace BB := Lib.hid (BB.out.next hb)
        replace L := Lib.hid (Sh.below_next L.out hb)
        replace T := Lib.hid (T.out.below hb)
        replace ID := Lib.hid (ID.out.below hb)
        replace IV := Lib.hid (IV.out.below hb)
        replace IE := Lib.hid (IE.out.below hb)
        replace IU := Lib.hid (IU.out.below hb)
        clear hb
        go_wp2_with fail
        refine (lives_any _ T.out).mono ?_
        rintro r w3 ⟨rfl, hb⟩
        replace FF := Lib.hid (keepFn hb FF.out)
        replace BA := Lib.hid (BA.out.next hb)
        replace BB := Lib.hid (BB.out.next hb)
        replace L := Lib.hid (Sh.below_next L.out hb)
        replace T := Lib.hid (T.out.below hb)
        replace ID := Lib.hid (ID.out.below hb)
        replace IV := Lib.hid (IV.out.below hb)
        replace IE := Lib.hid (IE.out.below hb)
        replace IU := Lib.hid (IU.out.below hb)
        clear hb
        go_wp2
        go_ret
        exact ⟨ret_bool (by simp), L.out⟩
    · have H1 := Lib.hid h1
      clear h1
      obtain ⟨qBA0, qBA1, -, -⟩ := BA.out.all
      go_wp2_with fail
      refine (great_yes _ _ _ _ _ _ _ H1.out).mono ?_
      rintro r w1 ⟨rfl, hb⟩
      clear qBA0 qBA1
      replace FF := Lib.hid (keepFn hb FF.out)
      replace BA := Lib.hid (BA.out.next hb)
      replace BB := Lib.hid (BB.out.next hb)
      replace L := Lib.hid (Sh.below_next L.out hb)
      replace T := Lib.hid (T.out.below hb)
      replace ID := Lib.hid (ID.out.below hb)
      replace IV := Lib.hid (IV.out.below hb)
      replace IE := Lib.hid (IE.out.below hb)
      replace IU := Lib.hid (IU.out.below hb)
      clear hb
      go_wp2_with fail
      refine (lives_any _ T.out).mono ?_
      rintro r w2 ⟨rfl, hb⟩
      replace FF := Lib.hid (keepFn hb FF.out)
      replace BA := Lib.hid (BA.out.next hb)
      replace BB := Lib.hid (BB.out.next hb)
      replace L := Lib.hid (Sh.below_next L.out hb)
      replace T := Lib.hid (T.out.below hb)
      replace ID := Lib.hid (ID.out.below hb)
      replace IV := Lib.hid (IV.out.below hb)
      replace IE := Lib.hid (IE.out.below hb)
      replace IU := Lib.hid (IU.out.below hb)
      clear hb
      go_wp2
      go_ret
      exact ⟨ret_bool (by simp), L.out⟩

theorem contract (H : Type) (enc : TypeId × Value → H) (W : World) (base : Nat) (args : Array Value) (ds gs : List (DataW H)) (before : List MemPlace)
    (hval : ∀ (j : Nat) t v, Tryd.f6.params[j]? = some t → args[j]? = some v → Value.okWide Tryd.prog W .any base t v)
    (hW : DataW.Whole enc Tryd.prog Tryd.f6.params.toList Rows.spreadApartSpec.vars false W args.toList ds gs before) (hL : laidMetH Tryd.prog Rows.spreadFitsRow.laid W) :
    Calls Tryd.prog 6 args W fun e W' => ∃ v, e = .returned v ∧ Rows.spreadApartSpec.post enc Tryd.prog Tryd.f6 false true false false W args v W' := by
  have hW' := hW
  obtain ⟨p, q, hA0, hV, rfl, hfz, hnd⟩ := hW
  have hA : DataW.TrodAll enc Tryd.prog W 0 (fun _ => true) true Tryd.f6.params.toList args.toList ds p := hA0
  rw [Tryd.params6] at hA hval
  obtain ⟨v0, vs0, dd0, ds0, p0, q0, hargs, rfl, rfl, h0, r0⟩ := trodAll_cons hA
  obtain ⟨v1, vs1, dd1, ds1, p1, q1, rfl, rfl, rfl, h1, r1⟩ := trodAll_cons r0
  obtain ⟨v2, vs2, dd2, ds2, p2, q2, rfl, rfl, rfl, h2, r2⟩ := trodAll_cons r1
  obtain ⟨rfl, rfl, rfl⟩ := trodAll_nil r2
  obtain rfl : args = #[v0, v1, v2] := by cases args; simp_all
  obtain ⟨rfl, rfl⟩ := trodVars_none hV
  have k0 := h0
  have lt0 : ∀ x ∈ p0, x.block < W.heap.size := by obtain ⟨m, hm⟩ := k0; exact DataW.trod_lt m _ _ _ hm
  obtain ⟨c0, s0, rfl, wf0⟩ := fn_arg (hval 0 29 v0 rfl rfl) h0
  have k1 := h1
  have lt1 : ∀ x ∈ p1, x.block < W.heap.size := by obtain ⟨m, hm⟩ := k1; exact DataW.trod_lt m _ _ _ hm
  obtain ⟨A1, c1, l1, B1, e1, m1, Ax1, cx1, lx1, Bx1, ex1, mx1, rfl, hl1, hm1, hlx1, hmx1⟩ := cells_arg (hval 1 40 v1 rfl rfl) h1
  have k2 := h2
  have lt2 : ∀ x ∈ p2, x.block < W.heap.size := by obtain ⟨m, hm⟩ := k2; exact DataW.trod_lt m _ _ _ hm
  obtain ⟨n2, rfl, wf2⟩ := int_arg Tryd.underlying3 (hval 2 3 v2 rfl rfl) h2
  clear hA0
  refine (walk c0 s0 A1 c1 l1 B1 e1 m1 Ax1 cx1 lx1 Bx1 ex1 mx1 n2 W (tab_met hL) hl1.1 hm1.1 hlx1.1 hmx1.1 (allR_of hm1.2.2.2.2) (allR_of hmx1.2.2.2.2)).mono fun e W' ⟨he, bel⟩ => ?_
  subst he
  exact ⟨_, rfl, _, _, _, [], _, [], hW', trodAll_mk1 (shut_bool Tryd.underlying4 _), (trodAll_cons_mk (Below.trod laidOut (by kernel_rfl) (of_decide_eq_true (by kernel_rfl)) k0 bel lt0) (trodAll_cons_mk (Below.trod laidOut (by kernel_rfl) (of_decide_eq_true (by kernel_rfl)) k1 bel lt1) (trodAll_cons_mk (Below.trod laidOut (by kernel_rfl) (of_decide_eq_true (by kernel_rfl)) k2 bel lt2) trodAll_mk0))), rfl, bel.frame _, fun h => by cases h⟩

theorem witness (os : Os) {H : Type} (enc : TypeId × Value → H) :
    (OpenSpec.ofChange Rows.spreadApartSpec).preRow enc Tryd.prog Tryd.f6 Rows.spreadApartRow.domain false Rows.spreadApartRow.laid ((laidWorld os).forCall (fun _ _ => 0) ⟨#[], #[.agg #[.int .i64 0, .bool false], .agg #[.slice none 0 0, .slice none 0 0, .slice none 0 0, .slice none 0 0], .int .i64 0], []⟩).memory #[.agg #[.int .i64 0, .bool false], .agg #[.slice none 0 0, .slice none 0 0, .slice none 0 0, .slice none 0 0], .int .i64 0] := by
  have hw : (DataW.whole enc Tryd.prog ((laidWorld os).forCall (fun _ _ => 0) ⟨#[], #[.agg #[.int .i64 0, .bool false], .agg #[.slice none 0 0, .slice none 0 0, .slice none 0 0, .slice none 0 0], .int .i64 0], []⟩).memory Tryd.f6.params.toList Rows.spreadApartSpec.vars false (#[.agg #[.int .i64 0, .bool false], .agg #[.slice none 0 0, .slice none 0 0, .slice none 0 0, .slice none 0 0], .int .i64 0] : Array Value).toList 8).map (fun x => (x.1, x.2.1)) =
      some ([.agg [.lit (.int .i64 0), .lit (.bool false)], .agg [.agg [.nil, .nil], .agg [.nil, .nil]], .lit (.int .i64 0)], []) := by kernel_rfl
  obtain ⟨⟨x1, x2, x3⟩, hx, hx1⟩ := Option.map_eq_some_iff.1 hw
  simp only [Prod.mk.injEq] at hx1
  obtain ⟨rfl, rfl⟩ := hx1
  exact OpenSpec.preRow_of_cond 8 hx (by kernel_rfl) (fun k hk => by cases hk) (by kernel_rfl) (laid_met os _)

set_option maxRecDepth 100000 in
theorem lifted (os : Os) (started : os.Started) (H : Type) (enc : TypeId × Value → H) (F : Stop.Interp) :
    ReturnsInHanded {} Tryd.checked os 6 .any ((OpenSpec.ofChange Rows.spreadApartSpec).preRow enc Tryd.prog Tryd.f6 Rows.spreadApartRow.domain false Rows.spreadApartRow.laid) (((OpenSpec.ofChange Rows.spreadApartSpec).at F).post enc Tryd.prog Tryd.f6 false true false false) := by
  refine returnsInHanded_of_row (C := Tryd.checked) (s := OpenSpec.ofChange Rows.spreadApartSpec) own started (by kernel_rfl) Tryd.func6
    (witness_row_atRef (enc := enc) (C := Tryd.checked) false (laidWorld os) #[.agg #[.int .i64 0, .bool false], .agg #[.slice none 0 0, .slice none 0 0, .slice none 0 0, .slice none 0 0], .int .i64 0] rfl (by kernel_rfl) (by kernel_rfl) (by kernel_rfl) (witness os enc)) ?_
  intro W base args ds gs before hval hW _ _ _ hL _ _
  exact contract H enc W base args ds gs before hval hW hL

theorem said : Rows.SpreadApartSaid :=
  OpenClaim.holds_of_cond 6 Tryd.f6 rfl rfl rfl rfl rfl rfl rfl ⟨rfl, rfl, rfl, rfl, rfl⟩ rfl rfl rfl rfl rfl (by kernel_rfl) Tryd.func6 (by kernel_rfl)
    (of_decide_eq_true (by kernel_rfl)) (by unfold Func.isWrapper; first | (rw [if_pos (by decide +kernel)]; kernel_rfl) | (rw [if_neg (by decide +kernel)]; exact ⟨rfl, rfl⟩))
    (fun os started H enc _ F => by rw [OpenClaim.pre_eq_preRow]; exact lifted os started H enc F)

theorem plain (f : FuncId) (fn : Func) (hf : Tryd.pinned.checked.prog.funcNamed Rows.spreadApartRow.func = some f) (hfn : Tryd.pinned.checked.prog.funcs[f]? = some fn) :
    false = Tryd.pinned.checked.prog.looks [] ∧ ∀ (j : Nat) t, fn.params[j]? = some t → Tryd.pinned.checked.prog.wantsStandIn t = false := by
  obtain rfl : f = 6 := Option.some.inj ((show Tryd.prog.funcNamed Rows.spreadApartRow.func = some 6 by kernel_rfl).symm.trans hf) |>.symm
  obtain rfl : fn = Tryd.f6 := (Option.some.inj (Tryd.func6.symm.trans hfn)).symm
  refine ⟨by kernel_rfl, fun j t ht => ?_⟩
  rw [Tryd.params6] at ht
  have hm := Array.mem_of_getElem? ht
  simp only [List.mem_toArray, List.mem_cons, List.not_mem_nil, or_false] at hm
  rcases hm with rfl | rfl | rfl
  · exact (show Tryd.prog.wantsStandIn 29 = false by kernel_rfl)
  · exact (show Tryd.prog.wantsStandIn 40 = false by kernel_rfl)
  · exact (show Tryd.prog.wantsStandIn 3 = false by kernel_rfl)

theorem proved : Rows.SpreadApartCardSaid :=
  Claim7.holds_tied_plain_at .later [] _ _ _ _ said (fun _ h => by cases h) (by kernel_rfl) (fun _ h => by cases h) spreadApart_row_tie rfl ⟨rfl, rfl⟩ (by kernel_rfl) rfl plain (by kernel_rfl)
end Go.Proofs.YthabimjmdnhomaaDoor.spreadApart
