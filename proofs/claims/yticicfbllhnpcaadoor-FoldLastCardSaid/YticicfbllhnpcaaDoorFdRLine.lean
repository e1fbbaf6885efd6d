/-
  What riffleref08.line and riffleref08.put answer, and the places of axes with the room that each has; nothing that was there is written. Condition: at most 100 axes, 1000 numbers, and 1000 numbers asked for.
-/
import Derived.Test.YticicfbllhnpcaaDoorFdMath
import Derived.Test.YticicfbllhnpcaaDoorFdRow
import Derived.Test.YticicfbllhnpcaaDoorPkC
set_option maxRecDepth 100000
namespace Go.Proofs.YticicfbllhnpcaaDoor.Fd
open Go.Proofs.YticicfbllhnpcaaDoor.Sh
open Go.RowKit
set_option linter.unusedVariables false

theorem MineT.intsC {t : TypeId} {w : World} {base : Nat} {v : Value} {xs : List Int} (h : MineT t w base v xs) : ∃ A c, v = .slice A xs.length c ∧ xs.length ≤ c ∧ c ≤ maxLen ∧ Ints w A xs := by
  obtain ⟨A, c, e0, hi⟩ := h.ints
  rcases h.2 with ⟨e, h0⟩ | ⟨g, cap, cur, e, -, -, h1, h2, -⟩
  · rw [e0] at e; injection e with e1 e2 e3
    exact ⟨A, c, e0, by rw [h0]; exact Nat.zero_le _, by rw [e3]; exact Nat.zero_le _, hi⟩
  · rw [e0] at e; injection e with e1 e2 e3
    exact ⟨A, c, e0, by rw [e3]; exact h1, by rw [e3]; exact h2, hi⟩
/-- A row of rows, the t-th is the t-th place, in blocks from lo on, with the room of each. -/
def PlsC (w : World) (lo : Nat) (d : List Int) (n : Nat) (A : Option Addr) : Prop :=
  ∀ t, t < n → ∃ b At ct, A = some ⟨b, 0, none⟩ ∧ lo ≤ b ∧ b < w.heap.size ∧ w.cell? ⟨b, t, none⟩ = some (.slice At d.length ct) ∧ Fr w lo At (dg d t) ∧ d.length ≤ ct ∧ ct ≤ maxLen
theorem PlsC.grown {w w' : World} {lo : Nat} {d : List Int} {n : Nat} {A : Option Addr} {g : Nat} (h : PlsC w lo d n A) (hg : w.grownBy w' (some g)) (hlo : g < lo) : PlsC w' lo d n A := fun t ht => by
  obtain ⟨b, At, ct, e, h1, h2, h3, h4, h5⟩ := h t ht
  exact ⟨b, At, ct, e, h1, Nat.lt_of_lt_of_le h2 hg.size, (World.cell?_of_block (hg.block b h2 (fun e => by injection e with e; omega))).trans h3, h4.grown hg hlo, h5⟩
theorem PlsC.below {w w' : World} {lo : Nat} {d : List Int} {n : Nat} {A : Option Addr} (h : PlsC w lo d n A) (hb : Below w.heap.size w w') : PlsC w' lo d n A := fun t ht => by
  obtain ⟨b, At, ct, e, h1, h2, h3, h4, h5⟩ := h t ht
  exact ⟨b, At, ct, e, h1, Nat.lt_of_lt_of_le h2 hb.size, (hb.cell (p := ⟨b, t, none⟩) h2).trans h3, h4.below hb, h5⟩
def RetPlsC (d : List Int) (n : Nat) (w : World) (e : Ending) (w' : World) : Prop := ∃ A c, e = .returned (.slice A n c) ∧ PlsC w' w.heap.size d n A ∧ Below w.heap.size w w'
theorem places_pc (A : Option Addr) (c : Nat) (d : List Int) (n : Nat) (w : World) (hn : sizeI d = n) (hl : d.length ≤ 100) (hi : Ints w A d) :
    Calls Tryd.prog 63 #[.slice A d.length c] w (RetPlsC d n w) := by
  refine (places_b A c d w hl hi).mono ?_
  rintro e w' ⟨v, base, rfl, hbase, hout, hb⟩
  rw [hn, Int.toNat_natCast] at hout
  obtain ⟨vs, h1, h2⟩ := hout
  have hlen : vs.length = n := by simpa using h1.1
  rcases h1.2 with ⟨rfl, h0⟩ | ⟨g, cap, cur, rfl, hg, hh, _⟩
  · exact ⟨none, 0, by rw [h0], fun t ht => absurd ht (by omega), hb⟩
  · refine ⟨_, cap, rfl, fun t ht => ?_, hb⟩
    have hc := h1.cellAt t (by omega)
    have hv : vs[t]? = some vs[t] := List.getElem?_eq_getElem (by omega)
    have hm := h2 t _ hv
    obtain ⟨At, ct, hu, hct, hcm, hi⟩ := MineT.intsC (t := 3) hm
    rw [hu] at hm
    have hf := MineT.fr (t := 3) hm
    rw [dg_length] at hct
    rw [hv, hu, dg_length] at hc
    have hlt : g < w'.heap.size := by
      rcases Nat.lt_or_ge g w'.heap.size with hlt | hge
      · exact hlt
      · rw [Array.getElem?_eq_none hge] at hh; cases hh
    exact ⟨g, At, ct, rfl, by omega, hlt, hc, hf.mono hbase, hct, hcm⟩
/-- The numbers of a cell at a place, one of whose numbers is 0, 1 and so on. -/
def dlL (d v p : List Int) (a : Int) (m : Nat) : List Int := (List.range m).map fun j : Nat => atI d v (withL p a (j : Int))
theorem dlL_len (d v p : List Int) (a : Int) (m : Nat) : (dlL d v p a m).length = m := by simp [dlL]
theorem dlL_0 (d v p : List Int) (a : Int) : dlL d v p a 0 = [] := rfl
theorem dlL_succ (d v p : List Int) (a : Int) (m : Nat) : dlL d v p a (m + 1) = dlL d v p a m ++ [atI d v (withL p a (m : Int))] := by unfold dlL; rw [List.range_succ, List.map_append]; rfl
theorem dlL_R {d v : List Int} (h : AllR v) (p : List Int) (a : Int) (m : Nat) : AllR (dlL d v p a m) := by
  intro x hx
  simp only [dlL, List.mem_map] at hx
  obtain ⟨k, _, rfl⟩ := hx
  unfold atI; split
  · exact h.at _
  · unfold Sc.InR; omega
theorem rat_x (A : Option Addr) (c : Nat) (d : List Int) (B : Option Addr) (c2 : Nat) (v : List Int) (C : Option Addr) (c3 : Nat) (p : List Int) (x : Int) (w : World) (hx : atI d v p = x)
    (hd : d.length ≤ 100) (hv : v.length ≤ 1000) (hp : p.length ≤ 100) (id : Ints w A d) (iv : Ints w B v) (ip : Ints w C p) :
    Calls Tryd.prog 83 #[.agg #[.slice A d.length c, .slice B v.length c2], .slice C p.length c3] w fun r w' => ∃ t : Bool, r = .returned (.tuple #[.int .i64 x, .bool t]) ∧ Below w.heap.size w w' := by
  subst hx
  exact (rat_any A c d B c2 v C c3 p w (by unfold maxLen; omega) (by unfold maxLen; omega) (by unfold maxLen; omega) id iv ip).mono fun r w' ⟨h1, h2⟩ => ⟨_, h1, h2⟩
set_option maxHeartbeats 4000000 in
theorem rline_any (A : Option Addr) (c : Nat) (d : List Int) (B : Option Addr) (c2 : Nat) (v : List Int) (C : Option Addr) (c3 : Nat) (p : List Int) (a : Int) (m : Nat) (w : World) (hd : d.length ≤ 100) (hv : v.length ≤ 1000) (hp : p.length ≤ 100) (hm : m ≤ 1000) (id : Ints w A d) (iv : Ints w B v) (ip : Ints w C p) :
    Calls Tryd.prog 65 #[.agg #[.slice A d.length c, .slice B v.length c2], .slice C p.length c3, .int .i64 a, .int .i64 (m : Int)] w fun e w' => ∃ A' c', e = .returned (.slice A' m c') ∧ m ≤ c' ∧ c' ≤ maxLen ∧ Ints w' A' (dlL d v p a m) ∧ Below w.heap.size w w' := by
  have BA := Lib.hid (Box.new w (.slice A d.length c) (.slice B v.length c2))
  have L := Lib.hid (below_new w (.cells #[.slice A d.length c, .slice B v.length c2] 27))
  have ID := Lib.hid (id.below L.out)
  have IV := Lib.hid (iv.below L.out)
  have IP := Lib.hid (ip.below L.out)
  have hg0 := BA.out.lt
  clear id iv ip
  go_enter Tryd.func65, Tryd.ntmps65
  go_wp2
  generalize hw0 : w.alloc (.cells #[.slice A d.length c, .slice B v.length c2] 27) = w0 at *
  clear hw0
  generalize hgg : w.heap.size = gg at *
  have HG := Lib.hid hgg
  clear hgg
  go_loopw [9, 10] (fun s j wr => ∃ (k : Nat) (V : Value), k ≤ m ∧ j = .int .i64 (k : Int) ∧ V = s ∧ MineT 2 wr w0.heap.size V (dlL d v p a k) ∧ Below w0.heap.size w0 wr) (fun _ j _ => m - (intOf j).toNat)
  case atStart => exact ⟨0, _, Nat.zero_le _, rfl, rfl, MineT.nil _ _ _, Below.refl _ _⟩
  case round =>
    obtain ⟨k, V, hk, rfl, rfl, hM, hB⟩ := hrel
    have M := Lib.hid hM
    have LB := Lib.hid hB
    clear hM hB
    by_cases hlt : k < m
    · have HS := Lib.hid (dlL_succ d v p a k)
      have HLN := Lib.hid (dlL_len d v p a k)
      have WC := Lib.hid (refWith_any C c3 p a (k : Int) wr.drew hp (IP.out.below LB.out.drew))
      obtain ⟨x, hx⟩ : ∃ x, atI d v (withL p a (k : Int)) = x := ⟨_, rfl⟩
      rw [hx] at HS
      have HWL := Lib.hid (withL_len p a (k : Int))
      generalize withL p a (k : Int) = q at *
      have AC := Lib.hid (fun A' c' W i1 i2 i3 => rat_x A c d B c2 v A' c' q x W hx hd hv (by rw [HWL.out]; exact hp) i1 i2 i3)
      have IDr := Lib.hid (ID.out.below LB.out.drew)
      have IVr := Lib.hid (IV.out.below LB.out.drew)
      have Lr := Lib.hid LB.out.drew
      have Mr := Lib.hid M.out.drew
      clear hx
      generalize hl : dlL d v p a k = l at *
      clear hl
      obtain ⟨q0, q1, -, -⟩ := (BA.out.next LB.out).all
      have k0 : (k : Int) < (m : Int) := by omega
      go_upto_region 5 with (fail)
      go_region_held3 (fun w' => w'.cell? ⟨gg, 0, none⟩ = some (.slice A d.length c) ∧ w'.cell? ⟨gg, 1, none⟩ = some (.slice B v.length c2))
        (first
          | with_reducible exact KK2.out
          | with_reducible exact KK.out
          | go_keep)
        (first
          | (go_at_call 102; (with_reducible refine (WC.out).mono ?_); rintro r w10 ⟨A10, c10, rfl, hi10, hb10⟩; have I10 := Lib.hid hi10; have H10 := Lib.hid hb10; have KK := Lib.hid (show w10.cell? ⟨gg, 0, none⟩ = some (.slice A d.length c) ∧ w10.cell? ⟨gg, 1, none⟩ = some (.slice B v.length c2) from ⟨keepC hb10 q0, keepC hb10 q1⟩); clear hi10 hb10)
          | (go_at_call 83; (with_reducible refine (AC.out _ _ _ (IDr.out.below H10.out) (IVr.out.below H10.out) I10.out).mono ?_); rintro r w11 ⟨t11, rfl, hb11⟩; have L11 := Lib.hid (below_next (below_next Lr.out H10.out) hb11); have M11 := Lib.hid ((Mr.out.below H10.out (Nat.le_refl _)).below hb11 (Nat.le_refl _)); have KK2 := Lib.hid (show w11.cell? ⟨gg, 0, none⟩ = some (.slice A d.length c) ∧ w11.cell? ⟨gg, 1, none⟩ = some (.slice B v.length c2) from ⟨keepB hb11 KK.out.1, keepB hb11 KK.out.2⟩); clear hb11))
      go_upto_region 6 with (fail)
      have M8 := Lib.hid (M11.out.alloc (.cells #[.int .i64 x] 2))
      have X8 := Lib.hid (one_new w11 x)
      have L8 := Lib.hid (below_next L11.out (below_new w11 (.cells #[.int .i64 x] 2)))
      go_wp2_with (at_builtin; refine wpList_appI numL Tryd.underlying25 rfl (.tmp 27) (.tmp 29) rfl w0.heap.size V l (by rfl) M8.out (some ⟨w11.heap.size, 0, none⟩) 1 [x] rfl X8.out (by rw [HLN.out]; simp; omega) L8.out.size ?_; intro V' w8 hm8 hg8 ha8)
      go_roundw
      case rel => exact ⟨k + 1, _, by omega, by go_num, rfl, by rw [HS.out]; exact hm8, L8.out.grown hg8 L8.out.size M8.out.block⟩
      case measure => simp [intOf]; omega
    · obtain rfl : k = m := by omega
      obtain ⟨AV, cV, rfl, h1, h2, hi⟩ := MineT.intsC M.out
      rw [dlL_len] at h1 ⊢
      have HI := Lib.hid hi
      clear hi
      go_wp2
      go_ret
      exact ⟨AV, cV, rfl, h1, h2, HI.out, below_next (show Below w.heap.size w w0 by rw [HG.out]; exact L.out) LB.out⟩
end Go.Proofs.YticicfbllhnpcaaDoor.Fd
