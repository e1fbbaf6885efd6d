/-
  What riffleref08.line and riffleref08.put answer, and the places of axes with the room that each has; nothing that was there is written. Condition: at most 100 axes, 1000 numbers, and 1000 numbers asked for.
-/
import Derived.Test.YtbanegjmapgkdaaDoorFdMath
import Derived.Test.YtbanegjmapgkdaaDoorFdRow
import Derived.Test.YtbanegjmapgkdaaDoorPkC
set_option maxRecDepth 100000
namespace Go.Proofs.YtbanegjmapgkdaaDoor.Fd
open Go.Proofs.YtbanegjmapgkdaaDoor.Sh
open Go.RowKit
set_option linter.unusedVariables false

theorem MineT.intsC {t : TypeId} {w : World} {base : Nat} {v : Value} {xs : List Int} (h : MineT t w base v xs) : ∃ A c, v = .slice A xs.length c ∧ xs.length ≤ c ∧ c ≤ maxLen ∧ Ints w A xs := by
  obtain ⟨A, c, e0, hi⟩ := h.ints
  rcases h.2 with ⟨e, h0⟩ | ⟨g, cap, cur, e, -, -, h1, h2, -⟩
  · rw [e0] at e; injection e with e1 e2 e3
    exact ⟨A, c, e0, by rw [h0]; exact Nat.zero_le _, by rw [e3]; exact Nat.zero_le _, hi⟩
  · rw [e0] at e; injection e with e1 e2 e3
    exact ⟨A, c, e0, by rw [e3]; exact h1, by rw [e3]; exact h2, hi⟩
/-- A row of rows, the t-th is the t-th place, in blocks from lo on, with the room of each. -/
def PlsC (w : World) (lo : Nat) (d : List Int) (n : Nat) (A : Option Addr) : Prop :=
  ∀ t, t < n → ∃ b At ct, A = some ⟨b, 0, none⟩ ∧ lo ≤ b ∧ b < w.heap.size ∧ w.cell? ⟨b, t, none⟩ = some (.slice At d.length ct) ∧ Fr w lo At (dg d t) ∧ d.length ≤ ct ∧ ct ≤ maxLen
theorem PlsC.grown {w w' : World} {lo : Nat} {d : List Int} {n : Nat} {A : Option Addr} {g : Nat} (h : PlsC w lo d n A) (hg : w.grownBy w' (some g)) (hlo : g < lo) : PlsC w' lo d n A := fun t ht => by
  obtain ⟨b, At, ct, e, h1, h2, h3, h4, h5⟩ := h t ht
  exact ⟨b, At, ct, e, h1, Nat.lt_of_lt_of_le h2 hg.size, (World.cell?_of_block (hg.block b h2 (fun e => by injection e with e; omega))).trans h3, h4.grown hg hlo, h5⟩
theorem PlsC.below {w w' : World} {lo : Nat} {d : List Int} {n : Nat} {A : Option Addr} (h : PlsC w lo d n A) (hb : Below w.heap.size w w') : PlsC w' lo d n A := fun t ht => by
  obtain ⟨b, At, ct, e, h1, h2, h3, h4, h5⟩ := h t ht
  exact ⟨b, At, ct, e, h1, Nat.lt_of_lt_of_le h2 hb.size, (hb.cell (p := ⟨b, t, none⟩) h2).trans h3, h4.below hb, h5⟩
def RetPlsC (d : List Int) (n : Nat) (w : World) (e : Ending) (w' : World) : Prop := ∃ A c, e = .returned (.slice A n c) ∧ PlsC w' w.heap.size d n A ∧ Below w.heap.size w w'
theorem places_pc (A : Option Addr) (c : Nat) (d : List Int) (n : Nat) (w : World) (hn : sizeI d = n) (hl : d.length ≤ 100) (hi : Ints w A d) :
    Calls Tryd.prog 44 #[.slice A d.length c] w (RetPlsC d n w) := by
  refine (places_b A c d w hl hi).mono ?_
  rintro e w' ⟨v, base, rfl, hbase, hout, hb⟩
  rw [hn, Int.toNat_natCast] at hout
  obtain ⟨vs, h1, h2⟩ := hout
  have hlen : vs.length = n := by simpa using h1.1
  rcases h1.2 with ⟨rfl, h0⟩ | ⟨g, cap, cur, rfl, hg, hh, _⟩
  · exact ⟨none, 0, by rw [h0], fun t ht => absurd ht (by omega), hb⟩
  · refine ⟨_, cap, rfl, fun t ht => ?_, hb⟩
    have hc := h1.cellAt t (by omega)
    have hv : vs[t]? = some vs[t] := List.getElem?_eq_getElem (by omega)
    have hm := h2 t _ hv
    obtain ⟨At, ct, hu, hct, hcm, hi⟩ := MineT.intsC (t := 3) hm
    rw [hu] at hm
    have hf := MineT.fr (t := 3) hm
    rw [dg_length] at hct
    rw [hv, hu, dg_length] at hc
    have hlt : g < w'.heap.size := by
      rcases Nat.lt_or_ge g w'.heap.size with hlt | hge
      · exact hlt
      · rw [Array.getElem?_eq_none hge] at hh; cases hh
    exact ⟨g, At, ct, rfl, by omega, hlt, hc, hf.mono hbase, hct, hcm⟩
/-- The numbers of a cell at a place, one of whose numbers is 0, 1 and so on. -/
def dlL (d v p : List Int) (a : Int) (m : Nat) : List Int := (List.range m).map fun j : Nat => atI d v (withL p a (j : Int))
theorem dlL_len (d v p : List Int) (a : Int) (m : Nat) : (dlL d v p a m).length = m := by simp [dlL]
theorem dlL_0 (d v p : List Int) (a : Int) : dlL d v p a 0 = [] := rfl
theorem dlL_succ (d v p : List Int) (a : Int) (m : Nat) : dlL d v p a (m + 1) = dlL d v p a m ++ [atI d v (withL p a (m : Int))] := by unfold dlL; rw [List.range_succ, List.map_append]; rfl
theorem dlL_R {d v : List Int} (h : AllR v) (p : List Int) (a : Int) (m : Nat) : AllR (dlL d v p a m) := by
  intro x hx
  simp only [dlL, List.mem_map] at hx
  obtain ⟨k, _, rfl⟩ := hx
  unfold atI; split
  · exact h.at _
  · unfold Sc.InR; omega
theorem rat_x (A : Option Addr) (c : Nat) (d : List Int) (B : Option Addr) (c2 : Nat) (v : List Int) (C : Option Addr) (c3 : Nat) (p : List Int) (x : Int) (w : World) (hx : atI d v p = x)
    (hd : d.length ≤ 100) (hv : v.length ≤ 1000) (hp : p.length ≤ 100) (id : Ints w A d) (iv : Ints w B v) (ip : Ints w C p) :
    Calls Tryd.prog 45 #[.agg #[.slice A d.length c, .slice B v.length c2], .slice C p.length c3] w fun r w' => ∃ t : Bool, r = .returned (.tuple #[.int .i64 x, .bool t]) ∧ Below w.heap.size w w' := by
  subst hx
  exact (rat_any A c d B c2 v C c3 p w (by unfold maxLen; omega) (by unfold maxLen; omega) (by unfold maxLen; omega) id iv ip).mono fun r w' ⟨h1, h2⟩ => ⟨_, h1, h2⟩
end Go.Proofs.YtbanegjmapgkdaaDoor.Fd
