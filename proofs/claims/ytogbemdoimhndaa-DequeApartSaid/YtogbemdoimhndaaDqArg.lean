/-
  How deeds read that came in: a slice of structs of a bool and a number. No condition.
-/
import Derived.Test.YtogbemdoimhndaaDqPlays
set_option maxRecDepth 100000
namespace Go.Proofs.Ytogbemdoimhndaa.Dq
open Go.Proofs.Ytogbemdoimhndaa.Sh Go.Proofs.Ytogbemdoimhndaa.St
open Go.Joins Go.ChangeShapes Go.WideShapes Go.ChangeAt Go.RowKit Go.Deep
set_option linter.unusedVariables false

section
variable {H : Type} {enc : TypeId × Value → H} {w : World} {v : Value} {d : DataW H} {p : List MemPlace} {r : Reach} {b0 base : Nat}
theorem deed_arg (hok : Value.okWide Try.prog w r b0 58 v) (h : DataW.Trod enc Try.prog w base (fun _ => true) true 58 v d p) :
    ∃ x : Deed, v = .agg #[.bool x.1, .int .i64 x.2] := by
  obtain ⟨x0, y0, ya0, yb0, fu0, rfl, _, _, ta0, tb0⟩ := open_agg2 Try.underlying58 (by kernel_rfl) (by kernel_rfl) hok h
  obtain ⟨s, hss, _⟩ := DataW.trod_bool Try.underlying4 ta0
  obtain ⟨c, hcs, _, hw⟩ := DataW.trod_int Try.underlying2 tb0
  injection hcs with hcs
  injection hss with hss
  subst hcs hss
  exact ⟨(s, c), rfl⟩
theorem deeds_arg (hok : Value.okWide Try.prog w r b0 53 v) (h : DataW.Trod enc Try.prog w base (fun _ => true) true 53 v d p) :
    ∃ (A : Option Addr) (c : Nat) (ds : List Deed), v = .slice A ds.length c ∧ Deeds w A ds ∧ ds.length ≤ maxLen := by
  obtain ⟨a, len, cap, rfl⟩ := okWide_slice Try.underlying53 hok
  obtain ⟨fuel, hf⟩ := h
  rcases open_slice_pairs Try.underlying53 Try.underlying58 (by kernel_rfl) (by kernel_rfl) (by kernel_rfl) (by kernel_rfl) (by kernel_rfl) hf with ⟨hcs, _⟩ | ⟨x, l, c, m, n, V0, V1, D0, D1, P0, P1, hcs, _, hl, hm, hmm, _, hx⟩
  · simp [Value.cells] at hcs
    obtain ⟨rfl, rfl, rfl⟩ := hcs
    exact ⟨none, 0, [], rfl, fun hp => absurd hp (by simp), by simp⟩
  · simp [Value.cells] at hcs
    obtain ⟨rfl, rfl, rfl⟩ := hcs
    have hlm : len ≤ m := by rw [hmm]; split <;> omega
    have each : ∀ i, i < len → ∃ e : Deed, w.cell? (x.add (i * 2)) = some (.bool e.1) ∧ w.cell? (x.add (i * 2 + 1)) = some (.int .i64 e.2) := by
      intro i hi
      obtain ⟨h0, h1, t0, t1⟩ := hx i (by omega)
      obtain ⟨s, hss, _⟩ := DataW.trod_bool Try.underlying4 t0
      obtain ⟨z, hz, _, _⟩ := DataW.trod_int Try.underlying2 t1
      injection hss with hss
      injection hz with hz
      rw [hss] at h0
      rw [hz] at h1
      exact ⟨(s, z), h0, h1⟩
    obtain ⟨q, hq⟩ := choose_lt each
    refine ⟨some x, cap, (List.range len).map q, by simp, fun hp => ?_, by simp; omega⟩
    have hp' : 0 < len := by simpa using hp
    obtain ⟨bb, off, spot⟩ := x
    have h0 := (hq 0 hp').1
    have hspot : spot = none := by simpa [Addr.add] using World.cell?_spot h0
    subst hspot
    refine ⟨bb, off, rfl, World.block_lt_of_cell? w ⟨bb, off, none⟩ (by simpa [Addr.add] using h0), fun k dd hd => ?_⟩
    have hk : k < len := by have := (List.getElem?_eq_some_iff.1 hd).1; simpa using this
    rw [List.getElem?_map, List.getElem?_range hk] at hd
    simp only [Option.map_some, Option.some.injEq] at hd
    subst hd
    obtain ⟨k0, k1⟩ := hq k hk
    rw [Go.WideShapes.add_plain] at k0 k1
    exact ⟨k0, by rw [Nat.add_assoc]; exact k1⟩
end
theorem uint_bd {n : Int} (h : (Lit.int .u64 n).wf = true) : 0 ≤ n ∧ n < 18446744073709551616 := by
  simp [Lit.wf, IntKind.min, IntKind.max, IntKind.signed, IntKind.bits, Bool.and_eq_true, decide_eq_true_eq] at h
  omega
end Go.Proofs.Ytogbemdoimhndaa.Dq
