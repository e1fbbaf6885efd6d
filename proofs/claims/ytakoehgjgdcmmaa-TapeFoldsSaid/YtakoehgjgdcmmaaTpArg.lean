/-
  How the deeds of layer 16's laws read as arguments. No condition.
-/
import Derived.Test.YtakoehgjgdcmmaaTpDeed
set_option maxRecDepth 100000
namespace Go.Proofs.Ytakoehgjgdcmmaa.Tp
open Go.Proofs.Ytakoehgjgdcmmaa.Sh Go.Proofs.Ytakoehgjgdcmmaa.St
open Go.Joins Go.ChangeShapes Go.WideShapes Go.ChangeAt Go.RowKit Go.Deep
set_option linter.unusedVariables false

section
variable {H : Type} {enc : TypeId × Value → H} {w : World} {v : Value} {d : DataW H} {p : List MemPlace} {r : Reach} {b0 base : Nat}
theorem rows_of {fuel : Nat} {held : Bool} {x : DataW H × List MemPlace} (hf : DataW.trod enc Try.prog w base (fun _ => true) held fuel 29 [v] = some x) :
    ∃ rs : List (List Int), RwsA w v rs := by
  rcases open_slice Try.underlying29 hf with ⟨hcs, _⟩ | ⟨x, len, cap, m, n, D, Pl, hcs, _, hl, hm, hmm, _, hx⟩
  · injection hcs with hcs
    subst hcs
    exact ⟨[], RwsIn.none _ _⟩
  · injection hcs with hcs
    subst hcs
    have hlm : len ≤ m := by rw [hmm]; split <;> omega
    have ce : Try.prog.cellsOf 42 = 1 := by kernel_rfl
    have each : ∀ i, i < len → ∃ q : List Int, ∃ B cB, w.cell? (x.add i) = some (.slice B q.length cB) ∧ IntsC w B cB q := by
      intro i hi
      obtain ⟨cs', h1, h2⟩ := hx i (by omega)
      rw [ce] at h1
      obtain ⟨_, hlen, hcell⟩ := World.cells?_some h1
      match cs', hlen with
      | [v0], _ =>
        obtain ⟨B, cB, row, rfl, hrow⟩ := row_of Try.underlying42 Try.underlying2 (by kernel_rfl) h2
        have e0 := hcell 0 (by omega)
        rw [add_add] at e0
        exact ⟨row, B, cB, by simpa using e0, hrow⟩
    obtain ⟨q, hq⟩ := choose_lt each
    have hL : ((List.range len).map q).length = len := by simp
    refine ⟨(List.range len).map q, some x, cap, (List.range len).map fun i => (w.cell? (x.add i)).getD default, by rw [hL], by rw [hL]; exact hl, hm, by simp, fun hp => ?_, fun t r hr => ?_⟩
    · have hp' : 0 < len := by simpa using hp
      obtain ⟨B, cB, h0, _⟩ := hq 0 hp'
      obtain ⟨bb, off, spot⟩ := x
      have hspot : spot = none := by simpa [Addr.add] using World.cell?_spot h0
      subst hspot
      refine ⟨bb, off, rfl, trivial, World.block_lt_of_cell? w ⟨bb, off, none⟩ (by simpa [Addr.add] using h0), fun j u hu => ?_⟩
      have hj : j < len := by have := (List.getElem?_eq_some_iff.1 hu).1; simpa using this
      rw [List.getElem?_map, List.getElem?_range hj] at hu
      simp only [Option.map_some, Option.some.injEq] at hu
      obtain ⟨B, cB, h1, _⟩ := hq j hj
      rw [h1] at hu
      simp only [Option.getD_some] at hu
      subst hu
      rw [Go.WideShapes.add_plain] at h1
      exact h1
    · have ht : t < len := by have := (List.getElem?_eq_some_iff.1 hr).1; simpa using this
      rw [List.getElem?_map, List.getElem?_range ht] at hr
      simp only [Option.map_some, Option.some.injEq] at hr
      subst hr
      obtain ⟨B, cB, h1, h2⟩ := hq t ht
      exact ⟨B, cB, by rw [List.getElem?_map, List.getElem?_range ht]; simp [h1], h2.2.1, h2.2.2.1, Ints.sints h2.1 fun _ _ _ _ => trivial⟩
theorem deed_arg (hok : Value.okWide Try.prog w r b0 33 v) (h : DataW.Trod enc Try.prog w base (fun _ => true) true 33 v d p) :
    ∃ (x : Deed) (U : Value), v = .agg #[.bool x.1, .int .i64 x.2.1, U] ∧ RwsA w U x.2.2 := by
  obtain ⟨x0, x1, x2, y0, y1, y2, n, rfl, _, _, t0, t1, t2⟩ := open_agg3 Try.underlying33 (by kernel_rfl) (by kernel_rfl) hok h
  obtain ⟨K, hK, _⟩ := DataW.trod_bool Try.underlying4 t0
  obtain ⟨I, hI, _, _⟩ := DataW.trod_int Try.underlying3 t1
  injection hK with hK
  injection hI with hI
  subst hK hI
  obtain ⟨rs, hrs⟩ := rows_of t2
  exact ⟨(K, I, rs), x2, rfl, hrs⟩
theorem deeds_arg (hok : Value.okWide Try.prog w r b0 22 v) (h : DataW.Trod enc Try.prog w base (fun _ => true) true 22 v d p) :
    ∃ (A : Option Addr) (c : Nat) (ds : List Deed), v = .slice A ds.length c ∧ Deeds w A ds ∧ ds.length ≤ maxLen := by
  obtain ⟨a, len, cap, rfl⟩ := okWide_slice Try.underlying22 hok
  obtain ⟨fuel, hf⟩ := h
  rcases open_slice Try.underlying22 hf with ⟨hcs, _⟩ | ⟨x, l, c, m, n, D, Pl, hcs, _, hl, hm, hmm, _, hx⟩
  · simp [Value.cells] at hcs
    obtain ⟨rfl, rfl, rfl⟩ := hcs
    exact ⟨none, 0, [], rfl, fun hp => absurd hp (by simp), by simp⟩
  · simp [Value.cells] at hcs
    obtain ⟨rfl, rfl, rfl⟩ := hcs
    have hlm : len ≤ m := by rw [hmm]; split <;> omega
    have ce : Try.prog.cellsOf 33 = 3 := by kernel_rfl
    have each : ∀ i, i < len → ∃ e : Deed, w.cell? (x.add (i * 3)) = some (.bool e.1) ∧ w.cell? (x.add (i * 3 + 1)) = some (.int .i64 e.2.1) ∧ ∃ U, w.cell? (x.add (i * 3 + 2)) = some U ∧ RwsA w U e.2.2 := by
      intro i hi
      obtain ⟨cs', h1, h2⟩ := hx i (by omega)
      rw [ce] at h1
      obtain ⟨_, hlen, hcell⟩ := World.cells?_some h1
      obtain ⟨xs, k, _, _, _, hxl, hfl⟩ := DataW.trod_struct Try.underlying33 h2
      match cs', hlen with
      | [v0, v1, v2], _ =>
        have g0 := hfl 0 _ rfl
        have g1 := hfl 1 _ rfl
        have g2 := hfl 2 _ rfl
        have z0 : Try.prog.cellsOf 4 = 1 := by kernel_rfl
        have z1 : Try.prog.cellsOf 3 = 1 := by kernel_rfl
        have z2 : Try.prog.cellsOf 29 = 1 := by kernel_rfl
        simp [z0] at g0
        simp [z1] at g1
        simp [z2] at g2
        match xs, hxl with
        | [y0, y1, y2], _ =>
          obtain ⟨K, hK, _⟩ := DataW.trod_bool Try.underlying4 g0
          obtain ⟨I, hI, _, _⟩ := DataW.trod_int Try.underlying3 g1
          obtain ⟨rs, hrs⟩ := rows_of g2
          have e0 := hcell 0 (by omega)
          have e1 := hcell 1 (by omega)
          have e2 := hcell 2 (by omega)
          rw [add_add] at e0 e1 e2
          injection hK with hK
          injection hI with hI
          subst hK hI
          exact ⟨(K, I, rs), by simpa using e0, by simpa using e1, v2, by simpa using e2, hrs⟩
    obtain ⟨q, hq⟩ := choose_lt each
    refine ⟨some x, cap, (List.range len).map q, by simp, fun hp => ?_, by simp; omega⟩
    have hp' : 0 < len := by simpa using hp
    obtain ⟨bb, off, spot⟩ := x
    have h0 := (hq 0 hp').1
    have hspot : spot = none := by simpa [Addr.add] using World.cell?_spot h0
    subst hspot
    refine ⟨bb, off, rfl, World.block_lt_of_cell? w ⟨bb, off, none⟩ (by simpa [Addr.add] using h0), fun k dd hd => ?_⟩
    have hk : k < len := by have := (List.getElem?_eq_some_iff.1 hd).1; simpa using this
    rw [List.getElem?_map, List.getElem?_range hk] at hd
    simp only [Option.map_some, Option.some.injEq] at hd
    subst hd
    obtain ⟨k0, k1, U, k2, k3⟩ := hq k hk
    rw [Go.WideShapes.add_plain] at k0 k1 k2
    exact ⟨U, k0, by rw [Nat.add_assoc]; exact k1, by rw [Nat.add_assoc]; exact k2, k3⟩
end
end Go.Proofs.Ytakoehgjgdcmmaa.Tp
