/-
  Layer 18, tree: how a program that came in reads. No condition.
-/
import Derived.Test.YtjmpilmmgfjpmaaDoorTrBase
import Derived.Test.YtjmpilmmgfjpmaaDoorPkC
set_option maxRecDepth 100000
namespace Go.Proofs.YtjmpilmmgfjpmaaDoor.Tr
open Go.Proofs.YtjmpilmmgfjpmaaDoor.Sh Go.Proofs.YtjmpilmmgfjpmaaDoor.St
open Go.Joins Go.ChangeShapes Go.WideShapes Go.ChangeAt Go.RowKit Go.Deep
set_option linter.unusedVariables false

instance : Inhabited Nq := ⟨⟨⟨0, 0, 0, [], [], ⟨#[]⟩⟩, none, 0, none, 0⟩⟩
instance : Inhabited Df := ⟨⟨⟨#[]⟩, 0, 0⟩⟩
theorem array5p {α : Type} {cs : Array α} (h : cs.size = 5) : ∃ c0 c1 c2 c3 c4, cs = #[c0, c1, c2, c3, c4] := by
  obtain ⟨l⟩ := cs
  match l, h with
  | [a, b, c, d, e], _ => exact ⟨a, b, c, d, e, rfl⟩
section
variable {H : Type} {enc : TypeId × Value → H} {w : World} {v : Value} {d : DataW H} {p : List MemPlace} {r : Reach} {b0 base : Nat}
theorem nodes_of {fuel : Nat} {held : Bool} {x : DataW H × List MemPlace} (h : DataW.trod enc Tryd.prog w base (fun _ => true) held fuel 23 [v] = some x) : ∃ A c qs, v = .slice A (List.length qs) c ∧ Nodes w A qs ∧ qs.length ≤ maxLen := by
  rcases open_slice Tryd.underlying23 h with ⟨hcs, _⟩ | ⟨x, len, cap, m, n, D, Pl, hcs, _, hl, hm, hmm, _, hx⟩
  · injection hcs with hcs
    exact ⟨none, 0, [], hcs, ⟨fun hp => absurd hp (by simp), fun q hq => by cases hq⟩, by simp⟩
  · injection hcs with hcs
    have hlm : len ≤ m := by rw [hmm]; split <;> omega
    have ce : Tryd.prog.cellsOf 45 = 6 := by kernel_rfl
    have each : ∀ i, i < len → ∃ q : Nq, w.cell? (x.add (i * 6)) = some (.int .i64 q.n.kind) ∧ w.cell? (x.add (i * 6 + 1)) = some (.int .i64 q.n.pos) ∧ w.cell? (x.add (i * 6 + 2)) = some (.int .i64 q.n.code) ∧ w.cell? (x.add (i * 6 + 3)) = some (.slice q.ka q.n.kids.length q.kc) ∧ w.cell? (x.add (i * 6 + 4)) = some (.slice q.na q.n.nums.length q.nc) ∧ w.cell? (x.add (i * 6 + 5)) = some (.string q.n.name) ∧ NodeIn w q := by
      intro i hi
      obtain ⟨cs', h1, h2⟩ := hx i (by omega)
      rw [ce] at h1
      obtain ⟨_, hlen, hcell⟩ := World.cells?_some h1
      obtain ⟨xs, k, _, _, _, hxl, hfl⟩ := DataW.trod_struct Tryd.underlying45 h2
      match cs', hlen with
      | [v0, v1, v2, v3, v4, v5], _ =>
        have g0 := hfl 0 _ rfl
        have g1 := hfl 1 _ rfl
        have g2 := hfl 2 _ rfl
        have g3 := hfl 3 _ rfl
        have g4 := hfl 4 _ rfl
        have g5 := hfl 5 _ rfl
        have z1 : Tryd.prog.cellsOf 3 = 1 := by kernel_rfl
        have z2 : Tryd.prog.cellsOf 22 = 1 := by kernel_rfl
        have z3 : Tryd.prog.cellsOf 43 = 1 := by kernel_rfl
        have z4 : Tryd.prog.cellsOf 9 = 1 := by kernel_rfl
        simp [z1] at g0 g1 g2
        simp [z2] at g3
        simp [z3] at g4
        simp [z4] at g5
        match xs, hxl with
        | [y0, y1, y2, y3, y4, y5], _ =>
          obtain ⟨K0, hK0, _, _⟩ := DataW.trod_int Tryd.underlying3 g0
          obtain ⟨K1, hK1, _, _⟩ := DataW.trod_int Tryd.underlying3 g1
          obtain ⟨K2, hK2, _, _⟩ := DataW.trod_int Tryd.underlying3 g2
          obtain ⟨B3, cB3, r3, hB3, hr3⟩ := row_of Tryd.underlying22 Tryd.underlying3 (by kernel_rfl) g3
          obtain ⟨B4, cB4, r4, hB4, hr4⟩ := row_of Tryd.underlying43 Tryd.underlying2 (by kernel_rfl) g4
          obtain ⟨s5, hs5, _, hz5⟩ := DataW.trod_string Tryd.underlying9 g5
          have e0 := hcell 0 (by omega)
          have e1 := hcell 1 (by omega)
          have e2 := hcell 2 (by omega)
          have e3 := hcell 3 (by omega)
          have e4 := hcell 4 (by omega)
          have e5 := hcell 5 (by omega)
          rw [add_add] at e0 e1 e2 e3 e4 e5
          injection hK0 with hK0
          injection hK1 with hK1
          injection hK2 with hK2
          injection hs5 with hs5
          subst hK0 hK1 hK2 hB3 hB4 hs5
          exact ⟨⟨⟨K0, K1, K2, r3, r4, s5⟩, B3, cB3, B4, cB4⟩, by simpa using e0, by simpa using e1, by simpa using e2, by simpa using e3, by simpa using e4, by simpa using e5, hr3.1, hr4.1, hr3.2.2.2.1, hr4.2.2.2.1, hz5⟩
    obtain ⟨q, hq⟩ := choose_lt each
    refine ⟨some x, cap, (List.range len).map q, by rw [hcs]; simp, ⟨fun hp => ?_, fun y hy => ?_⟩, by simp; omega⟩
    · have hp' : 0 < len := by simpa using hp
      obtain ⟨bb, off, spot⟩ := x
      have h0 := (hq 0 hp').1
      have hspot : spot = none := by simpa [Addr.add] using World.cell?_spot h0
      subst hspot
      refine ⟨bb, off, rfl, World.block_lt_of_cell? w ⟨bb, off, none⟩ (by simpa [Addr.add] using h0), fun k dd hd => ?_⟩
      have hk : k < len := by have := (List.getElem?_eq_some_iff.1 hd).1; simpa using this
      rw [List.getElem?_map, List.getElem?_range hk] at hd
      simp only [Option.map_some, Option.some.injEq] at hd
      subst hd
      obtain ⟨k0, k1, k2, k3, k4, k5, -⟩ := hq k hk
      rw [Go.WideShapes.add_plain] at k0 k1 k2 k3 k4 k5
      exact ⟨k0, by rw [Nat.add_assoc]; exact k1, by rw [Nat.add_assoc]; exact k2, by rw [Nat.add_assoc]; exact k3, by rw [Nat.add_assoc]; exact k4, by rw [Nat.add_assoc]; exact k5⟩
    · obtain ⟨k, hk, rfl⟩ := List.mem_map.1 hy
      exact (hq k (List.mem_range.1 hk)).2.2.2.2.2.2
theorem defs_of {fuel : Nat} {held : Bool} {x : DataW H × List MemPlace} (h : DataW.trod enc Tryd.prog w base (fun _ => true) held fuel 24 [v] = some x) : ∃ A c qs, v = .slice A (List.length qs) c ∧ Defs w A qs ∧ qs.length ≤ maxLen := by
  rcases open_slice Tryd.underlying24 h with ⟨hcs, _⟩ | ⟨x, len, cap, m, n, D, Pl, hcs, _, hl, hm, hmm, _, hx⟩
  · injection hcs with hcs
    exact ⟨none, 0, [], hcs, ⟨fun hp => absurd hp (by simp), fun q hq => by cases hq⟩, by simp⟩
  · injection hcs with hcs
    have hlm : len ≤ m := by rw [hmm]; split <;> omega
    have ce : Tryd.prog.cellsOf 79 = 3 := by kernel_rfl
    have each : ∀ i, i < len → ∃ q : Df, w.cell? (x.add (i * 3)) = some (.string q.name) ∧ w.cell? (x.add (i * 3 + 1)) = some (.int .i64 q.pos) ∧ w.cell? (x.add (i * 3 + 2)) = some (.int .i64 q.node) ∧ q.name.size ≤ maxLen := by
      intro i hi
      obtain ⟨cs', h1, h2⟩ := hx i (by omega)
      rw [ce] at h1
      obtain ⟨_, hlen, hcell⟩ := World.cells?_some h1
      obtain ⟨xs, k, _, _, _, hxl, hfl⟩ := DataW.trod_struct Tryd.underlying79 h2
      match cs', hlen with
      | [v0, v1, v2], _ =>
        have g0 := hfl 0 _ rfl
        have g1 := hfl 1 _ rfl
        have g2 := hfl 2 _ rfl
        have z1 : Tryd.prog.cellsOf 3 = 1 := by kernel_rfl
        have z4 : Tryd.prog.cellsOf 9 = 1 := by kernel_rfl
        simp [z4] at g0
        simp [z1] at g1 g2
        match xs, hxl with
        | [y0, y1, y2], _ =>
          obtain ⟨s0, hs0, _, hz0⟩ := DataW.trod_string Tryd.underlying9 g0
          obtain ⟨K1, hK1, _, _⟩ := DataW.trod_int Tryd.underlying3 g1
          obtain ⟨K2, hK2, _, _⟩ := DataW.trod_int Tryd.underlying3 g2
          have e0 := hcell 0 (by omega)
          have e1 := hcell 1 (by omega)
          have e2 := hcell 2 (by omega)
          rw [add_add] at e0 e1 e2
          injection hs0 with hs0
          injection hK1 with hK1
          injection hK2 with hK2
          subst hs0 hK1 hK2
          exact ⟨⟨s0, K1, K2⟩, by simpa using e0, by simpa using e1, by simpa using e2, hz0⟩
    obtain ⟨q, hq⟩ := choose_lt each
    refine ⟨some x, cap, (List.range len).map q, by rw [hcs]; simp, ⟨fun hp => ?_, fun y hy => ?_⟩, by simp; omega⟩
    · have hp' : 0 < len := by simpa using hp
      obtain ⟨bb, off, spot⟩ := x
      have h0 := (hq 0 hp').1
      have hspot : spot = none := by simpa [Addr.add] using World.cell?_spot h0
      subst hspot
      refine ⟨bb, off, rfl, World.block_lt_of_cell? w ⟨bb, off, none⟩ (by simpa [Addr.add] using h0), fun k dd hd => ?_⟩
      have hk : k < len := by have := (List.getElem?_eq_some_iff.1 hd).1; simpa using this
      rw [List.getElem?_map, List.getElem?_range hk] at hd
      simp only [Option.map_some, Option.some.injEq] at hd
      subst hd
      obtain ⟨k0, k1, k2, -⟩ := hq k hk
      rw [Go.WideShapes.add_plain] at k0 k1 k2
      exact ⟨k0, by rw [Nat.add_assoc]; exact k1, by rw [Nat.add_assoc]; exact k2⟩
    · obtain ⟨k, hk, rfl⟩ := List.mem_map.1 hy
      exact (hq k (List.mem_range.1 hk)).2.2.2
theorem prog_arg (hok : Value.okWide Tryd.prog w r b0 26 v) (h : DataW.Trod enc Tryd.prog w base (fun _ => true) true 26 v d p) :
    ∃ P : Pq, v = progV P ∧ ProgIn w P := by
  have ce : Tryd.prog.cellsOf 26 = 5 := by kernel_rfl
  obtain ⟨cs, rfl, hsz⟩ := okWide_struct Tryd.underlying26 hok
  obtain ⟨c0, c1, c2, c3, c4, rfl⟩ := array5p (hsz.trans ce)
  obtain ⟨fuel, hf⟩ := h
  obtain ⟨xs, k, _, _, _, hxl, hfl⟩ := DataW.trod_struct Tryd.underlying26 hf
  have g0 := hfl 0 _ rfl
  have g1 := hfl 1 _ rfl
  have g2 := hfl 2 _ rfl
  have g3 := hfl 3 _ rfl
  have g4 := hfl 4 _ rfl
  have z1 : Tryd.prog.cellsOf 3 = 1 := by kernel_rfl
  have z2 : Tryd.prog.cellsOf 22 = 1 := by kernel_rfl
  have z3 : Tryd.prog.cellsOf 23 = 1 := by kernel_rfl
  have z4 : Tryd.prog.cellsOf 9 = 1 := by kernel_rfl
  have z5 : Tryd.prog.cellsOf 24 = 1 := by kernel_rfl
  simp [z4, Value.cells] at g0
  simp [z2, Value.cells] at g1
  simp [z3, Value.cells] at g2
  simp [z5, Value.cells] at g3
  simp [z1, Value.cells] at g4
  match xs, hxl with
  | [y0, y1, y2, y3, y4], _ =>
    obtain ⟨s0, hs0, _, hz0⟩ := DataW.trod_string Tryd.underlying9 g0
    obtain ⟨B1, cB1, r1, hB1, hr1⟩ := row_of Tryd.underlying22 Tryd.underlying3 (by kernel_rfl) g1
    obtain ⟨B2, cB2, r2, hB2, hr2, hl2⟩ := nodes_of g2
    obtain ⟨B3, cB3, r3, hB3, hr3, hl3⟩ := defs_of g3
    obtain ⟨K4, hK4, _, _⟩ := DataW.trod_int Tryd.underlying3 g4
    injection hs0 with hs0
    injection hK4 with hK4
    subst hs0 hB1 hB2 hB3 hK4
    exact ⟨⟨s0, B1, cB1, r1, B2, cB2, r2, B3, cB3, r3, K4⟩, rfl, hr1.1, hr2, hr3, hz0, hr1.2.2.2.1, hl2, hl3⟩
end
end Go.Proofs.YtjmpilmmgfjpmaaDoor.Tr
