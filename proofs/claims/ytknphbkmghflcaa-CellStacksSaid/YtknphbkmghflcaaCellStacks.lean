/-
  Proved: for any cells rifflelaw03.CellStacks returns true, and the argument reads afterwards as it read before. No condition.
-/
import Derived.Test.YtknphbkmghflcaaRows
import Derived.Test.YtknphbkmghflcaaShapeRow
import Derived.Test.YtknphbkmghflcaaCellStacks1
import Derived.Deep.SlicePairs
import Derived.Lib.SmallJoins
import Derived.WalkKit
import Derived.ProofKit
import Derived.OpenShut
import Derived.ChangeOld
import Derived.Below
namespace Go.Proofs.Ytknphbkmghflcaa.cellStacks
open Go.Proofs.Ytknphbkmghflcaa.Sh
open Go.Joins Go.ChangeShapes Go.WideShapes Go.ChangeAt Go.RowKit Go.Deep
set_option linter.unusedVariables false

theorem own : ownKnob Try.prog.godebug = none := by kernel_rfl
theorem laidOut : laidOutB Try.prog = true := by kernel_rfl

/-- Cells that read as lists, one by one, are a slice of cells. -/
theorem cells_of {W : World} {a : Addr} {len : Nat} {V0 V1 : Nat → Value} (hc : ∀ i, i < len → W.cell? (a.add (i * 2)) = some (V0 i) ∧ W.cell? (a.add (i * 2 + 1)) = some (V1 i))
    (ex : ∀ i, i < len → ∃ p : Two, ∃ Ai ci Bi ei, V0 i = .slice Ai p.1.length ci ∧ V1 i = .slice Bi p.2.length ei ∧ Ints W Ai p.1 ∧ Ints W Bi p.2) : ∃ L : List Two, L.length = len ∧ Cells W (some a) L := by
  refine ⟨(List.range len).map fun i => if h : i < len then (ex i h).choose else ([], []), by simp, fun hp => ?_⟩
  have hl : 0 < len := by simpa using hp
  obtain ⟨b, off, spot⟩ := a
  have h0 := (hc 0 hl).1
  have hspot : spot = none := by simpa [Addr.add] using World.cell?_spot h0
  subst hspot
  refine ⟨b, off, rfl, World.block_lt_of_cell? W ⟨b, off, none⟩ (by simpa [Addr.add] using h0), fun i hi => ?_⟩
  have hil : i < len := by simpa using hi
  have hk := hc i hil
  rw [Go.WideShapes.add_plain, Go.WideShapes.add_plain, Nat.mul_comm i 2, ← Nat.add_assoc] at hk
  obtain ⟨Ai, ci, Bi, ei, e0, e1, e2, e3⟩ := (ex i hil).choose_spec
  have f0 := hk.1.trans (congrArg some e0)
  have f1 := hk.2.trans (congrArg some e1)
  simp only [List.getElem_map, List.getElem_range, hil, dite_true]
  exact ⟨Ai, ci, Bi, ei, f0, f1, e2, e3⟩

/-! ### THE ROW's STEP: WRITTEN OUT: LEAVE IT -/
set_option maxRecDepth 100000 in
theorem lifted (os : Os) (started : os.Started) (H : Type) (enc : TypeId × Value → H) :
    ReturnsInHanded {} Try.checked os 5 .any (Rows.cellStacksSpec.pre6 enc Try.prog Try.f5 Rows.cellStacksRow.domain false) (Rows.cellStacksSpec.post enc Try.prog Try.f5 false true false false) := by
  refine returnsInHanded_of_change (C := Try.checked) own started (by kernel_rfl) Try.func5
    (ChangeSpec.witness6 (enc := enc) (C := Try.checked) false ⟨#[], #[.slice none 0 0], []⟩ 8 (by kernel_rfl) (by kernel_rfl) (by kernel_rfl) (by kernel_rfl)) ?_
  intro W base args ds gs before hval0 hW hcnd _
  have hval : ∀ (j : Nat) t v, Try.f5.params[j]? = some t → args[j]? = some v → Value.okWide Try.prog W .any base t v := hval0
  have hW' := hW
  obtain ⟨p, q, hA0, hV, rfl, hfz, hnd⟩ := hW
  have hA : DataW.TrodAll enc Try.prog W 0 (fun _ => true) true Try.f5.params.toList args.toList ds p := hA0
  rw [Try.params5] at hA hval
  obtain ⟨v0, vs0, d0, ds0, p0, q0, hargs, rfl, rfl, h0, r0⟩ := trodAll_cons hA
  obtain ⟨rfl, rfl, rfl⟩ := trodAll_nil r0
  obtain rfl : args = #[v0] := by cases args; simp_all
  obtain ⟨rfl, rfl⟩ := trodVars_none hV
  have k0 := h0
  have lt0 : ∀ x ∈ p0, x.block < W.heap.size := by obtain ⟨m, hm⟩ := k0; exact DataW.trod_lt m _ _ _ hm
  obtain ⟨a0, len0, cap0, rfl⟩ := okWide_slice Try.underlying43 (hval 0 43 v0 rfl rfl)
  obtain ⟨L, hLl, hcl⟩ : ∃ L : List Two, L.length = len0 ∧ Cells W a0 L := by
    obtain ⟨fuel, hf⟩ := h0
    rcases open_slice_pairs Try.underlying43 Try.underlying25 (by kernel_rfl) rfl rfl (by kernel_rfl) (by kernel_rfl) hf with ⟨hcs, _⟩ | ⟨a, len, cap, m, n, V0, V1, D0, D1, P0, P1, hcs, _, hl, hm, hmm, _, hx⟩
    · simp [Value.cells] at hcs
      obtain ⟨rfl, rfl, rfl⟩ := hcs
      exact ⟨[], rfl, fun h => absurd h (by simp)⟩
    · simp [Value.cells] at hcs
      obtain ⟨rfl, rfl, rfl⟩ := hcs
      have hlm : len0 ≤ m := by rw [hmm]; split <;> omega
      refine cells_of (fun i hi => ⟨(hx i (by omega)).1, (hx i (by omega)).2.1⟩) fun i hi => ?_
      obtain ⟨_, _, ta, tb⟩ := hx i (by omega)
      obtain ⟨ax, lx, cx, zx, ex, wx⟩ : ∃ a len cap zs, V0 i = .slice a len cap ∧ IsRow .i64 W a len cap zs := by
        rcases open_ints Try.underlying22 Try.underlying3 (by kernel_rfl) ta with ⟨hcs, _⟩ | ⟨x, l, c, zs, hcs, _, hl, hm, hz, _, hcell, hwz⟩
        · injection hcs with hcs
          exact ⟨none, 0, 0, [], hcs, .inl ⟨rfl, rfl, rfl, rfl⟩⟩
        · injection hcs with hcs
          exact ⟨_, l, c, zs, hcs, .inr ⟨_, rfl, hl, hm, by simpa using hz, hcell, hwz⟩⟩
      obtain ⟨ay, ly, cy, zy, ey, wy⟩ : ∃ a len cap zs, V1 i = .slice a len cap ∧ IsRow .i64 W a len cap zs := by
        rcases open_ints Try.underlying23 Try.underlying2 (by kernel_rfl) tb with ⟨hcs, _⟩ | ⟨x, l, c, zs, hcs, _, hl, hm, hz, _, hcell, hwz⟩
        · injection hcs with hcs
          exact ⟨none, 0, 0, [], hcs, .inl ⟨rfl, rfl, rfl, rfl⟩⟩
        · injection hcs with hcs
          exact ⟨_, l, c, zs, hcs, .inr ⟨_, rfl, hl, hm, by simpa using hz, hcell, hwz⟩⟩
      obtain ⟨d, rfl, _, id, _⟩ := wx.view
      obtain ⟨v, rfl, _, iv, _⟩ := wy.view
      exact ⟨(d, v), ax, cx, ay, cy, ex, ey, id, iv⟩
  subst hLl
  clear hA0 hval0
  refine (stacks_any a0 cap0 L W hcl).mono fun e W' ⟨he, bel⟩ => ?_
  subst he
  exact ⟨_, rfl, _, _, _, [], _, [], hW', trodAll_mk1 (shut_bool Try.underlying4 _), (trodAll_cons_mk (Below.trod laidOut (by kernel_rfl) (of_decide_eq_true (by kernel_rfl)) k0 bel lt0) trodAll_mk0), rfl, bel.frame _, fun h => by cases h⟩

theorem over : Rows.cellStacksRow.holds Try.pinned (OpenSpec.ofChange Rows.cellStacksSpec) :=
  OpenClaim.holds_of_wide 5 Try.f5 rfl rfl rfl rfl rfl rfl rfl ⟨rfl, rfl, rfl, rfl, rfl⟩ rfl rfl rfl rfl rfl (by kernel_rfl) Try.func5 (by kernel_rfl)
    (of_decide_eq_true (by kernel_rfl)) (by unfold Func.isWrapper; first | (rw [if_pos (by decide +kernel)]; kernel_rfl) | (rw [if_neg (by decide +kernel)]; exact ⟨rfl, rfl⟩))
    (fun os started H enc _ => lifted os started H enc)

/-- ████ THE STATEMENT ████ -/
theorem proved : Rows.CellStacksSaid := over
end Go.Proofs.Ytknphbkmghflcaa.cellStacks
