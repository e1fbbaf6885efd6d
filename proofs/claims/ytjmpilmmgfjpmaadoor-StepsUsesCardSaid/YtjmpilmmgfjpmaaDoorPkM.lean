/-
  What mold.lay and mold.cut do: a piece is copied to the beginning of a row known whole. Conditions: as told in each.
-/
import Derived.Test.YtjmpilmmgfjpmaaDoorPkC
set_option maxRecDepth 100000
-- MoLay
namespace Go.Proofs.YtjmpilmmgfjpmaaDoor.Sh
open Go.RowKit
set_option linter.unusedVariables false

theorem run_copyM {ty : TypeId} {w : World} {g off : Nat} {cur ys : List Int} {dp A : Option Addr} {s c c' q : Nat} (hg : Row64 w g cur) (hq : q = Nat.min ys.length s) (hdp : 0 < s → dp = some ⟨g, off, none⟩) (hy : Ints w A ys) (hf : off + s ≤ cur.length) :
    ∃ w', (Builtin.copy_ #[43, 43] ty #[.slice dp s c, .slice A ys.length c']).run Tryd.prog w = .ok (goInt q) w' ∧ Row64 w' g (splice cur off (ys.take q)) ∧ w.grownBy w' (some g) := by
  have hsz : (Tryd.prog.info? 2).map (·.size) = some 1 := by kernel_rfl
  have hq1 : q ≤ ys.length := by rw [hq]; exact Nat.min_le_left _ _
  have hq2 : q ≤ s := by rw [hq]; exact Nat.min_le_right _ _
  rcases Nat.eq_zero_or_pos q with h0 | h0
  · have hr := run_copy_none (P := Tryd.prog) w 43 43 ty 2 dp A s c ys.length c' Tryd.underlying43 hsz (by rw [← hq]; exact h0)
    subst h0
    exact ⟨w, hr, by simpa [splice] using hg, World.grownBy.refl w _⟩
  · obtain ⟨b, o, rfl, hb, hcs⟩ := hy (by omega)
    have hd := hdp (by omega)
    subst hd
    have hlen : ((ys.take q).map (Value.int .i64)).length = q := by simp; omega
    have hrun := run_copy_row (P := Tryd.prog) w 43 43 ty 2 g off s c ⟨b, o, none⟩ ys.length c' (cellsI cur) 2 ((ys.take q).map (Value.int .i64)) Tryd.underlying43 hsz hg (by rw [hlen, hq])
      (fun j v hj => by
        have hjl : j < q := by
          have := (List.getElem?_eq_some_iff.1 hj).1
          rw [hlen] at this; exact this
        rw [Go.WideShapes.add_plain, hcs j (by omega)]
        rw [List.getElem?_map, List.getElem?_take_of_lt hjl, List.getElem?_eq_getElem (by omega)] at hj
        simp at hj
        simp [List.getD, show j < ys.length by omega, hj]) (by rw [hlen]; simp only [cellsI]; simp; omega) (fun v hv => by obtain ⟨y, _, rfl⟩ := List.mem_map.1 hv; rfl)
    rw [hlen] at hrun
    refine ⟨_, hrun, ?_, ?_⟩
    · unfold Row64
      rw [setRow_heap w g _ _ 2 _ hg]
      have hq3 : min q ys.length = q := by omega
      simp [cellsI, splice, hq3]
    · exact ⟨rfl, rfl, rfl, by simp [World.setRow], fun i hi hne => setRow_other w g i _ (fun e => hne (by rw [e]))⟩
theorem wpList_copyM {w : World} {ops : Array Oper} {rest : List Oper} {o : Oper} {a : Act} {Q : Exit → Act → World → Prop} (hgd : o.guard = none) (d x : Operand)
    (ho : o.op = .call { callee := .builtin .copy, args := #[d, x], argTypes := #[43, 43] })
    (g off : Nat) (cur ys : List Int) (dp A : Option Addr) (s c c' q : Nat) (hd : a.eval d = .slice dp s c) (hx : a.eval x = .slice A ys.length c') (hg : Row64 w g cur) (hq : q = Nat.min ys.length s) (hdp : 0 < s → dp = some ⟨g, off, none⟩) (hy : Ints w A ys) (hf : off + s ≤ cur.length)
    (h : ∀ w', Row64 w' g (splice cur off (ys.take q)) → w.grownBy w' (some g) → wpList Tryd.prog ops Q rest (a.put o.dst (goInt q)) w') : wpList Tryd.prog ops Q (o :: rest) a w := by
  refine wpList_plain hgd fun K hK => ?_
  obtain ⟨w', hrun, h1, h2⟩ := run_copyM (ty := o.type) (c := c) (c' := c') hg hq hdp hy hf
  unfold Oper.wp execOp
  simp only [ho, resolve, invoke, builtin, Sem.run_bind, Sem.run_pure, Result.andThen_ok, List.map_toArray, List.map_cons, List.map_nil, hd, hx, hrun]
  exact hK _ _ (h w' h1 h2)

/-- What is left of a row behind what was copied. -/
def RetLay (g p m q : Nat) (cur : List Int) (w : World) (e : Ending) (w' : World) : Prop := ∃ A, e = .returned (.slice A (m - q) (m - q)) ∧ (0 < m - q → A = some ⟨g, p + q, none⟩) ∧ Row64 w' g cur ∧ w.grownBy w' (some g)
end Go.Proofs.YtjmpilmmgfjpmaaDoor.Sh
