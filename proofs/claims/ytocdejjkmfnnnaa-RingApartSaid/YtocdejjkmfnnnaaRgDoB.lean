/-
  What rifflelaw11.does tells of a push. Conditions: at most 64 rows, a row of at most 100 numbers.
-/
import Derived.Test.YtocdejjkmfnnnaaRgDoA
set_option maxRecDepth 100000
namespace Go.Proofs.Ytocdejjkmfnnnaa.Rg
open Go.Proofs.Ytocdejjkmfnnnaa.Sh Go.Proofs.Ytocdejjkmfnnnaa.St
open Go.RowKit
set_option linter.unusedVariables false

set_option maxHeartbeats 4000000 in
theorem does_push (S : Nat → Prop) (g h n s : Nat) (rs : List (List Int)) (AV : Option Addr) (cV : Nat) (I : Int) (B : Option Addr) (cB : Nat) (row : List Int) (w : World) (r : Ring w g h n s rs) (hr : RwsIn S w (.slice AV rs.length cV) rs) (hS : ∀ b, S b → b < w.heap.size ∧ ¬ Two g h b) (ib : Ints w B row) (hrow : row.length ≤ 100) :
    Calls Try.prog 13 #[.pointer (some ⟨g, 0, none⟩), .agg #[.slice AV rs.length cV, .int .i64 n, .int .i64 s], .agg #[.int .i64 0, .int .i64 I, .slice B row.length cB]] w (RetDo S g h n s (pushL n s rs row) w) := by
  have hR := r.room
  have R0 := Lib.hid r
  have L0 : Hid (Below w.heap.size w (((w.alloc (.cells #[.slice AV rs.length cV, .int .i64 n, .int .i64 s] 32)).alloc (.cells #[.int .i64 0, .int .i64 I, .slice B row.length cB] 35)).alloc (.cells #[.slice none 0 0, .int .i64 0, .int .i64 0] 32))) := Lib.hid ((((Below.refl _ w).alloc (Nat.le_refl _) _).alloc (by simp) _).alloc (by simp; omega) _)
  have B0 := Lib.hid (DoB.new w AV rs.length cV n s 0 I B row.length cB)
  have X0 := Lib.hid (hr.next L0.out)
  have I0 := Lib.hid (ib.below L0.out)
  have G0 := Lib.hid (r.next L0.out)
  have HS := Lib.hid (fun b hb => (hS b hb).1)
  have HT := Lib.hid (fun b hb => (hS b hb).2)
  have HTW := Lib.hid (two_lt r)
  have HS3 : Hid (∀ b, S b → b < (((w.alloc (.cells #[.slice AV rs.length cV, .int .i64 n, .int .i64 s] 32)).alloc (.cells #[.int .i64 0, .int .i64 I, .slice B row.length cB] 35)).alloc (.cells #[.slice none 0 0, .int .i64 0, .int .i64 0] 32)).heap.size) := Lib.hid (fun b hb => by have := (hS b hb).1; simp; omega)
  have Z0 : Hid ((((w.alloc (.cells #[.slice AV rs.length cV, .int .i64 n, .int .i64 s] 32)).alloc (.cells #[.int .i64 0, .int .i64 I, .slice B row.length cB] 35)).alloc (.cells #[.slice none 0 0, .int .i64 0, .int .i64 0] 32)).heap.size = w.heap.size + 1 + 1 + 1) := Lib.hid (by simp)
  obtain ⟨E, hE⟩ : ∃ E, pushE n s rs row = E := ⟨_, rfl⟩
  obtain ⟨Q, hQ⟩ : ∃ Q, pushL n s rs row = Q := ⟨_, rfl⟩
  have HE := Lib.hid hE
  have HQ := Lib.hid hQ
  have RP := Lib.hid (rpush_any S n s rs AV cV B cB row _ X0.out HS3.out I0.out (by omega) (by omega))
  rw [hE, hQ] at RP
  rw [hQ]
  clear hE hQ
  clear r hr hS ib
  go_enter Try.func13, Try.ntmps13
  go_wp2_with fail
  refine RP.out.mono ?_
  rintro r w4 ⟨x, rfl, ⟨A4, c4, rfl, hx4⟩, hb4⟩
  have KB := Lib.hid (below_new w4 (.cells #[.slice A4 Q.length c4, .int .i64 n, .int .i64 s] 32))
  have L5 := Lib.hid (below_next (below_next L0.out hb4) KB.out)
  have B5 := Lib.hid ((B0.out.next hb4).next KB.out)
  have X5 := Lib.hid (hx4.next KB.out)
  have I5 := Lib.hid ((I0.out.below hb4).below KB.out)
  have G5 := Lib.hid ((G0.out.next hb4).next KB.out)
  have C5 := Lib.hid (Bk.new 32 w4 [.slice A4 Q.length c4, .int .i64 n, .int .i64 s])
  have Z5 := Lib.hid (show w.heap.size + 1 + 1 + 1 ≤ w4.heap.size by have := hb4.size; have := Z0.out; omega)
  clear hb4 hx4 RP KB
  go_upto_region 4 with (fail)
  generalize hW : w4.alloc (.cells #[.slice A4 Q.length c4, .int .i64 n, .int .i64 s] 32) = w5 at *
  generalize hG : w4.heap.size = g8 at *
  clear hW hG
  obtain ⟨⟨e0, e1, e2⟩, ⟨e3, e4⟩, ⟨e5, e6, e7⟩, f0, f1, f2⟩ := B5.out.cells
  obtain ⟨q0, q1, q2⟩ : w5.cell? ⟨g8, 0, none⟩ = some (.slice A4 Q.length c4) ∧ w5.cell? ⟨g8, 1, none⟩ = some (.int .i64 n) ∧ w5.cell? ⟨g8, 2, none⟩ = some (.int .i64 s) := ⟨C5.out.c 0, C5.out.c 1, C5.out.c 2⟩
  have PU := fun m => push_any (fun _ => True) g h n s rs B cB row (w5.drewN m) G5.out (Ints.sints (A := B) (l := row) (by exact I5.out) (fun _ _ _ _ => trivial)) (by omega)
  have HPU := Lib.hid PU
  clear PU
  go_region_with
    (first
      | (go_at_call 20; refine (HPU.out _).mono ?_; rintro r w6 ⟨rfl, hr6, ht6⟩; rw [HE.out]; rw [HQ.out] at hr6; have R6 := Lib.hid hr6; have T6 : Hid (Turn (Two g h) w5 w6) := ht6; have B6 := Lib.hid (B5.out.turn T6.out HTW.out); have C6 := Lib.hid (C5.out.turn T6.out (fun h => by have := HTW.out _ h; have := Z5.out; omega)); clear hr6 ht6 e0 e1 e2 e3 e4 e5 e6 e7 f0 f1 f2 q0 q1 q2; obtain ⟨⟨e0, e1, e2⟩, ⟨e3, e4⟩, ⟨e5, e6, e7⟩, f0, f1, f2⟩ := DoB.cells B6.out; obtain ⟨q0, q1, q2⟩ : w6.cell? ⟨g8, 0, none⟩ = some (.slice A4 Q.length c4) ∧ w6.cell? ⟨g8, 1, none⟩ = some (.int .i64 n) ∧ w6.cell? ⟨g8, 2, none⟩ = some (.int .i64 s) := ⟨C6.out.c 0, C6.out.c 1, C6.out.c 2⟩))
  all_goals
    go_wp2
    refine bodyPost_ret (v := .tuple #[.agg #[.slice A4 Q.length c4, .int .i64 n, .int .i64 s], .bool true]) (by simp [results, Try.results13, go_sem, e5, e6, e7]) rfl ?_
    have X6 : RwsIn (fun b => S b ∨ w.heap.size + 1 + 1 + 1 ≤ b) w6 (.slice A4 Q.length c4) Q := (X5.out.turn T6.out (fun b hb ht => by
      rcases hb with hb | hb
      · exact HT.out b hb ht
      · have := HTW.out b ht; have := Z0.out; omega)).mono (fun b hb => by
      rcases hb with hb | hb
      · exact .inl hb
      · exact .inr (by rw [← Z0.out]; exact hb))
    exact do_end R0.out HS.out X6 R6.out ((Turn.of_below _ L5.out).trans T6.out) _ _ _
end Go.Proofs.Ytocdejjkmfnnnaa.Rg
