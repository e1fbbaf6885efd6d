/-
  What rifflelaw11.does tells of a pop. Conditions: at most 64 rows, a row of at most 100 numbers.
-/
import Derived.Test.YtocdejjkmfnnnaaRgDoA
set_option maxRecDepth 100000
namespace Go.Proofs.Ytocdejjkmfnnnaa.Rg
open Go.Proofs.Ytocdejjkmfnnnaa.Sh Go.Proofs.Ytocdejjkmfnnnaa.St
open Go.RowKit
set_option linter.unusedVariables false

theorem rpop_any (S : Nat → Prop) (n s : Nat) (rs : List (List Int)) (AV : Option Addr) (cV : Nat) (w : World) (hr : RwsIn S w (.slice AV rs.length cV) rs) (hS : ∀ b, S b → b < w.heap.size) (hrl : rs.length ≤ 1000) :
    Calls Try.prog 41 #[.agg #[.slice AV rs.length cV, .int .i64 n, .int .i64 s]] w (RetRP S n s rs w) := by
  cases rs with
  | nil => exact rpop_nil S n s AV cV w hr
  | cons y ys => exact rpop_cons S n s y ys AV cV w hr hS (by simp at hrl; omega)
set_option maxHeartbeats 4000000 in
theorem does_pop (S : Nat → Prop) (g h n s : Nat) (rs : List (List Int)) (AV : Option Addr) (cV : Nat) (I : Int) (B : Option Addr) (cB : Nat) (row : List Int) (w : World) (r : Ring w g h n s rs) (hr : RwsIn S w (.slice AV rs.length cV) rs) (hS : ∀ b, S b → b < w.heap.size ∧ ¬ Two g h b) (ib : Ints w B row) (hrow : row.length ≤ 100) :
    Calls Try.prog 13 #[.pointer (some ⟨g, 0, none⟩), .agg #[.slice AV rs.length cV, .int .i64 n, .int .i64 s], .agg #[.int .i64 1, .int .i64 I, .slice B row.length cB]] w (RetDo S g h n s rs.tail w) := by
  have hR := r.room
  have R0 := Lib.hid r
  have L0 : Hid (Below w.heap.size w (((w.alloc (.cells #[.slice AV rs.length cV, .int .i64 n, .int .i64 s] 32)).alloc (.cells #[.int .i64 1, .int .i64 I, .slice B row.length cB] 35)).alloc (.cells #[.slice none 0 0, .int .i64 0, .int .i64 0] 32))) := Lib.hid ((((Below.refl _ w).alloc (Nat.le_refl _) _).alloc (by simp) _).alloc (by simp; omega) _)
  have B0 := Lib.hid (DoB.new w AV rs.length cV n s 1 I B row.length cB)
  have X0 := Lib.hid (hr.next L0.out)
  have I0 := Lib.hid (ib.below L0.out)
  have G0 := Lib.hid (r.next L0.out)
  have HS := Lib.hid (fun b hb => (hS b hb).1)
  have HT := Lib.hid (fun b hb => (hS b hb).2)
  have HTW := Lib.hid (two_lt r)
  have HS3 : Hid (∀ b, S b → b < (((w.alloc (.cells #[.slice AV rs.length cV, .int .i64 n, .int .i64 s] 32)).alloc (.cells #[.int .i64 1, .int .i64 I, .slice B row.length cB] 35)).alloc (.cells #[.slice none 0 0, .int .i64 0, .int .i64 0] 32)).heap.size) := Lib.hid (fun b hb => by have := (hS b hb).1; simp; omega)
  have Z0 : Hid ((((w.alloc (.cells #[.slice AV rs.length cV, .int .i64 n, .int .i64 s] 32)).alloc (.cells #[.int .i64 1, .int .i64 I, .slice B row.length cB] 35)).alloc (.cells #[.slice none 0 0, .int .i64 0, .int .i64 0] 32)).heap.size = w.heap.size + 1 + 1 + 1) := Lib.hid (by simp)
  obtain ⟨y, hy⟩ : ∃ y, rs.headD [] = y := ⟨_, rfl⟩
  obtain ⟨bb, hbb⟩ : ∃ bb, (!rs.isEmpty) = bb := ⟨_, rfl⟩
  obtain ⟨Q, hQ⟩ : ∃ Q, rs.tail = Q := ⟨_, rfl⟩
  have HY := Lib.hid hy
  have HB := Lib.hid hbb
  have HQ := Lib.hid hQ
  have RP := Lib.hid (rpop_any S n s rs AV cV _ X0.out HS3.out (by omega))
  rw [hQ]
  clear hy hbb hQ
  clear r hr hS ib
  go_enter Try.func13, Try.ntmps13
  go_wp2_with fail
  refine RP.out.mono ?_
  rintro r w4 ⟨x, A5, c5, rfl, hx, hi4, hym, hb4⟩
  rw [HY.out] at hi4 hym
  rw [HQ.out] at hx
  rw [HY.out, HB.out]
  obtain ⟨A4, c4, rfl, hx4⟩ := hx
  have KB := Lib.hid (below_new w4 (.cells #[.slice A4 Q.length c4, .int .i64 n, .int .i64 s] 32))
  have L5 := Lib.hid (below_next (below_next L0.out hb4) KB.out)
  have B5 := Lib.hid ((B0.out.next hb4).next KB.out)
  have X5 := Lib.hid (hx4.next KB.out)
  have I5 := Lib.hid (Seq.next hi4 KB.out)
  have G5 := Lib.hid ((G0.out.next hb4).next KB.out)
  have C5 := Lib.hid (Bk.new 32 w4 [.slice A4 Q.length c4, .int .i64 n, .int .i64 s])
  have Z5 := Lib.hid (show w.heap.size + 1 + 1 + 1 ≤ w4.heap.size by have := hb4.size; have := Z0.out; omega)
  clear hb4 hx4 RP KB hi4
  go_upto_region 7 with (fail)
  generalize hW : w4.alloc (.cells #[.slice A4 Q.length c4, .int .i64 n, .int .i64 s] 32) = w5 at *
  generalize hG : w4.heap.size = g8 at *
  clear hW hG
  have PO := Lib.hid (pop_any g h n s rs w5 G5.out)
  go_wp2_with fail
  refine PO.out.mono ?_
  rintro r w6 ⟨A7, c7, rfl, hi7, hlc7, hlm7, hr6, ht6⟩
  rw [HY.out] at hi7
  rw [HQ.out] at hr6
  rw [HY.out, HB.out]
  have R6 := Lib.hid hr6
  have T6 := Lib.hid ht6
  have B6 := Lib.hid (B5.out.turn T6.out HTW.out)
  have C6 := Lib.hid (C5.out.turn T6.out (fun h => by have := HTW.out _ h; have := Z5.out; omega))
  have I6 := Lib.hid (Seq.turn I5.out T6.out HT.out)
  obtain ⟨⟨e0, e1, e2⟩, ⟨e3, e4⟩, ⟨e5, e6, e7⟩, f0, f1, f2⟩ := DoB.cells B6.out
  obtain ⟨q0, q1, q2⟩ : w6.cell? ⟨g8, 0, none⟩ = some (.slice A4 Q.length c4) ∧ w6.cell? ⟨g8, 1, none⟩ = some (.int .i64 n) ∧ w6.cell? ⟨g8, 2, none⟩ = some (.int .i64 s) := ⟨C6.out.c 0, C6.out.c 1, C6.out.c 2⟩
  have NU := fun m => nums_any A5 c5 y A7 c7 y (w6.drewN m) hym hym (SInts.ints (l := y) I6.out) (SInts.ints (l := y) hi7)
  rw [show (decide (y = y)) = true from by simp] at NU
  have HNU := Lib.hid NU
  clear NU hr6 ht6 hi7 hlc7 hlm7 PO
  go_wp2_with fail
  go_region_with
    (first
      | (go_at_call 22; refine (HNU.out _).mono ?_; rintro r w8 ⟨rfl, m8, rfl⟩))
  all_goals
    go_wp2
    refine bodyPost_ret (v := .tuple #[.agg #[.slice A4 Q.length c4, .int .i64 n, .int .i64 s], .bool true]) (by simp [results, Try.results13, go_sem, e5, e6, e7]) rfl ?_
    have X6 : RwsIn (fun b => S b ∨ w.heap.size + 1 + 1 + 1 ≤ b) w6 (.slice A4 Q.length c4) Q := (X5.out.turn T6.out (fun b hb ht => by
      rcases hb with hb | hb
      · exact HT.out b hb ht
      · have := HTW.out b ht; have := Z0.out; omega)).mono (fun b hb => by
      rcases hb with hb | hb
      · exact .inl hb
      · exact .inr (by rw [← Z0.out]; exact hb))
    exact do_end R0.out HS.out X6 R6.out ((Turn.of_below _ L5.out).trans T6.out) _ _ _
end Go.Proofs.Ytocdejjkmfnnnaa.Rg
