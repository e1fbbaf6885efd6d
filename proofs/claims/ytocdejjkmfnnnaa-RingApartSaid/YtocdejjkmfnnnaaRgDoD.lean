/-
  What rifflelaw11.does tells of an At, and of any deed. Conditions: at most 64 rows, a row of at most 100 numbers.
-/
import Derived.Test.YtocdejjkmfnnnaaRgDoB
import Derived.Test.YtocdejjkmfnnnaaRgDoC
set_option maxRecDepth 100000
namespace Go.Proofs.Ytocdejjkmfnnnaa.Rg
open Go.Proofs.Ytocdejjkmfnnnaa.Sh Go.Proofs.Ytocdejjkmfnnnaa.St
open Go.RowKit
set_option linter.unusedVariables false

set_option maxHeartbeats 4000000 in
theorem does_at (S : Nat → Prop) (g h n s : Nat) (rs : List (List Int)) (AV : Option Addr) (cV : Nat) (K : Int) (I : Int) (B : Option Addr) (cB : Nat) (row : List Int) (w : World) (r : Ring w g h n s rs) (hr : RwsIn S w (.slice AV rs.length cV) rs) (hS : ∀ b, S b → b < w.heap.size ∧ ¬ Two g h b) (ib : Ints w B row) (hrow : row.length ≤ 100) (h0 : ¬ K = 0) (h1 : ¬ K = 1) :
    Calls Try.prog 13 #[.pointer (some ⟨g, 0, none⟩), .agg #[.slice AV rs.length cV, .int .i64 n, .int .i64 s], .agg #[.int .i64 K, .int .i64 I, .slice B row.length cB]] w (RetDo S g h n s rs w) := by
  have hR := r.room
  have R0 := Lib.hid r
  have L0 : Hid (Below w.heap.size w (((w.alloc (.cells #[.slice AV rs.length cV, .int .i64 n, .int .i64 s] 32)).alloc (.cells #[.int .i64 K, .int .i64 I, .slice B row.length cB] 35)).alloc (.cells #[.slice none 0 0, .int .i64 0, .int .i64 0] 32))) := Lib.hid ((((Below.refl _ w).alloc (Nat.le_refl _) _).alloc (by simp) _).alloc (by simp; omega) _)
  have B0 := Lib.hid (DoB.new w AV rs.length cV n s K I B row.length cB)
  have X0 := Lib.hid (hr.next L0.out)
  have I0 := Lib.hid (ib.below L0.out)
  have G0 := Lib.hid (r.next L0.out)
  have HS := Lib.hid (fun b hb => (hS b hb).1)
  have HT := Lib.hid (fun b hb => (hS b hb).2)
  have HTW := Lib.hid (two_lt r)
  have HS3 : Hid (∀ b, S b → b < (((w.alloc (.cells #[.slice AV rs.length cV, .int .i64 n, .int .i64 s] 32)).alloc (.cells #[.int .i64 K, .int .i64 I, .slice B row.length cB] 35)).alloc (.cells #[.slice none 0 0, .int .i64 0, .int .i64 0] 32)).heap.size) := Lib.hid (fun b hb => by have := (hS b hb).1; simp; omega)
  have Z0 : Hid ((((w.alloc (.cells #[.slice AV rs.length cV, .int .i64 n, .int .i64 s] 32)).alloc (.cells #[.int .i64 K, .int .i64 I, .slice B row.length cB] 35)).alloc (.cells #[.slice none 0 0, .int .i64 0, .int .i64 0] 32)).heap.size = w.heap.size + 1 + 1 + 1) := Lib.hid (by simp)
  obtain ⟨y, hy⟩ : ∃ y, atL rs I = y := ⟨_, rfl⟩
  obtain ⟨bb, hbb⟩ : ∃ bb, atB rs I = bb := ⟨_, rfl⟩
  have k0 : (K == 0) = false := by simpa using h0
  have k1 : (K == 1) = false := by simpa using h1
  have RP := Lib.hid (rat_any S n s rs AV cV I _ X0.out (by omega))
  have AT := fun W hW => at_any g h n s rs I W hW
  rw [hy, hbb] at RP AT
  have HAT := Lib.hid AT
  clear hy hbb h0 h1 AT
  clear r hr hS ib
  go_enter Try.func13, Try.ntmps13
  go_wp2_with fail
  refine RP.out.mono ?_
  rintro r w5 ⟨A5, c5, rfl, hi5, hym, hb5⟩
  have L5 := Lib.hid (below_next L0.out hb5)
  have B5 := Lib.hid (B0.out.next hb5)
  have X5 := Lib.hid (X0.out.next hb5)
  have I5 := Lib.hid hi5
  have G5 := Lib.hid (G0.out.next hb5)
  obtain ⟨⟨e0, e1, e2⟩, ⟨e3, e4⟩, ⟨e5, e6, e7⟩, f0, f1, f2⟩ := DoB.cells B5.out
  clear hb5 RP hi5
  go_wp2_with fail
  refine (HAT.out _ G5.out).mono ?_
  rintro r w6 ⟨A7, c7, rfl, hi7, hlc7, hlm7, hb6⟩
  have L6 := Lib.hid (below_next L5.out hb6)
  have R6 := Lib.hid (G5.out.next hb6)
  have B6 := Lib.hid (B5.out.next hb6)
  have X6 := Lib.hid (X5.out.next hb6)
  have I6 := Lib.hid (Seq.next I5.out hb6)
  clear e0 e1 e2 e3 e4 e5 e6 e7 f0 f1 f2
  obtain ⟨⟨e0, e1, e2⟩, ⟨e3, e4⟩, ⟨e5, e6, e7⟩, f0, f1, f2⟩ := DoB.cells B6.out
  have NU := fun m => nums_any A5 c5 y A7 c7 y (w6.drewN m) hym hym (SInts.ints (l := y) I6.out) (SInts.ints (l := y) hi7)
  rw [show (decide (y = y)) = true from by simp] at NU
  have HNU := Lib.hid NU
  clear NU hi7 hlc7 hlm7 hb6
  go_wp2_with fail
  go_region_with
    (first
      | (go_at_call 22; refine (HNU.out _).mono ?_; rintro r w8 ⟨rfl, m8, rfl⟩))
  all_goals
    go_wp2
    refine bodyPost_ret (v := .tuple #[.agg #[.slice AV rs.length cV, .int .i64 n, .int .i64 s], .bool true]) (by simp [results, Try.results13, go_sem, e5, e6, e7]) rfl ?_
    exact do_end R0.out HS.out (X6.out.mono (fun b hb => .inl hb)) R6.out (Turn.of_below _ L6.out) _ _ _
theorem does_any (S : Nat → Prop) (g h n s : Nat) (rs : List (List Int)) (AV : Option Addr) (cV : Nat) (d : Deed) (B : Option Addr) (cB : Nat) (w : World) (r : Ring w g h n s rs) (hr : RwsIn S w (.slice AV rs.length cV) rs) (hS : ∀ b, S b → b < w.heap.size ∧ ¬ Two g h b) (ib : Ints w B d.2.2) (hrow : d.2.2.length ≤ 100) :
    Calls Try.prog 13 #[.pointer (some ⟨g, 0, none⟩), .agg #[.slice AV rs.length cV, .int .i64 n, .int .i64 s], .agg #[.int .i64 d.1, .int .i64 d.2.1, .slice B d.2.2.length cB]] w (RetDo S g h n s (doL n s rs d) w) := by
  obtain ⟨K, I, row⟩ := d
  by_cases h0 : K = 0
  · subst h0
    exact does_push S g h n s rs AV cV I B cB row w r hr hS ib hrow
  · by_cases h1 : K = 1
    · subst h1
      exact does_pop S g h n s rs AV cV I B cB row w r hr hS ib hrow
    · have e : doL n s rs (K, I, row) = rs := by unfold doL; rw [if_neg h0, if_neg h1]
      rw [e]
      exact does_at S g h n s rs AV cV K I B cB row w r hr hS ib hrow h0 h1
end Go.Proofs.Ytocdejjkmfnnnaa.Rg
