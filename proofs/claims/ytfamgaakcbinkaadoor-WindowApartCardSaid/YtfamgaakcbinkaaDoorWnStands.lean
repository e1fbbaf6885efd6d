/-
  rifflelaw15.stands is true where a window has what the document says; rifflelaw15.Great; rows that a law keeps. Conditions: at most 100 rows of the window's width.
-/
import Derived.Test.YtfamgaakcbinkaaDoorWnLives
set_option maxRecDepth 100000
namespace Go.Proofs.YtfamgaakcbinkaaDoor.Wn
open Go.Proofs.YtfamgaakcbinkaaDoor.Sh Go.Proofs.YtfamgaakcbinkaaDoor.St Go.Proofs.YtfamgaakcbinkaaDoor.Fd
open Go.RowKit
set_option linter.unusedVariables false

/-- A call as one step of a region that draws, behind a guard that says yes. -/
theorem step_callG {f : FuncId} {args : Array Value} {w : World} {o : Oper} {ops : Array Oper} {a : Act} {K : Act → World → Prop} {Q : Exit → Act → World → Prop} {E : Prop} {post : Ending → World → Prop} (hgd : Region.wanted o (yielded ops a.tmps) = true) (hrun : (execOp a.eval o).run Tryd.prog w = .ok (.enter f args) w) (hc : Calls Tryd.prog f args w post) (hp : ∀ e w', post e w' → ∃ v, e = .returned v) (h : ∀ v w', post (.returned v) w' → K (a.put o.dst v) w') : if Region.wanted o (yielded ops a.tmps) = true then Oper.wp Tryd.prog o a w K Q else E := by
  rw [if_pos hgd]
  unfold Oper.wp
  rw [hrun, Oper.upon_enter]
  exact hc.mono fun e w' h' => by obtain ⟨v, rfl⟩ := hp e w' h'; exact h v w' h'
/-- A window's terms as a value. -/
def ofV (c : Int) (s : Bool) (back look n : Int) : Value := .agg #[.int .i64 c, .bool s, .int .i64 back, .int .i64 look, .int .i64 n]
set_option maxHeartbeats 4000000 in
theorem stands_any (n₀ g : Nat) (V : Value) (c : Int) (s : Bool) (n : Nat) (X : Nat → Value) (T : Nat → Nat → Prop) (back look : Nat) (rs : List (List Int)) (told : Nat) (over : Bool) (S : Nat → Prop) (A : Option Addr) (cA : Nat) (w : World) (d : Wr n₀ w g V c s n X T back look rs told over) (hV : RwsIn S w (.slice A rs.length cA) rs) (hL : ∀ r ∈ rs, r.length = n) (hn : n ≤ 64) (hr : rs.length ≤ 100) (hb : back ≤ 31) :
    Calls Tryd.prog 31 #[.pointer (some ⟨g, 0, none⟩), .agg #[.int .i64 c, .bool s, .int .i64 (back : Nat), .int .i64 (look : Nat), .int .i64 (n : Nat)], .slice A rs.length cA, .int .i64 (told : Nat)] w fun e w' => e = .returned (.bool true) ∧ Below w.heap.size w w' := by
  have b0 := below_new w (.cells #[.int .i64 c, .bool s, .int .i64 (back : Nat), .int .i64 (look : Nat), .int .i64 (n : Nat)] 45)
  have L0 := Lib.hid b0
  have BX := Lib.hid (Bk.new 45 w [.int .i64 c, .bool s, .int .i64 (back : Nat), .int .i64 (look : Nat), .int .i64 (n : Nat)])
  have d1 := (d.next b0).next (Below.refl _ _).drew
  have HV := Lib.hid ((hV.next b0).next (Below.refl _ _).drew)
  have CM := Lib.hid (came_any n₀ g V c s (back + look + 1) n X rs.length (held rs (gone told back)) T back look rs.length told over _ d1.1)
  have TL := Lib.hid (told_any n₀ g V c s (back + look + 1) n X rs.length (held rs (gone told back)) T back look rs.length told over _ d1.1)
  have WD := Lib.hid (words_w n₀ g V c s n X T back look rs told over _ d1 hn)
  have h1 := d.2.1
  have HR := Lib.hid (fun W (h : RwsIn S W (.slice A rs.length cA) rs) => rwords_any c s S A cA rs n told back (gone told back) W h hL hn hr (by omega) hb rfl (by unfold gone; omega))
  obtain ⟨N, hN⟩ : ∃ N, totN c n (rs.drop (gone told back)) = N := ⟨_, rfl⟩
  rw [hN] at WD HR
  clear b0 d d1 hV hN hL
  go_enter Tryd.func31, Tryd.ntmps31
  go_wp2_with fail
  generalize hW1 : w.alloc (.cells #[.int .i64 c, .bool s, .int .i64 (back : Nat), .int .i64 (look : Nat), .int .i64 (n : Nat)] 45) = w1 at *
  clear hW1
  have S0 := Lib.hid (show w1.drew.cell? ⟨w.heap.size, 0, none⟩ = some (.int .i64 c) ∧ w1.drew.cell? ⟨w.heap.size, 1, none⟩ = some (.bool s) ∧ w1.drew.cell? ⟨w.heap.size, 2, none⟩ = some (.int .i64 (back : Nat)) ∧ w1.drew.cell? ⟨w.heap.size, 4, none⟩ = some (.int .i64 (n : Nat)) from ⟨BX.out.c 0, BX.out.c 1, BX.out.c 2, BX.out.c 4⟩)
  go_region_held3 (fun w' => w'.cell? ⟨w.heap.size, 0, none⟩ = some (.int .i64 c) ∧ w'.cell? ⟨w.heap.size, 1, none⟩ = some (.bool s) ∧ w'.cell? ⟨w.heap.size, 2, none⟩ = some (.int .i64 (back : Nat)) ∧ w'.cell? ⟨w.heap.size, 4, none⟩ = some (.int .i64 (n : Nat)))
    (first
      | with_reducible exact KK.out
      | with_reducible exact S0.out
      | go_keep)
    (first
      | (go_at_call 33; (with_reducible refine (CM.out).mono ?_); rintro r w5 ⟨rfl, rfl⟩)
      | (go_at_call 34; (with_reducible refine (TL.out).mono ?_); rintro r w6 ⟨rfl, rfl⟩)
      | (go_at_call 35; (with_reducible refine (WD.out).mono ?_); rintro r w7 ⟨rfl, hb7⟩; have B7 := Lib.hid (below_next (Below.refl w1.heap.size w1).drew hb7); have RW := Lib.hid (HR.out w7 (HV.out.next hb7)); have X7 := Lib.hid (BX.out.next B7.out); have KK := Lib.hid (show w7.cell? ⟨w.heap.size, 0, none⟩ = some (.int .i64 c) ∧ w7.cell? ⟨w.heap.size, 1, none⟩ = some (.bool s) ∧ w7.cell? ⟨w.heap.size, 2, none⟩ = some (.int .i64 (back : Nat)) ∧ w7.cell? ⟨w.heap.size, 4, none⟩ = some (.int .i64 (n : Nat)) from ⟨X7.out.c 0, X7.out.c 1, X7.out.c 2, X7.out.c 4⟩); clear hb7)
      | (go_at_call 76; (with_reducible refine (RW.out).mono ?_); rintro r w8 ⟨rfl, hb8⟩; have B8 := Lib.hid (below_next B7.out hb8); have X8 := Lib.hid (BX.out.next B8.out); have KK := Lib.hid (show w8.cell? ⟨w.heap.size, 0, none⟩ = some (.int .i64 c) ∧ w8.cell? ⟨w.heap.size, 1, none⟩ = some (.bool s) ∧ w8.cell? ⟨w.heap.size, 2, none⟩ = some (.int .i64 (back : Nat)) ∧ w8.cell? ⟨w.heap.size, 4, none⟩ = some (.int .i64 (n : Nat)) from ⟨X8.out.c 0, X8.out.c 1, X8.out.c 2, X8.out.c 4⟩); clear hb8))
  all_goals
    go_wp2
    go_ret
    exact ⟨by simp, below_next L0.out B8.out⟩
end Go.Proofs.YtfamgaakcbinkaaDoor.Wn
