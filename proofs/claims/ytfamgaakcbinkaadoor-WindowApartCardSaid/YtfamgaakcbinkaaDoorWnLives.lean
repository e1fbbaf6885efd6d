/-
  rifflelaw15.lives is true, and rifflelaw15.stands where a window has what the document says. Conditions: the table of traits holds what its text lays.
-/
import Derived.Test.YtfamgaakcbinkaaDoorWnSt
set_option maxRecDepth 100000
namespace Go.Proofs.YtfamgaakcbinkaaDoor.Wn
open Go.Proofs.YtfamgaakcbinkaaDoor.Sh Go.Proofs.YtfamgaakcbinkaaDoor.St Go.Proofs.YtfamgaakcbinkaaDoor.Fd
open Go.RowKit
set_option linter.unusedVariables false

theorem keep_ap {w : World} {base k : Nat} {v : Value} {xs : List Value} {e : TypeId} {g n : Nat} {V : Value} {T T' : Nat → Nat → Prop} (m : w.ownsRow base e 1 v k xs) (ap : ∀ b, v.ownBlock = some b → ¬ Tw g V n T b) (f : ∀ b, All n T' b → All n T b ∨ w.heap.size ≤ b) : ∀ b, v.ownBlock = some b → ¬ Tw g V n T' b := fun b hb ht => by
  have hl := own_lt m b hb
  rcases ht with h | h | h
  · exact ap b hb (.inl h)
  · exact ap b hb (.inr (.inl h))
  · rcases f b h with k | k
    · exact ap b hb (.inr (.inr k))
    · omega
theorem lit_ap {w : World} {n₀ g : Nat} {V : Value} {c : Int} {s : Bool} {n : Nat} {X : Nat → Value} {T : Nat → Nat → Prop} {back look : Nat} {rs : List (List Int)} {told : Nat} {over : Bool} (d : Wr n₀ w g V c s n X T back look rs told over) (o : Obj) : ∀ b, b = w.heap.size → b < (w.alloc o).heap.size ∧ ¬ Tw g V n T b := fun b hb => ⟨by subst hb; simp, fun ht => by have := (d.lt b ht).1; omega⟩
set_option maxHeartbeats 8000000 in
theorem lives_any (w : World) (hT : Sc.Tab w) (h0 : 0 < w.heap.size) : Calls Tryd.prog 24 #[] w fun e w' => e = .returned (.bool true) ∧ Below w.heap.size w w' := by
  have NW := Lib.hid (show Calls Tryd.prog 22 #[.agg #[.int .i64 1, .bool false], .int .i64 1, .int .i64 1, .int .i64 1] w (RetNew 1 false 1 1 1 w) from new_yes 1 false 1 1 1 w h0 hT (by omega) (by decide) (by omega))
  have LA := Lib.hid live_ans
  have H2 := Lib.hid (show Sc.hasB 1 2 = true by decide)
  clear hT h0
  go_enter Tryd.func24, Tryd.ntmps24
  go_wp2_with fail
  refine NW.out.mono ?_
  rintro r w1 ⟨g, V, X, T1, rfl, d1, hb1⟩
  have D1 := Lib.hid (new_w d1)
  have L1 := Lib.hid hb1
  have b2 := below_new w1 (.cells #[.int .i64 1] 2)
  have L2 := Lib.hid (below_next hb1 b2)
  have D2 := Lib.hid (D1.out.next b2)
  have P2 := Lib.hid (push_w_wait w.heap.size g V 1 false 1 X T1 1 1 [] 0 (fun b => b = w1.heap.size) (some ⟨w1.heap.size, 0, none⟩) 1 [1] (w1.alloc (.cells #[.int .i64 1] 2)) D2.out (lit_seq w1 [1] (by unfold maxLen; simp)) (lit_ap D1.out _) rfl (allR_lit (by simp)) (by omega) (by simp) (by simp))
  clear d1 hb1 b2
  go_wp2_with fail
  refine P2.out.mono ?_
  rintro r w3 ⟨rfl, T3, d3, t3, f3⟩
  have D3 := Lib.hid d3
  have L3 := Lib.hid (wr_below L2.out (Nat.le_refl _) D2.out t3)
  have b4 := below_new w3 (.cells #[.int .i64 2] 2)
  have L4 := Lib.hid (below_next L3.out b4)
  have D4 := Lib.hid (d3.next b4)
  have P4 := Lib.hid (push_w_due w.heap.size g V 1 false 1 X T3 1 1 ([] ++ [[1]]) 0 (fun b => b = w3.heap.size) (some ⟨w3.heap.size, 0, none⟩) 1 [2] (w3.alloc (.cells #[.int .i64 2] 2)) D4.out (lit_seq w3 [2] (by unfold maxLen; simp)) (lit_ap D3.out _) rfl (allR_lit (by simp)) H2.out (by omega) (by simp) (by simp) [3] LA.out.1)
  clear d3 t3 f3 b4 P2 D1 D2 D3
  go_wp2_with fail
  refine P4.out.mono ?_
  rintro r w5 ⟨A5, c5, rfl, m5, T5, d5, t5, f5, ap5⟩
  have D5 := Lib.hid d5
  have L5 := Lib.hid (wr_below L4.out (Nat.le_refl _) D4.out t5)
  have b6 := below_new w5 (.cells #[.int .i64 4] 2)
  have L6 := Lib.hid (below_next L5.out b6)
  have D6 := Lib.hid (d5.next b6)
  have M5 := Lib.hid (own_below m5 b6)
  have AP5 := Lib.hid ap5
  have P6 := Lib.hid (push_w_due w.heap.size g V 1 false 1 X T5 1 1 ([] ++ [[1]] ++ [[2]]) 1 (fun b => b = w5.heap.size) (some ⟨w5.heap.size, 0, none⟩) 1 [4] (w5.alloc (.cells #[.int .i64 4] 2)) D6.out (lit_seq w5 [4] (by unfold maxLen; simp)) (lit_ap D5.out _) rfl (allR_lit (by simp)) H2.out (by omega) (by simp) (by simp) [7] LA.out.2.1)
  clear d5 t5 f5 b6 m5 ap5 P4 D4 D5
  go_wp2_with fail
  refine P6.out.mono ?_
  rintro r w7 ⟨A7, c7, rfl, m7, T7, d7, t7, f7, ap7⟩
  have D7 := Lib.hid d7
  have L7 := Lib.hid (wr_below L6.out (Nat.le_refl _) D6.out t7)
  have N5 := Lib.hid (own_turn M5.out t7 AP5.out)
  have AQ5 := Lib.hid (keep_ap M5.out AP5.out f7)
  have M7 := Lib.hid m7
  have AP7 := Lib.hid ap7
  have P8 := Lib.hid (drain_w_some w.heap.size g V 1 false 1 X T7 1 1 ([] ++ [[1]] ++ [[2]] ++ [[4]]) 2 false w7 d7 H2.out (by omega) (by simp) (by simp) [6] LA.out.2.2)
  clear d7 t7 f7 m7 ap7 P6 D6 M5 AP5
  go_wp2_with fail
  refine P8.out.mono ?_
  rintro r w9 ⟨A9, c9, rfl, m9, T9, d9, t9, f9, ap9⟩
  have L9 := Lib.hid (wr_below L7.out (Nat.le_refl _) D7.out t9)
  have R5 := Lib.hid (own_turn N5.out t9 AQ5.out)
  have AR5 := Lib.hid (keep_ap N5.out AQ5.out f9)
  have R7 := Lib.hid (own_turn M7.out t9 AP7.out)
  have AR7 := Lib.hid (keep_ap M7.out AP7.out f9)
  have M9 := Lib.hid m9
  have AP9 := Lib.hid ap9
  have D9 := Lib.hid d9
  have P10 := Lib.hid (drain_w_none w.heap.size g V 1 false 1 X T9 1 1 ([] ++ [[1]] ++ [[2]] ++ [[4]]) 3 true w9 d9 (by simp))
  clear d9 t9 f9 m9 ap9 P8 D7 N5 AQ5 M7 AP7
  go_wp2_with fail
  refine P10.out.mono ?_
  rintro r w11 ⟨rfl, d11, t11⟩
  have tw : Turn (Tw g V 1 T9) w9 w11 := t11.mono fun b k => .inl k
  have L11 := Lib.hid (wr_below L9.out (Nat.le_refl _) D9.out tw)
  have Q5 := Lib.hid (own_turn R5.out tw AR5.out)
  have Q7 := Lib.hid (own_turn R7.out tw AR7.out)
  have Q9 := Lib.hid (own_turn M9.out tw AP9.out)
  have b12 := below_new w11 (.cells #[.int .i64 3] 2)
  have N12 := Lib.hid (nums_same A5 c5 [3] (some ⟨w11.heap.size, 0, none⟩) 1 (w11.alloc (.cells #[.int .i64 3] 2)) (by unfold maxLen; simp) (MineT.ints' (own_below Q5.out b12)) (lit_seq w11 [3] (by unfold maxLen; simp)).ints)
  have L12 := Lib.hid (below_next L11.out b12)
  have S7 := Lib.hid (own_below Q7.out b12)
  have S9 := Lib.hid (own_below Q9.out b12)
  clear d11 t11 tw b12 P10 R5 R7 M9 AR5 AR7 AP9 D9
  go_wp2_with fail
  refine N12.out.mono ?_
  rintro r w13 ⟨rfl, hb13⟩
  have b14 := below_new w13 (.cells #[.int .i64 7] 2)
  have N14 := Lib.hid (nums_same A7 c7 [7] (some ⟨w13.heap.size, 0, none⟩) 1 (w13.alloc (.cells #[.int .i64 7] 2)) (by unfold maxLen; simp) (MineT.ints' (own_below (own_below S7.out hb13) b14)) (lit_seq w13 [7] (by unfold maxLen; simp)).ints)
  have L14 := Lib.hid (below_next (below_next L12.out hb13) b14)
  have U9 := Lib.hid (own_below (own_below S9.out hb13) b14)
  clear hb13 b14
  go_wp2_with fail
  refine N14.out.mono ?_
  rintro r w15 ⟨rfl, hb15⟩
  have b16 := below_new w15 (.cells #[.int .i64 6] 2)
  have N16 := Lib.hid (nums_same A9 c9 [6] (some ⟨w15.heap.size, 0, none⟩) 1 (w15.alloc (.cells #[.int .i64 6] 2)) (by unfold maxLen; simp) (MineT.ints' (own_below (own_below U9.out hb15) b16)) (lit_seq w15 [6] (by unfold maxLen; simp)).ints)
  have L16 := Lib.hid (below_next (below_next L14.out hb15) b16)
  clear hb15 b16
  go_wp2_with fail
  refine N16.out.mono ?_
  rintro r w17 ⟨rfl, hb17⟩
  have L17 := Lib.hid (below_next L16.out hb17)
  clear hb17
  go_wp2
  go_ret
  exact ⟨rfl, L17.out⟩
end Go.Proofs.YtfamgaakcbinkaaDoor.Wn
