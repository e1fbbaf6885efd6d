/-
  What riffleref08.put answers ahead of a place and behind it; nothing that was there is written. Condition: at most 100 axes, and the room of the place is one that can be.
-/
import Derived.Test.YticicfbllhnpcaaDoorFdRScan
set_option maxRecDepth 100000
namespace Go.Proofs.YticicfbllhnpcaaDoor.Fd
open Go.Proofs.YticicfbllhnpcaaDoor.Sh
open Go.RowKit
set_option linter.unusedVariables false

theorem one_newJ (w : World) (x : Int) : Ints (w.alloc (.cells #[.int .i64 x] 3)) (some ⟨w.heap.size, 0, none⟩) [x] := (MineT.new 3 w [x] 0 (Nat.zero_le _) (by unfold maxLen; simp)).ints'
set_option maxHeartbeats 4000000 in
theorem put_0 (C : Option Addr) (c3 : Nat) (p : List Int) (n : Nat) (q : List Int) (w : World) (hn : p.length = n) (hp : n ≤ 100) (hc : n ≤ c3) (hcm : c3 ≤ maxLen) (hq : 0 :: p = q) (ip : Ints w C p) :
    Calls Tryd.prog 66 #[.slice C n c3, .int .i64 0] w (RetInts w q) := by
  have IP := Lib.hid ip
  have HN := Lib.hid hn
  have HQ := Lib.hid hq
  clear ip hn hq
  unfold maxLen at hcm
  have a1 : (n : Int) ≤ (c3 : Int) := by omega
  have a2 : (0 : Int) ≤ (n : Int) := by omega
  go_enter Tryd.func66, Tryd.ntmps66
  go_wp2_with (at_builtin; first
    | (refine wpList_copyI numI Tryd.underlying24 rfl (.tmp 6) (.tmp 9) rfl rfl C c3 [] rfl (Ints.nil _ _) (by simp) ?_; intro B5 c5 w1 hm1 hb1; have M1 := Lib.hid hm1; have L1 := Lib.hid hb1; clear hm1 hb1)
    | (refine wpList_appI numI Tryd.underlying24 rfl (.tmp 11) (.tmp 12) rfl w.heap.size _ [] rfl (M1.out.alloc (.cells #[.int .i64 0] 3)) (some ⟨w1.heap.size, 0, none⟩) 1 [0] rfl (one_newJ w1 0) (by simp) (below_next L1.out (below_new w1 (.cells #[.int .i64 0] 3))).size ?_; intro V2 w2 hm2 hg2 ha2; have M2 := Lib.hid hm2; have L2 := Lib.hid ((below_next L1.out (below_new w1 (.cells #[.int .i64 0] 3))).grown hg2 (below_next L1.out (below_new w1 (.cells #[.int .i64 0] 3))).size (M1.out.alloc (.cells #[.int .i64 0] 3)).block); have I2 := Lib.hid (IP.out.below L2.out); clear hm2 hg2 ha2)
    | (refine wpList_appI numI Tryd.underlying24 rfl (.tmp 14) (.tmp 17) rfl w.heap.size V2 ([] ++ [0]) rfl M2.out C c3 p (by rw [HN.out]; rfl) I2.out (by rw [HN.out]; simp; omega) L2.out.size ?_; intro V3 w3 hm3 hg3 ha3; have M3 := Lib.hid hm3; have L3 := Lib.hid (L2.out.grown hg3 L2.out.size M2.out.block); clear hm3 hg3 ha3))
  obtain ⟨A3, c4, rfl, i3⟩ := M3.out.ints
  have e3 : [] ++ [0] ++ p = q := by rw [← HQ.out]; simp
  rw [e3] at i3 ⊢
  have I3 := Lib.hid i3
  clear i3 e3
  go_ret
  exact ⟨A3, c4, rfl, I3.out, L3.out⟩
set_option maxHeartbeats 4000000 in
theorem put_n (C : Option Addr) (c3 : Nat) (p : List Int) (n : Nat) (q : List Int) (w : World) (hn : p.length = n) (hp : n ≤ 100) (hc : n ≤ c3) (hcm : c3 ≤ maxLen) (hq : p ++ [0] = q) (ip : Ints w C p) :
    Calls Tryd.prog 66 #[.slice C n c3, .int .i64 (n : Int)] w (RetInts w q) := by
  have IP := Lib.hid ip
  have HN := Lib.hid hn
  have HQ := Lib.hid hq
  clear ip hn hq
  unfold maxLen at hcm
  have a1 : (n : Int) ≤ (c3 : Int) := by omega
  have a2 : (0 : Int) ≤ (n : Int) := by omega
  go_enter Tryd.func66, Tryd.ntmps66
  go_wp2_with (at_builtin; first
    | (refine wpList_copyI numI Tryd.underlying24 rfl (.tmp 6) (.tmp 9) rfl rfl C c3 p (by rw [HN.out]; rfl) IP.out (by rw [HN.out]; omega) ?_; intro B5 c5 w1 hm1 hb1; have M1 := Lib.hid hm1; have L1 := Lib.hid hb1; clear hm1 hb1)
    | (refine wpList_appI numI Tryd.underlying24 rfl (.tmp 11) (.tmp 12) rfl w.heap.size _ p rfl (M1.out.alloc (.cells #[.int .i64 0] 3)) (some ⟨w1.heap.size, 0, none⟩) 1 [0] rfl (one_newJ w1 0) (by rw [HN.out]; simp; omega) (below_next L1.out (below_new w1 (.cells #[.int .i64 0] 3))).size ?_; intro V2 w2 hm2 hg2 ha2; have M2 := Lib.hid hm2; have L2 := Lib.hid ((below_next L1.out (below_new w1 (.cells #[.int .i64 0] 3))).grown hg2 (below_next L1.out (below_new w1 (.cells #[.int .i64 0] 3))).size (M1.out.alloc (.cells #[.int .i64 0] 3)).block); have I2 := Lib.hid (IP.out.below L2.out); clear hm2 hg2 ha2)
    | (refine wpList_appI numI Tryd.underlying24 rfl (.tmp 14) (.tmp 17) rfl w.heap.size V2 (p ++ [0]) rfl M2.out _ _ [] rfl (Ints.nil _ _) (by simp [HN.out]; omega) L2.out.size ?_; intro V3 w3 hm3 hg3 ha3; have M3 := Lib.hid hm3; have L3 := Lib.hid (L2.out.grown hg3 L2.out.size M2.out.block); clear hm3 hg3 ha3))
  all_goals
    obtain ⟨A3, c4, rfl, i3⟩ := M3.out.ints
    have e3 : p ++ [0] ++ [] = q := by rw [← HQ.out]; simp
    rw [e3] at i3 ⊢
    have I3 := Lib.hid i3
    clear i3 e3
    go_ret
    exact ⟨A3, c4, rfl, I3.out, L3.out⟩
end Go.Proofs.YticicfbllhnpcaaDoor.Fd
