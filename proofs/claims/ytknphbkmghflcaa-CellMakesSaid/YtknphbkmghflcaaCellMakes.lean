/-
  Proved: for any axes and any numbers rifflelaw03.CellMakes returns true, and each argument reads afterwards as it read before. No condition.
-/
import Derived.Test.YtknphbkmghflcaaRows
import Derived.Test.YtknphbkmghflcaaShapeRow
import Derived.Test.YtknphbkmghflcaaCellLives
import Derived.WalkKit
import Derived.Deep.DeepCutAuto
import Derived.ProofKit
import Derived.OpenShut
import Derived.ChangeOld
import Derived.Below
namespace Go.Proofs.Ytknphbkmghflcaa.cellMakes
open Go.Proofs.Ytknphbkmghflcaa.Sh
open Go.ChangeShapes Go.WideShapes Go.ChangeAt Go.RowKit
set_option linter.unusedVariables false

theorem rsame_refl (A : Option Addr) (c : Nat) (d : List Int) (B : Option Addr) (c2 : Nat) (v : List Int) (A' : Option Addr) (c' : Nat) (B' : Option Addr) (c2' : Nat) (w : World)
    (hd : d.length ≤ 1000) (hv : v.length ≤ 1000) (id : Ints w A d) (iv : Ints w B v) (ie : Ints w A' d) (iu : Ints w B' v) :
    Calls Try.prog 16 #[.agg #[.slice A d.length c, .slice B v.length c2], .agg #[.slice A' d.length c', .slice B' v.length c2']] w fun r w' => r = .returned (.bool true) ∧ Below w.heap.size w w' := by
  refine (rsame_any A c d B c2 v A' c' d B' c2' v w (by unfold maxLen; omega) (by unfold maxLen; omega) (by unfold maxLen; omega) (by unfold maxLen; omega) id iv ie iu).mono ?_
  rintro r w' ⟨rfl, hb⟩
  exact ⟨by simp [sameB], hb⟩
theorem zeroD_len (d : List Int) : (zeroD d).length ≤ d.length := by unfold zeroD; split <;> simp
theorem zeroV_len (d : List Int) : (zeroV d).length ≤ 64 := by
  unfold zeroV sizeI
  split
  · rename_i h
    have := (rightB_all h).2.2
    simp; omega
  · simp
theorem own : ownKnob Try.prog.godebug = none := by kernel_rfl
theorem laidOut : laidOutB Try.prog = true := by kernel_rfl

set_option maxHeartbeats 4000000 in
set_option maxRecDepth 100000 in
theorem makes1 (A : Option Addr) (c : Nat) (d : List Int) (B : Option Addr) (c2 : Nat) (v : List Int) (w : World) (hd : d.length ≤ 10) (hv : v.length ≤ 200) (id : Ints w A d) (iv : Ints w B v) (hr : rightB d = true) (hn : (v.length : Int) = sizeI d) (hbg : v.length ≤ 64) :
    Calls Try.prog 4 #[.slice A d.length c, .slice B v.length c2] w fun r w' => r = .returned (.bool true) ∧ Below w.heap.size w w' := by
  have ID := Lib.hid id
  have IV := Lib.hid iv
  clear id iv
  have HR := Lib.hid hr
  have HN := Lib.hid hn
  have hq : ((v.length : Int) == sizeI d) = true := by simpa using hn
  clear hr hn
  have hw0 : Below w.heap.size w (w.alloc (.cells #[.slice none 0 0, .slice none 0 0] 25)) := below_box (Below.refl _ _)
  have I0 := Lib.hid (ID.out.below hw0)
  clear hw0
  go_enter Try.func4, Try.ntmps4
  go_wp2_with fail
  refine (refRight_yes _ _ d _ HR.out (by unfold maxLen; omega) I0.out).mono ?_
  rintro r w1 ⟨rfl, rfl⟩
  go_wp2_with fail
  refine (refSize_any _ _ d _ (by unfold maxLen; omega) I0.out).mono ?_
  rintro r w1 ⟨rfl, rfl⟩
  go_wp2_with fail
  have B5 := Lib.hid (Box.new w (.slice A d.length c) (.slice B v.length c2))
  have L0 := Lib.hid (below_box (Below.refl (w.alloc (.cells #[.slice A d.length c, .slice B v.length c2] 25)).heap.size _))
  have X5 : Hid (w.heap.size < (w.alloc (.cells #[.slice A d.length c, .slice B v.length c2] 25)).heap.size) := Lib.hid (by simp)
  generalize w.alloc (.cells #[.slice A d.length c, .slice B v.length c2] 25) = W0 at *
  refine (of_yes _ _ d _ _ v _ (by omega) (by omega) (ID.out.below L0.out) (IV.out.below L0.out) HR.out HN.out).mono ?_
  rintro r w2 ⟨x, rfl, ⟨A7, c7, B7, e7, rfl, j1, j2, j3⟩, hb2⟩
  have L2 := Lib.hid (below_next L0.out hb2)
  have B52 := Lib.hid (B5.out.next hb2)
  have P7 := Lib.hid j1.ints
  have Q7 := Lib.hid j2.ints
  clear hb2 j1 j2 j3
  go_wp2_with fail
  have K7 := Lib.hid (Box.new w2 (.slice A7 d.length c7) (.slice B7 v.length e7))
  have L3 := Lib.hid (L2.out.alloc L2.out.size (.cells #[.slice A7 d.length c7, .slice B7 v.length e7] 25))
  have B53 := Lib.hid (B52.out.alloc (.cells #[.slice A7 d.length c7, .slice B7 v.length e7] 25))
  have P73 := Lib.hid (P7.out.below (below_box (Below.refl (w2.alloc (.cells #[.slice A7 d.length c7, .slice B7 v.length e7] 25)).heap.size _)))
  have Q73 := Lib.hid (Q7.out.below (below_box (Below.refl (w2.alloc (.cells #[.slice A7 d.length c7, .slice B7 v.length e7] 25)).heap.size _)))
  generalize w2.alloc (.cells #[.slice A7 d.length c7, .slice B7 v.length e7] 25) = W3 at *
  generalize w2.heap.size = g7 at *
  refine (list_ok _ _ v _ hbg (IV.out.below L3.out)).mono ?_
  rintro r w4 ⟨x, rfl, ⟨A9, c9, B9, e9, rfl, j1, j2, j3⟩, hb4⟩
  have L4 := Lib.hid (below_next L3.out hb4)
  have B54 := Lib.hid (B53.out.next hb4)
  have K74 := Lib.hid (K7.out.next hb4)
  have P74 := Lib.hid (P73.out.below hb4)
  have Q74 := Lib.hid (Q73.out.below hb4)
  have P9 := Lib.hid j1.ints
  have Q9 := Lib.hid j2.ints
  clear hb4 j1 j2 j3
  go_upto_region 14 with (fail)
  have z1 : (w4.alloc (.cells #[.slice A9 1 c9, .slice B9 v.length e9] 25)).heap.size = w4.heap.size + 1 := by simp
  have z2 : ((w4.alloc (.cells #[.slice A9 1 c9, .slice B9 v.length e9] 25)).alloc (.cells #[.int .i64 (v.length : Int)] 3)).heap.size = w4.heap.size + 1 + 1 := by simp
  have hB : Below w4.heap.size w4 (((w4.alloc (.cells #[.slice A9 1 c9, .slice B9 v.length e9] 25)).alloc (.cells #[.int .i64 (v.length : Int)] 3)).alloc (.cells #[.slice (some ⟨w4.heap.size + 1, 0, none⟩) 1 1, .slice B v.length c2] 25)) := below_box (below_box (below_box (Below.refl _ _)))
  have K9 := Lib.hid (((Box.new w4 (.slice A9 1 c9) (.slice B9 v.length e9)).alloc (.cells #[.int .i64 (v.length : Int)] 3)).alloc (.cells #[.slice (some ⟨w4.heap.size + 1, 0, none⟩) 1 1, .slice B v.length c2] 25))
  have hK11 := Box.new ((w4.alloc (.cells #[.slice A9 1 c9, .slice B9 v.length e9] 25)).alloc (.cells #[.int .i64 (v.length : Int)] 3)) (.slice (some ⟨w4.heap.size + 1, 0, none⟩) 1 1) (.slice B v.length c2)
  have hI11 := (Own.new (w4.alloc (.cells #[.slice A9 1 c9, .slice B9 v.length e9] 25)) [(v.length : Int)]).alloc (.cells #[.slice (some ⟨w4.heap.size + 1, 0, none⟩) 1 1, .slice B v.length c2] 25)
  rw [z2] at hK11
  rw [z1] at hI11
  have K11 := Lib.hid hK11
  have I11 := Lib.hid (show Ints (((w4.alloc (.cells #[.slice A9 1 c9, .slice B9 v.length e9] 25)).alloc (.cells #[.int .i64 (v.length : Int)] 3)).alloc (.cells #[.slice (some ⟨w4.heap.size + 1, 0, none⟩) 1 1, .slice B v.length c2] 25)) (some ⟨w4.heap.size + 1, 0, none⟩) [(v.length : Int)] from hI11.ints)
  have L5 := Lib.hid (below_next L4.out hB)
  have B55 := Lib.hid (B54.out.next hB)
  have K75 := Lib.hid (K74.out.next hB)
  have P75 := Lib.hid (P74.out.below hB)
  have Q75 := Lib.hid (Q74.out.below hB)
  have P95 := Lib.hid (P9.out.below hB)
  have Q95 := Lib.hid (Q9.out.below hB)
  clear z1 z2 hB hK11 hI11
  generalize ((w4.alloc (.cells #[.slice A9 1 c9, .slice B9 v.length e9] 25)).alloc (.cells #[.int .i64 (v.length : Int)] 3)).alloc (.cells #[.slice (some ⟨w4.heap.size + 1, 0, none⟩) 1 1, .slice B v.length c2] 25) = W5 at *
  generalize w4.heap.size + 1 + 1 = g11 at *
  generalize w4.heap.size + 1 = g10 at *
  generalize w4.heap.size = g9 at *
  obtain ⟨b0, b1, _, _⟩ := B55.out.all
  obtain ⟨k0, k1, _, _⟩ := K75.out.all
  go_wp2_with fail
  refine (rsame_refl _ _ d _ _ v _ _ _ _ _ (by omega) (by omega) P75.out Q75.out (ID.out.below L5.out) (IV.out.below L5.out)).mono ?_
  rintro r w6 ⟨rfl, hb6⟩
  have L6 := Lib.hid (below_next L5.out hb6)
  have K96 := Lib.hid (K9.out.next hb6)
  have K116 := Lib.hid (K11.out.next hb6)
  have P96 := Lib.hid (P95.out.below hb6)
  have Q96 := Lib.hid (Q95.out.below hb6)
  have I116 := Lib.hid (I11.out.below hb6)
  obtain ⟨k0, k1, _, _⟩ := K96.out.all
  obtain ⟨b0, b1, _, _⟩ := K116.out.all
  clear hb6
  go_wp2_with fail
  refine (rsame_refl _ _ [(v.length : Int)] _ _ v _ _ _ _ _ (by simp) (by omega) P96.out Q96.out I116.out (IV.out.below L6.out)).mono ?_
  rintro r w7 ⟨rfl, hb7⟩
  have L7 := Lib.hid (below_next L6.out hb7)
  clear hb7 B55 K75 K9 K11 K96 K116 P75 Q75 P95 Q95 P96 Q96 I11 I116 L6 L5
  go_wp2_with fail
  refine (zero_any _ _ d _ (by omega) (ID.out.below L7.out)).mono ?_
  rintro r w8 ⟨x, rfl, ⟨A1, c1, B1, e1, rfl, j1, j2, j3⟩, hb8⟩
  have L8 := Lib.hid (below_next L7.out hb8)
  have P1 := Lib.hid j1.ints
  have Q1 := Lib.hid j2.ints
  clear hb8 j1 j2 j3
  go_wp2_with fail
  refine (rzero_any _ _ d _ (by omega) (ID.out.below L8.out)).mono ?_
  rintro r w9 ⟨x, rfl, ⟨A2, c4, B2, e2, rfl, j1, j2, j3⟩, hb9⟩
  have L9 := Lib.hid (below_next L8.out hb9)
  have P1' := Lib.hid (P1.out.below hb9)
  have Q1' := Lib.hid (Q1.out.below hb9)
  have P2 := Lib.hid j1.ints
  have Q2 := Lib.hid j2.ints
  clear hb9 j1 j2 j3
  go_wp2_with fail
  refine (rsame_refl _ _ (zeroD d) _ _ (zeroV d) _ _ _ _ _ (Nat.le_trans (zeroD_len d) (by omega)) (Nat.le_trans (zeroV_len d) (by omega)) P1'.out Q1'.out P2.out Q2.out).mono ?_
  rintro r w10 ⟨rfl, hb10⟩
  have L10 := Lib.hid (below_next L9.out hb10)
  clear hb10
  go_wp2_with fail
  refine (scalar_any _ _).mono ?_
  rintro r w11 ⟨x, rfl, ⟨A3, c5, B3, e3, rfl, j1, j2, j3⟩, hb11⟩
  have L11 := Lib.hid (below_next L10.out hb11)
  have P3 := Lib.hid j1.ints
  have Q3 := Lib.hid j2.ints
  clear hb11 j1 j2 j3
  go_wp2_with fail
  refine (rscalar_any _ _).mono ?_
  rintro r w12 ⟨x, rfl, ⟨A4, c6, B4, e4, rfl, j1, j2, j3⟩, hb12⟩
  have L12 := Lib.hid (below_next L11.out hb12)
  have P3' := Lib.hid (P3.out.below hb12)
  have Q3' := Lib.hid (Q3.out.below hb12)
  have P4 := Lib.hid j1.ints
  have Q4 := Lib.hid j2.ints
  clear hb12 j1 j2 j3
  go_wp2_with fail
  refine (rsame_refl _ _ [] _ _ [(d.length : Int)] _ _ _ _ _ (by simp) (by simp) P3'.out Q3'.out P4.out Q4.out).mono ?_
  rintro r w13 ⟨rfl, hb13⟩
  have L13 := Lib.hid (below_next L12.out hb13)
  clear hb13
  go_wp2_with fail
  refine (lives_any _).mono ?_
  rintro r w14 ⟨rfl, hb14⟩
  have L14 := Lib.hid (below_next L13.out hb14)
  clear hb14
  go_wp2
  go_ret
  exact ⟨rfl, L14.out⟩

set_option maxHeartbeats 4000000 in
set_option maxRecDepth 100000 in
theorem makes2 (A : Option Addr) (c : Nat) (d : List Int) (B : Option Addr) (c2 : Nat) (v : List Int) (w : World) (hd : d.length ≤ 10) (hv : v.length ≤ 200) (id : Ints w A d) (iv : Ints w B v) (hr : rightB d = true) (hn : ¬ (v.length : Int) = sizeI d) (hbg : v.length ≤ 64) :
    Calls Try.prog 4 #[.slice A d.length c, .slice B v.length c2] w fun r w' => r = .returned (.bool true) ∧ Below w.heap.size w w' := by
  have ID := Lib.hid id
  have IV := Lib.hid iv
  clear id iv
  have HR := Lib.hid hr
  have HN := Lib.hid hn
  have hq : ((v.length : Int) == sizeI d) = false := by simpa using hn
  clear hr hn
  have hw0 : Below w.heap.size w (w.alloc (.cells #[.slice none 0 0, .slice none 0 0] 25)) := below_box (Below.refl _ _)
  have I0 := Lib.hid (ID.out.below hw0)
  clear hw0
  go_enter Try.func4, Try.ntmps4
  go_wp2_with fail
  refine (refRight_yes _ _ d _ HR.out (by unfold maxLen; omega) I0.out).mono ?_
  rintro r w1 ⟨rfl, rfl⟩
  go_wp2_with fail
  refine (refSize_any _ _ d _ (by unfold maxLen; omega) I0.out).mono ?_
  rintro r w1 ⟨rfl, rfl⟩
  go_wp2_with fail
  have B5 := Lib.hid (Box.new w (.slice none 0 0) (.slice none 0 0))
  have L0 := Lib.hid (below_box (Below.refl (w.alloc (.cells #[.slice none 0 0, .slice none 0 0] 25)).heap.size _))
  have X5 : Hid (w.heap.size < (w.alloc (.cells #[.slice none 0 0, .slice none 0 0] 25)).heap.size) := Lib.hid (by simp)
  generalize w.alloc (.cells #[.slice none 0 0, .slice none 0 0] 25) = W0 at *
  refine (of_no3 _ _ d _ _ v _ (by omega) (by omega) (ID.out.below L0.out) (IV.out.below L0.out) HR.out HN.out).mono ?_
  rintro r w2 ⟨x, rfl, ⟨A7, c7, B7, e7, rfl, j1, j2, j3⟩, hb2⟩
  have L2 := Lib.hid (below_next L0.out hb2)
  have B52 := Lib.hid (B5.out.next hb2)
  have P7 := Lib.hid j1.ints
  have Q7 := Lib.hid j2.ints
  clear hb2 j1 j2 j3
  go_wp2_with fail
  have K7 := Lib.hid (Box.new w2 (.slice A7 0 c7) (.slice B7 0 e7))
  have L3 := Lib.hid (L2.out.alloc L2.out.size (.cells #[.slice A7 0 c7, .slice B7 0 e7] 25))
  have B53 := Lib.hid (B52.out.alloc (.cells #[.slice A7 0 c7, .slice B7 0 e7] 25))
  have P73 := Lib.hid (P7.out.below (below_box (Below.refl (w2.alloc (.cells #[.slice A7 0 c7, .slice B7 0 e7] 25)).heap.size _)))
  have Q73 := Lib.hid (Q7.out.below (below_box (Below.refl (w2.alloc (.cells #[.slice A7 0 c7, .slice B7 0 e7] 25)).heap.size _)))
  generalize w2.alloc (.cells #[.slice A7 0 c7, .slice B7 0 e7] 25) = W3 at *
  generalize w2.heap.size = g7 at *
  refine (list_ok _ _ v _ hbg (IV.out.below L3.out)).mono ?_
  rintro r w4 ⟨x, rfl, ⟨A9, c9, B9, e9, rfl, j1, j2, j3⟩, hb4⟩
  have L4 := Lib.hid (below_next L3.out hb4)
  have B54 := Lib.hid (B53.out.next hb4)
  have K74 := Lib.hid (K7.out.next hb4)
  have P74 := Lib.hid (P73.out.below hb4)
  have Q74 := Lib.hid (Q73.out.below hb4)
  have P9 := Lib.hid j1.ints
  have Q9 := Lib.hid j2.ints
  clear hb4 j1 j2 j3
  go_upto_region 14 with (fail)
  have z1 : (w4.alloc (.cells #[.slice A9 1 c9, .slice B9 v.length e9] 25)).heap.size = w4.heap.size + 1 := by simp
  have z2 : ((w4.alloc (.cells #[.slice A9 1 c9, .slice B9 v.length e9] 25)).alloc (.cells #[.int .i64 (v.length : Int)] 3)).heap.size = w4.heap.size + 1 + 1 := by simp
  have hB : Below w4.heap.size w4 (((w4.alloc (.cells #[.slice A9 1 c9, .slice B9 v.length e9] 25)).alloc (.cells #[.int .i64 (v.length : Int)] 3)).alloc (.cells #[.slice (some ⟨w4.heap.size + 1, 0, none⟩) 1 1, .slice B v.length c2] 25)) := below_box (below_box (below_box (Below.refl _ _)))
  have K9 := Lib.hid (((Box.new w4 (.slice A9 1 c9) (.slice B9 v.length e9)).alloc (.cells #[.int .i64 (v.length : Int)] 3)).alloc (.cells #[.slice (some ⟨w4.heap.size + 1, 0, none⟩) 1 1, .slice B v.length c2] 25))
  have hK11 := Box.new ((w4.alloc (.cells #[.slice A9 1 c9, .slice B9 v.length e9] 25)).alloc (.cells #[.int .i64 (v.length : Int)] 3)) (.slice (some ⟨w4.heap.size + 1, 0, none⟩) 1 1) (.slice B v.length c2)
  have hI11 := (Own.new (w4.alloc (.cells #[.slice A9 1 c9, .slice B9 v.length e9] 25)) [(v.length : Int)]).alloc (.cells #[.slice (some ⟨w4.heap.size + 1, 0, none⟩) 1 1, .slice B v.length c2] 25)
  rw [z2] at hK11
  rw [z1] at hI11
  have K11 := Lib.hid hK11
  have I11 := Lib.hid (show Ints (((w4.alloc (.cells #[.slice A9 1 c9, .slice B9 v.length e9] 25)).alloc (.cells #[.int .i64 (v.length : Int)] 3)).alloc (.cells #[.slice (some ⟨w4.heap.size + 1, 0, none⟩) 1 1, .slice B v.length c2] 25)) (some ⟨w4.heap.size + 1, 0, none⟩) [(v.length : Int)] from hI11.ints)
  have L5 := Lib.hid (below_next L4.out hB)
  have B55 := Lib.hid (B54.out.next hB)
  have K75 := Lib.hid (K74.out.next hB)
  have P75 := Lib.hid (P74.out.below hB)
  have Q75 := Lib.hid (Q74.out.below hB)
  have P95 := Lib.hid (P9.out.below hB)
  have Q95 := Lib.hid (Q9.out.below hB)
  clear z1 z2 hB hK11 hI11
  generalize ((w4.alloc (.cells #[.slice A9 1 c9, .slice B9 v.length e9] 25)).alloc (.cells #[.int .i64 (v.length : Int)] 3)).alloc (.cells #[.slice (some ⟨w4.heap.size + 1, 0, none⟩) 1 1, .slice B v.length c2] 25) = W5 at *
  generalize w4.heap.size + 1 + 1 = g11 at *
  generalize w4.heap.size + 1 = g10 at *
  generalize w4.heap.size = g9 at *
  obtain ⟨b0, b1, _, _⟩ := B55.out.all
  obtain ⟨k0, k1, _, _⟩ := K75.out.all
  go_wp2_with fail
  refine (rsame_refl _ _ [] _ _ [] _ _ _ _ _ (by simp) (by simp) P75.out Q75.out (fun h => absurd h (by simp)) (fun h => absurd h (by simp))).mono ?_
  rintro r w6 ⟨rfl, hb6⟩
  have L6 := Lib.hid (below_next L5.out hb6)
  have K96 := Lib.hid (K9.out.next hb6)
  have K116 := Lib.hid (K11.out.next hb6)
  have P96 := Lib.hid (P95.out.below hb6)
  have Q96 := Lib.hid (Q95.out.below hb6)
  have I116 := Lib.hid (I11.out.below hb6)
  obtain ⟨k0, k1, _, _⟩ := K96.out.all
  obtain ⟨b0, b1, _, _⟩ := K116.out.all
  clear hb6
  go_wp2_with fail
  refine (rsame_refl _ _ [(v.length : Int)] _ _ v _ _ _ _ _ (by simp) (by omega) P96.out Q96.out I116.out (IV.out.below L6.out)).mono ?_
  rintro r w7 ⟨rfl, hb7⟩
  have L7 := Lib.hid (below_next L6.out hb7)
  clear hb7 B55 K75 K9 K11 K96 K116 P75 Q75 P95 Q95 P96 Q96 I11 I116 L6 L5
  go_wp2_with fail
  refine (zero_any _ _ d _ (by omega) (ID.out.below L7.out)).mono ?_
  rintro r w8 ⟨x, rfl, ⟨A1, c1, B1, e1, rfl, j1, j2, j3⟩, hb8⟩
  have L8 := Lib.hid (below_next L7.out hb8)
  have P1 := Lib.hid j1.ints
  have Q1 := Lib.hid j2.ints
  clear hb8 j1 j2 j3
  go_wp2_with fail
  refine (rzero_any _ _ d _ (by omega) (ID.out.below L8.out)).mono ?_
  rintro r w9 ⟨x, rfl, ⟨A2, c4, B2, e2, rfl, j1, j2, j3⟩, hb9⟩
  have L9 := Lib.hid (below_next L8.out hb9)
  have P1' := Lib.hid (P1.out.below hb9)
  have Q1' := Lib.hid (Q1.out.below hb9)
  have P2 := Lib.hid j1.ints
  have Q2 := Lib.hid j2.ints
  clear hb9 j1 j2 j3
  go_wp2_with fail
  refine (rsame_refl _ _ (zeroD d) _ _ (zeroV d) _ _ _ _ _ (Nat.le_trans (zeroD_len d) (by omega)) (Nat.le_trans (zeroV_len d) (by omega)) P1'.out Q1'.out P2.out Q2.out).mono ?_
  rintro r w10 ⟨rfl, hb10⟩
  have L10 := Lib.hid (below_next L9.out hb10)
  clear hb10
  go_wp2_with fail
  refine (scalar_any _ _).mono ?_
  rintro r w11 ⟨x, rfl, ⟨A3, c5, B3, e3, rfl, j1, j2, j3⟩, hb11⟩
  have L11 := Lib.hid (below_next L10.out hb11)
  have P3 := Lib.hid j1.ints
  have Q3 := Lib.hid j2.ints
  clear hb11 j1 j2 j3
  go_wp2_with fail
  refine (rscalar_any _ _).mono ?_
  rintro r w12 ⟨x, rfl, ⟨A4, c6, B4, e4, rfl, j1, j2, j3⟩, hb12⟩
  have L12 := Lib.hid (below_next L11.out hb12)
  have P3' := Lib.hid (P3.out.below hb12)
  have Q3' := Lib.hid (Q3.out.below hb12)
  have P4 := Lib.hid j1.ints
  have Q4 := Lib.hid j2.ints
  clear hb12 j1 j2 j3
  go_wp2_with fail
  refine (rsame_refl _ _ [] _ _ [(d.length : Int)] _ _ _ _ _ (by simp) (by simp) P3'.out Q3'.out P4.out Q4.out).mono ?_
  rintro r w13 ⟨rfl, hb13⟩
  have L13 := Lib.hid (below_next L12.out hb13)
  clear hb13
  go_wp2_with fail
  refine (lives_any _).mono ?_
  rintro r w14 ⟨rfl, hb14⟩
  have L14 := Lib.hid (below_next L13.out hb14)
  clear hb14
  go_wp2
  go_ret
  exact ⟨rfl, L14.out⟩

set_option maxHeartbeats 4000000 in
set_option maxRecDepth 100000 in
theorem makes3 (A : Option Addr) (c : Nat) (d : List Int) (B : Option Addr) (c2 : Nat) (v : List Int) (w : World) (hd : d.length ≤ 10) (hv : v.length ≤ 200) (id : Ints w A d) (iv : Ints w B v) (hr : rightB d = true) (hn : ¬ (v.length : Int) = sizeI d) (hbg : 64 < v.length) :
    Calls Try.prog 4 #[.slice A d.length c, .slice B v.length c2] w fun r w' => r = .returned (.bool true) ∧ Below w.heap.size w w' := by
  have ID := Lib.hid id
  have IV := Lib.hid iv
  clear id iv
  have HR := Lib.hid hr
  have HN := Lib.hid hn
  have hq : ((v.length : Int) == sizeI d) = false := by simpa using hn
  clear hr hn
  have hw0 : Below w.heap.size w (w.alloc (.cells #[.slice none 0 0, .slice none 0 0] 25)) := below_box (Below.refl _ _)
  have I0 := Lib.hid (ID.out.below hw0)
  clear hw0
  go_enter Try.func4, Try.ntmps4
  go_wp2_with fail
  refine (refRight_yes _ _ d _ HR.out (by unfold maxLen; omega) I0.out).mono ?_
  rintro r w1 ⟨rfl, rfl⟩
  go_wp2_with fail
  refine (refSize_any _ _ d _ (by unfold maxLen; omega) I0.out).mono ?_
  rintro r w1 ⟨rfl, rfl⟩
  go_wp2_with fail
  have B5 := Lib.hid (Box.new w (.slice none 0 0) (.slice none 0 0))
  have L0 := Lib.hid (below_box (Below.refl (w.alloc (.cells #[.slice none 0 0, .slice none 0 0] 25)).heap.size _))
  have X5 : Hid (w.heap.size < (w.alloc (.cells #[.slice none 0 0, .slice none 0 0] 25)).heap.size) := Lib.hid (by simp)
  generalize w.alloc (.cells #[.slice none 0 0, .slice none 0 0] 25) = W0 at *
  refine (of_no3 _ _ d _ _ v _ (by omega) (by omega) (ID.out.below L0.out) (IV.out.below L0.out) HR.out HN.out).mono ?_
  rintro r w2 ⟨x, rfl, ⟨A7, c7, B7, e7, rfl, j1, j2, j3⟩, hb2⟩
  have L2 := Lib.hid (below_next L0.out hb2)
  have B52 := Lib.hid (B5.out.next hb2)
  have P7 := Lib.hid j1.ints
  have Q7 := Lib.hid j2.ints
  clear hb2 j1 j2 j3
  go_wp2_with fail
  have K7 := Lib.hid (Box.new w2 (.slice A7 0 c7) (.slice B7 0 e7))
  have L3 := Lib.hid (L2.out.alloc L2.out.size (.cells #[.slice A7 0 c7, .slice B7 0 e7] 25))
  have B53 := Lib.hid (B52.out.alloc (.cells #[.slice A7 0 c7, .slice B7 0 e7] 25))
  have P73 := Lib.hid (P7.out.below (below_box (Below.refl (w2.alloc (.cells #[.slice A7 0 c7, .slice B7 0 e7] 25)).heap.size _)))
  have Q73 := Lib.hid (Q7.out.below (below_box (Below.refl (w2.alloc (.cells #[.slice A7 0 c7, .slice B7 0 e7] 25)).heap.size _)))
  generalize w2.alloc (.cells #[.slice A7 0 c7, .slice B7 0 e7] 25) = W3 at *
  generalize w2.heap.size = g7 at *
  refine (list_big _ _ v.length _ hbg).mono ?_
  rintro r w4 ⟨x, rfl, ⟨A9, c9, B9, e9, rfl, j1, j2, j3⟩, hb4⟩
  have L4 := Lib.hid (below_next L3.out hb4)
  have B54 := Lib.hid (B53.out.next hb4)
  have K74 := Lib.hid (K7.out.next hb4)
  have P74 := Lib.hid (P73.out.below hb4)
  have Q74 := Lib.hid (Q73.out.below hb4)
  have P9 := Lib.hid j1.ints
  have Q9 := Lib.hid j2.ints
  clear hb4 j1 j2 j3
  go_upto_region 14 with (fail)
  have z1 : (w4.alloc (.cells #[.slice A9 0 c9, .slice B9 0 e9] 25)).heap.size = w4.heap.size + 1 := by simp
  have z2 : ((w4.alloc (.cells #[.slice A9 0 c9, .slice B9 0 e9] 25)).alloc (.cells #[.int .i64 (v.length : Int)] 3)).heap.size = w4.heap.size + 1 + 1 := by simp
  have hB : Below w4.heap.size w4 (((w4.alloc (.cells #[.slice A9 0 c9, .slice B9 0 e9] 25)).alloc (.cells #[.int .i64 (v.length : Int)] 3)).alloc (.cells #[.slice none 0 0, .slice none 0 0] 25)) := below_box (below_box (below_box (Below.refl _ _)))
  have K9 := Lib.hid (((Box.new w4 (.slice A9 0 c9) (.slice B9 0 e9)).alloc (.cells #[.int .i64 (v.length : Int)] 3)).alloc (.cells #[.slice none 0 0, .slice none 0 0] 25))
  have hK11 := Box.new ((w4.alloc (.cells #[.slice A9 0 c9, .slice B9 0 e9] 25)).alloc (.cells #[.int .i64 (v.length : Int)] 3)) (.slice none 0 0) (.slice none 0 0)
  have hI11 := (Own.new (w4.alloc (.cells #[.slice A9 0 c9, .slice B9 0 e9] 25)) [(v.length : Int)]).alloc (.cells #[.slice none 0 0, .slice none 0 0] 25)
  rw [z2] at hK11
  rw [z1] at hI11
  have K11 := Lib.hid hK11
  have I11 := Lib.hid (show Ints (((w4.alloc (.cells #[.slice A9 0 c9, .slice B9 0 e9] 25)).alloc (.cells #[.int .i64 (v.length : Int)] 3)).alloc (.cells #[.slice none 0 0, .slice none 0 0] 25)) (some ⟨w4.heap.size + 1, 0, none⟩) [(v.length : Int)] from hI11.ints)
  have L5 := Lib.hid (below_next L4.out hB)
  have B55 := Lib.hid (B54.out.next hB)
  have K75 := Lib.hid (K74.out.next hB)
  have P75 := Lib.hid (P74.out.below hB)
  have Q75 := Lib.hid (Q74.out.below hB)
  have P95 := Lib.hid (P9.out.below hB)
  have Q95 := Lib.hid (Q9.out.below hB)
  clear z1 z2 hB hK11 hI11
  generalize ((w4.alloc (.cells #[.slice A9 0 c9, .slice B9 0 e9] 25)).alloc (.cells #[.int .i64 (v.length : Int)] 3)).alloc (.cells #[.slice none 0 0, .slice none 0 0] 25) = W5 at *
  generalize w4.heap.size + 1 + 1 = g11 at *
  generalize w4.heap.size + 1 = g10 at *
  generalize w4.heap.size = g9 at *
  obtain ⟨b0, b1, _, _⟩ := B55.out.all
  obtain ⟨k0, k1, _, _⟩ := K75.out.all
  go_wp2_with fail
  refine (rsame_refl _ _ [] _ _ [] _ _ _ _ _ (by simp) (by simp) P75.out Q75.out (fun h => absurd h (by simp)) (fun h => absurd h (by simp))).mono ?_
  rintro r w6 ⟨rfl, hb6⟩
  have L6 := Lib.hid (below_next L5.out hb6)
  have K96 := Lib.hid (K9.out.next hb6)
  have K116 := Lib.hid (K11.out.next hb6)
  have P96 := Lib.hid (P95.out.below hb6)
  have Q96 := Lib.hid (Q95.out.below hb6)
  have I116 := Lib.hid (I11.out.below hb6)
  obtain ⟨k0, k1, _, _⟩ := K96.out.all
  obtain ⟨b0, b1, _, _⟩ := K116.out.all
  clear hb6
  go_wp2_with fail
  refine (rsame_refl _ _ [] _ _ [] _ _ _ _ _ (by simp) (by simp) P96.out Q96.out (fun h => absurd h (by simp)) (fun h => absurd h (by simp))).mono ?_
  rintro r w7 ⟨rfl, hb7⟩
  have L7 := Lib.hid (below_next L6.out hb7)
  clear hb7 B55 K75 K9 K11 K96 K116 P75 Q75 P95 Q95 P96 Q96 I11 I116 L6 L5
  go_wp2_with fail
  refine (zero_any _ _ d _ (by omega) (ID.out.below L7.out)).mono ?_
  rintro r w8 ⟨x, rfl, ⟨A1, c1, B1, e1, rfl, j1, j2, j3⟩, hb8⟩
  have L8 := Lib.hid (below_next L7.out hb8)
  have P1 := Lib.hid j1.ints
  have Q1 := Lib.hid j2.ints
  clear hb8 j1 j2 j3
  go_wp2_with fail
  refine (rzero_any _ _ d _ (by omega) (ID.out.below L8.out)).mono ?_
  rintro r w9 ⟨x, rfl, ⟨A2, c4, B2, e2, rfl, j1, j2, j3⟩, hb9⟩
  have L9 := Lib.hid (below_next L8.out hb9)
  have P1' := Lib.hid (P1.out.below hb9)
  have Q1' := Lib.hid (Q1.out.below hb9)
  have P2 := Lib.hid j1.ints
  have Q2 := Lib.hid j2.ints
  clear hb9 j1 j2 j3
  go_wp2_with fail
  refine (rsame_refl _ _ (zeroD d) _ _ (zeroV d) _ _ _ _ _ (Nat.le_trans (zeroD_len d) (by omega)) (Nat.le_trans (zeroV_len d) (by omega)) P1'.out Q1'.out P2.out Q2.out).mono ?_
  rintro r w10 ⟨rfl, hb10⟩
  have L10 := Lib.hid (below_next L9.out hb10)
  clear hb10
  go_wp2_with fail
  refine (scalar_any _ _).mono ?_
  rintro r w11 ⟨x, rfl, ⟨A3, c5, B3, e3, rfl, j1, j2, j3⟩, hb11⟩
  have L11 := Lib.hid (below_next L10.out hb11)
  have P3 := Lib.hid j1.ints
  have Q3 := Lib.hid j2.ints
  clear hb11 j1 j2 j3
  go_wp2_with fail
  refine (rscalar_any _ _).mono ?_
  rintro r w12 ⟨x, rfl, ⟨A4, c6, B4, e4, rfl, j1, j2, j3⟩, hb12⟩
  have L12 := Lib.hid (below_next L11.out hb12)
  have P3' := Lib.hid (P3.out.below hb12)
  have Q3' := Lib.hid (Q3.out.below hb12)
  have P4 := Lib.hid j1.ints
  have Q4 := Lib.hid j2.ints
  clear hb12 j1 j2 j3
  go_wp2_with fail
  refine (rsame_refl _ _ [] _ _ [(d.length : Int)] _ _ _ _ _ (by simp) (by simp) P3'.out Q3'.out P4.out Q4.out).mono ?_
  rintro r w13 ⟨rfl, hb13⟩
  have L13 := Lib.hid (below_next L12.out hb13)
  clear hb13
  go_wp2_with fail
  refine (lives_any _).mono ?_
  rintro r w14 ⟨rfl, hb14⟩
  have L14 := Lib.hid (below_next L13.out hb14)
  clear hb14
  go_wp2
  go_ret
  exact ⟨rfl, L14.out⟩

set_option maxHeartbeats 4000000 in
set_option maxRecDepth 100000 in
theorem makes4 (A : Option Addr) (c : Nat) (d : List Int) (B : Option Addr) (c2 : Nat) (v : List Int) (w : World) (hd : d.length ≤ 10) (hv : v.length ≤ 200) (id : Ints w A d) (iv : Ints w B v) (hr : rightB d = false) (hbg : v.length ≤ 64) :
    Calls Try.prog 4 #[.slice A d.length c, .slice B v.length c2] w fun r w' => r = .returned (.bool true) ∧ Below w.heap.size w w' := by
  have ID := Lib.hid id
  have IV := Lib.hid iv
  clear id iv
  have HR := Lib.hid hr
  clear hr
  have hw0 : Below w.heap.size w (w.alloc (.cells #[.slice none 0 0, .slice none 0 0] 25)) := below_box (Below.refl _ _)
  have I0 := Lib.hid (ID.out.below hw0)
  clear hw0
  go_enter Try.func4, Try.ntmps4
  go_wp2_with fail
  refine (refRight_no _ _ d _ HR.out (by unfold maxLen; omega) I0.out).mono ?_
  rintro r w1 ⟨rfl, rfl⟩
  go_wp2_with fail
  have B5 := Lib.hid (Box.new w (.slice none 0 0) (.slice none 0 0))
  have L0 := Lib.hid (below_box (Below.refl (w.alloc (.cells #[.slice none 0 0, .slice none 0 0] 25)).heap.size _))
  have X5 : Hid (w.heap.size < (w.alloc (.cells #[.slice none 0 0, .slice none 0 0] 25)).heap.size) := Lib.hid (by simp)
  generalize w.alloc (.cells #[.slice none 0 0, .slice none 0 0] 25) = W0 at *
  refine (of_no1 _ _ d _ _ v _ (by omega) (by omega) (ID.out.below L0.out) (IV.out.below L0.out) HR.out).mono ?_
  rintro r w2 ⟨x, rfl, ⟨A7, c7, B7, e7, rfl, j1, j2, j3⟩, hb2⟩
  have L2 := Lib.hid (below_next L0.out hb2)
  have B52 := Lib.hid (B5.out.next hb2)
  have P7 := Lib.hid j1.ints
  have Q7 := Lib.hid j2.ints
  clear hb2 j1 j2 j3
  go_wp2_with fail
  have K7 := Lib.hid (Box.new w2 (.slice A7 0 c7) (.slice B7 0 e7))
  have L3 := Lib.hid (L2.out.alloc L2.out.size (.cells #[.slice A7 0 c7, .slice B7 0 e7] 25))
  have B53 := Lib.hid (B52.out.alloc (.cells #[.slice A7 0 c7, .slice B7 0 e7] 25))
  have P73 := Lib.hid (P7.out.below (below_box (Below.refl (w2.alloc (.cells #[.slice A7 0 c7, .slice B7 0 e7] 25)).heap.size _)))
  have Q73 := Lib.hid (Q7.out.below (below_box (Below.refl (w2.alloc (.cells #[.slice A7 0 c7, .slice B7 0 e7] 25)).heap.size _)))
  generalize w2.alloc (.cells #[.slice A7 0 c7, .slice B7 0 e7] 25) = W3 at *
  generalize w2.heap.size = g7 at *
  refine (list_ok _ _ v _ hbg (IV.out.below L3.out)).mono ?_
  rintro r w4 ⟨x, rfl, ⟨A9, c9, B9, e9, rfl, j1, j2, j3⟩, hb4⟩
  have L4 := Lib.hid (below_next L3.out hb4)
  have B54 := Lib.hid (B53.out.next hb4)
  have K74 := Lib.hid (K7.out.next hb4)
  have P74 := Lib.hid (P73.out.below hb4)
  have Q74 := Lib.hid (Q73.out.below hb4)
  have P9 := Lib.hid j1.ints
  have Q9 := Lib.hid j2.ints
  clear hb4 j1 j2 j3
  go_upto_region 14 with (fail)
  have z1 : (w4.alloc (.cells #[.slice A9 1 c9, .slice B9 v.length e9] 25)).heap.size = w4.heap.size + 1 := by simp
  have z2 : ((w4.alloc (.cells #[.slice A9 1 c9, .slice B9 v.length e9] 25)).alloc (.cells #[.int .i64 (v.length : Int)] 3)).heap.size = w4.heap.size + 1 + 1 := by simp
  have hB : Below w4.heap.size w4 (((w4.alloc (.cells #[.slice A9 1 c9, .slice B9 v.length e9] 25)).alloc (.cells #[.int .i64 (v.length : Int)] 3)).alloc (.cells #[.slice (some ⟨w4.heap.size + 1, 0, none⟩) 1 1, .slice B v.length c2] 25)) := below_box (below_box (below_box (Below.refl _ _)))
  have K9 := Lib.hid (((Box.new w4 (.slice A9 1 c9) (.slice B9 v.length e9)).alloc (.cells #[.int .i64 (v.length : Int)] 3)).alloc (.cells #[.slice (some ⟨w4.heap.size + 1, 0, none⟩) 1 1, .slice B v.length c2] 25))
  have hK11 := Box.new ((w4.alloc (.cells #[.slice A9 1 c9, .slice B9 v.length e9] 25)).alloc (.cells #[.int .i64 (v.length : Int)] 3)) (.slice (some ⟨w4.heap.size + 1, 0, none⟩) 1 1) (.slice B v.length c2)
  have hI11 := (Own.new (w4.alloc (.cells #[.slice A9 1 c9, .slice B9 v.length e9] 25)) [(v.length : Int)]).alloc (.cells #[.slice (some ⟨w4.heap.size + 1, 0, none⟩) 1 1, .slice B v.length c2] 25)
  rw [z2] at hK11
  rw [z1] at hI11
  have K11 := Lib.hid hK11
  have I11 := Lib.hid (show Ints (((w4.alloc (.cells #[.slice A9 1 c9, .slice B9 v.length e9] 25)).alloc (.cells #[.int .i64 (v.length : Int)] 3)).alloc (.cells #[.slice (some ⟨w4.heap.size + 1, 0, none⟩) 1 1, .slice B v.length c2] 25)) (some ⟨w4.heap.size + 1, 0, none⟩) [(v.length : Int)] from hI11.ints)
  have L5 := Lib.hid (below_next L4.out hB)
  have B55 := Lib.hid (B54.out.next hB)
  have K75 := Lib.hid (K74.out.next hB)
  have P75 := Lib.hid (P74.out.below hB)
  have Q75 := Lib.hid (Q74.out.below hB)
  have P95 := Lib.hid (P9.out.below hB)
  have Q95 := Lib.hid (Q9.out.below hB)
  clear z1 z2 hB hK11 hI11
  generalize ((w4.alloc (.cells #[.slice A9 1 c9, .slice B9 v.length e9] 25)).alloc (.cells #[.int .i64 (v.length : Int)] 3)).alloc (.cells #[.slice (some ⟨w4.heap.size + 1, 0, none⟩) 1 1, .slice B v.length c2] 25) = W5 at *
  generalize w4.heap.size + 1 + 1 = g11 at *
  generalize w4.heap.size + 1 = g10 at *
  generalize w4.heap.size = g9 at *
  obtain ⟨b0, b1, _, _⟩ := B55.out.all
  obtain ⟨k0, k1, _, _⟩ := K75.out.all
  go_wp2_with fail
  refine (rsame_refl _ _ [] _ _ [] _ _ _ _ _ (by simp) (by simp) P75.out Q75.out (fun h => absurd h (by simp)) (fun h => absurd h (by simp))).mono ?_
  rintro r w6 ⟨rfl, hb6⟩
  have L6 := Lib.hid (below_next L5.out hb6)
  have K96 := Lib.hid (K9.out.next hb6)
  have K116 := Lib.hid (K11.out.next hb6)
  have P96 := Lib.hid (P95.out.below hb6)
  have Q96 := Lib.hid (Q95.out.below hb6)
  have I116 := Lib.hid (I11.out.below hb6)
  obtain ⟨k0, k1, _, _⟩ := K96.out.all
  obtain ⟨b0, b1, _, _⟩ := K116.out.all
  clear hb6
  go_wp2_with fail
  refine (rsame_refl _ _ [(v.length : Int)] _ _ v _ _ _ _ _ (by simp) (by omega) P96.out Q96.out I116.out (IV.out.below L6.out)).mono ?_
  rintro r w7 ⟨rfl, hb7⟩
  have L7 := Lib.hid (below_next L6.out hb7)
  clear hb7 B55 K75 K9 K11 K96 K116 P75 Q75 P95 Q95 P96 Q96 I11 I116 L6 L5
  go_wp2_with fail
  refine (zero_any _ _ d _ (by omega) (ID.out.below L7.out)).mono ?_
  rintro r w8 ⟨x, rfl, ⟨A1, c1, B1, e1, rfl, j1, j2, j3⟩, hb8⟩
  have L8 := Lib.hid (below_next L7.out hb8)
  have P1 := Lib.hid j1.ints
  have Q1 := Lib.hid j2.ints
  clear hb8 j1 j2 j3
  go_wp2_with fail
  refine (rzero_any _ _ d _ (by omega) (ID.out.below L8.out)).mono ?_
  rintro r w9 ⟨x, rfl, ⟨A2, c4, B2, e2, rfl, j1, j2, j3⟩, hb9⟩
  have L9 := Lib.hid (below_next L8.out hb9)
  have P1' := Lib.hid (P1.out.below hb9)
  have Q1' := Lib.hid (Q1.out.below hb9)
  have P2 := Lib.hid j1.ints
  have Q2 := Lib.hid j2.ints
  clear hb9 j1 j2 j3
  go_wp2_with fail
  refine (rsame_refl _ _ (zeroD d) _ _ (zeroV d) _ _ _ _ _ (Nat.le_trans (zeroD_len d) (by omega)) (Nat.le_trans (zeroV_len d) (by omega)) P1'.out Q1'.out P2.out Q2.out).mono ?_
  rintro r w10 ⟨rfl, hb10⟩
  have L10 := Lib.hid (below_next L9.out hb10)
  clear hb10
  go_wp2_with fail
  refine (scalar_any _ _).mono ?_
  rintro r w11 ⟨x, rfl, ⟨A3, c5, B3, e3, rfl, j1, j2, j3⟩, hb11⟩
  have L11 := Lib.hid (below_next L10.out hb11)
  have P3 := Lib.hid j1.ints
  have Q3 := Lib.hid j2.ints
  clear hb11 j1 j2 j3
  go_wp2_with fail
  refine (rscalar_any _ _).mono ?_
  rintro r w12 ⟨x, rfl, ⟨A4, c6, B4, e4, rfl, j1, j2, j3⟩, hb12⟩
  have L12 := Lib.hid (below_next L11.out hb12)
  have P3' := Lib.hid (P3.out.below hb12)
  have Q3' := Lib.hid (Q3.out.below hb12)
  have P4 := Lib.hid j1.ints
  have Q4 := Lib.hid j2.ints
  clear hb12 j1 j2 j3
  go_wp2_with fail
  refine (rsame_refl _ _ [] _ _ [(d.length : Int)] _ _ _ _ _ (by simp) (by simp) P3'.out Q3'.out P4.out Q4.out).mono ?_
  rintro r w13 ⟨rfl, hb13⟩
  have L13 := Lib.hid (below_next L12.out hb13)
  clear hb13
  go_wp2_with fail
  refine (lives_any _).mono ?_
  rintro r w14 ⟨rfl, hb14⟩
  have L14 := Lib.hid (below_next L13.out hb14)
  clear hb14
  go_wp2
  go_ret
  exact ⟨rfl, L14.out⟩

set_option maxHeartbeats 4000000 in
set_option maxRecDepth 100000 in
theorem makes5 (A : Option Addr) (c : Nat) (d : List Int) (B : Option Addr) (c2 : Nat) (v : List Int) (w : World) (hd : d.length ≤ 10) (hv : v.length ≤ 200) (id : Ints w A d) (iv : Ints w B v) (hr : rightB d = false) (hbg : 64 < v.length) :
    Calls Try.prog 4 #[.slice A d.length c, .slice B v.length c2] w fun r w' => r = .returned (.bool true) ∧ Below w.heap.size w w' := by
  have ID := Lib.hid id
  have IV := Lib.hid iv
  clear id iv
  have HR := Lib.hid hr
  clear hr
  have hw0 : Below w.heap.size w (w.alloc (.cells #[.slice none 0 0, .slice none 0 0] 25)) := below_box (Below.refl _ _)
  have I0 := Lib.hid (ID.out.below hw0)
  clear hw0
  go_enter Try.func4, Try.ntmps4
  go_wp2_with fail
  refine (refRight_no _ _ d _ HR.out (by unfold maxLen; omega) I0.out).mono ?_
  rintro r w1 ⟨rfl, rfl⟩
  go_wp2_with fail
  have B5 := Lib.hid (Box.new w (.slice none 0 0) (.slice none 0 0))
  have L0 := Lib.hid (below_box (Below.refl (w.alloc (.cells #[.slice none 0 0, .slice none 0 0] 25)).heap.size _))
  have X5 : Hid (w.heap.size < (w.alloc (.cells #[.slice none 0 0, .slice none 0 0] 25)).heap.size) := Lib.hid (by simp)
  generalize w.alloc (.cells #[.slice none 0 0, .slice none 0 0] 25) = W0 at *
  refine (of_no1 _ _ d _ _ v _ (by omega) (by omega) (ID.out.below L0.out) (IV.out.below L0.out) HR.out).mono ?_
  rintro r w2 ⟨x, rfl, ⟨A7, c7, B7, e7, rfl, j1, j2, j3⟩, hb2⟩
  have L2 := Lib.hid (below_next L0.out hb2)
  have B52 := Lib.hid (B5.out.next hb2)
  have P7 := Lib.hid j1.ints
  have Q7 := Lib.hid j2.ints
  clear hb2 j1 j2 j3
  go_wp2_with fail
  have K7 := Lib.hid (Box.new w2 (.slice A7 0 c7) (.slice B7 0 e7))
  have L3 := Lib.hid (L2.out.alloc L2.out.size (.cells #[.slice A7 0 c7, .slice B7 0 e7] 25))
  have B53 := Lib.hid (B52.out.alloc (.cells #[.slice A7 0 c7, .slice B7 0 e7] 25))
  have P73 := Lib.hid (P7.out.below (below_box (Below.refl (w2.alloc (.cells #[.slice A7 0 c7, .slice B7 0 e7] 25)).heap.size _)))
  have Q73 := Lib.hid (Q7.out.below (below_box (Below.refl (w2.alloc (.cells #[.slice A7 0 c7, .slice B7 0 e7] 25)).heap.size _)))
  generalize w2.alloc (.cells #[.slice A7 0 c7, .slice B7 0 e7] 25) = W3 at *
  generalize w2.heap.size = g7 at *
  refine (list_big _ _ v.length _ hbg).mono ?_
  rintro r w4 ⟨x, rfl, ⟨A9, c9, B9, e9, rfl, j1, j2, j3⟩, hb4⟩
  have L4 := Lib.hid (below_next L3.out hb4)
  have B54 := Lib.hid (B53.out.next hb4)
  have K74 := Lib.hid (K7.out.next hb4)
  have P74 := Lib.hid (P73.out.below hb4)
  have Q74 := Lib.hid (Q73.out.below hb4)
  have P9 := Lib.hid j1.ints
  have Q9 := Lib.hid j2.ints
  clear hb4 j1 j2 j3
  go_upto_region 14 with (fail)
  have z1 : (w4.alloc (.cells #[.slice A9 0 c9, .slice B9 0 e9] 25)).heap.size = w4.heap.size + 1 := by simp
  have z2 : ((w4.alloc (.cells #[.slice A9 0 c9, .slice B9 0 e9] 25)).alloc (.cells #[.int .i64 (v.length : Int)] 3)).heap.size = w4.heap.size + 1 + 1 := by simp
  have hB : Below w4.heap.size w4 (((w4.alloc (.cells #[.slice A9 0 c9, .slice B9 0 e9] 25)).alloc (.cells #[.int .i64 (v.length : Int)] 3)).alloc (.cells #[.slice none 0 0, .slice none 0 0] 25)) := below_box (below_box (below_box (Below.refl _ _)))
  have K9 := Lib.hid (((Box.new w4 (.slice A9 0 c9) (.slice B9 0 e9)).alloc (.cells #[.int .i64 (v.length : Int)] 3)).alloc (.cells #[.slice none 0 0, .slice none 0 0] 25))
  have hK11 := Box.new ((w4.alloc (.cells #[.slice A9 0 c9, .slice B9 0 e9] 25)).alloc (.cells #[.int .i64 (v.length : Int)] 3)) (.slice none 0 0) (.slice none 0 0)
  have hI11 := (Own.new (w4.alloc (.cells #[.slice A9 0 c9, .slice B9 0 e9] 25)) [(v.length : Int)]).alloc (.cells #[.slice none 0 0, .slice none 0 0] 25)
  rw [z2] at hK11
  rw [z1] at hI11
  have K11 := Lib.hid hK11
  have I11 := Lib.hid (show Ints (((w4.alloc (.cells #[.slice A9 0 c9, .slice B9 0 e9] 25)).alloc (.cells #[.int .i64 (v.length : Int)] 3)).alloc (.cells #[.slice none 0 0, .slice none 0 0] 25)) (some ⟨w4.heap.size + 1, 0, none⟩) [(v.length : Int)] from hI11.ints)
  have L5 := Lib.hid (below_next L4.out hB)
  have B55 := Lib.hid (B54.out.next hB)
  have K75 := Lib.hid (K74.out.next hB)
  have P75 := Lib.hid (P74.out.below hB)
  have Q75 := Lib.hid (Q74.out.below hB)
  have P95 := Lib.hid (P9.out.below hB)
  have Q95 := Lib.hid (Q9.out.below hB)
  clear z1 z2 hB hK11 hI11
  generalize ((w4.alloc (.cells #[.slice A9 0 c9, .slice B9 0 e9] 25)).alloc (.cells #[.int .i64 (v.length : Int)] 3)).alloc (.cells #[.slice none 0 0, .slice none 0 0] 25) = W5 at *
  generalize w4.heap.size + 1 + 1 = g11 at *
  generalize w4.heap.size + 1 = g10 at *
  generalize w4.heap.size = g9 at *
  obtain ⟨b0, b1, _, _⟩ := B55.out.all
  obtain ⟨k0, k1, _, _⟩ := K75.out.all
  go_wp2_with fail
  refine (rsame_refl _ _ [] _ _ [] _ _ _ _ _ (by simp) (by simp) P75.out Q75.out (fun h => absurd h (by simp)) (fun h => absurd h (by simp))).mono ?_
  rintro r w6 ⟨rfl, hb6⟩
  have L6 := Lib.hid (below_next L5.out hb6)
  have K96 := Lib.hid (K9.out.next hb6)
  have K116 := Lib.hid (K11.out.next hb6)
  have P96 := Lib.hid (P95.out.below hb6)
  have Q96 := Lib.hid (Q95.out.below hb6)
  have I116 := Lib.hid (I11.out.below hb6)
  obtain ⟨k0, k1, _, _⟩ := K96.out.all
  obtain ⟨b0, b1, _, _⟩ := K116.out.all
  clear hb6
  go_wp2_with fail
  refine (rsame_refl _ _ [] _ _ [] _ _ _ _ _ (by simp) (by simp) P96.out Q96.out (fun h => absurd h (by simp)) (fun h => absurd h (by simp))).mono ?_
  rintro r w7 ⟨rfl, hb7⟩
  have L7 := Lib.hid (below_next L6.out hb7)
  clear hb7 B55 K75 K9 K11 K96 K116 P75 Q75 P95 Q95 P96 Q96 I11 I116 L6 L5
  go_wp2_with fail
  refine (zero_any _ _ d _ (by omega) (ID.out.below L7.out)).mono ?_
  rintro r w8 ⟨x, rfl, ⟨A1, c1, B1, e1, rfl, j1, j2, j3⟩, hb8⟩
  have L8 := Lib.hid (below_next L7.out hb8)
  have P1 := Lib.hid j1.ints
  have Q1 := Lib.hid j2.ints
  clear hb8 j1 j2 j3
  go_wp2_with fail
  refine (rzero_any _ _ d _ (by omega) (ID.out.below L8.out)).mono ?_
  rintro r w9 ⟨x, rfl, ⟨A2, c4, B2, e2, rfl, j1, j2, j3⟩, hb9⟩
  have L9 := Lib.hid (below_next L8.out hb9)
  have P1' := Lib.hid (P1.out.below hb9)
  have Q1' := Lib.hid (Q1.out.below hb9)
  have P2 := Lib.hid j1.ints
  have Q2 := Lib.hid j2.ints
  clear hb9 j1 j2 j3
  go_wp2_with fail
  refine (rsame_refl _ _ (zeroD d) _ _ (zeroV d) _ _ _ _ _ (Nat.le_trans (zeroD_len d) (by omega)) (Nat.le_trans (zeroV_len d) (by omega)) P1'.out Q1'.out P2.out Q2.out).mono ?_
  rintro r w10 ⟨rfl, hb10⟩
  have L10 := Lib.hid (below_next L9.out hb10)
  clear hb10
  go_wp2_with fail
  refine (scalar_any _ _).mono ?_
  rintro r w11 ⟨x, rfl, ⟨A3, c5, B3, e3, rfl, j1, j2, j3⟩, hb11⟩
  have L11 := Lib.hid (below_next L10.out hb11)
  have P3 := Lib.hid j1.ints
  have Q3 := Lib.hid j2.ints
  clear hb11 j1 j2 j3
  go_wp2_with fail
  refine (rscalar_any _ _).mono ?_
  rintro r w12 ⟨x, rfl, ⟨A4, c6, B4, e4, rfl, j1, j2, j3⟩, hb12⟩
  have L12 := Lib.hid (below_next L11.out hb12)
  have P3' := Lib.hid (P3.out.below hb12)
  have Q3' := Lib.hid (Q3.out.below hb12)
  have P4 := Lib.hid j1.ints
  have Q4 := Lib.hid j2.ints
  clear hb12 j1 j2 j3
  go_wp2_with fail
  refine (rsame_refl _ _ [] _ _ [(d.length : Int)] _ _ _ _ _ (by simp) (by simp) P3'.out Q3'.out P4.out Q4.out).mono ?_
  rintro r w13 ⟨rfl, hb13⟩
  have L13 := Lib.hid (below_next L12.out hb13)
  clear hb13
  go_wp2_with fail
  refine (lives_any _).mono ?_
  rintro r w14 ⟨rfl, hb14⟩
  have L14 := Lib.hid (below_next L13.out hb14)
  clear hb14
  go_wp2
  go_ret
  exact ⟨rfl, L14.out⟩

set_option maxHeartbeats 1000000 in
theorem makes_any (A : Option Addr) (c : Nat) (d : List Int) (B : Option Addr) (c2 : Nat) (v : List Int) (w : World) (hl : d.length ≤ maxLen) (hl2 : v.length ≤ maxLen) (id : Ints w A d) (iv : Ints w B v) :
    Calls Try.prog 4 #[.slice A d.length c, .slice B v.length c2] w fun r w' => r = .returned (.bool true) ∧ Below w.heap.size w w' := by
  by_cases h1 : d.length ≤ 10
  · by_cases h2 : v.length ≤ 200
    · by_cases hr : rightB d = true
      · by_cases hn : (v.length : Int) = sizeI d
        · have : sizeI d ≤ 64 := by unfold sizeI; rw [if_pos hr]; exact (rightB_all hr).2.2
          exact makes1 A c d B c2 v w h1 h2 id iv hr hn (by omega)
        · by_cases hb : v.length ≤ 64
          · exact makes2 A c d B c2 v w h1 h2 id iv hr hn hb
          · exact makes3 A c d B c2 v w h1 h2 id iv hr hn (by omega)
      · have hr' : rightB d = false := by simpa using hr
        by_cases hb : v.length ≤ 64
        · exact makes4 A c d B c2 v w h1 h2 id iv hr' hb
        · exact makes5 A c d B c2 v w h1 h2 id iv hr' (by omega)
    · have h3 : 200 < v.length := by omega
      clear id iv
      go_enter Try.func4, Try.ntmps4
      go_wp2_with (go_at_call 8; refine (lives_any _).mono ?_; rintro r w1 ⟨rfl, hb1⟩)
      go_ret
      exact ⟨rfl, hb1⟩
  · have h3 : 10 < d.length := by omega
    clear id iv
    go_enter Try.func4, Try.ntmps4
    go_wp2_with (go_at_call 8; refine (lives_any _).mono ?_; rintro r w1 ⟨rfl, hb1⟩)
    go_ret
    exact ⟨rfl, hb1⟩

/-- The law returns true and writes nothing that was there. -/
theorem walk (a0 : Option Addr) (len0 cap0 : Nat) (z0 : List Int) (a1 : Option Addr) (len1 cap1 : Nat) (z1 : List Int) (w : World) (w0 : IsRow .i64 w a0 len0 cap0 z0) (w1 : IsRow .i64 w a1 len1 cap1 z1) :
    Calls Try.prog 4 #[.slice a0 len0 cap0, .slice a1 len1 cap1] w fun e w' => e = .returned (.bool true) ∧ Below w.heap.size w w' := by
  obtain ⟨d, rfl, hd, hi, _⟩ := w0.view
  obtain ⟨e, rfl, he, hj, _⟩ := w1.view
  exact makes_any a0 cap0 d a1 cap1 e w hd he hi hj

/-! ### THE ROW's STEP: WRITTEN OUT: LEAVE IT -/
set_option maxRecDepth 100000 in
theorem lifted (os : Os) (started : os.Started) (H : Type) (enc : TypeId × Value → H) :
    ReturnsInHanded {} Try.checked os 4 .any (Rows.cellMakesSpec.pre6 enc Try.prog Try.f4 Rows.cellMakesRow.domain false) (Rows.cellMakesSpec.post enc Try.prog Try.f4 false true false false) := by
  refine returnsInHanded_of_change (C := Try.checked) own started (by kernel_rfl) Try.func4
    (ChangeSpec.witness6 (enc := enc) (C := Try.checked) false ⟨#[], #[.slice none 0 0, .slice none 0 0], []⟩ 8 (by kernel_rfl) (by kernel_rfl) (by kernel_rfl) (by kernel_rfl)) ?_
  intro W base args ds gs before hval0 hW hcnd _
  have hval : ∀ (j : Nat) t v, Try.f4.params[j]? = some t → args[j]? = some v → Value.okWide Try.prog W .any base t v := hval0
  have hW' := hW
  obtain ⟨p, q, hA0, hV, rfl, hfz, hnd⟩ := hW
  have hA : DataW.TrodAll enc Try.prog W 0 (fun _ => true) true Try.f4.params.toList args.toList ds p := hA0
  rw [Try.params4] at hA hval
  obtain ⟨v0, vs0, d0, ds0, p0, q0, hargs, rfl, rfl, h0, r0⟩ := trodAll_cons hA
  obtain ⟨v1, vs1, d1, ds1, p1, q1, rfl, rfl, rfl, h1, r1⟩ := trodAll_cons r0
  obtain ⟨rfl, rfl, rfl⟩ := trodAll_nil r1
  obtain rfl : args = #[v0, v1] := by cases args; simp_all
  obtain ⟨rfl, rfl⟩ := trodVars_none hV
  obtain ⟨a0, len0, cap0, rfl⟩ := okWide_slice Try.underlying22 (hval 0 22 v0 rfl rfl)
  have k0 := h0
  have lt0 : ∀ x ∈ p0, x.block < W.heap.size := by obtain ⟨m, hm⟩ := k0; exact DataW.trod_lt m _ _ _ hm
  obtain ⟨z0, w0⟩ : ∃ zs, IsRow .i64 W a0 len0 cap0 zs := by
    obtain ⟨fuel, hf⟩ := h0
    rcases open_ints Try.underlying22 Try.underlying3 (by kernel_rfl) hf with ⟨hcs, _⟩ | ⟨x, l, c, zs, hcs, _, hl, hm, hz, _, hcell, hwz⟩
    · simp [Value.cells] at hcs
      obtain ⟨rfl, rfl, rfl⟩ := hcs
      exact ⟨[], .inl ⟨rfl, rfl, rfl, rfl⟩⟩
    · simp [Value.cells] at hcs
      obtain ⟨rfl, rfl, rfl⟩ := hcs
      exact ⟨zs, .inr ⟨_, rfl, hl, hm, by simpa using hz, hcell, hwz⟩⟩
  obtain ⟨a1, len1, cap1, rfl⟩ := okWide_slice Try.underlying23 (hval 1 23 v1 rfl rfl)
  have k1 := h1
  have lt1 : ∀ x ∈ p1, x.block < W.heap.size := by obtain ⟨m, hm⟩ := k1; exact DataW.trod_lt m _ _ _ hm
  obtain ⟨z1, w1⟩ : ∃ zs, IsRow .i64 W a1 len1 cap1 zs := by
    obtain ⟨fuel, hf⟩ := h1
    rcases open_ints Try.underlying23 Try.underlying2 (by kernel_rfl) hf with ⟨hcs, _⟩ | ⟨x, l, c, zs, hcs, _, hl, hm, hz, _, hcell, hwz⟩
    · simp [Value.cells] at hcs
      obtain ⟨rfl, rfl, rfl⟩ := hcs
      exact ⟨[], .inl ⟨rfl, rfl, rfl, rfl⟩⟩
    · simp [Value.cells] at hcs
      obtain ⟨rfl, rfl, rfl⟩ := hcs
      exact ⟨zs, .inr ⟨_, rfl, hl, hm, by simpa using hz, hcell, hwz⟩⟩
  clear hA0 hval0
  refine (walk a0 len0 cap0 z0 a1 len1 cap1 z1 W w0 w1).mono fun e W' ⟨he, bel⟩ => ?_
  subst he
  exact ⟨_, rfl, _, _, _, [], _, [], hW', trodAll_mk1 (shut_bool Try.underlying4 _), (trodAll_cons_mk (Below.trod laidOut (by kernel_rfl) (of_decide_eq_true (by kernel_rfl)) k0 bel lt0) (trodAll_cons_mk (Below.trod laidOut (by kernel_rfl) (of_decide_eq_true (by kernel_rfl)) k1 bel lt1) trodAll_mk0)), rfl, bel.frame _, fun h => by cases h⟩

theorem over : Rows.cellMakesRow.holds Try.pinned (OpenSpec.ofChange Rows.cellMakesSpec) :=
  OpenClaim.holds_of_wide 4 Try.f4 rfl rfl rfl rfl rfl rfl rfl ⟨rfl, rfl, rfl, rfl, rfl⟩ rfl rfl rfl rfl rfl (by kernel_rfl) Try.func4 (by kernel_rfl)
    (of_decide_eq_true (by kernel_rfl)) (by unfold Func.isWrapper; first | (rw [if_pos (by decide +kernel)]; kernel_rfl) | (rw [if_neg (by decide +kernel)]; exact ⟨rfl, rfl⟩))
    (fun os started H enc _ => lifted os started H enc)

/-- ████ THE STATEMENT ████ -/
theorem proved : Rows.CellMakesSaid := over
end Go.Proofs.Ytknphbkmghflcaa.cellMakes
