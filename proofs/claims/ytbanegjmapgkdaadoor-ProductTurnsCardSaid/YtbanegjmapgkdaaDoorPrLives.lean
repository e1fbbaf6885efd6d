/-
  rifflelaw09.lives is true: the document's examples. Condition: the table of traits holds what its text lays.
-/
import Derived.Test.YtbanegjmapgkdaaDoorPrAny
set_option maxRecDepth 100000
namespace Go.Proofs.YtbanegjmapgkdaaDoor.Pr
open Go.Proofs.YtbanegjmapgkdaaDoor.Sh Go.Proofs.YtbanegjmapgkdaaDoor.St
open Go.Proofs.YtbanegjmapgkdaaDoor.Fd
open Go.RowKit
set_option linter.unusedVariables false

theorem rowV_fold {c : Int} {s : Bool} {l : List Int} (h2 : Sc.hasB c 2 = true) (h : 0 < l.length) : Fd.rowV c s l = Fd.foldI c s l := by
  unfold Fd.rowV Fd.rowI
  rw [if_pos h2, if_neg (by omega)]
/-- A cell with one axis of these numbers. -/
def RetList (A : Option Addr) (n c : Nat) (w : World) (e : Ending) (w' : World) : Prop := ∃ b, e = .returned (.agg #[.slice (some ⟨b, 0, none⟩) 1 1, .slice A n c]) ∧ Ints w' (some ⟨b, 0, none⟩) [(n : Int)] ∧ Below w.heap.size w w'
theorem ints_lit (w : World) (xs : List Int) (t : TypeId) : Ints (w.alloc (.cells (cellsI xs) t)) (some ⟨w.heap.size, 0, none⟩) xs := fun _ => ⟨w.heap.size, 0, rfl, by simp, fun i hi => by
  have h := heap_alloc_new w (.cells (cellsI xs) t)
  rw [Nat.zero_add, cell_of_row _ _ i _ _ _ h]
  simp [cellsI, List.getD, hi]⟩
set_option maxHeartbeats 2000000 in
theorem list_any (A : Option Addr) (n c : Nat) (w : World) (hn : n ≤ 1000) : Calls Tryd.prog 17 #[.slice A n c] w (RetList A n c w) := by
  have B1 := Lib.hid (Box.new w (.slice none 0 0) (.slice none 0 0))
  have L1 := Lib.hid (below_new w (.cells #[.slice none 0 0, .slice none 0 0] 29))
  go_enter Tryd.func17, Tryd.ntmps17
  go_upto_region 1 with (fail)
  generalize hW : w.alloc (.cells #[.slice none 0 0, .slice none 0 0] 29) = w1 at *
  clear hW
  have hlt := B1.out.lt
  obtain ⟨o0, o1, o2, o3⟩ := B1.out.all
  have hne : ¬ w.heap.size = w1.heap.size := by omega
  have B3 := Lib.hid ((B1.out.set0 (.slice (some ⟨w1.heap.size, 0, none⟩) 1 1)).set1 (.slice A n c))
  have L3 := Lib.hid ((L1.out.setCell (p := ⟨w.heap.size, 0, none⟩) (Nat.le_refl _) (.slice (some ⟨w1.heap.size, 0, none⟩) 1 1)).setCell (p := ⟨w.heap.size, 1, none⟩) (Nat.le_refl _) (.slice A n c))
  have hsz : ((w1.setCell ⟨w.heap.size, 0, none⟩ (.slice (some ⟨w1.heap.size, 0, none⟩) 1 1)).setCell ⟨w.heap.size, 1, none⟩ (.slice A n c)).heap.size = w1.heap.size := by simp
  go_wp2
  generalize (w1.setCell ⟨w.heap.size, 0, none⟩ (.slice (some ⟨w1.heap.size, 0, none⟩) 1 1)).setCell ⟨w.heap.size, 1, none⟩ (.slice A n c) = w3 at *
  have I3 := ints_lit w3 [(n : Int)] 3
  rw [hsz] at I3
  obtain ⟨t0, t1, _, _⟩ := (B3.out.alloc (.cells #[.int .i64 (n : Nat)] 3)).all
  refine bodyPost_ret (v := .agg #[.slice (some ⟨w1.heap.size, 0, none⟩) 1 1, .slice A n c]) (by simp [results, Tryd.results17, go_sem, t0, t1]) rfl ?_
  exact ⟨w1.heap.size, rfl, I3, below_next L3.out (below_new w3 _)⟩
theorem live_e : innE 1 false 3 false [2] 2 [2] 2 = 0 ∧ outE 3 false [2] 2 [2] 2 = 0 := by decide +kernel
theorem live_v : innV 1 false 3 false [2] [1, 2] [2] [3, 4] = [11] ∧ outV 3 false [1, 2] [3, 4] = [3, 4, 6, 8] := by
  have m : ∀ a b : Int, Sc.doI 3 false a b = wrap64 (a * b) := fun a b => rfl
  have p : ∀ a b : Int, Sc.doI 1 false a b = wrap64 (a + b) := fun a b => rfl
  have h13 : Sc.doI 3 false 1 3 = 3 := by rw [m, Sc.wrap_def]; decide
  have h14 : Sc.doI 3 false 1 4 = 4 := by rw [m, Sc.wrap_def]; decide
  have h23 : Sc.doI 3 false 2 3 = 6 := by rw [m, Sc.wrap_def]; decide
  have h24 : Sc.doI 3 false 2 4 = 8 := by rw [m, Sc.wrap_def]; decide
  have h38 : Sc.doI 1 false 3 8 = 11 := by rw [p, Sc.wrap_def]; decide
  refine ⟨?_, ?_⟩
  · show [rowV 1 false [Sc.doI 3 false 1 3, Sc.doI 3 false 2 4]] = [11]
    rw [h13, h24, rowV_fold (by decide) (by simp)]
    show [Sc.doI 1 false 3 8] = [11]
    rw [h38]
  · show [Sc.doI 3 false 1 3, Sc.doI 3 false 1 4, Sc.doI 3 false 2 3, Sc.doI 3 false 2 4] = [3, 4, 6, 8]
    rw [h13, h14, h23, h24]
theorem allR_two {a b : Int} (h : Sc.InR a ∧ Sc.InR b) : AllR [a, b] := fun x hx => by
  simp at hx
  rcases hx with rfl | rfl
  · exact h.1
  · exact h.2
theorem r2 : AllR [1, 2] := allR_two (by unfold Sc.InR; omega)
theorem r4 : AllR [3, 4] := allR_two (by unfold Sc.InR; omega)
def RetIn (n : Nat) (xs : List Int) (W : World) (e : Ending) (w' : World) : Prop := ∃ A3 c3 B3 e3, e = .returned (.tuple #[.agg #[.slice A3 n c3, .slice B3 xs.length e3], .int .i64 0]) ∧ Ints w' B3 xs ∧ Below W.heap.size W w'
section
variable (W : World) (hT : Sc.Tab W) (b1 b2 : Nat) (A B : Option Addr) (i1 : Ints W (some ⟨b1, 0, none⟩) [2]) (iA : Ints W A [1, 2]) (i2 : Ints W (some ⟨b2, 0, none⟩) [2]) (iB : Ints W B [3, 4])
include hT i1 iA i2 iB
theorem in_w : Calls Tryd.prog 12 #[.agg #[.int .i64 1, .bool false], .agg #[.int .i64 3, .bool false], .agg #[.slice (some ⟨b1, 0, none⟩) 1 1, .slice A 2 2], .agg #[.slice (some ⟨b2, 0, none⟩) 1 1, .slice B 2 2]] W (RetIn 0 [11] W) := by
  have h := inner_any 1 false 3 false (some ⟨b1, 0, none⟩) 1 [2] A 2 [1, 2] (some ⟨b2, 0, none⟩) 1 [2] B 2 [3, 4] W hT i1 i2 (by simp) (by simp) r2 r4 iA iB 0 live_e.1
  rw [if_pos rfl, if_pos rfl, live_v.1, show aheadL [2] ++ behindL [2] = [] by decide] at h
  exact h.mono fun e w' ⟨A3, c3, B3, e3, h1, h2, h3, h4⟩ => ⟨A3, c3, B3, e3, h1, h3, h4⟩
theorem out_w : Calls Tryd.prog 15 #[.agg #[.int .i64 3, .bool false], .agg #[.slice (some ⟨b1, 0, none⟩) 1 1, .slice A 2 2], .agg #[.slice (some ⟨b2, 0, none⟩) 1 1, .slice B 2 2]] W (RetIn 2 [3, 4, 6, 8] W) := by
  have h := outer_any 3 false (some ⟨b1, 0, none⟩) 1 [2] A 2 [1, 2] (some ⟨b2, 0, none⟩) 1 [2] B 2 [3, 4] W hT i1 i2 (by simp) (by simp) r2 r4 iA iB 0 live_e.2
  rw [if_pos rfl, if_pos rfl, live_v.2] at h
  exact h.mono fun e w' ⟨A3, c3, B3, e3, h1, h2, h3, h4⟩ => ⟨A3, c3, B3, e3, h1, h3, h4⟩
end
theorem nums_b (A : Option Addr) (c : Nat) (a : List Int) (B : Option Addr) (d n : Nat) (w : World) (hn : a.length = n) (hl : n ≤ maxLen) (ha : Ints w A a) (hb : Ints w B a) :
    Calls Tryd.prog 28 #[.slice A n c, .slice B n d] w fun e w' => e = .returned (.bool true) ∧ Below w.heap.size w w' := by
  subst hn
  exact (nums_any A c a B d a w hl hl ha hb).mono fun e w' ⟨h1, n, h2⟩ => ⟨by simpa using h1, by rw [h2]; exact Sh.below_drewN (Below.refl _ _) n⟩
set_option maxHeartbeats 8000000 in
theorem lives_any (w : World) (hT : Sc.Tab w) : Calls Tryd.prog 11 #[] w fun e w' => e = .returned (.bool true) ∧ Below w.heap.size w w' := by
  have T0 := Lib.hid hT
  have b0 := below_new w (.cells #[.int .i64 1, .int .i64 2] 2)
  have L0 := Lib.hid b0
  have I0 := Lib.hid (ints_lit w [1, 2] 2)
  have LA := Lib.hid (list_any (some ⟨w.heap.size, 0, none⟩) 2 2 (w.alloc (.cells #[.int .i64 1, .int .i64 2] 2)) (by omega))
  clear hT b0
  go_enter Tryd.func11, Tryd.ntmps11
  go_wp2_with fail
  refine LA.out.mono ?_
  rintro r w1 ⟨b1, rfl, i1, hb1⟩
  have b2 := below_new w1 (.cells #[.int .i64 3, .int .i64 4] 2)
  have J0 := Lib.hid ((I0.out.below hb1).below b2)
  have J1 := Lib.hid (i1.below b2)
  have J2 := Lib.hid (ints_lit w1 [3, 4] 2)
  have L1 := Lib.hid (below_next (below_next L0.out hb1) b2)
  have LB := Lib.hid (list_any (some ⟨w1.heap.size, 0, none⟩) 2 2 (w1.alloc (.cells #[.int .i64 3, .int .i64 4] 2)) (by omega))
  clear i1 hb1 b2 LA I0
  go_wp2_with fail
  refine LB.out.mono ?_
  rintro r w2 ⟨b2, rfl, i2, hb2⟩
  have L2 := Lib.hid (below_next L1.out hb2)
  have IN := Lib.hid (in_w w2 (T0.out.below L2.out) b1 b2 _ _ (J1.out.below hb2) (J0.out.below hb2) i2 (J2.out.below hb2))
  clear i2 hb2 LB J0 J1 J2
  go_wp2_with fail
  refine IN.out.mono ?_
  rintro r w3 ⟨A3, c3, B3, e3, rfl, i3, hb3⟩
  have L3 := Lib.hid (below_next (below_next L2.out hb3) (below_new w3 (.cells #[.slice A3 0 c3, .slice B3 1 e3] 29)))
  have X3 := Lib.hid (Box.new w3 (.slice A3 0 c3) (.slice B3 1 e3))
  have I3 := Lib.hid (i3.below (below_new w3 (.cells #[.slice A3 0 c3, .slice B3 1 e3] 29)))
  clear i3 hb3 IN L0 L1 L2
  go_upto_region 2 with (fail)
  generalize hW4 : w3.alloc (.cells #[.slice A3 0 c3, .slice B3 1 e3] 29) = w4 at *
  clear hW4
  generalize w3.heap.size = g3 at *
  have b0 := below_new w4 (.cells #[.int .i64 1, .int .i64 2] 2)
  have I0 := Lib.hid (ints_lit w4 [1, 2] 2)
  have LA := Lib.hid (list_any (some ⟨w4.heap.size, 0, none⟩) 2 2 (w4.alloc (.cells #[.int .i64 1, .int .i64 2] 2)) (by omega))
  have K0 := Lib.hid b0
  clear b0
  go_wp2_with fail
  refine LA.out.mono ?_
  rintro r w5 ⟨b1, rfl, i1, hb1⟩
  have b2 := below_new w5 (.cells #[.int .i64 3, .int .i64 4] 2)
  have J0 := Lib.hid ((I0.out.below hb1).below b2)
  have J1 := Lib.hid (i1.below b2)
  have J2 := Lib.hid (ints_lit w5 [3, 4] 2)
  have K1 := Lib.hid (below_next (below_next K0.out hb1) b2)
  have LB := Lib.hid (list_any (some ⟨w5.heap.size, 0, none⟩) 2 2 (w5.alloc (.cells #[.int .i64 3, .int .i64 4] 2)) (by omega))
  clear i1 hb1 b2 LA I0
  go_wp2_with fail
  refine LB.out.mono ?_
  rintro r w6 ⟨b2, rfl, i2, hb2⟩
  have K2 := Lib.hid (below_next K1.out hb2)
  have OU := Lib.hid (out_w w6 (T0.out.below (below_next L3.out K2.out)) b1 b2 _ _ (J1.out.below hb2) (J0.out.below hb2) i2 (J2.out.below hb2))
  clear i2 hb2 LB J0 J1 J2
  go_wp2_with fail
  refine OU.out.mono ?_
  rintro r w7 ⟨A7, c7, B7, e7, rfl, i7, hb7⟩
  have kb := below_new w7 (.cells #[.slice A7 2 c7, .slice B7 4 e7] 29)
  have K3 := Lib.hid (below_next (below_next K2.out hb7) kb)
  have X7 := Lib.hid (Box.new w7 (.slice A7 2 c7) (.slice B7 4 e7))
  have I7 := Lib.hid (i7.below kb)
  clear i7 hb7 OU K0 K1 K2 kb
  go_upto_region 3 with (fail)
  generalize hW8 : w7.alloc (.cells #[.slice A7 2 c7, .slice B7 4 e7] 29) = w8 at *
  clear hW8
  generalize w7.heap.size = g7 at *
  have X8 := Lib.hid (X3.out.next K3.out)
  have I8 := Lib.hid (I3.out.below K3.out)
  have b9 := below_new w8 (.cells #[.int .i64 11] 2)
  have N1 := Lib.hid (nums_b B3 e3 [11] (some ⟨w8.heap.size, 0, none⟩) 1 1 (w8.alloc (.cells #[.int .i64 11] 2)) rfl (by unfold maxLen; omega) (I8.out.below b9) (ints_lit w8 [11] 2))
  have K9 := Lib.hid b9
  obtain ⟨x0, x1, -, -⟩ := X8.out.all
  clear b9
  go_wp2_with fail
  refine N1.out.mono ?_
  rintro r w10 ⟨rfl, hb10⟩
  have K10 := Lib.hid (below_next K9.out hb10)
  have b11 := below_new w10 (.cells #[.int .i64 3, .int .i64 4, .int .i64 6, .int .i64 8] 2)
  have N2 := Lib.hid (nums_b B7 e7 [3, 4, 6, 8] (some ⟨w10.heap.size, 0, none⟩) 4 4 (w10.alloc (.cells #[.int .i64 3, .int .i64 4, .int .i64 6, .int .i64 8] 2)) rfl (by unfold maxLen; omega) ((I7.out.below K10.out).below b11) (ints_lit w10 [3, 4, 6, 8] 2))
  have K11 := Lib.hid (below_next K10.out b11)
  obtain ⟨y0, y1, -, -⟩ := (X7.out.next K10.out).all
  clear hb10 b11 N1 x0 x1
  go_wp2_with fail
  refine N2.out.mono ?_
  rintro r w12 ⟨rfl, hb12⟩
  have L12 := Lib.hid (below_next (below_next (below_next L3.out K3.out) K11.out) hb12)
  clear hb12
  go_wp2
  go_ret
  exact ⟨rfl, L12.out⟩
end Go.Proofs.YtbanegjmapgkdaaDoor.Pr
