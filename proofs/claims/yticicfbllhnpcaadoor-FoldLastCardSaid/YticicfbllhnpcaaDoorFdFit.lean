/-
  What fold.fitting answers; nothing that was there is written. Condition: the table of traits holds what its text lays.
-/
import Derived.Test.YticicfbllhnpcaaDoorFdLine
import Derived.Test.YticicfbllhnpcaaDoorPkC
import Derived.Deep.DeepCutAuto
set_option maxRecDepth 100000
namespace Go.Proofs.YticicfbllhnpcaaDoor.Fd
open Go.Proofs.YticicfbllhnpcaaDoor.Sh
open Go.RowKit
set_option linter.unusedVariables false

/-- The three boxes of fitting. -/
theorem fit_all (w : World) (c : Int) (s : Bool) (x y : Value) :
    FnAt (((w.alloc (.cells #[.int .i64 c, .bool s] 23)).alloc (.cells #[x, y] 27)).alloc (.cells #[.nilFunc, .int .i64 0, .bool false] 68)) w.heap.size c s ∧
    Box (((w.alloc (.cells #[.int .i64 c, .bool s] 23)).alloc (.cells #[x, y] 27)).alloc (.cells #[.nilFunc, .int .i64 0, .bool false] 68)) (w.heap.size + 1) x y ∧
    Bx 68 (((w.alloc (.cells #[.int .i64 c, .bool s] 23)).alloc (.cells #[x, y] 27)).alloc (.cells #[.nilFunc, .int .i64 0, .bool false] 68)) (w.heap.size + 1 + 1) #[.nilFunc, .int .i64 0, .bool false] ∧
    Below w.heap.size w (((w.alloc (.cells #[.int .i64 c, .bool s] 23)).alloc (.cells #[x, y] 27)).alloc (.cells #[.nilFunc, .int .i64 0, .bool false] 68)) := by
  have h1 : (w.alloc (.cells #[.int .i64 c, .bool s] 23)).heap.size = w.heap.size + 1 := by simp
  have h2 : ((w.alloc (.cells #[.int .i64 c, .bool s] 23)).alloc (.cells #[x, y] 27)).heap.size = w.heap.size + 1 + 1 := by simp
  have b2 := Box.new (w.alloc (.cells #[.int .i64 c, .bool s] 23)) x y
  have b3 := Bx.new 68 ((w.alloc (.cells #[.int .i64 c, .bool s] 23)).alloc (.cells #[x, y] 27)) #[.nilFunc, .int .i64 0, .bool false]
  rw [h1] at b2
  rw [h2] at b3
  exact ⟨bx2 (((Bx.new 23 w #[.int .i64 c, .bool s]).alloc _).alloc _), b2.alloc _, b3, below_next (below_next (below_new _ _) (below_new _ _)) (below_new _ _)⟩
/-- The three boxes of Reduce and Scan. -/
theorem red_all (w : World) (c : Int) (s : Bool) (x y : Value) :
    FnAt (((w.alloc (.cells #[.int .i64 c, .bool s] 23)).alloc (.cells #[x, y] 27)).alloc (.cells #[.slice none 0 0, .slice none 0 0] 27)) w.heap.size c s ∧
    Box (((w.alloc (.cells #[.int .i64 c, .bool s] 23)).alloc (.cells #[x, y] 27)).alloc (.cells #[.slice none 0 0, .slice none 0 0] 27)) (w.heap.size + 1) x y ∧
    Box (((w.alloc (.cells #[.int .i64 c, .bool s] 23)).alloc (.cells #[x, y] 27)).alloc (.cells #[.slice none 0 0, .slice none 0 0] 27)) (w.heap.size + 1 + 1) (.slice none 0 0) (.slice none 0 0) ∧
    Below w.heap.size w (((w.alloc (.cells #[.int .i64 c, .bool s] 23)).alloc (.cells #[x, y] 27)).alloc (.cells #[.slice none 0 0, .slice none 0 0] 27)) := by
  have h1 : (w.alloc (.cells #[.int .i64 c, .bool s] 23)).heap.size = w.heap.size + 1 := by simp
  have h2 : ((w.alloc (.cells #[.int .i64 c, .bool s] 23)).alloc (.cells #[x, y] 27)).heap.size = w.heap.size + 1 + 1 := by simp
  have b2 := Box.new (w.alloc (.cells #[.int .i64 c, .bool s] 23)) x y
  have b3 := Box.new ((w.alloc (.cells #[.int .i64 c, .bool s] 23)).alloc (.cells #[x, y] 27)) (.slice none 0 0) (.slice none 0 0)
  rw [h1] at b2
  rw [h2] at b3
  exact ⟨bx2 (((Bx.new 23 w #[.int .i64 c, .bool s]).alloc _).alloc _), b2.alloc _, b3, below_next (below_next (below_new _ _) (below_new _ _)) (below_new _ _)⟩
/-- What folds, or why nothing does. -/
def RetFt (w : World) (c : Int) (s : Bool) (e : Ending) (w' : World) : Prop := ∃ g, e = .returned (.tuple #[.agg #[(.func (.func 114) #[] #[.pointer (some ⟨g, 0, none⟩)]), .int .i64 (Sc.trOf c).unit, .bool (Sc.trOf c).starts], .int .i64 0]) ∧ FnAt w' g c s ∧ w.heap.size ≤ g ∧ Below w.heap.size w w'
set_option maxHeartbeats 2000000 in
theorem fit_1 (c : Int) (s : Bool) (A : Option Addr) (c1 : Nat) (d : List Int) (B : Option Addr) (c2 : Nat) (v : List Int) (w : World) (hT : Sc.Tab w) (id : Ints w A d) (iv : Ints w B v) (hd : d.length ≤ 100) (h : cellB d v.length = false) :
    Calls Tryd.prog 49 #[.agg #[.int .i64 c, .bool s], .agg #[.slice A d.length c1, .slice B v.length c2]] w fun e w' => e = .returned (.tuple #[.agg #[.nilFunc, .int .i64 0, .bool false], .int .i64 1]) ∧ Below w.heap.size w w' := by
  obtain ⟨f0, b0, r0, hb0⟩ := fit_all w c s (.slice A d.length c1) (.slice B v.length c2)
  have FN := Lib.hid (f0)
  have BC := Lib.hid (b0)
  have BR := Lib.hid (r0)
  have L := Lib.hid (hb0)
  have T := Lib.hid (hT.below L.out)
  have ID := Lib.hid (id.below L.out)
  have IV := Lib.hid (iv.below L.out)
  clear f0 b0 r0 hb0 hT id iv
  go_enter Tryd.func49, Tryd.ntmps49
  obtain ⟨qBC0, qBC1, -, -⟩ := BC.out.all
  go_wp2_with fail
  refine (cright_no _ _ d _ _ _ _ (by unfold maxLen; omega) ID.out h).mono ?_
  rintro r w1 ⟨rfl, hb⟩
  clear qBC0 qBC1
  replace FN := Lib.hid (FN.out.below hb)
  replace BC := Lib.hid (BC.out.next hb)
  replace BR := Lib.hid (BR.out.next hb)
  replace L := Lib.hid (below_next L.out hb)
  replace T := Lib.hid (T.out.below hb)
  replace ID := Lib.hid (ID.out.below hb)
  replace IV := Lib.hid (IV.out.below hb)
  clear hb
  obtain ⟨qBR0, qBR1, qBR2, fBR0, fBR1, fBR2⟩ := bx3 BR.out
  go_wp2
  obtain ⟨t0, t1, t2, _, _, _⟩ := bx3 (bx3_set BR.out (.nilFunc) (.int .i64 0) (.bool false))
  refine bodyPost_ret (v := .tuple #[.agg #[.nilFunc, .int .i64 0, .bool false], .int .i64 1]) (by simp [results, Tryd.results49, go_sem, t0, t1, t2]) rfl ?_
  exact ⟨rfl, ((L.out.setCell (by simp; try omega) _).setCell (by simp; try omega) _).setCell (by simp; try omega) _⟩
set_option maxHeartbeats 2000000 in
theorem fit_13 (c : Int) (s : Bool) (A : Option Addr) (c1 : Nat) (d : List Int) (B : Option Addr) (c2 : Nat) (v : List Int) (w : World) (hT : Sc.Tab w) (id : Ints w A d) (iv : Ints w B v) (hd : d.length ≤ 100) (h : cellB d v.length = true) (h2 : Sc.hasB c 2 = false) :
    Calls Tryd.prog 49 #[.agg #[.int .i64 c, .bool s], .agg #[.slice A d.length c1, .slice B v.length c2]] w fun e w' => e = .returned (.tuple #[.agg #[.nilFunc, .int .i64 0, .bool false], .int .i64 13]) ∧ Below w.heap.size w w' := by
  obtain ⟨f0, b0, r0, hb0⟩ := fit_all w c s (.slice A d.length c1) (.slice B v.length c2)
  have FN := Lib.hid (f0)
  have BC := Lib.hid (b0)
  have BR := Lib.hid (r0)
  have L := Lib.hid (hb0)
  have T := Lib.hid (hT.below L.out)
  have ID := Lib.hid (id.below L.out)
  have IV := Lib.hid (iv.below L.out)
  clear f0 b0 r0 hb0 hT id iv
  go_enter Tryd.func49, Tryd.ntmps49
  obtain ⟨qBC0, qBC1, -, -⟩ := BC.out.all
  go_wp2_with fail
  refine (cright_yes _ _ d _ _ _ _ (by unfold maxLen; omega) ID.out h).mono ?_
  rintro r w1 ⟨rfl, hb⟩
  clear qBC0 qBC1
  replace FN := Lib.hid (FN.out.below hb)
  replace BC := Lib.hid (BC.out.next hb)
  replace BR := Lib.hid (BR.out.next hb)
  replace L := Lib.hid (below_next L.out hb)
  replace T := Lib.hid (T.out.below hb)
  replace ID := Lib.hid (ID.out.below hb)
  replace IV := Lib.hid (IV.out.below hb)
  clear hb
  obtain ⟨qFN0, qFN1⟩ := FN.out
  go_wp2_with fail
  refine (folderBy_no c s _ T.out h2).mono ?_
  rintro r w2 ⟨rfl, hb⟩
  clear qFN0 qFN1
  replace FN := Lib.hid (FN.out.below hb)
  replace BC := Lib.hid (BC.out.next hb)
  replace BR := Lib.hid (BR.out.next hb)
  replace L := Lib.hid (below_next L.out hb)
  replace T := Lib.hid (T.out.below hb)
  replace ID := Lib.hid (ID.out.below hb)
  replace IV := Lib.hid (IV.out.below hb)
  clear hb
  have KB := Lib.hid (below_new w2 (.cells #[.nilFunc, .int .i64 0, .bool false] 68))
  replace FN := Lib.hid (FN.out.below KB.out)
  replace BC := Lib.hid (BC.out.next KB.out)
  replace BR := Lib.hid (BR.out.next KB.out)
  replace L := Lib.hid (below_next L.out KB.out)
  replace T := Lib.hid (T.out.below KB.out)
  replace ID := Lib.hid (ID.out.below KB.out)
  replace IV := Lib.hid (IV.out.below KB.out)
  obtain ⟨qBR0, qBR1, qBR2, fBR0, fBR1, fBR2⟩ := bx3 BR.out
  go_wp2
  obtain ⟨t0, t1, t2, _, _, _⟩ := bx3 (bx3_set BR.out (.nilFunc) (.int .i64 0) (.bool false))
  refine bodyPost_ret (v := .tuple #[.agg #[.nilFunc, .int .i64 0, .bool false], .int .i64 13]) (by simp [results, Tryd.results49, go_sem, t0, t1, t2]) rfl ?_
  exact ⟨rfl, ((L.out.setCell (by simp; try omega) _).setCell (by simp; try omega) _).setCell (by simp; try omega) _⟩
set_option maxHeartbeats 2000000 in
theorem fit_0 (c : Int) (s : Bool) (A : Option Addr) (c1 : Nat) (d : List Int) (B : Option Addr) (c2 : Nat) (v : List Int) (w : World) (hT : Sc.Tab w) (id : Ints w A d) (iv : Ints w B v) (hd : d.length ≤ 100) (h : cellB d v.length = true) (h2 : Sc.hasB c 2 = true) :
    Calls Tryd.prog 49 #[.agg #[.int .i64 c, .bool s], .agg #[.slice A d.length c1, .slice B v.length c2]] w (RetFt w c s) := by
  obtain ⟨f0, b0, r0, hb0⟩ := fit_all w c s (.slice A d.length c1) (.slice B v.length c2)
  have FN := Lib.hid (f0)
  have BC := Lib.hid (b0)
  have BR := Lib.hid (r0)
  have L := Lib.hid (hb0)
  have T := Lib.hid (hT.below L.out)
  have ID := Lib.hid (id.below L.out)
  have IV := Lib.hid (iv.below L.out)
  clear f0 b0 r0 hb0 hT id iv
  go_enter Tryd.func49, Tryd.ntmps49
  obtain ⟨qBC0, qBC1, -, -⟩ := BC.out.all
  go_wp2_with fail
  refine (cright_yes _ _ d _ _ _ _ (by unfold maxLen; omega) ID.out h).mono ?_
  rintro r w1 ⟨rfl, hb⟩
  clear qBC0 qBC1
  replace FN := Lib.hid (FN.out.below hb)
  replace BC := Lib.hid (BC.out.next hb)
  replace BR := Lib.hid (BR.out.next hb)
  replace L := Lib.hid (below_next L.out hb)
  replace T := Lib.hid (T.out.below hb)
  replace ID := Lib.hid (ID.out.below hb)
  replace IV := Lib.hid (IV.out.below hb)
  clear hb
  obtain ⟨qFN0, qFN1⟩ := FN.out
  have HBR := Lib.hid BR.out.lt
  go_wp2_with fail
  refine (folderBy_yes c s _ T.out h2).mono ?_
  rintro r w2 ⟨g, rfl, hf, hgl, hb⟩
  clear qFN0 qFN1
  replace FN := Lib.hid (FN.out.below hb)
  replace BC := Lib.hid (BC.out.next hb)
  replace BR := Lib.hid (BR.out.next hb)
  replace L := Lib.hid (below_next L.out hb)
  replace T := Lib.hid (T.out.below hb)
  replace ID := Lib.hid (ID.out.below hb)
  replace IV := Lib.hid (IV.out.below hb)
  clear hb
  have FG := Lib.hid hf
  clear hf
  have hgw : w.heap.size + 1 + 1 < g := by have := HBR.out; omega
  have KB := Lib.hid (below_new w2 (.cells #[(.func (.func 114) #[] #[.pointer (some ⟨g, 0, none⟩)]), .int .i64 (Sc.trOf c).unit, .bool (Sc.trOf c).starts] 68))
  have BF := Lib.hid (Bx.new 68 w2 #[(.func (.func 114) #[] #[.pointer (some ⟨g, 0, none⟩)]), .int .i64 (Sc.trOf c).unit, .bool (Sc.trOf c).starts])
  replace FN := Lib.hid (FN.out.below KB.out)
  replace BC := Lib.hid (BC.out.next KB.out)
  replace BR := Lib.hid (BR.out.next KB.out)
  replace L := Lib.hid (below_next L.out KB.out)
  replace T := Lib.hid (T.out.below KB.out)
  replace ID := Lib.hid (ID.out.below KB.out)
  replace IV := Lib.hid (IV.out.below KB.out)
  replace FG := Lib.hid (FG.out.below KB.out)
  obtain ⟨qBR0, qBR1, qBR2, fBR0, fBR1, fBR2⟩ := bx3 BR.out
  obtain ⟨qBF0, qBF1, qBF2, -, -, -⟩ := bx3 BF.out
  have hlt := BR.out.lt
  go_wp2
  obtain ⟨t0, t1, t2, _, _, _⟩ := bx3 (bx3_set BR.out ((.func (.func 114) #[] #[.pointer (some ⟨g, 0, none⟩)])) (.int .i64 (Sc.trOf c).unit) (.bool (Sc.trOf c).starts))
  refine bodyPost_ret (v := .tuple #[.agg #[(.func (.func 114) #[] #[.pointer (some ⟨g, 0, none⟩)]), .int .i64 (Sc.trOf c).unit, .bool (Sc.trOf c).starts], .int .i64 0]) (by simp [results, Tryd.results49, go_sem, t0, t1, t2]) rfl ?_
  refine ⟨g, rfl, ((FG.out.far (p := ⟨w.heap.size + 1 + 1, 0, none⟩) (by simp; omega) _).far (p := ⟨w.heap.size + 1 + 1, 1, none⟩) (by simp; omega) _).far (p := ⟨w.heap.size + 1 + 1, 2, none⟩) (by simp; omega) _, by omega, ((L.out.setCell (by simp; try omega) _).setCell (by simp; try omega) _).setCell (by simp; try omega) _⟩
end Go.Proofs.YticicfbllhnpcaaDoor.Fd
