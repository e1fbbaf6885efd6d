/-
  product.Outer where there is none: why. Nothing that was there is written. Condition: the table of traits holds what its text lays.
-/
import Derived.Test.YtbanegjmapgkdaaDoorPrCat
import Derived.Test.YtbanegjmapgkdaaDoorPkC
set_option maxRecDepth 100000
namespace Go.Proofs.YtbanegjmapgkdaaDoor.Pr
open Go.Proofs.YtbanegjmapgkdaaDoor.Sh
open Go.Proofs.YtbanegjmapgkdaaDoor.Fd
open Go.RowKit
set_option linter.unusedVariables false

theorem out0_all (w : World) (c : Int) (s : Bool) (x y x' y' : Value) :
    FnAt ((World.alloc (World.alloc (World.alloc (World.alloc w (Obj.cells #[Value.int IntKind.i64 c, Value.bool s] 23)) (Obj.cells #[x, y] 29)) (Obj.cells #[x', y'] 29)) (Obj.cells #[Value.slice none 0 0, Value.slice none 0 0] 29))) w.heap.size c s ∧ Box ((World.alloc (World.alloc (World.alloc (World.alloc w (Obj.cells #[Value.int IntKind.i64 c, Value.bool s] 23)) (Obj.cells #[x, y] 29)) (Obj.cells #[x', y'] 29)) (Obj.cells #[Value.slice none 0 0, Value.slice none 0 0] 29))) (w.heap.size + 1) x y ∧ Box ((World.alloc (World.alloc (World.alloc (World.alloc w (Obj.cells #[Value.int IntKind.i64 c, Value.bool s] 23)) (Obj.cells #[x, y] 29)) (Obj.cells #[x', y'] 29)) (Obj.cells #[Value.slice none 0 0, Value.slice none 0 0] 29))) (w.heap.size + 1 + 1) x' y' ∧ Box ((World.alloc (World.alloc (World.alloc (World.alloc w (Obj.cells #[Value.int IntKind.i64 c, Value.bool s] 23)) (Obj.cells #[x, y] 29)) (Obj.cells #[x', y'] 29)) (Obj.cells #[Value.slice none 0 0, Value.slice none 0 0] 29))) (w.heap.size + 1 + 1 + 1) (.slice none 0 0) (.slice none 0 0) ∧ ((World.alloc (World.alloc (World.alloc (World.alloc w (Obj.cells #[Value.int IntKind.i64 c, Value.bool s] 23)) (Obj.cells #[x, y] 29)) (Obj.cells #[x', y'] 29)) (Obj.cells #[Value.slice none 0 0, Value.slice none 0 0] 29))).heap.size = w.heap.size + 1 + 1 + 1 + 1 ∧ Below w.heap.size w ((World.alloc (World.alloc (World.alloc (World.alloc w (Obj.cells #[Value.int IntKind.i64 c, Value.bool s] 23)) (Obj.cells #[x, y] 29)) (Obj.cells #[x', y'] 29)) (Obj.cells #[Value.slice none 0 0, Value.slice none 0 0] 29))) := by
  have hs : ∀ (W : World) (o : Obj), (W.alloc o).heap.size = W.heap.size + 1 := fun W o => by simp
  have b2 := Box.new (w.alloc (.cells #[.int .i64 c, .bool s] 23)) x y
  rw [hs] at b2
  have b3 := Box.new ((w.alloc (.cells #[.int .i64 c, .bool s] 23)).alloc (.cells #[x, y] 29)) x' y'
  rw [hs, hs] at b3
  have b4 := Box.new (((w.alloc (.cells #[.int .i64 c, .bool s] 23)).alloc (.cells #[x, y] 29)).alloc (.cells #[x', y'] 29)) (.slice none 0 0) (.slice none 0 0)
  rw [hs, hs, hs] at b4
  exact ⟨bx2 ((((Bx.new 23 w #[.int .i64 c, .bool s]).alloc _).alloc _).alloc _), (b2.alloc _).alloc _, b3.alloc _, b4, by rw [hs, hs, hs, hs], below_next (below_next (below_next (below_new _ _) (below_new _ _)) (below_new _ _)) (below_new _ _)⟩
theorem fns_one (w : World) (c : Int) (s : Bool) (t : TypeId) : Fns (w.alloc (.cells #[.int .i64 c, .bool s] t)) w.heap.size [(c, s)] := by
  refine ⟨by simp, fun i hi => ?_⟩
  obtain rfl : i = 0 := by simp at hi; omega
  have h := heap_alloc_new w (.cells #[.int .i64 c, .bool s] t)
  exact ⟨by rw [cell_of_row _ _ 0 _ _ _ h]; rfl, by rw [cell_of_row _ _ (0 * 2 + 1) _ _ _ h]; rfl⟩
theorem zeroD_not {d : List Int} (h : rightB d = false) : zeroD d = [] := by simp [zeroD, h]
theorem zeroV_not {d : List Int} (h : rightB d = false) : zeroV d = [] := by simp [zeroV, sizeI, h]
section
variable (c : Int) (s : Bool) (A : Option Addr) (c1 : Nat) (d : List Int) (B : Option Addr) (c2 : Nat) (v : List Int) (A' : Option Addr) (c1' : Nat) (d' : List Int) (B' : Option Addr) (c2' : Nat) (v' : List Int) (w : World)
set_option maxHeartbeats 4000000 in
theorem outer_e (E : Int) (hT : Sc.Tab w) (id : Ints w A d) (id' : Ints w A' d') (hd : d.length ≤ 100) (hd' : d'.length ≤ 100) (h : pfitE d v.length d' v'.length [(c, s)] = E) (hE : E ≠ 0) :
    Calls Tryd.prog 15 #[.agg #[.int .i64 c, .bool s], .agg #[.slice A d.length c1, .slice B v.length c2], .agg #[.slice A' d'.length c1', .slice B' v'.length c2']] w (RetCI w [] [] (.int .i64 E)) := by
  obtain ⟨f0, b0, b1, b2, hs0, hb0⟩ := out0_all w c s (.slice A d.length c1) (.slice B v.length c2) (.slice A' d'.length c1') (.slice B' v'.length c2')
  have FN := Lib.hid f0
  have BA := Lib.hid b0
  have BB := Lib.hid b1
  have BO := Lib.hid b2
  have HS := Lib.hid hs0
  have L := Lib.hid hb0
  have T := Lib.hid (hT.below L.out)
  have ID := Lib.hid (id.below L.out)
  have ID' := Lib.hid (id'.below L.out)
  have HH := Lib.hid h
  have HE := Lib.hid hE
  clear f0 b0 b1 b2 hs0 hb0 hT id id' h hE
  go_enter Tryd.func15, Tryd.ntmps15
  go_upto_region 1 with (fail)
  generalize hW : (World.alloc (World.alloc (World.alloc (World.alloc w (Obj.cells #[Value.int IntKind.i64 c, Value.bool s] 23)) (Obj.cells #[(.slice A d.length c1), (.slice B v.length c2)] 29)) (Obj.cells #[(.slice A' d'.length c1'), (.slice B' v'.length c2')] 29)) (Obj.cells #[Value.slice none 0 0, Value.slice none 0 0] 29)) = W at *
  clear hW
  obtain ⟨q0, q1⟩ := FN.out
  obtain ⟨a0, a1, -, -⟩ := BA.out.all
  obtain ⟨b0, b1, -, -⟩ := BB.out.all
  have KB := Lib.hid (below_new W (.cells #[.int .i64 c, .bool s] 23))
  have PF := Lib.hid (HH.out ▸ pfit_any A c1 d B c2 v A' c1' d' B' c2' v' W.heap.size [(c, s)] _ (T.out.below KB.out) (ID.out.below KB.out) (ID'.out.below KB.out) (fns_one W c s 23) (by simp) hd hd')
  replace BO := Lib.hid (BO.out.next KB.out)
  replace L := Lib.hid (below_next L.out KB.out)
  clear T ID ID' BA BB KB
  go_wp2_with fail
  refine (PF.out).mono ?_
  rintro r w1 ⟨rfl, hb⟩
  replace BO := Lib.hid (BO.out.next hb)
  replace L := Lib.hid (below_next L.out hb)
  clear hb q0 q1 a0 a1 b0 b1 PF FN
  have hE : (E == 0) = false := by simpa using HE.out
  obtain ⟨o0, o1, o2, o3⟩ := BO.out.all
  go_wp2
  obtain ⟨t0, t1, _, _⟩ := ((BO.out.set0 (.slice none 0 0)).set1 (.slice none 0 0)).all
  refine bodyPost_ret (v := .tuple #[.agg #[.slice none 0 0, .slice none 0 0], .int .i64 E]) (by simp [results, Tryd.results15, go_sem, t0, t1]) rfl ?_
  exact ⟨none, 0, none, 0, rfl, Ints.nil _ _, Ints.nil _ _, (L.out.setCell (by simp; omega) _).setCell (by simp; omega) _⟩
set_option maxHeartbeats 4000000 in
theorem outer_4 (hT : Sc.Tab w) (id : Ints w A d) (id' : Ints w A' d') (hd : d.length ≤ 50) (hd' : d'.length ≤ 50) (h : pfitE d v.length d' v'.length [(c, s)] = 0) (hR : rightB (d ++ d') = false) :
    Calls Tryd.prog 15 #[.agg #[.int .i64 c, .bool s], .agg #[.slice A d.length c1, .slice B v.length c2], .agg #[.slice A' d'.length c1', .slice B' v'.length c2']] w (RetCI w [] [] (.int .i64 4)) := by
  obtain ⟨f0, b0, b1, b2, hs0, hb0⟩ := out0_all w c s (.slice A d.length c1) (.slice B v.length c2) (.slice A' d'.length c1') (.slice B' v'.length c2')
  have FN := Lib.hid f0
  have BA := Lib.hid b0
  have BB := Lib.hid b1
  have BO := Lib.hid b2
  have HS := Lib.hid hs0
  have L := Lib.hid hb0
  have T := Lib.hid (hT.below L.out)
  have ID := Lib.hid (id.below L.out)
  have ID' := Lib.hid (id'.below L.out)
  have HH := Lib.hid h
  have HR := Lib.hid hR
  clear f0 b0 b1 b2 hs0 hb0 hT id id' h hR
  go_enter Tryd.func15, Tryd.ntmps15
  go_upto_region 1 with (fail)
  generalize hW : (World.alloc (World.alloc (World.alloc (World.alloc w (Obj.cells #[Value.int IntKind.i64 c, Value.bool s] 23)) (Obj.cells #[(.slice A d.length c1), (.slice B v.length c2)] 29)) (Obj.cells #[(.slice A' d'.length c1'), (.slice B' v'.length c2')] 29)) (Obj.cells #[Value.slice none 0 0, Value.slice none 0 0] 29)) = W at *
  clear hW
  obtain ⟨q0, q1⟩ := FN.out
  obtain ⟨a0, a1, -, -⟩ := BA.out.all
  obtain ⟨b0, b1, -, -⟩ := BB.out.all
  have KB := Lib.hid (below_new W (.cells #[.int .i64 c, .bool s] 23))
  have PF := Lib.hid (HH.out ▸ pfit_any A c1 d B c2 v A' c1' d' B' c2' v' W.heap.size [(c, s)] _ (T.out.below KB.out) (ID.out.below KB.out) (ID'.out.below KB.out) (fns_one W c s 23) (by simp) (by omega) (by omega))
  go_wp2_with fail
  refine (PF.out).mono ?_
  rintro r w1 ⟨rfl, hb⟩
  have KW := Lib.hid (below_next KB.out hb)
  clear hb q0 q1 a0 a1 b0 b1 PF KB
  replace FN := Lib.hid (FN.out.below KW.out)
  replace BA := Lib.hid (BA.out.next KW.out)
  replace BB := Lib.hid (BB.out.next KW.out)
  replace BO := Lib.hid (BO.out.next KW.out)
  replace T := Lib.hid (T.out.below KW.out)
  replace ID := Lib.hid (ID.out.below KW.out)
  replace ID' := Lib.hid (ID'.out.below KW.out)
  replace L := Lib.hid (below_next L.out KW.out)
  clear KW
  go_upto_region 4 with (fail)
  obtain ⟨a0, a1, -, -⟩ := BA.out.all
  obtain ⟨b0, b1, -, -⟩ := BB.out.all
  have KB := Lib.hid (below_new w1 (.cells #[.slice A d.length c1, .slice A' d'.length c1'] 26))
  have RW := heap_alloc_new w1 (.cells #[.slice A d.length c1, .slice A' d'.length c1'] 26)
  have CC := Lib.hid (concat_any w1.heap.size A c1 d A' c1' d' _ (by rw [cell_of_row _ _ 0 _ _ _ RW]; rfl) (by rw [cell_of_row _ _ 1 _ _ _ RW]; rfl) (by omega) (by omega) (ID.out.below KB.out) (ID'.out.below KB.out))
  clear RW
  go_wp2_with fail
  refine (CC.out).mono ?_
  rintro r w2 ⟨A2, n2, rfl, hm2, hb⟩
  have KW := Lib.hid (below_next KB.out hb)
  have I2 := Lib.hid hm2.ints'
  clear hb hm2 KB a0 a1 b0 b1 CC
  replace BO := Lib.hid (BO.out.next KW.out)
  replace L := Lib.hid (below_next L.out KW.out)
  clear KW
  have ZZ := Lib.hid (zero_any A2 n2 (d ++ d') w2 (by simp; omega) I2.out)
  rw [zeroD_not HR.out, zeroV_not HR.out, List.length_append] at ZZ
  go_wp2_with fail
  refine (ZZ.out).mono ?_
  rintro r w3 ⟨x3, rfl, ⟨A3, n3, B3, e3, rfl, -, -, -⟩, hb⟩
  replace BO := Lib.hid (BO.out.next hb)
  replace L := Lib.hid (below_next L.out hb)
  clear hb ZZ
  have KB := Lib.hid (below_new w3 (.cells #[.slice A3 0 n3, .slice B3 0 e3] 29))
  replace BO := Lib.hid (BO.out.next KB.out)
  replace L := Lib.hid (below_next L.out KB.out)
  go_wp2_with fail
  refine (cright_no A3 n3 [] B3 0 e3 _ (by simp) (Ints.nil _ _) (by simp [cellB, rightB, sizeI, prod])).mono ?_
  rintro r w4 ⟨rfl, hb⟩
  replace BO := Lib.hid (BO.out.next hb)
  replace L := Lib.hid (below_next L.out hb)
  clear hb KB
  obtain ⟨o0, o1, o2, o3⟩ := BO.out.all
  go_wp2
  obtain ⟨t0, t1, _, _⟩ := ((BO.out.set0 (.slice none 0 0)).set1 (.slice none 0 0)).all
  refine bodyPost_ret (v := .tuple #[.agg #[.slice none 0 0, .slice none 0 0], .int .i64 4]) (by simp [results, Tryd.results15, go_sem, t0, t1]) rfl ?_
  exact ⟨none, 0, none, 0, rfl, Ints.nil _ _, Ints.nil _ _, (L.out.setCell (by simp; omega) _).setCell (by simp; omega) _⟩
end
end Go.Proofs.YtbanegjmapgkdaaDoor.Pr
