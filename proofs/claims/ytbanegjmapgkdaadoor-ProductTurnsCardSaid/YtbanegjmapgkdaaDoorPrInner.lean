/-
  product.Inner: what it tells. Conditions: the table of traits holds what its text lays; the numbers are int64.
-/
import Derived.Test.YtbanegjmapgkdaaDoorPrCom
set_option maxRecDepth 100000
namespace Go.Proofs.YtbanegjmapgkdaaDoor.Pr
open Go.Proofs.YtbanegjmapgkdaaDoor.Sh Go.Proofs.YtbanegjmapgkdaaDoor.St
open Go.Proofs.YtbanegjmapgkdaaDoor.Fd
open Go.RowKit
set_option linter.unusedVariables false

/-- The boxes of Inner: two functions, two cells, and what it tells. -/
def In5 (w W : World) (cf : Int) (sf : Bool) (cg : Int) (sg : Bool) (X Y X' Y' : Value) : Prop :=
  FnAt W w.heap.size cf sf ∧ FnAt W (w.heap.size + 1) cg sg ∧ Box W (w.heap.size + 1 + 1) X Y ∧ Box W (w.heap.size + 1 + 1 + 1) X' Y' ∧ Box W (w.heap.size + 1 + 1 + 1 + 1) (.slice none 0 0) (.slice none 0 0) ∧ Below w.heap.size w W
section
variable {w W W' : World} {cf cg : Int} {sf sg : Bool} {X Y X' Y' : Value}
theorem In5.lt (h : In5 w W cf sf cg sg X Y X' Y') : w.heap.size + 1 + 1 + 1 + 1 < W.heap.size := h.2.2.2.2.1.lt
theorem In5.next (h : In5 w W cf sf cg sg X Y X' Y') (hb : Below W.heap.size W W') : In5 w W' cf sf cg sg X Y X' Y' := ⟨h.1.below hb, h.2.1.below hb, h.2.2.1.next hb, h.2.2.2.1.next hb, h.2.2.2.2.1.next hb, below_next h.2.2.2.2.2 hb⟩
theorem In5.keep (h : In5 w W cf sf cg sg X Y X' Y') {g : Nat} (hg : W.grownBy W' (some g)) (hne : w.heap.size + 1 + 1 + 1 + 1 < g) : In5 w W' cf sf cg sg X Y X' Y' := by
  have hl := h.lt
  exact ⟨FnAt.kept h.1 (grown_keep hg (by omega) (by omega)), FnAt.kept h.2.1 (grown_keep hg (by omega) (by omega)), h.2.2.1.grown hg (fun e => by injection e; omega), h.2.2.2.1.grown hg (fun e => by injection e; omega), h.2.2.2.2.1.grown hg (fun e => by injection e; omega),
    h.2.2.2.2.2.trans ((St.Turn.of_grown (T := fun b => b = g) hg fun k e => by injection e with e; exact e.symm).below (by omega) fun i hi => by rw [hi]; omega)⟩
theorem In5.far (h : In5 w W cf sf cg sg X Y X' Y') {g : Nat} (hg : w.heap.size + 1 + 1 + 1 + 1 < g) (i : Nat) (u : Value) : In5 w (W.setCell ⟨g, i, none⟩ u) cf sf cg sg X Y X' Y' :=
  ⟨FnAt.far h.1 (fun e => by simp at e; omega) u, FnAt.far h.2.1 (fun e => by simp at e; omega) u, h.2.2.1.far (fun e => by simp at e; omega) u, h.2.2.2.1.far (fun e => by simp at e; omega) u, h.2.2.2.2.1.far (fun e => by simp at e; omega) u, h.2.2.2.2.2.setCell (p := ⟨g, i, none⟩) (by show w.heap.size ≤ g; omega) u⟩
theorem In5.cells (h : In5 w W cf sf cg sg X Y X' Y') : W.cell? ⟨w.heap.size, 0, none⟩ = some (.int .i64 cf) ∧ W.cell? ⟨w.heap.size, 1, none⟩ = some (.bool sf) ∧ W.cell? ⟨w.heap.size + 1, 0, none⟩ = some (.int .i64 cg) ∧ W.cell? ⟨w.heap.size + 1, 1, none⟩ = some (.bool sg) ∧ W.cell? ⟨w.heap.size + 1 + 1, 0, none⟩ = some X ∧ W.cell? ⟨w.heap.size + 1 + 1, 1, none⟩ = some Y ∧ W.cell? ⟨w.heap.size + 1 + 1 + 1, 0, none⟩ = some X' ∧ W.cell? ⟨w.heap.size + 1 + 1 + 1, 1, none⟩ = some Y' :=
  ⟨h.1.1, h.1.2, h.2.1.1, h.2.1.2, h.2.2.1.c0, h.2.2.1.c1, h.2.2.2.1.c0, h.2.2.2.1.c1⟩
theorem in5_start (w : World) (cf : Int) (sf : Bool) (cg : Int) (sg : Bool) (X Y X' Y' : Value) : In5 w (World.alloc (World.alloc (World.alloc (World.alloc (World.alloc w (Obj.cells #[Value.int IntKind.i64 cf, Value.bool sf] 23)) (Obj.cells #[Value.int IntKind.i64 cg, Value.bool sg] 23)) (Obj.cells #[X, Y] 29)) (Obj.cells #[X', Y'] 29)) (Obj.cells #[Value.slice none 0 0, Value.slice none 0 0] 29)) cf sf cg sg X Y X' Y' := by
  have hs : ∀ (W : World) (o : Obj), (W.alloc o).heap.size = W.heap.size + 1 := fun W o => by simp
  have f1 : FnAt ((w.alloc (.cells #[.int .i64 cf, .bool sf] 23)).alloc (.cells #[.int .i64 cg, .bool sg] 23)) w.heap.size cf sf := bx2 ((Bx.new 23 w #[.int .i64 cf, .bool sf]).alloc _)
  have f2 := bx2 (Bx.new 23 (w.alloc (.cells #[.int .i64 cf, .bool sf] 23)) #[.int .i64 cg, .bool sg])
  rw [hs] at f2
  have f2 : FnAt ((w.alloc (.cells #[.int .i64 cf, .bool sf] 23)).alloc (.cells #[.int .i64 cg, .bool sg] 23)) (w.heap.size + 1) cg sg := f2
  have hl2 : ((w.alloc (.cells #[.int .i64 cf, .bool sf] 23)).alloc (.cells #[.int .i64 cg, .bool sg] 23)).heap.size = w.heap.size + 1 + 1 := by rw [hs, hs]
  have hb2 := below_next (below_new w (.cells #[.int .i64 cf, .bool sf] 23)) (below_new _ (.cells #[.int .i64 cg, .bool sg] 23))
  generalize (w.alloc (.cells #[.int .i64 cf, .bool sf] 23)).alloc (.cells #[.int .i64 cg, .bool sg] 23) = W2 at *
  have b3 := Box.new W2 X Y
  have b4 := Box.new (W2.alloc (.cells #[X, Y] 29)) X' Y'
  have b5 := Box.new ((W2.alloc (.cells #[X, Y] 29)).alloc (.cells #[X', Y'] 29)) (.slice none 0 0) (.slice none 0 0)
  have k := below_next (below_next (below_new W2 (.cells #[X, Y] 29)) (below_new _ (.cells #[X', Y'] 29))) (below_new _ (.cells #[.slice none 0 0, .slice none 0 0] 29))
  rw [hs] at b4
  rw [hs, hs] at b5
  rw [hl2] at b3 b4 b5
  exact ⟨f1.below k, f2.below k, (b3.alloc _).alloc _, b4.alloc _, b5, below_next hb2 k⟩
end
theorem without_eq (A : Option Addr) (c : Nat) (d e : List Int) (x : Int) (w : World) (he : withoutL d x = e) (hl : d.length ≤ 100) (hi : Ints w A d) : Calls Tryd.prog 32 #[.slice A d.length c, .int .i64 x] w (RetInts w e) := he ▸ without_any A c d x w hl hi
theorem fns_two (w : World) (cf : Int) (sf : Bool) (cg : Int) (sg : Bool) (t : TypeId) : Fns (w.alloc (.cells #[.int .i64 cf, .bool sf, .int .i64 cg, .bool sg] t)) w.heap.size [(cf, sf), (cg, sg)] := by
  refine ⟨by simp, fun i hi => ?_⟩
  have h := heap_alloc_new w (.cells #[.int .i64 cf, .bool sf, .int .i64 cg, .bool sg] t)
  have hi2 : i = 0 ∨ i = 1 := by simp at hi; omega
  rcases hi2 with rfl | rfl
  · exact ⟨by rw [cell_of_row _ _ (0 * 2) _ _ _ h]; rfl, by rw [cell_of_row _ _ (0 * 2 + 1) _ _ _ h]; rfl⟩
  · exact ⟨by rw [cell_of_row _ _ (1 * 2) _ _ _ h]; rfl, by rw [cell_of_row _ _ (1 * 2 + 1) _ _ _ h]; rfl⟩
/-- A cell's numbers along a line: the only one, where it has no axes. -/
def alongL (d v : List Int) (f st n : Nat) : List Int := if d.length = 0 then lineL v 0 0 n else lineL v f st n
theorem alongL_len (d v : List Int) (f st n : Nat) : (alongL d v f st n).length = n := by unfold alongL lineL; split <;> simp
theorem alongL_R {v : List Int} (h : AllR v) (d : List Int) (f st n : Nat) : AllR (alongL d v f st n) := fun x hx => by
  unfold alongL lineL at hx
  split at hx <;> (obtain ⟨i, _, rfl⟩ := List.mem_map.1 hx; exact h.at _)
def Along (d v : List Int) (f st n : Nat) : Prop := (d.length = 0 → 0 < v.length) ∧ (0 < d.length → ∀ k, k < n → f + k * st < v.length)
theorem along_u (A B : Option Addr) (c c2 : Nat) (d v : List Int) (f st n : Nat) (w : World) (hn : n ≤ 64) (hf : f ≤ 100000) (ht : st ≤ 1000) (hd2 : d.length ≤ 100) (hk : Along d v f st n) (hv : v.length ≤ 1000) (iv : Ints w B v) :
    Calls Tryd.prog 38 #[.agg #[.slice A d.length c, .slice B v.length c2], .int .i64 (f : Nat), .int .i64 (st : Nat), .int .i64 (n : Nat)] w fun e w' => e = .returned (.agg (cellsI (padL (alongL d v f st n)))) ∧ Below w.heap.size w w' := by
  by_cases h0 : d.length = 0
  · obtain rfl := List.eq_nil_of_length_eq_zero h0
    have h := along_0 A B c c2 v f st n w hn (hk.1 rfl) hv iv
    rw [show alongL [] v f st n = lineL v 0 0 n by simp [alongL]]
    exact h
  · have h := along_any A B c c2 d v f st n w hn hf ht (by omega) hd2 (hk.2 (by omega)) hv iv
    rw [show alongL d v f st n = lineL v f st n by simp [alongL, h0]]
    exact h
theorem along_u1 (A B : Option Addr) (c c2 : Nat) (d v : List Int) (f n : Nat) (w : World) (hn : n ≤ 64) (hf : f ≤ 100000) (hd2 : d.length ≤ 100) (hk : Along d v f 1 n) (hv : v.length ≤ 1000) (iv : Ints w B v) :
    Calls Tryd.prog 38 #[.agg #[.slice A d.length c, .slice B v.length c2], .int .i64 (f : Nat), .int .i64 1, .int .i64 (n : Nat)] w fun e w' => e = .returned (.agg (cellsI (padL (alongL d v f 1 n)))) ∧ Below w.heap.size w w' := along_u A B c c2 d v f 1 n w hn hf (by omega) hd2 hk hv iv
theorem metL_R {c : Int} {s : Bool} {a b : List Int} (ha : AllR a) (hb : AllR b) (n : Nat) : AllR (metL c s a b n) := fun x hx => by
  obtain ⟨i, _, rfl⟩ := List.mem_map.1 hx
  exact Sc.do_R c s _ _ (ha.at i) (hb.at i)
attribute [-simp] Tryd.isAgg68 Tryd.sizeOf68
section
variable (cf : Int) (sf : Bool) (cg : Int) (sg : Bool) (A : Option Addr) (c1 : Nat) (d : List Int) (B : Option Addr) (c2 : Nat) (v : List Int) (A' : Option Addr) (c1' : Nat) (d' : List Int) (B' : Option Addr) (c2' : Nat) (v' : List Int) (w : World)
set_option maxHeartbeats 8000000 in
theorem inner_e (hT : Sc.Tab w) (id : Ints w A d) (id' : Ints w A' d') (hd : d.length ≤ 40) (hd' : d'.length ≤ 40) (E : Int) (h : pfitE d v.length d' v'.length [(cf, sf), (cg, sg)] = E) (hE : E ≠ 0) :
    Calls Tryd.prog 12 #[.agg #[.int .i64 cf, .bool sf], .agg #[.int .i64 cg, .bool sg], .agg #[.slice A d.length c1, .slice B v.length c2], .agg #[.slice A' d'.length c1', .slice B' v'.length c2']] w (RetCI w [] [] (.int .i64 E)) := by
  have S := Lib.hid (in5_start w cf sf cg sg (.slice A d.length c1) (.slice B v.length c2) (.slice A' d'.length c1') (.slice B' v'.length c2'))
  have T0 := Lib.hid hT
  have D0 := Lib.hid id
  have D0' := Lib.hid id'
  have HH := Lib.hid h
  clear hT id id' h
  go_enter Tryd.func12, Tryd.ntmps12
  go_upto_region 1 with (fail)
  generalize hW : (World.alloc (World.alloc (World.alloc (World.alloc (World.alloc w (Obj.cells #[Value.int IntKind.i64 cf, Value.bool sf] 23)) (Obj.cells #[Value.int IntKind.i64 cg, Value.bool sg] 23)) (Obj.cells #[(.slice A d.length c1), (.slice B v.length c2)] 29)) (Obj.cells #[(.slice A' d'.length c1'), (.slice B' v'.length c2')] 29)) (Obj.cells #[Value.slice none 0 0, Value.slice none 0 0] 29)) = W at *
  clear hW
  obtain ⟨q0, q1, q2, q3, a0, a1, b0, b1⟩ := S.out.cells
  have KB := Lib.hid (below_new W (.cells #[.int .i64 cf, .bool sf, .int .i64 cg, .bool sg] 23))
  have LW := Lib.hid (below_next S.out.2.2.2.2.2 KB.out)
  have PF := Lib.hid (HH.out ▸ pfit_any A c1 d B c2 v A' c1' d' B' c2' v' W.heap.size [(cf, sf), (cg, sg)] _ (T0.out.below LW.out) (D0.out.below LW.out) (D0'.out.below LW.out) (fns_two W cf sf cg sg 23) (by simp) (by omega) (by omega))
  go_wp2_with fail
  refine (PF.out).mono ?_
  rintro r w1 ⟨rfl, hb⟩
  replace S := Lib.hid (S.out.next (below_next KB.out hb))
  clear hb q0 q1 q2 q3 a0 a1 b0 b1 PF KB LW
  have hE0 : (E == 0) = false := by simpa using hE
  clear hE
  have BO := Lib.hid S.out.2.2.2.2.1
  have L := Lib.hid S.out.2.2.2.2.2
  obtain ⟨o0, o1, o2, o3⟩ := BO.out.all
  go_wp2
  obtain ⟨t0, t1, _, _⟩ := ((BO.out.set0 (.slice none 0 0)).set1 (.slice none 0 0)).all
  refine bodyPost_ret (v := .tuple #[.agg #[.slice none 0 0, .slice none 0 0], .int .i64 E]) (by simp [results, Tryd.results12, go_sem, t0, t1]) rfl ?_
  exact ⟨none, 0, none, 0, rfl, Ints.nil _ _, Ints.nil _ _, (L.out.setCell (by simp; omega) _).setCell (by simp; omega) _⟩
set_option maxHeartbeats 8000000 in
theorem inner_3 (hT : Sc.Tab w) (id : Ints w A d) (id' : Ints w A' d') (hd : d.length ≤ 40) (hd' : d'.length ≤ 40) (h : pfitE d v.length d' v'.length [(cf, sf), (cg, sg)] = 0) (L : Int) (hC : comB d d' = false) (hI : comI d d' = L) :
    Calls Tryd.prog 12 #[.agg #[.int .i64 cf, .bool sf], .agg #[.int .i64 cg, .bool sg], .agg #[.slice A d.length c1, .slice B v.length c2], .agg #[.slice A' d'.length c1', .slice B' v'.length c2']] w (RetCI w [] [] (.int .i64 3)) := by
  have S := Lib.hid (in5_start w cf sf cg sg (.slice A d.length c1) (.slice B v.length c2) (.slice A' d'.length c1') (.slice B' v'.length c2'))
  have T0 := Lib.hid hT
  have D0 := Lib.hid id
  have D0' := Lib.hid id'
  have HH := Lib.hid h
  have HC := Lib.hid hC
  have HI := Lib.hid hI
  clear hT id id' h hC hI
  go_enter Tryd.func12, Tryd.ntmps12
  go_upto_region 1 with (fail)
  generalize hW : (World.alloc (World.alloc (World.alloc (World.alloc (World.alloc w (Obj.cells #[Value.int IntKind.i64 cf, Value.bool sf] 23)) (Obj.cells #[Value.int IntKind.i64 cg, Value.bool sg] 23)) (Obj.cells #[(.slice A d.length c1), (.slice B v.length c2)] 29)) (Obj.cells #[(.slice A' d'.length c1'), (.slice B' v'.length c2')] 29)) (Obj.cells #[Value.slice none 0 0, Value.slice none 0 0] 29)) = W at *
  clear hW
  obtain ⟨q0, q1, q2, q3, a0, a1, b0, b1⟩ := S.out.cells
  have KB := Lib.hid (below_new W (.cells #[.int .i64 cf, .bool sf, .int .i64 cg, .bool sg] 23))
  have LW := Lib.hid (below_next S.out.2.2.2.2.2 KB.out)
  have PF := Lib.hid (HH.out ▸ pfit_any A c1 d B c2 v A' c1' d' B' c2' v' W.heap.size [(cf, sf), (cg, sg)] _ (T0.out.below LW.out) (D0.out.below LW.out) (D0'.out.below LW.out) (fns_two W cf sf cg sg 23) (by simp) (by omega) (by omega))
  go_wp2_with fail
  refine (PF.out).mono ?_
  rintro r w1 ⟨rfl, hb⟩
  replace S := Lib.hid (S.out.next (below_next KB.out hb))
  clear hb q0 q1 q2 q3 a0 a1 b0 b1 PF KB LW
  go_upto_region 4 with (fail)
  obtain ⟨q0, q1, q2, q3, a0, a1, b0, b1⟩ := S.out.cells
  have CM := common_any A c1 d A' c1' d' w1 (by omega) (by omega) (D0.out.below S.out.2.2.2.2.2) (D0'.out.below S.out.2.2.2.2.2)
  rw [HC.out, HI.out] at CM
  have CMH := Lib.hid CM
  clear CM
  go_wp2_with fail
  refine (CMH.out).mono ?_
  rintro r w2 ⟨rfl, hb⟩
  replace S := Lib.hid (S.out.next hb)
  clear hb q0 q1 q2 q3 a0 a1 b0 b1 CMH
  have BO := Lib.hid S.out.2.2.2.2.1
  have L := Lib.hid S.out.2.2.2.2.2
  obtain ⟨o0, o1, o2, o3⟩ := BO.out.all
  go_wp2
  obtain ⟨t0, t1, _, _⟩ := ((BO.out.set0 (.slice none 0 0)).set1 (.slice none 0 0)).all
  refine bodyPost_ret (v := .tuple #[.agg #[.slice none 0 0, .slice none 0 0], .int .i64 3]) (by simp [results, Tryd.results12, go_sem, t0, t1]) rfl ?_
  exact ⟨none, 0, none, 0, rfl, Ints.nil _ _, Ints.nil _ _, (L.out.setCell (by simp; omega) _).setCell (by simp; omega) _⟩
set_option maxHeartbeats 8000000 in
theorem inner_5 (hT : Sc.Tab w) (id : Ints w A d) (id' : Ints w A' d') (hd : d.length ≤ 40) (hd' : d'.length ≤ 40) (h : pfitE d v.length d' v'.length [(cf, sf), (cg, sg)] = 0) (hC : comB d d' = true) (hI : comI d d' = 0) (hS : (Sc.trOf cf).starts = false) :
    Calls Tryd.prog 12 #[.agg #[.int .i64 cf, .bool sf], .agg #[.int .i64 cg, .bool sg], .agg #[.slice A d.length c1, .slice B v.length c2], .agg #[.slice A' d'.length c1', .slice B' v'.length c2']] w (RetCI w [] [] (.int .i64 5)) := by
  have S := Lib.hid (in5_start w cf sf cg sg (.slice A d.length c1) (.slice B v.length c2) (.slice A' d'.length c1') (.slice B' v'.length c2'))
  have T0 := Lib.hid hT
  have D0 := Lib.hid id
  have D0' := Lib.hid id'
  have HH := Lib.hid h
  have HC := Lib.hid hC
  have HI := Lib.hid hI
  have HS := Lib.hid hS
  clear hT id id' h hC hI hS
  go_enter Tryd.func12, Tryd.ntmps12
  go_upto_region 1 with (fail)
  generalize hW : (World.alloc (World.alloc (World.alloc (World.alloc (World.alloc w (Obj.cells #[Value.int IntKind.i64 cf, Value.bool sf] 23)) (Obj.cells #[Value.int IntKind.i64 cg, Value.bool sg] 23)) (Obj.cells #[(.slice A d.length c1), (.slice B v.length c2)] 29)) (Obj.cells #[(.slice A' d'.length c1'), (.slice B' v'.length c2')] 29)) (Obj.cells #[Value.slice none 0 0, Value.slice none 0 0] 29)) = W at *
  clear hW
  obtain ⟨q0, q1, q2, q3, a0, a1, b0, b1⟩ := S.out.cells
  have KB := Lib.hid (below_new W (.cells #[.int .i64 cf, .bool sf, .int .i64 cg, .bool sg] 23))
  have LW := Lib.hid (below_next S.out.2.2.2.2.2 KB.out)
  have PF := Lib.hid (HH.out ▸ pfit_any A c1 d B c2 v A' c1' d' B' c2' v' W.heap.size [(cf, sf), (cg, sg)] _ (T0.out.below LW.out) (D0.out.below LW.out) (D0'.out.below LW.out) (fns_two W cf sf cg sg 23) (by simp) (by omega) (by omega))
  go_wp2_with fail
  refine (PF.out).mono ?_
  rintro r w1 ⟨rfl, hb⟩
  replace S := Lib.hid (S.out.next (below_next KB.out hb))
  clear hb q0 q1 q2 q3 a0 a1 b0 b1 PF KB LW
  go_upto_region 4 with (fail)
  obtain ⟨q0, q1, q2, q3, a0, a1, b0, b1⟩ := S.out.cells
  have CM := common_any A c1 d A' c1' d' w1 (by omega) (by omega) (D0.out.below S.out.2.2.2.2.2) (D0'.out.below S.out.2.2.2.2.2)
  rw [HC.out, HI.out] at CM
  have CMH := Lib.hid CM
  clear CM
  go_wp2_with fail
  refine (CMH.out).mono ?_
  rintro r w2 ⟨rfl, hb⟩
  replace S := Lib.hid (S.out.next hb)
  clear hb q0 q1 q2 q3 a0 a1 b0 b1 CMH
  obtain ⟨q0, q1, q2, q3, a0, a1, b0, b1⟩ := S.out.cells
  obtain ⟨un, hun⟩ : ∃ un, (Sc.trOf cf).unit = un := ⟨_, rfl⟩
  have UN := Sc.unit_any cf w2 (T0.out.below S.out.2.2.2.2.2)
  rw [hun, HS.out] at UN
  have UNH := Lib.hid UN
  clear UN hun
  go_wp2_with fail
  refine (UNH.out).mono ?_
  rintro r w3 ⟨rfl, hb⟩
  replace S := Lib.hid (S.out.next hb)
  clear hb q0 q1 q2 q3 a0 a1 b0 b1 UNH
  have BO := Lib.hid S.out.2.2.2.2.1
  have L := Lib.hid S.out.2.2.2.2.2
  obtain ⟨o0, o1, o2, o3⟩ := BO.out.all
  go_wp2
  obtain ⟨t0, t1, _, _⟩ := ((BO.out.set0 (.slice none 0 0)).set1 (.slice none 0 0)).all
  refine bodyPost_ret (v := .tuple #[.agg #[.slice none 0 0, .slice none 0 0], .int .i64 5]) (by simp [results, Tryd.results12, go_sem, t0, t1]) rfl ?_
  exact ⟨none, 0, none, 0, rfl, Ints.nil _ _, Ints.nil _ _, (L.out.setCell (by simp; omega) _).setCell (by simp; omega) _⟩
set_option maxHeartbeats 8000000 in
theorem inner_0 (hT : Sc.Tab w) (id : Ints w A d) (id' : Ints w A' d') (hd : d.length ≤ 40) (hd' : d'.length ≤ 40) (h : pfitE d v.length d' v'.length [(cf, sf), (cg, sg)] = 0) (L : Nat) (st : Bool) (hC : comB d d' = true) (hI : comI d d' = (L : Nat)) (hS : (Sc.trOf cf).starts = st) (hLZ : ((L : Int) == 0) = false ∨ (((L : Int) == 0) = true ∧ st = true)) (e e' : List Int) (he : withoutL d ((d.length : Int) - 1) = e) (he' : withoutL d' 0 = e') (hle : e.length ≤ 40) (hle' : e'.length ≤ 40) (hR : rightB (e ++ e') = true) (N wd : Nat) (hn : (sizeI (e ++ e')).toNat = N) (hwd : sizeI e' = (wd : Nat)) (F : Nat → Int) (hF : ∀ k, k < N → rowV cf sf (metL cg sg (alongL d v (k / wd * L) 1 L) (alongL d' v' (k % wd) wd L) L) = F k) (hLm : L ≤ 64) (hv : v.length ≤ 64) (hv' : v'.length ≤ 64) (hN : N ≤ 64) (hwd0 : 0 < N → 0 < wd) (hwm : wd ≤ 64) (hO1 : ∀ k, k < N → Along d v (k / wd * L) 1 L) (hO2 : ∀ k, k < N → Along d' v' (k % wd) wd L) (rv : AllR v) (rv' : AllR v') (iv : Ints w B v) (iv' : Ints w B' v') :
    Calls Tryd.prog 12 #[.agg #[.int .i64 cf, .bool sf], .agg #[.int .i64 cg, .bool sg], .agg #[.slice A d.length c1, .slice B v.length c2], .agg #[.slice A' d'.length c1', .slice B' v'.length c2']] w (RetCI w (e ++ e') (fillK F N N) (.int .i64 0)) := by
  have S := Lib.hid (in5_start w cf sf cg sg (.slice A d.length c1) (.slice B v.length c2) (.slice A' d'.length c1') (.slice B' v'.length c2'))
  have T0 := Lib.hid hT
  have D0 := Lib.hid id
  have D0' := Lib.hid id'
  have HH := Lib.hid h
  have HC := Lib.hid hC
  have HI := Lib.hid hI
  have HS := Lib.hid hS
  have HLZ := Lib.hid hLZ
  have HE := Lib.hid he
  have HE' := Lib.hid he'
  have HR := Lib.hid hR
  have HN := Lib.hid hn
  have HWD := Lib.hid hwd
  have HF := Lib.hid hF
  have O1 := Lib.hid hO1
  have O2 := Lib.hid hO2
  have RV := Lib.hid rv
  have RV' := Lib.hid rv'
  have IV := Lib.hid iv
  have IV' := Lib.hid iv'
  clear hT id id' h hC hI hS hLZ he he' hR hn hwd hF hO1 hO2 rv rv' iv iv'
  go_enter Tryd.func12, Tryd.ntmps12
  go_upto_region 1 with (fail)
  generalize hW : (World.alloc (World.alloc (World.alloc (World.alloc (World.alloc w (Obj.cells #[Value.int IntKind.i64 cf, Value.bool sf] 23)) (Obj.cells #[Value.int IntKind.i64 cg, Value.bool sg] 23)) (Obj.cells #[(.slice A d.length c1), (.slice B v.length c2)] 29)) (Obj.cells #[(.slice A' d'.length c1'), (.slice B' v'.length c2')] 29)) (Obj.cells #[Value.slice none 0 0, Value.slice none 0 0] 29)) = W at *
  clear hW
  obtain ⟨q0, q1, q2, q3, a0, a1, b0, b1⟩ := S.out.cells
  have KB := Lib.hid (below_new W (.cells #[.int .i64 cf, .bool sf, .int .i64 cg, .bool sg] 23))
  have LW := Lib.hid (below_next S.out.2.2.2.2.2 KB.out)
  have PF := Lib.hid (HH.out ▸ pfit_any A c1 d B c2 v A' c1' d' B' c2' v' W.heap.size [(cf, sf), (cg, sg)] _ (T0.out.below LW.out) (D0.out.below LW.out) (D0'.out.below LW.out) (fns_two W cf sf cg sg 23) (by simp) (by omega) (by omega))
  go_wp2_with fail
  refine (PF.out).mono ?_
  rintro r w1 ⟨rfl, hb⟩
  replace S := Lib.hid (S.out.next (below_next KB.out hb))
  clear hb q0 q1 q2 q3 a0 a1 b0 b1 PF KB LW
  go_upto_region 4 with (fail)
  obtain ⟨q0, q1, q2, q3, a0, a1, b0, b1⟩ := S.out.cells
  have CM := common_any A c1 d A' c1' d' w1 (by omega) (by omega) (D0.out.below S.out.2.2.2.2.2) (D0'.out.below S.out.2.2.2.2.2)
  rw [HC.out, HI.out] at CM
  have CMH := Lib.hid CM
  clear CM
  go_wp2_with fail
  refine (CMH.out).mono ?_
  rintro r w2 ⟨rfl, hb⟩
  replace S := Lib.hid (S.out.next hb)
  clear hb q0 q1 q2 q3 a0 a1 b0 b1 CMH
  obtain ⟨q0, q1, q2, q3, a0, a1, b0, b1⟩ := S.out.cells
  obtain ⟨un, hun⟩ : ∃ un, (Sc.trOf cf).unit = un := ⟨_, rfl⟩
  have UN := Sc.unit_any cf w2 (T0.out.below S.out.2.2.2.2.2)
  rw [hun, HS.out] at UN
  have UNH := Lib.hid UN
  clear UN hun
  go_wp2_with fail
  refine (UNH.out).mono ?_
  rintro r w3 ⟨rfl, hb⟩
  replace S := Lib.hid (S.out.next hb)
  clear hb q0 q1 q2 q3 a0 a1 b0 b1 UNH
  go_upto_region 8 with (fail)
  go_cut [55] (fun s55 wx => s55 = .bool false ∧ w3 = wx)
  case first =>
    rcases HLZ.out with hz | ⟨hz, rfl⟩
    all_goals
      go_wp2_with fail
      go_meet
      exact ⟨rfl, rfl⟩
  case rest =>
    obtain ⟨rfl, rfl⟩ := hcut
    obtain ⟨q0, q1, q2, q3, a0, a1, b0, b1⟩ := S.out.cells
    have hw1 : IntKind.i64.wrap ((d.length : Int) - 1) = (d.length : Int) - 1 := IntWalk.i64_in _ (by omega)
    have WO1 := Lib.hid (fun W (h : Below w3.heap.size w3 W) => without_eq A c1 d e ((d.length : Int) - 1) W HE.out (by omega) ((D0.out.below S.out.2.2.2.2.2).below h))
    have WO2 := Lib.hid (fun W (h : Below w3.heap.size w3 W) => without_eq A' c1' d' e' 0 W HE'.out (by omega) ((D0'.out.below S.out.2.2.2.2.2).below h))
    have KK0 := Lib.hid (show w3.drew.cell? ⟨w.heap.size + 1 + 1, 0, none⟩ = some (.slice A d.length c1) ∧ w3.drew.cell? ⟨w.heap.size + 1 + 1 + 1, 0, none⟩ = some (.slice A' d'.length c1') from ⟨a0, b0⟩)
    have LB0 := Lib.hid (Below.refl w3.heap.size w3).drew
    clear q0 q1 q2 q3 a1 b1
    go_wp2_with fail
    go_region_held3 (fun w' => w'.cell? ⟨w.heap.size + 1 + 1, 0, none⟩ = some (.slice A d.length c1) ∧ w'.cell? ⟨w.heap.size + 1 + 1 + 1, 0, none⟩ = some (.slice A' d'.length c1'))
      (first
        | with_reducible exact KK0.out
        | with_reducible exact KK2.out
        | with_reducible exact KK1.out)
      (first
        | (go_at_call 32; (with_reducible refine (WO1.out _ LB0.out).mono ?_); rintro r w4 ⟨A5, n5, rfl, i5, hb⟩; have LB1 := Lib.hid (below_next LB0.out hb); have I5 := Lib.hid i5; have KK1 := Lib.hid (show w4.cell? ⟨w.heap.size + 1 + 1, 0, none⟩ = some (.slice A d.length c1) ∧ w4.cell? ⟨w.heap.size + 1 + 1 + 1, 0, none⟩ = some (.slice A' d'.length c1') from ⟨keepC' hb KK0.out.1, keepC' hb KK0.out.2⟩); clear hb i5)
        | (go_at_call 32; (with_reducible refine (WO2.out _ LB1.out).mono ?_); rintro r w5 ⟨A6, n6, rfl, i6, hb⟩; have LB2 := Lib.hid (below_next LB1.out hb); have I6 := Lib.hid i6; have I56 := Lib.hid (I5.out.below hb); have KK2 := Lib.hid (show w5.cell? ⟨w.heap.size + 1 + 1, 0, none⟩ = some (.slice A d.length c1) ∧ w5.cell? ⟨w.heap.size + 1 + 1 + 1, 0, none⟩ = some (.slice A' d'.length c1') from ⟨keepC' hb KK1.out.1, keepC' hb KK1.out.2⟩); clear hb i6))
    replace S := Lib.hid (S.out.next LB2.out)
    clear a0 b0 hw1 WO1 WO2 KK0 LB0 KK1 LB1 KK2 I5
    have KB := Lib.hid (below_new w5 (.cells #[.slice A5 e.length n5, .slice A6 e'.length n6] 26))
    have RW := heap_alloc_new w5 (.cells #[.slice A5 e.length n5, .slice A6 e'.length n6] 26)
    have CC := Lib.hid (concat_any w5.heap.size A5 n5 e A6 n6 e' _ (by rw [cell_of_row _ _ 0 _ _ _ RW]; rfl) (by rw [cell_of_row _ _ 1 _ _ _ RW]; rfl) (by omega) (by omega) (I56.out.below KB.out) (I6.out.below KB.out))
    clear RW
    go_wp2_with fail
    refine (CC.out).mono ?_
    rintro r w6 ⟨A2, n2, rfl, hm2, hb⟩
    have KW := Lib.hid (below_next KB.out hb)
    have I2 := Lib.hid hm2.ints'
    replace I6 := Lib.hid (I6.out.below KW.out)
    replace S := Lib.hid (S.out.next KW.out)
    clear hb hm2 KB CC KW I56 LB2
    have hle : w.heap.size + 1 + 1 + 1 + 1 < w6.heap.size := S.out.lt
    have ZZ := Lib.hid (zero_m A2 n2 (e ++ e') w6 (by simp; omega) I2.out HR.out)
    rw [HN.out, List.length_append] at ZZ
    go_wp2_with fail
    refine (ZZ.out).mono ?_
    rintro r w7 ⟨A3, n3, g, rfl, hm3, hr3, hg3, hb⟩
    have M3 := Lib.hid hm3.ints'
    have MM := Lib.hid (hm3.mono (b := w.heap.size) (by omega))
    have R3 := Lib.hid (show Row64 w7 g (fillK F N 0) by rw [fillK_0]; exact hr3)
    have hg4 : w.heap.size + 1 + 1 + 1 + 1 < g := by omega
    have hg9 : g < w7.heap.size := R3.out.lt
    replace I6 := Lib.hid (I6.out.below hb)
    replace S := Lib.hid (S.out.next hb)
    clear hb ZZ hm3 hr3 hg3 I2 hle
    rw [List.length_append]
    have KB := Lib.hid (below_new w7 (.cells #[.slice A3 (e.length + e'.length) n3, .slice (some ⟨g, 0, none⟩) N N] 29))
    have BQ := Lib.hid (Box.new w7 (.slice A3 (e.length + e'.length) n3) (.slice (some ⟨g, 0, none⟩) N N))
    replace I6 := Lib.hid (I6.out.below KB.out)
    replace S := Lib.hid (S.out.next KB.out)
    replace R3 := Lib.hid (R3.out.next KB.out)
    replace M3 := Lib.hid (M3.out.below KB.out)
    replace MM := Lib.hid (MM.out.below KB.out (Nat.le_refl _))
    have CR := Lib.hid (cright_yes A3 n3 (e ++ e') (some ⟨g, 0, none⟩) N N _ (by unfold maxLen; simp; omega) M3.out (by rw [cellB_is HR.out, ← HN.out]; have := (sizeI_bd (e ++ e')).1; simp; omega))
    rw [List.length_append] at CR
    go_upto_region 12 with (fail)
    generalize hW8 : w7.alloc (.cells #[.slice A3 (e.length + e'.length) n3, .slice (some ⟨g, 0, none⟩) N N] 29) = w8 at *
    clear hW8 KB
    generalize w7.heap.size = g9 at *
    obtain ⟨q0, q1, -, -⟩ := BQ.out.all
    go_wp2_with fail
    refine (CR.out).mono ?_
    rintro r w9 ⟨rfl, hb⟩
    replace I6 := Lib.hid (I6.out.below hb)
    replace S := Lib.hid (S.out.next hb)
    replace R3 := Lib.hid (R3.out.next hb)
    replace MM := Lib.hid (MM.out.below hb (Nat.le_refl _))
    replace BQ := Lib.hid (BQ.out.next hb)
    clear hb CR q0 q1 M3
    have SZ := size_any A6 n6 e' w9 (by unfold maxLen; omega) I6.out
    rw [HWD.out] at SZ
    have SZH := Lib.hid SZ
    clear SZ
    go_wp2_with fail
    refine (SZH.out).mono ?_
    rintro r w10 ⟨rfl, hb⟩
    replace S := Lib.hid (S.out.next hb)
    replace R3 := Lib.hid (R3.out.next hb)
    replace MM := Lib.hid (MM.out.below hb (Nat.le_refl _))
    replace BQ := Lib.hid (BQ.out.next hb)
    have hgq : g9 < w10.heap.size := BQ.out.lt
    clear hb SZH I6
    obtain ⟨q0, q1, -, -⟩ := BQ.out.all
    go_wp2
    clear q0 q1
    go_loopw [81] (fun j wr => ∃ k : Nat, k ≤ N ∧ j = .int .i64 (k : Int) ∧ In5 w wr cf sf cg sg (.slice A d.length c1) (.slice B v.length c2) (.slice A' d'.length c1') (.slice B' v'.length c2') ∧ Box wr g9 (.slice A3 (e.length + e'.length) n3) (.slice (some ⟨g, 0, none⟩) N N) ∧ Row64 wr g (fillK F N k) ∧ MineT 3 wr w.heap.size (.slice A3 (e ++ e').length n3) (e ++ e')) (fun j _ => N - (intOf j).toNat)
    case atStart => exact ⟨0, Nat.zero_le _, rfl, S.out, BQ.out, R3.out, MM.out⟩
    case round =>
      obtain ⟨k, hk, rfl, hs, hq, hr, hm⟩ := hrel
      replace S := Lib.hid hs
      replace BQ := Lib.hid hq
      replace R3 := Lib.hid hr
      replace MM := Lib.hid hm
      clear hs hq hr hm
      by_cases hlt : k < N
      · have hw0 : 0 < wd := hwd0 (by omega)
        obtain ⟨p, hp⟩ : ∃ p, k / wd = p := ⟨_, rfl⟩
        obtain ⟨q, hq⟩ : ∃ q, k % wd = q := ⟨_, rfl⟩
        have d1 : (k : Int).tdiv (wd : Int) = (p : Int) := by rw [← hp]; rfl
        have d2 : (k : Int).tmod (wd : Int) = (q : Int) := by rw [← hq]; rfl
        have d5 : wrap64 (p : Int) = (p : Int) := by rw [Sc.wrap_def]; have := Nat.div_le_self k wd; omega
        have d3 : ((wd : Int) == 0) = false := by simp; omega
        have d4 : ¬ (wd : Int) = 0 := by omega
        go_upto_region 18 with (fail)
        go_wp2_with fail
        go_region
        all_goals
          replace S := Lib.hid (S.out.next (Below.refl wr.heap.size wr).drew)
          replace BQ := Lib.hid BQ.out.drew
          replace R3 := Lib.hid R3.out.drew
          replace MM := Lib.hid (MM.out.below (Below.refl wr.heap.size wr).drew (Nat.le_refl _))
          generalize hwy : wr.drew = wy at *
          clear hwy d1 d2 d3 d4
          have hpk : p ≤ k := by rw [← hp]; exact Nat.div_le_self _ _
          have o1 := O1.out k hlt
          have o2 := O2.out k hlt
          have fk := HF.out k hlt
          rw [hp] at o1 fk
          rw [hq] at o2 fk
          obtain ⟨pl, hpl⟩ : ∃ pl, p * L = pl := ⟨_, rfl⟩
          rw [hpl] at o1 fk
          have hplm : pl ≤ 4096 := by rw [← hpl]; exact Nat.mul_le_mul (Nat.le_trans hpk (Nat.le_trans (Nat.le_of_lt hlt) hN)) hLm
          have hmul : IntKind.i64.wrap ((p : Int) * (L : Int)) = (pl : Int) := by rw [← Int.natCast_mul, hpl]; exact IntWalk.i64_in _ (by omega)
          obtain ⟨la, hla⟩ : ∃ la, alongL d v pl 1 L = la := ⟨_, rfl⟩
          obtain ⟨lb, hlb⟩ : ∃ lb, alongL d' v' q wd L = lb := ⟨_, rfl⟩
          have RA := Lib.hid (show AllR la by rw [← hla]; exact alongL_R RV.out _ _ _ _)
          have RB := Lib.hid (show AllR lb by rw [← hlb]; exact alongL_R RV'.out _ _ _ _)
          rw [hla, hlb] at fk
          have AS1 := Lib.hid (fun W (h : Below wy.heap.size wy W) => show Calls Tryd.prog 38 #[.agg #[.slice A d.length c1, .slice B v.length c2], .int .i64 (pl : Nat), .int .i64 1, .int .i64 (L : Nat)] W fun e w' => e = .returned (.agg (cellsI (padL la))) ∧ Below W.heap.size W w' from hla ▸ along_u1 A B c1 c2 d v pl L W hLm (by omega) (by omega) o1 (by omega) (IV.out.below (below_next S.out.2.2.2.2.2 h)))
          have AS2 := Lib.hid (fun W (h : Below wy.heap.size wy W) => show Calls Tryd.prog 38 #[.agg #[.slice A' d'.length c1', .slice B' v'.length c2'], .int .i64 (q : Nat), .int .i64 (wd : Nat), .int .i64 (L : Nat)] W fun e w' => e = .returned (.agg (cellsI (padL lb))) ∧ Below W.heap.size W w' from hlb ▸ along_u A' B' c1' c2' d' v' q wd L W hLm (by have := Nat.mod_lt k hw0; omega) (by omega) (by omega) o2 (by omega) (IV'.out.below (below_next S.out.2.2.2.2.2 h)))
          obtain ⟨ZZ, hZZ⟩ : ∃ ZZ, meetL cg sg (padL la) (padL lb) L = ZZ := ⟨_, rfl⟩
          have HZL := Lib.hid (show ZZ.length = 64 by rw [← hZZ, meet_len])
          have MT := Lib.hid (fun W (h : Below wy.heap.size wy W) => show Calls Tryd.prog 37 #[.agg #[.int .i64 cg, .bool sg], .agg (cellsI (padL la)), .agg (cellsI (padL lb)), .int .i64 (L : Nat)] W fun e w' => e = .returned (.agg (cellsI ZZ)) ∧ Below W.heap.size W w' from hZZ ▸ meet_any cg sg (padL la) (padL lb) L W (T0.out.below (below_next S.out.2.2.2.2.2 h)) hLm (padL_len _) (padL_len _) (padL_R RA.out) (padL_R RB.out))
          have TK := Lib.hid (show ZZ.take L = metL cg sg la lb L by rw [← hZZ, meet_take cg sg la lb hLm])
          have FK := Lib.hid fk
          have LW0 := Lib.hid (Below.refl wy.heap.size wy).drew
          have k0 : (0 : Int) ≤ (k : Int) := by omega
          have k1 : (k : Int) < (N : Int) := by omega
          clear hp hq o1 o2 fk hpl hla hlb hZZ
          go_upto_region 19 with (fail)
          go_cut [22] (fun s22 wx => ∃ gN, s22 = .pointer (some ⟨gN, 0, none⟩) ∧ wy.heap.size ≤ gN ∧ LineAt wx gN ZZ ∧ Hid (Below wy.heap.size wy wx))
          case first =>
            as_aux_lemma =>
              refine wp_region_held_drew (S := fun w' => In5 w w' cf sf cg sg (.slice A d.length c1) (.slice B v.length c2) (.slice A' d'.length c1') (.slice B' v'.length c2')) (by kernel_rfl) (S.out.next LW0.out) (fun hHeld => ?_)
              refine take_yes (i := 0) (some 90) (.agg #[.int .i64 cg, .bool sg]) rfl rfl (by kernel_rfl) (by kernel_rfl) (by kernel_rfl) (fun _ _ _ h => h) (by rfl) hHeld ?_ ?_
              · intro wq hSw; obtain ⟨q0, q1, q2, q3, a0, a1, b0, b1⟩ := In5.cells hSw; go_simp
              simp only [Act.put, List.setIfInBounds_toArray, List.set_cons_zero, List.set_cons_succ]
              refine take_yes (i := 1) (some 91) (.agg #[.slice A d.length c1, .slice B v.length c2]) rfl rfl (by kernel_rfl) (by kernel_rfl) (by kernel_rfl) (fun _ _ _ h => h) (by rfl) hHeld ?_ ?_
              · intro wq hSw; obtain ⟨q0, q1, q2, q3, a0, a1, b0, b1⟩ := In5.cells hSw; go_simp
              simp only [Act.put, List.setIfInBounds_toArray, List.set_cons_zero, List.set_cons_succ]
              refine take_yes (i := 2) (some 92) (.int .i64 (p : Nat)) rfl rfl (by kernel_rfl) (by kernel_rfl) (by kernel_rfl) (fun _ _ _ h => h) (by rfl) hHeld ?_ ?_
              · intro wq hSw; obtain ⟨q0, q1, q2, q3, a0, a1, b0, b1⟩ := In5.cells hSw; go_simp <;> exact d5
              simp only [Act.put, List.setIfInBounds_toArray, List.set_cons_zero, List.set_cons_succ]
              clear d5
              refine take_yes (i := 3) (some 93) (.int .i64 (L : Nat)) rfl rfl (by kernel_rfl) (by kernel_rfl) (by kernel_rfl) (fun _ _ _ h => h) (by rfl) hHeld ?_ ?_
              · intro wq hSw; obtain ⟨q0, q1, q2, q3, a0, a1, b0, b1⟩ := In5.cells hSw; go_simp
              simp only [Act.put, List.setIfInBounds_toArray, List.set_cons_zero, List.set_cons_succ]
              refine take_yes (i := 4) (some 94) (.int .i64 (pl : Nat)) rfl rfl (by kernel_rfl) (by kernel_rfl) (by kernel_rfl) (fun _ _ _ h => h) (by rfl) hHeld ?_ ?_
              · intro wq hSw; obtain ⟨q0, q1, q2, q3, a0, a1, b0, b1⟩ := In5.cells hSw; go_simp
              simp only [Act.put, List.setIfInBounds_toArray, List.set_cons_zero, List.set_cons_succ]
              refine take_yes (i := 5) (some 95) (.int .i64 (L : Nat)) rfl rfl (by kernel_rfl) (by kernel_rfl) (by kernel_rfl) (fun _ _ _ h => h) (by rfl) hHeld ?_ ?_
              · intro wq hSw; obtain ⟨q0, q1, q2, q3, a0, a1, b0, b1⟩ := In5.cells hSw; go_simp
              simp only [Act.put, List.setIfInBounds_toArray, List.set_cons_zero, List.set_cons_succ]
              refine take_yes (i := 7) (some 97) (.agg #[.slice A' d'.length c1', .slice B' v'.length c2']) rfl rfl (by kernel_rfl) (by kernel_rfl) (by kernel_rfl) (fun _ _ _ h => h) (by rfl) hHeld ?_ ?_
              · intro wq hSw; obtain ⟨q0, q1, q2, q3, a0, a1, b0, b1⟩ := In5.cells hSw; go_simp
              simp only [Act.put, List.setIfInBounds_toArray, List.set_cons_zero, List.set_cons_succ]
              refine take_yes (i := 8) (some 98) (.int .i64 (q : Nat)) rfl rfl (by kernel_rfl) (by kernel_rfl) (by kernel_rfl) (fun _ _ _ h => h) (by rfl) hHeld ?_ ?_
              · intro wq hSw; obtain ⟨q0, q1, q2, q3, a0, a1, b0, b1⟩ := In5.cells hSw; go_simp
              simp only [Act.put, List.setIfInBounds_toArray, List.set_cons_zero, List.set_cons_succ]
              refine take_yes (i := 9) (some 99) (.int .i64 (wd : Nat)) rfl rfl (by kernel_rfl) (by kernel_rfl) (by kernel_rfl) (fun _ _ _ h => h) (by rfl) hHeld ?_ ?_
              · intro wq hSw; obtain ⟨q0, q1, q2, q3, a0, a1, b0, b1⟩ := In5.cells hSw; go_simp
              simp only [Act.put, List.setIfInBounds_toArray, List.set_cons_zero, List.set_cons_succ]
              refine take_yes (i := 10) (some 100) (.int .i64 (L : Nat)) rfl rfl (by kernel_rfl) (by kernel_rfl) (by kernel_rfl) (fun _ _ _ h => h) (by rfl) hHeld ?_ ?_
              · intro wq hSw; obtain ⟨q0, q1, q2, q3, a0, a1, b0, b1⟩ := In5.cells hSw; go_simp
              simp only [Act.put, List.setIfInBounds_toArray, List.set_cons_zero, List.set_cons_succ]
              refine take_yes (i := 12) (some 102) (.int .i64 (L : Nat)) rfl rfl (by kernel_rfl) (by kernel_rfl) (by kernel_rfl) (fun _ _ _ h => h) (by rfl) hHeld ?_ ?_
              · intro wq hSw; obtain ⟨q0, q1, q2, q3, a0, a1, b0, b1⟩ := In5.cells hSw; go_simp
              simp only [Act.put, List.setIfInBounds_toArray, List.set_cons_zero, List.set_cons_succ]
              refine wpAnyH_ready (rs := [6, 14]) (by kernel_rfl) (by simp) ?_
              refine AllReadyH.cons rfl (fun K hK => ?_) (AllReadyH.cons rfl (fun K hK => ?_) AllReadyH.nil)
              · go_simp
                (go_at_call 38; refine (AS1.out _ LW0.out).mono ?_; rintro r w21 ⟨rfl, hbA⟩)
                have LL1 := Lib.hid (below_next LW0.out hbA)
                have hq := S.out.next LL1.out
                clear hbA
                go_wp2_with fail
                refine hK.out _ _ hq (fun hHeld => ?_)
                clear hK K hq
                refine wpAnyH_ready (rs := [11, 14]) (by kernel_rfl) (by simp) ?_
                refine AllReadyH.cons rfl (fun K hK => ?_) (AllReadyH.cons rfl (fun K hK => ?_) AllReadyH.nil)
                · go_simp
                  (go_at_call 38; refine (AS2.out _ LL1.out).mono ?_; rintro r w22 ⟨rfl, hbA⟩)
                  have LL2 := Lib.hid (below_next LL1.out hbA)
                  have hq := S.out.next LL2.out
                  clear hbA
                  go_wp2_with fail
                  refine hK.out _ _ hq (fun hHeld => ?_)
                  clear hK K hq
                  refine wpAnyH_ready (rs := [13, 14]) (by kernel_rfl) (by simp) ?_
                  refine AllReadyH.cons rfl (fun K hK => ?_) (AllReadyH.cons rfl (fun K hK => ?_) AllReadyH.nil)
                  · go_simp
                    (go_at_call 37; refine (MT.out _ LL2.out).mono ?_; rintro r w23 ⟨rfl, hbA⟩)
                    have LL3 := Lib.hid (below_next LL2.out hbA)
                    have hq := S.out.next LL3.out
                    clear hbA
                    go_wp2_with fail
                    refine hK.out _ _ hq (fun hHeld => ?_)
                    clear hK K hq
                    refine wpAnyH_ready (rs := [14]) (by kernel_rfl) (by simp) ?_
                    refine AllReadyH.cons rfl (fun K hK => ?_) AllReadyH.nil
                    have hz := line_zero.1
                    go_simp
                    have LL4 := Lib.hid (below_next LL3.out (below_new w23 (.cells (cellsI noughts) 68)))
                    have NY := Lib.hid (LineAt.new w23 noughts)
                    have HGN := Lib.hid (LL3.out.size)
                    have hq := S.out.next LL4.out
                    refine hK.out _ _ hq (fun hHeld => ?_)
                    clear hK K hz hq
                    generalize hW8 : World.alloc w23 (.cells (cellsI noughts) 68) = w24 at *
                    clear hW8
                    refine wpAnyH_ready (rs := [15]) (by kernel_rfl) (by simp) ?_
                    refine AllReadyH.cons rfl (fun K hK => ?_) AllReadyH.nil
                    have hsc := NY.out.storeCells (ys := ZZ) noughts_len HZL.out
                    have hsz : (cellsI ZZ).size = 64 := by rw [cellsI_size, HZL.out]
                    go_simp
                    simp only [Tryd.sizeOf68, Result.andThen, ↓reduceIte, hsc]
                    rw [Oper.upon_skip]
                    have CUT := Lib.hid (show wy.heap.size ≤ _ ∧ LineAt (World.setRow _ _ (cellsI ZZ)) _ ZZ ∧ Below wy.heap.size wy (World.setRow _ _ (cellsI ZZ)) from ⟨HGN.out, NY.out.stored ZZ, below_setRow LL4.out HGN.out (cellsI ZZ)⟩)
                    have hq := S.out.next CUT.out.2.2
                    refine hK.out _ _ hq (fun hHeld => ?_)
                    clear hK K hq hsc hsz
                    refine wpAnyH_done (by kernel_rfl) ?_ _
                    go_wp2_with fail
                    go_meet
                    exact ⟨_, rfl, CUT.1, CUT.2.1, Lib.hid CUT.2.2⟩
                  · have hz := line_zero.1
                    go_simp
                    have LL6 := Lib.hid (below_next LL2.out (below_new w22 (.cells (cellsI noughts) 68)))
                    have NY := Lib.hid (LineAt.new w22 noughts)
                    have HGN := Lib.hid (LL2.out.size)
                    have hq := S.out.next LL6.out
                    refine hK.out _ _ hq (fun hHeld => ?_)
                    clear hK K hz hq
                    generalize hW8 : World.alloc w22 (.cells (cellsI noughts) 68) = w26 at *
                    clear hW8
                    refine wpAnyH_ready (rs := [13]) (by kernel_rfl) (by simp) ?_
                    refine AllReadyH.cons rfl (fun K hK => ?_) AllReadyH.nil
                    go_simp
                    (go_at_call 37; refine (MT.out _ LL6.out).mono ?_; rintro r w27 ⟨rfl, hbA⟩)
                    have LL7 := Lib.hid (below_next LL6.out hbA)
                    have NZ := Lib.hid (NY.out.next hbA)
                    have hq := S.out.next LL7.out
                    clear hbA
                    replace NY := NZ; clear NZ
                    go_wp2_with fail
                    refine hK.out _ _ hq (fun hHeld => ?_)
                    clear hK K hq
                    refine wpAnyH_ready (rs := [15]) (by kernel_rfl) (by simp) ?_
                    refine AllReadyH.cons rfl (fun K hK => ?_) AllReadyH.nil
                    have hsc := NY.out.storeCells (ys := ZZ) noughts_len HZL.out
                    have hsz : (cellsI ZZ).size = 64 := by rw [cellsI_size, HZL.out]
                    go_simp
                    simp only [Tryd.sizeOf68, Result.andThen, ↓reduceIte, hsc]
                    rw [Oper.upon_skip]
                    have CUT := Lib.hid (show wy.heap.size ≤ _ ∧ LineAt (World.setRow _ _ (cellsI ZZ)) _ ZZ ∧ Below wy.heap.size wy (World.setRow _ _ (cellsI ZZ)) from ⟨HGN.out, NY.out.stored ZZ, below_setRow LL7.out HGN.out (cellsI ZZ)⟩)
                    have hq := S.out.next CUT.out.2.2
                    refine hK.out _ _ hq (fun hHeld => ?_)
                    clear hK K hq hsc hsz
                    refine wpAnyH_done (by kernel_rfl) ?_ _
                    go_wp2_with fail
                    go_meet
                    exact ⟨_, rfl, CUT.1, CUT.2.1, Lib.hid CUT.2.2⟩
                · have hz := line_zero.1
                  go_simp
                  have LL9 := Lib.hid (below_next LL1.out (below_new w21 (.cells (cellsI noughts) 68)))
                  have NY := Lib.hid (LineAt.new w21 noughts)
                  have HGN := Lib.hid (LL1.out.size)
                  have hq := S.out.next LL9.out
                  refine hK.out _ _ hq (fun hHeld => ?_)
                  clear hK K hz hq
                  generalize hW8 : World.alloc w21 (.cells (cellsI noughts) 68) = w29 at *
                  clear hW8
                  refine wpAnyH_ready (rs := [11]) (by kernel_rfl) (by simp) ?_
                  refine AllReadyH.cons rfl (fun K hK => ?_) AllReadyH.nil
                  go_simp
                  (go_at_call 38; refine (AS2.out _ LL9.out).mono ?_; rintro r w30 ⟨rfl, hbA⟩)
                  have LL10 := Lib.hid (below_next LL9.out hbA)
                  have NZ := Lib.hid (NY.out.next hbA)
                  have hq := S.out.next LL10.out
                  clear hbA
                  replace NY := NZ; clear NZ
                  go_wp2_with fail
                  refine hK.out _ _ hq (fun hHeld => ?_)
                  clear hK K hq
                  refine wpAnyH_ready (rs := [13]) (by kernel_rfl) (by simp) ?_
                  refine AllReadyH.cons rfl (fun K hK => ?_) AllReadyH.nil
                  go_simp
                  (go_at_call 37; refine (MT.out _ LL10.out).mono ?_; rintro r w31 ⟨rfl, hbA⟩)
                  have LL11 := Lib.hid (below_next LL10.out hbA)
                  have NZ := Lib.hid (NY.out.next hbA)
                  have hq := S.out.next LL11.out
                  clear hbA
                  replace NY := NZ; clear NZ
                  go_wp2_with fail
                  refine hK.out _ _ hq (fun hHeld => ?_)
                  clear hK K hq
                  refine wpAnyH_ready (rs := [15]) (by kernel_rfl) (by simp) ?_
                  refine AllReadyH.cons rfl (fun K hK => ?_) AllReadyH.nil
                  have hsc := NY.out.storeCells (ys := ZZ) noughts_len HZL.out
                  have hsz : (cellsI ZZ).size = 64 := by rw [cellsI_size, HZL.out]
                  go_simp
                  simp only [Tryd.sizeOf68, Result.andThen, ↓reduceIte, hsc]
                  rw [Oper.upon_skip]
                  have CUT := Lib.hid (show wy.heap.size ≤ _ ∧ LineAt (World.setRow _ _ (cellsI ZZ)) _ ZZ ∧ Below wy.heap.size wy (World.setRow _ _ (cellsI ZZ)) from ⟨HGN.out, NY.out.stored ZZ, below_setRow LL11.out HGN.out (cellsI ZZ)⟩)
                  have hq := S.out.next CUT.out.2.2
                  refine hK.out _ _ hq (fun hHeld => ?_)
                  clear hK K hq hsc hsz
                  refine wpAnyH_done (by kernel_rfl) ?_ _
                  go_wp2_with fail
                  go_meet
                  exact ⟨_, rfl, CUT.1, CUT.2.1, Lib.hid CUT.2.2⟩
              · have hz := line_zero.1
                go_simp
                have LL13 := Lib.hid (show Below wy.heap.size wy (World.alloc wy (.cells (cellsI noughts) 68)).drew from (below_new wy (.cells (cellsI noughts) 68)).drew)
                have NY := Lib.hid (show LineAt (World.alloc wy (.cells (cellsI noughts) 68)).drew wy.heap.size noughts from (LineAt.new wy noughts).drew)
                have HGN := Lib.hid (Nat.le_refl wy.heap.size)
                have hq := S.out.next LL13.out
                refine hK.out _ _ hq (fun hHeld => ?_)
                clear hK K hz hq
                generalize hW8 : (World.alloc wy (.cells (cellsI noughts) 68)).drew = w33 at *
                clear hW8
                refine wpAnyH_ready (rs := [6]) (by kernel_rfl) (by simp) ?_
                refine AllReadyH.cons rfl (fun K hK => ?_) AllReadyH.nil
                go_simp
                (go_at_call 38; refine (AS1.out _ LL13.out).mono ?_; rintro r w34 ⟨rfl, hbA⟩)
                have LL14 := Lib.hid (below_next LL13.out hbA)
                have NZ := Lib.hid (NY.out.next hbA)
                have hq := S.out.next LL14.out
                clear hbA
                replace NY := NZ; clear NZ
                go_wp2_with fail
                refine hK.out _ _ hq (fun hHeld => ?_)
                clear hK K hq
                refine wpAnyH_ready (rs := [11]) (by kernel_rfl) (by simp) ?_
                refine AllReadyH.cons rfl (fun K hK => ?_) AllReadyH.nil
                go_simp
                (go_at_call 38; refine (AS2.out _ LL14.out).mono ?_; rintro r w35 ⟨rfl, hbA⟩)
                have LL15 := Lib.hid (below_next LL14.out hbA)
                have NZ := Lib.hid (NY.out.next hbA)
                have hq := S.out.next LL15.out
                clear hbA
                replace NY := NZ; clear NZ
                go_wp2_with fail
                refine hK.out _ _ hq (fun hHeld => ?_)
                clear hK K hq
                refine wpAnyH_ready (rs := [13]) (by kernel_rfl) (by simp) ?_
                refine AllReadyH.cons rfl (fun K hK => ?_) AllReadyH.nil
                go_simp
                (go_at_call 37; refine (MT.out _ LL15.out).mono ?_; rintro r w36 ⟨rfl, hbA⟩)
                have LL16 := Lib.hid (below_next LL15.out hbA)
                have NZ := Lib.hid (NY.out.next hbA)
                have hq := S.out.next LL16.out
                clear hbA
                replace NY := NZ; clear NZ
                go_wp2_with fail
                refine hK.out _ _ hq (fun hHeld => ?_)
                clear hK K hq
                refine wpAnyH_ready (rs := [15]) (by kernel_rfl) (by simp) ?_
                refine AllReadyH.cons rfl (fun K hK => ?_) AllReadyH.nil
                have hsc := NY.out.storeCells (ys := ZZ) noughts_len HZL.out
                have hsz : (cellsI ZZ).size = 64 := by rw [cellsI_size, HZL.out]
                go_simp
                simp only [Tryd.sizeOf68, Result.andThen, ↓reduceIte, hsc]
                rw [Oper.upon_skip]
                have CUT := Lib.hid (show wy.heap.size ≤ _ ∧ LineAt (World.setRow _ _ (cellsI ZZ)) _ ZZ ∧ Below wy.heap.size wy (World.setRow _ _ (cellsI ZZ)) from ⟨HGN.out, NY.out.stored ZZ, below_setRow LL16.out HGN.out (cellsI ZZ)⟩)
                have hq := S.out.next CUT.out.2.2
                refine hK.out _ _ hq (fun hHeld => ?_)
                clear hK K hq hsc hsz
                refine wpAnyH_done (by kernel_rfl) ?_ _
                go_wp2_with fail
                go_meet
                exact ⟨_, rfl, CUT.1, CUT.2.1, Lib.hid CUT.2.2⟩
          case rest =>
            obtain ⟨gN, rfl, hgn, hln, LN⟩ := hcut
            as_aux_lemma =>
              replace S := Lib.hid (S.out.next LN)
              replace BQ := Lib.hid (BQ.out.next LN)
              replace R3 := Lib.hid (R3.out.next LN)
              replace MM := Lib.hid (MM.out.below LN (Nat.le_refl _))
              have PL := Lib.hid (show (ZZ.take L).length = L by rw [List.length_take, HZL.out]; omega)
              have PT := Lib.hid (hln.part (n := L) (by rw [HZL.out]; omega))
              have hsl := fun W => line_slice gN L hLm W
              have RO := fun W (h : Below wc.heap.size wc W) => Row_any cf sf (some ⟨gN, 0, none⟩) 64 (ZZ.take L) W (T0.out.below (below_next S.out.2.2.2.2.2 h)) (by rw [PL.out]; omega) (by rw [TK.out]; exact metL_R RA.out RB.out _) (PT.out.below h)
              simp only [PL.out] at RO
              simp only [TK.out, FK.out] at RO
              obtain ⟨rb, hrb⟩ : ∃ rb, rowB cf (metL cg sg la lb L) = rb := ⟨_, rfl⟩
              simp only [hrb] at RO
              have ROH := Lib.hid RO
              obtain ⟨z0, z1, -, -⟩ := BQ.out.all
              obtain ⟨f0, f1, -⟩ := S.out.cells
              have KK0 := Lib.hid (show wc.drew.cell? ⟨w.heap.size, 0, none⟩ = some (.int .i64 cf) ∧ wc.drew.cell? ⟨w.heap.size, 1, none⟩ = some (.bool sf) ∧ wc.drew.cell? ⟨g9, 1, none⟩ = some (.slice (some ⟨g, 0, none⟩) N N) from ⟨f0, f1, z1⟩)
              have LC0 := Lib.hid (Below.refl wc.heap.size wc).drew
              clear hln hgn LN PT RO hrb LW0 AS1 AS2 MT z0 z1 f0 f1
              go_wp2_with fail
              go_region_held3 (fun w' => w'.cell? ⟨w.heap.size, 0, none⟩ = some (.int .i64 cf) ∧ w'.cell? ⟨w.heap.size, 1, none⟩ = some (.bool sf) ∧ w'.cell? ⟨g9, 1, none⟩ = some (.slice (some ⟨g, 0, none⟩) N N))
                (first
                  | with_reducible exact KK0.out
                  | with_reducible exact KK1.out
                  | with_reducible exact KK3.out)
                (first
                  | (go_at_call 39; (with_reducible refine (ROH.out _ LC0.out).mono ?_); rintro r w30 ⟨rfl, hb⟩; have LC := Lib.hid (below_next LC0.out hb); have R30 := Lib.hid (R3.out.next LC.out); have S30 := Lib.hid (S.out.next LC.out); have BQ30 := Lib.hid (BQ.out.next LC.out); have MM30 := Lib.hid (MM.out.below LC.out (Nat.le_refl _)); have KK1 := Lib.hid (show w30.cell? ⟨w.heap.size, 0, none⟩ = some (.int .i64 cf) ∧ w30.cell? ⟨w.heap.size, 1, none⟩ = some (.bool sf) ∧ w30.cell? ⟨g9, 1, none⟩ = some (.slice (some ⟨g, 0, none⟩) N N) from ⟨S30.out.cells.1, S30.out.cells.2.1, BQ30.out.c1⟩); have y0 := R30.out.cell (i := k) (by rw [fillK_length]; exact hlt); have y1 := R30.out.frozen k; have S31 := Lib.hid (S30.out.far hg4 k (.int .i64 (F k))); have BQ31 := Lib.hid (BQ30.out.far (p := ⟨g, k, none⟩) (by show g9 ≠ g; omega) (.int .i64 (F k))); have KK3 := Lib.hid (show (w30.setCell ⟨g, k, none⟩ (.int .i64 (F k))).cell? ⟨w.heap.size, 0, none⟩ = some (.int .i64 cf) ∧ (w30.setCell ⟨g, k, none⟩ (.int .i64 (F k))).cell? ⟨w.heap.size, 1, none⟩ = some (.bool sf) ∧ (w30.setCell ⟨g, k, none⟩ (.int .i64 (F k))).cell? ⟨g9, 1, none⟩ = some (.slice (some ⟨g, 0, none⟩) N N) from ⟨S31.out.cells.1, S31.out.cells.2.1, BQ31.out.c1⟩); clear hb))
              all_goals
                have ne : ∀ b, (Value.slice A3 (e ++ e').length n3).ownBlock = some b → b ≠ g := fun b hb e3 => own_bk_ne (t := 2) (cs := (fillK F N k).map (Value.int .i64)) MM30.out R30.out (by decide) (by rw [hb, e3])
                have MM31 := Lib.hid (own_turn MM30.out (Turn.setCell (p := ⟨g, k, none⟩) (Turn.refl (fun b => b = g) w30) (.inl rfl) (.int .i64 (F k))) ne)
                have R31 := Lib.hid (show Row64 (w30.setCell ⟨g, k, none⟩ (.int .i64 (F k))) g (fillK F N (k + 1)) by rw [← fillK_succ F N k hlt]; exact R30.out.set_ k (F k))
                clear ne
                go_wp2
                exact ⟨⟨k + 1, by omega, by go_num, S31.out, BQ31.out, R31.out, MM31.out⟩, by simp [intOf]; omega⟩
      · obtain rfl : k = N := by omega
        obtain ⟨q0, q1, -, -⟩ := BQ.out.all
        have BO := Lib.hid S.out.2.2.2.2.1
        have L := Lib.hid S.out.2.2.2.2.2
        obtain ⟨o0, o1, o2, o3⟩ := BO.out.all
        go_wp2
        obtain ⟨t0, t1, _, _⟩ := ((BO.out.set0 (.slice A3 (e.length + e'.length) n3)).set1 (.slice (some ⟨g, 0, none⟩) k k)).all
        refine bodyPost_ret (v := .tuple #[.agg #[.slice A3 (e.length + e'.length) n3, .slice (some ⟨g, 0, none⟩) k k], .int .i64 0]) (by simp [results, Tryd.results12, go_sem, t0, t1]) rfl ?_
        have hM := (MM.out.ints'.set_box BO.out (.slice A3 (e.length + e'.length) n3) (.slice (some ⟨g, 0, none⟩) k k))
        have hV := (R3.out.ints.set_box BO.out (.slice A3 (e.length + e'.length) n3) (.slice (some ⟨g, 0, none⟩) k k))
        exact ⟨A3, n3, some ⟨g, 0, none⟩, k, by rw [List.length_append, fillK_length], hM, hV, (L.out.setCell (by simp; omega) _).setCell (by simp; omega) _⟩
set_option maxHeartbeats 8000000 in
theorem inner_4 (hT : Sc.Tab w) (id : Ints w A d) (id' : Ints w A' d') (hd : d.length ≤ 40) (hd' : d'.length ≤ 40) (h : pfitE d v.length d' v'.length [(cf, sf), (cg, sg)] = 0) (L : Nat) (st : Bool) (hC : comB d d' = true) (hI : comI d d' = (L : Nat)) (hS : (Sc.trOf cf).starts = st) (hLZ : ((L : Int) == 0) = false ∨ (((L : Int) == 0) = true ∧ st = true)) (e e' : List Int) (he : withoutL d ((d.length : Int) - 1) = e) (he' : withoutL d' 0 = e') (hle : e.length ≤ 40) (hle' : e'.length ≤ 40) (hR : rightB (e ++ e') = false) :
    Calls Tryd.prog 12 #[.agg #[.int .i64 cf, .bool sf], .agg #[.int .i64 cg, .bool sg], .agg #[.slice A d.length c1, .slice B v.length c2], .agg #[.slice A' d'.length c1', .slice B' v'.length c2']] w (RetCI w [] [] (.int .i64 4)) := by
  have S := Lib.hid (in5_start w cf sf cg sg (.slice A d.length c1) (.slice B v.length c2) (.slice A' d'.length c1') (.slice B' v'.length c2'))
  have T0 := Lib.hid hT
  have D0 := Lib.hid id
  have D0' := Lib.hid id'
  have HH := Lib.hid h
  have HC := Lib.hid hC
  have HI := Lib.hid hI
  have HS := Lib.hid hS
  have HLZ := Lib.hid hLZ
  have HE := Lib.hid he
  have HE' := Lib.hid he'
  have HR := Lib.hid hR
  clear hT id id' h hC hI hS hLZ he he' hR
  go_enter Tryd.func12, Tryd.ntmps12
  go_upto_region 1 with (fail)
  generalize hW : (World.alloc (World.alloc (World.alloc (World.alloc (World.alloc w (Obj.cells #[Value.int IntKind.i64 cf, Value.bool sf] 23)) (Obj.cells #[Value.int IntKind.i64 cg, Value.bool sg] 23)) (Obj.cells #[(.slice A d.length c1), (.slice B v.length c2)] 29)) (Obj.cells #[(.slice A' d'.length c1'), (.slice B' v'.length c2')] 29)) (Obj.cells #[Value.slice none 0 0, Value.slice none 0 0] 29)) = W at *
  clear hW
  obtain ⟨q0, q1, q2, q3, a0, a1, b0, b1⟩ := S.out.cells
  have KB := Lib.hid (below_new W (.cells #[.int .i64 cf, .bool sf, .int .i64 cg, .bool sg] 23))
  have LW := Lib.hid (below_next S.out.2.2.2.2.2 KB.out)
  have PF := Lib.hid (HH.out ▸ pfit_any A c1 d B c2 v A' c1' d' B' c2' v' W.heap.size [(cf, sf), (cg, sg)] _ (T0.out.below LW.out) (D0.out.below LW.out) (D0'.out.below LW.out) (fns_two W cf sf cg sg 23) (by simp) (by omega) (by omega))
  go_wp2_with fail
  refine (PF.out).mono ?_
  rintro r w1 ⟨rfl, hb⟩
  replace S := Lib.hid (S.out.next (below_next KB.out hb))
  clear hb q0 q1 q2 q3 a0 a1 b0 b1 PF KB LW
  go_upto_region 4 with (fail)
  obtain ⟨q0, q1, q2, q3, a0, a1, b0, b1⟩ := S.out.cells
  have CM := common_any A c1 d A' c1' d' w1 (by omega) (by omega) (D0.out.below S.out.2.2.2.2.2) (D0'.out.below S.out.2.2.2.2.2)
  rw [HC.out, HI.out] at CM
  have CMH := Lib.hid CM
  clear CM
  go_wp2_with fail
  refine (CMH.out).mono ?_
  rintro r w2 ⟨rfl, hb⟩
  replace S := Lib.hid (S.out.next hb)
  clear hb q0 q1 q2 q3 a0 a1 b0 b1 CMH
  obtain ⟨q0, q1, q2, q3, a0, a1, b0, b1⟩ := S.out.cells
  obtain ⟨un, hun⟩ : ∃ un, (Sc.trOf cf).unit = un := ⟨_, rfl⟩
  have UN := Sc.unit_any cf w2 (T0.out.below S.out.2.2.2.2.2)
  rw [hun, HS.out] at UN
  have UNH := Lib.hid UN
  clear UN hun
  go_wp2_with fail
  refine (UNH.out).mono ?_
  rintro r w3 ⟨rfl, hb⟩
  replace S := Lib.hid (S.out.next hb)
  clear hb q0 q1 q2 q3 a0 a1 b0 b1 UNH
  go_upto_region 8 with (fail)
  go_cut [55] (fun s55 wx => s55 = .bool false ∧ w3 = wx)
  case first =>
    rcases HLZ.out with hz | ⟨hz, rfl⟩
    all_goals
      go_wp2_with fail
      go_meet
      exact ⟨rfl, rfl⟩
  case rest =>
    obtain ⟨rfl, rfl⟩ := hcut
    obtain ⟨q0, q1, q2, q3, a0, a1, b0, b1⟩ := S.out.cells
    have hw1 : IntKind.i64.wrap ((d.length : Int) - 1) = (d.length : Int) - 1 := IntWalk.i64_in _ (by omega)
    have WO1 := Lib.hid (fun W (h : Below w3.heap.size w3 W) => without_eq A c1 d e ((d.length : Int) - 1) W HE.out (by omega) ((D0.out.below S.out.2.2.2.2.2).below h))
    have WO2 := Lib.hid (fun W (h : Below w3.heap.size w3 W) => without_eq A' c1' d' e' 0 W HE'.out (by omega) ((D0'.out.below S.out.2.2.2.2.2).below h))
    have KK0 := Lib.hid (show w3.drew.cell? ⟨w.heap.size + 1 + 1, 0, none⟩ = some (.slice A d.length c1) ∧ w3.drew.cell? ⟨w.heap.size + 1 + 1 + 1, 0, none⟩ = some (.slice A' d'.length c1') from ⟨a0, b0⟩)
    have LB0 := Lib.hid (Below.refl w3.heap.size w3).drew
    clear q0 q1 q2 q3 a1 b1
    go_wp2_with fail
    go_region_held3 (fun w' => w'.cell? ⟨w.heap.size + 1 + 1, 0, none⟩ = some (.slice A d.length c1) ∧ w'.cell? ⟨w.heap.size + 1 + 1 + 1, 0, none⟩ = some (.slice A' d'.length c1'))
      (first
        | with_reducible exact KK0.out
        | with_reducible exact KK2.out
        | with_reducible exact KK1.out)
      (first
        | (go_at_call 32; (with_reducible refine (WO1.out _ LB0.out).mono ?_); rintro r w4 ⟨A5, n5, rfl, i5, hb⟩; have LB1 := Lib.hid (below_next LB0.out hb); have I5 := Lib.hid i5; have KK1 := Lib.hid (show w4.cell? ⟨w.heap.size + 1 + 1, 0, none⟩ = some (.slice A d.length c1) ∧ w4.cell? ⟨w.heap.size + 1 + 1 + 1, 0, none⟩ = some (.slice A' d'.length c1') from ⟨keepC' hb KK0.out.1, keepC' hb KK0.out.2⟩); clear hb i5)
        | (go_at_call 32; (with_reducible refine (WO2.out _ LB1.out).mono ?_); rintro r w5 ⟨A6, n6, rfl, i6, hb⟩; have LB2 := Lib.hid (below_next LB1.out hb); have I6 := Lib.hid i6; have I56 := Lib.hid (I5.out.below hb); have KK2 := Lib.hid (show w5.cell? ⟨w.heap.size + 1 + 1, 0, none⟩ = some (.slice A d.length c1) ∧ w5.cell? ⟨w.heap.size + 1 + 1 + 1, 0, none⟩ = some (.slice A' d'.length c1') from ⟨keepC' hb KK1.out.1, keepC' hb KK1.out.2⟩); clear hb i6))
    replace S := Lib.hid (S.out.next LB2.out)
    clear a0 b0 hw1 WO1 WO2 KK0 LB0 KK1 LB1 KK2 I5
    have KB := Lib.hid (below_new w5 (.cells #[.slice A5 e.length n5, .slice A6 e'.length n6] 26))
    have RW := heap_alloc_new w5 (.cells #[.slice A5 e.length n5, .slice A6 e'.length n6] 26)
    have CC := Lib.hid (concat_any w5.heap.size A5 n5 e A6 n6 e' _ (by rw [cell_of_row _ _ 0 _ _ _ RW]; rfl) (by rw [cell_of_row _ _ 1 _ _ _ RW]; rfl) (by omega) (by omega) (I56.out.below KB.out) (I6.out.below KB.out))
    clear RW
    go_wp2_with fail
    refine (CC.out).mono ?_
    rintro r w6 ⟨A2, n2, rfl, hm2, hb⟩
    have KW := Lib.hid (below_next KB.out hb)
    have I2 := Lib.hid hm2.ints'
    replace I6 := Lib.hid (I6.out.below KW.out)
    replace S := Lib.hid (S.out.next KW.out)
    clear hb hm2 KB CC KW I56 LB2
    have ZZ := Lib.hid (zero_any A2 n2 (e ++ e') w6 (by simp; omega) I2.out)
    rw [zeroD_not HR.out, zeroV_not HR.out, List.length_append] at ZZ
    go_wp2_with fail
    refine (ZZ.out).mono ?_
    rintro r w7 ⟨x3, rfl, ⟨A3, n3, B3, e3, rfl, -, -, -⟩, hb⟩
    have KB := Lib.hid (below_new w7 (.cells #[.slice A3 0 n3, .slice B3 0 e3] 29))
    replace S := Lib.hid (S.out.next (below_next hb KB.out))
    clear hb ZZ I6 I2
    go_wp2_with fail
    refine (cright_no A3 n3 [] B3 0 e3 _ (by simp) (Ints.nil _ _) (by simp [cellB, rightB, sizeI, prod])).mono ?_
    rintro r w8 ⟨rfl, hb⟩
    replace S := Lib.hid (S.out.next hb)
    clear hb KB
    have BO := Lib.hid S.out.2.2.2.2.1
    have L := Lib.hid S.out.2.2.2.2.2
    obtain ⟨o0, o1, o2, o3⟩ := BO.out.all
    go_wp2
    obtain ⟨t0, t1, _, _⟩ := ((BO.out.set0 (.slice none 0 0)).set1 (.slice none 0 0)).all
    refine bodyPost_ret (v := .tuple #[.agg #[.slice none 0 0, .slice none 0 0], .int .i64 4]) (by simp [results, Tryd.results12, go_sem, t0, t1]) rfl ?_
    exact ⟨none, 0, none, 0, rfl, Ints.nil _ _, Ints.nil _ _, (L.out.setCell (by simp; omega) _).setCell (by simp; omega) _⟩
end
end Go.Proofs.YtbanegjmapgkdaaDoor.Pr
