/-
  What riffleref09.Inner answers for any two functions and any two cells; nothing that was there is written. Conditions: the numbers are int64; at most 40 axes and 1000 numbers; the room of the axes is one that can be.
-/
import Derived.Test.YtbanegjmapgkdaaDoorPrRefN
import Derived.Test.YtbanegjmapgkdaaDoorPrROut
set_option maxRecDepth 100000
namespace Go.Proofs.YtbanegjmapgkdaaDoor.Pr
open Go.Proofs.YtbanegjmapgkdaaDoor.Sh Go.Proofs.YtbanegjmapgkdaaDoor.St
open Go.Proofs.YtbanegjmapgkdaaDoor.Fd
open Go.RowKit
set_option linter.unusedVariables false

theorem ahead_take {d : List Int} (h : 0 < d.length) : aheadL d = d.take (d.length - 1) := by
  unfold aheadL
  rw [without_last h, List.dropLast_eq_take]
theorem behind_drop {d : List Int} (h : 0 < d.length) : behindL d = d.drop 1 := by
  unfold behindL
  rw [without_first h, List.drop_one]
theorem com_last {d d' : List Int} (h : comB d d' = true) (h0 : 0 < d.length) : lastD d = comI d d' := by
  unfold comI
  rw [if_neg (by omega)]
  by_cases h1 : d'.length = 0
  · rw [if_pos h1]
  · rw [if_neg h1]
    unfold comB at h
    rw [isEmpty_no (by omega), isEmpty_no h1] at h
    have e : lastD d = headD d' := by simpa using h
    rw [if_pos e, e]
theorem com_head {d d' : List Int} (h : comB d d' = true) (h0 : 0 < d.length) (h1 : 0 < d'.length) : headD d' = lastD d := by
  unfold comB at h
  rw [isEmpty_no (by omega), isEmpty_no (by omega)] at h
  have e : lastD d = headD d' := by simpa using h
  exact e.symm
theorem ints_grown {w w' : World} {b o : Nat} {xs : List Int} {r : Option Nat} (h : Ints w (some ⟨b, o, none⟩) xs) (hg : w.grownBy w' r) (hne : some b ≠ r) : Ints w' (some ⟨b, o, none⟩) xs := fun h0 => by
  obtain ⟨b', o', e, hb, hc⟩ := h h0
  injection e with e
  injection e with e1 e2 e3
  subst e1 e2
  exact ⟨b, o, rfl, Nat.lt_of_lt_of_le hb hg.size, fun i hi => (World.cell?_of_block (hg.block b hb hne)).trans (hc i hi)⟩
theorem cell_one {v : List Int} (h : cellB [] v.length = true) : 0 < v.length := by
  have := (cellB_len h).1
  rw [prod_nil] at this
  omega
/-- A row whose first number is x. -/
def OneAt (w : World) (x : Int) (s : Value) (wx : World) : Prop := ∃ b o n c, s = .slice (some ⟨b, o, none⟩) n c ∧ (0 : Int) < (n : Int) ∧ wx.cell? ⟨b, o, none⟩ = some (.int .i64 x) ∧ Below w.heap.size w wx
theorem com_no {d d' : List Int} (h : comB d d' = false) : 0 < d.length ∧ 0 < d'.length ∧ lastD d ≠ headD d' := by
  unfold comB at h
  cases d with
  | nil => simp at h
  | cons x l =>
    cases d' with
    | nil => simp at h
    | cons y l' => exact ⟨by simp, by simp, by simpa using h⟩
/-- How long the lines are, as far as the right cell says. -/
def lenB (d' : List Int) : Int := if d'.length = 0 then 1 else headD d'
section
variable (cf : Int) (sf : Bool) (cg : Int) (sg : Bool) (A : Option Addr) (c1 : Nat) (d : List Int) (B : Option Addr) (c2 : Nat) (v : List Int) (A' : Option Addr) (c1' : Nat) (d' : List Int) (B' : Option Addr) (c2' : Nat) (v' : List Int) (w : World)
set_option maxHeartbeats 4000000 in
theorem rin_1a (id : Ints w A d) (id' : Ints w A' d') (iv : Ints w B v) (iv' : Ints w B' v') (hd : d.length ≤ 40) (hd' : d'.length ≤ 40) (hc1 : d.length ≤ c1) (hm1 : c1 ≤ maxLen) (hc1' : d'.length ≤ c1') (hm1' : c1' ≤ maxLen) (h : cellB d v.length = false) :
    Calls Tryd.prog 13 #[.agg #[.int .i64 cf, .bool sf], .agg #[.int .i64 cg, .bool sg], .agg #[.slice A d.length c1, .slice B v.length c2], .agg #[.slice A' d'.length c1', .slice B' v'.length c2']] w (RetCI w [] [] (.int .i64 1)) := by
  have S := Lib.hid (in5_start w cf sf cg sg (.slice A d.length c1) (.slice B v.length c2) (.slice A' d'.length c1') (.slice B' v'.length c2'))
  have D0 := Lib.hid id
  have D0' := Lib.hid id'
  have V0 := Lib.hid iv
  have V0' := Lib.hid iv'
  have H1 := Lib.hid h
  clear id id' iv iv' h
  go_enter Tryd.func13, Tryd.ntmps13
  go_upto_region 1 with (fail)
  generalize hW : (World.alloc (World.alloc (World.alloc (World.alloc (World.alloc w (Obj.cells #[Value.int IntKind.i64 cf, Value.bool sf] 23)) (Obj.cells #[Value.int IntKind.i64 cg, Value.bool sg] 23)) (Obj.cells #[(.slice A d.length c1), (.slice B v.length c2)] 29)) (Obj.cells #[(.slice A' d'.length c1'), (.slice B' v'.length c2')] 29)) (Obj.cells #[Value.slice none 0 0, Value.slice none 0 0] 29)) = W at *
  clear hW
  obtain ⟨q0, q1, q2, q3, a0, a1, b0, b1⟩ := S.out.cells
  go_wp2_with fail
  refine (rright_no _ _ d _ _ _ _ (by unfold maxLen; omega) (D0.out.below S.out.2.2.2.2.2) H1.out).mono ?_
  rintro r w1 ⟨rfl, hb⟩
  replace S := Lib.hid (S.out.next hb)
  clear hb q0 q1 q2 q3 a0 a1 b0 b1
  have BO := Lib.hid S.out.2.2.2.2.1
  have L := Lib.hid S.out.2.2.2.2.2
  obtain ⟨o0, o1, o2, o3⟩ := BO.out.all
  go_wp2
  obtain ⟨t0, t1, _, _⟩ := ((BO.out.set0 (.slice none 0 0)).set1 (.slice none 0 0)).all
  refine bodyPost_ret (v := .tuple #[.agg #[.slice none 0 0, .slice none 0 0], .int .i64 1]) (by simp [results, Tryd.results13, go_sem, t0, t1]) rfl ?_
  exact ⟨none, 0, none, 0, rfl, Ints.nil _ _, Ints.nil _ _, (L.out.setCell (by simp; omega) _).setCell (by simp; omega) _⟩
set_option maxHeartbeats 4000000 in
theorem rin_1b (id : Ints w A d) (id' : Ints w A' d') (iv : Ints w B v) (iv' : Ints w B' v') (hd : d.length ≤ 40) (hd' : d'.length ≤ 40) (hc1 : d.length ≤ c1) (hm1 : c1 ≤ maxLen) (hc1' : d'.length ≤ c1') (hm1' : c1' ≤ maxLen) (h : cellB d v.length = true) (h' : cellB d' v'.length = false) :
    Calls Tryd.prog 13 #[.agg #[.int .i64 cf, .bool sf], .agg #[.int .i64 cg, .bool sg], .agg #[.slice A d.length c1, .slice B v.length c2], .agg #[.slice A' d'.length c1', .slice B' v'.length c2']] w (RetCI w [] [] (.int .i64 1)) := by
  have S := Lib.hid (in5_start w cf sf cg sg (.slice A d.length c1) (.slice B v.length c2) (.slice A' d'.length c1') (.slice B' v'.length c2'))
  have D0 := Lib.hid id
  have D0' := Lib.hid id'
  have V0 := Lib.hid iv
  have V0' := Lib.hid iv'
  have H1 := Lib.hid h
  have H2 := Lib.hid h'
  clear id id' iv iv' h h'
  go_enter Tryd.func13, Tryd.ntmps13
  go_upto_region 1 with (fail)
  generalize hW : (World.alloc (World.alloc (World.alloc (World.alloc (World.alloc w (Obj.cells #[Value.int IntKind.i64 cf, Value.bool sf] 23)) (Obj.cells #[Value.int IntKind.i64 cg, Value.bool sg] 23)) (Obj.cells #[(.slice A d.length c1), (.slice B v.length c2)] 29)) (Obj.cells #[(.slice A' d'.length c1'), (.slice B' v'.length c2')] 29)) (Obj.cells #[Value.slice none 0 0, Value.slice none 0 0] 29)) = W at *
  clear hW
  obtain ⟨q0, q1, q2, q3, a0, a1, b0, b1⟩ := S.out.cells
  go_wp2_with fail
  refine (rright_yes _ _ d _ _ _ _ (by unfold maxLen; omega) (D0.out.below S.out.2.2.2.2.2) H1.out).mono ?_
  rintro r w1 ⟨rfl, hb⟩
  replace S := Lib.hid (S.out.next hb)
  clear hb q0 q1 q2 q3 a0 a1 b0 b1
  obtain ⟨q0, q1, q2, q3, a0, a1, b0, b1⟩ := S.out.cells
  go_wp2_with fail
  refine (rright_no _ _ d' _ _ _ _ (by unfold maxLen; omega) (D0'.out.below S.out.2.2.2.2.2) H2.out).mono ?_
  rintro r w2 ⟨rfl, hb⟩
  replace S := Lib.hid (S.out.next hb)
  clear hb q0 q1 q2 q3 a0 a1 b0 b1
  have BO := Lib.hid S.out.2.2.2.2.1
  have L := Lib.hid S.out.2.2.2.2.2
  obtain ⟨o0, o1, o2, o3⟩ := BO.out.all
  go_wp2
  obtain ⟨t0, t1, _, _⟩ := ((BO.out.set0 (.slice none 0 0)).set1 (.slice none 0 0)).all
  refine bodyPost_ret (v := .tuple #[.agg #[.slice none 0 0, .slice none 0 0], .int .i64 1]) (by simp [results, Tryd.results13, go_sem, t0, t1]) rfl ?_
  exact ⟨none, 0, none, 0, rfl, Ints.nil _ _, Ints.nil _ _, (L.out.setCell (by simp; omega) _).setCell (by simp; omega) _⟩
set_option maxHeartbeats 4000000 in
theorem rin_13a (id : Ints w A d) (id' : Ints w A' d') (iv : Ints w B v) (iv' : Ints w B' v') (hd : d.length ≤ 40) (hd' : d'.length ≤ 40) (hc1 : d.length ≤ c1) (hm1 : c1 ≤ maxLen) (hc1' : d'.length ≤ c1') (hm1' : c1' ≤ maxLen) (h : cellB d v.length = true) (h' : cellB d' v'.length = true) (h3 : Sc.hasB cf 2 = false) :
    Calls Tryd.prog 13 #[.agg #[.int .i64 cf, .bool sf], .agg #[.int .i64 cg, .bool sg], .agg #[.slice A d.length c1, .slice B v.length c2], .agg #[.slice A' d'.length c1', .slice B' v'.length c2']] w (RetCI w [] [] (.int .i64 13)) := by
  have S := Lib.hid (in5_start w cf sf cg sg (.slice A d.length c1) (.slice B v.length c2) (.slice A' d'.length c1') (.slice B' v'.length c2'))
  have D0 := Lib.hid id
  have D0' := Lib.hid id'
  have V0 := Lib.hid iv
  have V0' := Lib.hid iv'
  have H1 := Lib.hid h
  have H2 := Lib.hid h'
  have H3 := Lib.hid h3
  clear id id' iv iv' h h' h3
  go_enter Tryd.func13, Tryd.ntmps13
  go_upto_region 1 with (fail)
  generalize hW : (World.alloc (World.alloc (World.alloc (World.alloc (World.alloc w (Obj.cells #[Value.int IntKind.i64 cf, Value.bool sf] 23)) (Obj.cells #[Value.int IntKind.i64 cg, Value.bool sg] 23)) (Obj.cells #[(.slice A d.length c1), (.slice B v.length c2)] 29)) (Obj.cells #[(.slice A' d'.length c1'), (.slice B' v'.length c2')] 29)) (Obj.cells #[Value.slice none 0 0, Value.slice none 0 0] 29)) = W at *
  clear hW
  obtain ⟨q0, q1, q2, q3, a0, a1, b0, b1⟩ := S.out.cells
  go_wp2_with fail
  refine (rright_yes _ _ d _ _ _ _ (by unfold maxLen; omega) (D0.out.below S.out.2.2.2.2.2) H1.out).mono ?_
  rintro r w1 ⟨rfl, hb⟩
  replace S := Lib.hid (S.out.next hb)
  clear hb q0 q1 q2 q3 a0 a1 b0 b1
  obtain ⟨q0, q1, q2, q3, a0, a1, b0, b1⟩ := S.out.cells
  go_wp2_with fail
  refine (rright_yes _ _ d' _ _ _ _ (by unfold maxLen; omega) (D0'.out.below S.out.2.2.2.2.2) H2.out).mono ?_
  rintro r w2 ⟨rfl, hb⟩
  replace S := Lib.hid (S.out.next hb)
  clear hb q0 q1 q2 q3 a0 a1 b0 b1
  obtain ⟨q0, q1, q2, q3, a0, a1, b0, b1⟩ := S.out.cells
  go_wp2_with fail
  refine (rhas_x cf 2 false _ H3.out).mono ?_
  rintro r w3 ⟨rfl, hb⟩
  replace S := Lib.hid (S.out.next hb)
  clear hb q0 q1 q2 q3 a0 a1 b0 b1
  have BO := Lib.hid S.out.2.2.2.2.1
  have L := Lib.hid S.out.2.2.2.2.2
  obtain ⟨o0, o1, o2, o3⟩ := BO.out.all
  go_wp2
  obtain ⟨t0, t1, _, _⟩ := ((BO.out.set0 (.slice none 0 0)).set1 (.slice none 0 0)).all
  refine bodyPost_ret (v := .tuple #[.agg #[.slice none 0 0, .slice none 0 0], .int .i64 13]) (by simp [results, Tryd.results13, go_sem, t0, t1]) rfl ?_
  exact ⟨none, 0, none, 0, rfl, Ints.nil _ _, Ints.nil _ _, (L.out.setCell (by simp; omega) _).setCell (by simp; omega) _⟩
set_option maxHeartbeats 4000000 in
theorem rin_13b (id : Ints w A d) (id' : Ints w A' d') (iv : Ints w B v) (iv' : Ints w B' v') (hd : d.length ≤ 40) (hd' : d'.length ≤ 40) (hc1 : d.length ≤ c1) (hm1 : c1 ≤ maxLen) (hc1' : d'.length ≤ c1') (hm1' : c1' ≤ maxLen) (h : cellB d v.length = true) (h' : cellB d' v'.length = true) (h3 : Sc.hasB cf 2 = true) (h4 : Sc.hasB cg 2 = false) :
    Calls Tryd.prog 13 #[.agg #[.int .i64 cf, .bool sf], .agg #[.int .i64 cg, .bool sg], .agg #[.slice A d.length c1, .slice B v.length c2], .agg #[.slice A' d'.length c1', .slice B' v'.length c2']] w (RetCI w [] [] (.int .i64 13)) := by
  have S := Lib.hid (in5_start w cf sf cg sg (.slice A d.length c1) (.slice B v.length c2) (.slice A' d'.length c1') (.slice B' v'.length c2'))
  have D0 := Lib.hid id
  have D0' := Lib.hid id'
  have V0 := Lib.hid iv
  have V0' := Lib.hid iv'
  have H1 := Lib.hid h
  have H2 := Lib.hid h'
  have H3 := Lib.hid h3
  have H4 := Lib.hid h4
  clear id id' iv iv' h h' h3 h4
  go_enter Tryd.func13, Tryd.ntmps13
  go_upto_region 1 with (fail)
  generalize hW : (World.alloc (World.alloc (World.alloc (World.alloc (World.alloc w (Obj.cells #[Value.int IntKind.i64 cf, Value.bool sf] 23)) (Obj.cells #[Value.int IntKind.i64 cg, Value.bool sg] 23)) (Obj.cells #[(.slice A d.length c1), (.slice B v.length c2)] 29)) (Obj.cells #[(.slice A' d'.length c1'), (.slice B' v'.length c2')] 29)) (Obj.cells #[Value.slice none 0 0, Value.slice none 0 0] 29)) = W at *
  clear hW
  obtain ⟨q0, q1, q2, q3, a0, a1, b0, b1⟩ := S.out.cells
  go_wp2_with fail
  refine (rright_yes _ _ d _ _ _ _ (by unfold maxLen; omega) (D0.out.below S.out.2.2.2.2.2) H1.out).mono ?_
  rintro r w1 ⟨rfl, hb⟩
  replace S := Lib.hid (S.out.next hb)
  clear hb q0 q1 q2 q3 a0 a1 b0 b1
  obtain ⟨q0, q1, q2, q3, a0, a1, b0, b1⟩ := S.out.cells
  go_wp2_with fail
  refine (rright_yes _ _ d' _ _ _ _ (by unfold maxLen; omega) (D0'.out.below S.out.2.2.2.2.2) H2.out).mono ?_
  rintro r w2 ⟨rfl, hb⟩
  replace S := Lib.hid (S.out.next hb)
  clear hb q0 q1 q2 q3 a0 a1 b0 b1
  obtain ⟨q0, q1, q2, q3, a0, a1, b0, b1⟩ := S.out.cells
  go_wp2_with fail
  refine (rhas_x cf 2 true _ H3.out).mono ?_
  rintro r w3 ⟨rfl, hb⟩
  replace S := Lib.hid (S.out.next hb)
  clear hb q0 q1 q2 q3 a0 a1 b0 b1
  obtain ⟨q0, q1, q2, q3, a0, a1, b0, b1⟩ := S.out.cells
  go_wp2_with fail
  refine (rhas_x cg 2 false _ H4.out).mono ?_
  rintro r w4 ⟨rfl, hb⟩
  replace S := Lib.hid (S.out.next hb)
  clear hb q0 q1 q2 q3 a0 a1 b0 b1
  have BO := Lib.hid S.out.2.2.2.2.1
  have L := Lib.hid S.out.2.2.2.2.2
  obtain ⟨o0, o1, o2, o3⟩ := BO.out.all
  go_wp2
  obtain ⟨t0, t1, _, _⟩ := ((BO.out.set0 (.slice none 0 0)).set1 (.slice none 0 0)).all
  refine bodyPost_ret (v := .tuple #[.agg #[.slice none 0 0, .slice none 0 0], .int .i64 13]) (by simp [results, Tryd.results13, go_sem, t0, t1]) rfl ?_
  exact ⟨none, 0, none, 0, rfl, Ints.nil _ _, Ints.nil _ _, (L.out.setCell (by simp; omega) _).setCell (by simp; omega) _⟩
set_option maxHeartbeats 4000000 in
theorem rin_3 (id : Ints w A d) (id' : Ints w A' d') (iv : Ints w B v) (iv' : Ints w B' v') (hd : d.length ≤ 40) (hd' : d'.length ≤ 40) (hc1 : d.length ≤ c1) (hm1 : c1 ≤ maxLen) (hc1' : d'.length ≤ c1') (hm1' : c1' ≤ maxLen) (h : cellB d v.length = true) (h' : cellB d' v'.length = true) (h3 : Sc.hasB cf 2 = true) (h4 : Sc.hasB cg 2 = true) (hC : comB d d' = false) :
    Calls Tryd.prog 13 #[.agg #[.int .i64 cf, .bool sf], .agg #[.int .i64 cg, .bool sg], .agg #[.slice A d.length c1, .slice B v.length c2], .agg #[.slice A' d'.length c1', .slice B' v'.length c2']] w (RetCI w [] [] (.int .i64 3)) := by
  obtain ⟨h0, h0', hne⟩ := com_no hC
  have HNE := Lib.hid hne
  clear hne hC
  have S := Lib.hid (in5_start w cf sf cg sg (.slice A d.length c1) (.slice B v.length c2) (.slice A' d'.length c1') (.slice B' v'.length c2'))
  have D0 := Lib.hid id
  have D0' := Lib.hid id'
  have V0 := Lib.hid iv
  have V0' := Lib.hid iv'
  have H1 := Lib.hid h
  have H2 := Lib.hid h'
  have H3 := Lib.hid h3
  have H4 := Lib.hid h4
  clear id id' iv iv' h h' h3 h4
  go_enter Tryd.func13, Tryd.ntmps13
  go_upto_region 1 with (fail)
  generalize hW : (World.alloc (World.alloc (World.alloc (World.alloc (World.alloc w (Obj.cells #[Value.int IntKind.i64 cf, Value.bool sf] 23)) (Obj.cells #[Value.int IntKind.i64 cg, Value.bool sg] 23)) (Obj.cells #[(.slice A d.length c1), (.slice B v.length c2)] 29)) (Obj.cells #[(.slice A' d'.length c1'), (.slice B' v'.length c2')] 29)) (Obj.cells #[Value.slice none 0 0, Value.slice none 0 0] 29)) = W at *
  clear hW
  obtain ⟨q0, q1, q2, q3, a0, a1, b0, b1⟩ := S.out.cells
  go_wp2_with fail
  refine (rright_yes _ _ d _ _ _ _ (by unfold maxLen; omega) (D0.out.below S.out.2.2.2.2.2) H1.out).mono ?_
  rintro r w1 ⟨rfl, hb⟩
  replace S := Lib.hid (S.out.next hb)
  clear hb q0 q1 q2 q3 a0 a1 b0 b1
  obtain ⟨q0, q1, q2, q3, a0, a1, b0, b1⟩ := S.out.cells
  go_wp2_with fail
  refine (rright_yes _ _ d' _ _ _ _ (by unfold maxLen; omega) (D0'.out.below S.out.2.2.2.2.2) H2.out).mono ?_
  rintro r w2 ⟨rfl, hb⟩
  replace S := Lib.hid (S.out.next hb)
  clear hb q0 q1 q2 q3 a0 a1 b0 b1
  obtain ⟨q0, q1, q2, q3, a0, a1, b0, b1⟩ := S.out.cells
  go_wp2_with fail
  refine (rhas_x cf 2 true _ H3.out).mono ?_
  rintro r w3 ⟨rfl, hb⟩
  replace S := Lib.hid (S.out.next hb)
  clear hb q0 q1 q2 q3 a0 a1 b0 b1
  obtain ⟨q0, q1, q2, q3, a0, a1, b0, b1⟩ := S.out.cells
  go_wp2_with fail
  refine (rhas_x cg 2 true _ H4.out).mono ?_
  rintro r w4 ⟨rfl, hb⟩
  replace S := Lib.hid (S.out.next hb)
  clear hb q0 q1 q2 q3 a0 a1 b0 b1
  obtain ⟨q0, q1, q2, q3, a0, a1, b0, b1⟩ := S.out.cells
  obtain ⟨ba, oa, rfl, -, hca⟩ := D0.out.below S.out.2.2.2.2.2 (by omega)
  obtain ⟨bb, ob, rfl, -, hcb⟩ := D0'.out.below S.out.2.2.2.2.2 (by omega)
  have y0 : w4.cell? ⟨bb, ob, none⟩ = some (.int .i64 (headD d')) := hcb 0 (by omega)
  have x0 : w4.cell? ⟨ba, oa + (d.length - 1), none⟩ = some (.int .i64 (lastD d)) := hca (d.length - 1) (by omega)
  clear hca hcb
  obtain ⟨m, hm⟩ : ∃ m, d.length - 1 = m := ⟨_, rfl⟩
  have hmi : IntKind.i64.wrap ((d.length : Int) - 1) = (m : Int) := by rw [← hm]; rw [IntWalk.i64_in _ (by omega)]; omega
  rw [hm] at x0
  have m0 : (0 : Int) ≤ (m : Int) := by omega
  have m1 : (m : Int) < (d.length : Int) := by omega
  have i0 : (0 : Int) < (d.length : Int) := by omega
  have i1 : (0 : Int) < (d'.length : Int) := by omega
  have j1 : (1 : Int) ≤ (d'.length : Int) := by omega
  have hmc : (m : Int) ≤ (c1 : Int) := by omega
  have k1 : (d'.length : Int) ≤ (c1' : Int) := by omega
  obtain ⟨AR, hsR, -⟩ := slice_high (some ⟨bb, ob, none⟩) d'.length c1' 1 (by omega) hc1' hm1'
  have hsR1 : ∀ W, (Instr.sliceAt 26 (.slice (some ⟨bb, ob, none⟩) d'.length c1') (some (.int .i64 1)) none none).run Tryd.prog W = .ok (.slice AR (d'.length - 1) (c1' - 1)) W := hsR
  have t3 : (lastD d != headD d') = true := by simpa using HNE.out
  generalize lastD d = x at *
  generalize headD d' = y at *
  clear hm hsR
  have BO := Lib.hid S.out.2.2.2.2.1
  have L := Lib.hid S.out.2.2.2.2.2
  obtain ⟨o0, o1, o2, o3⟩ := BO.out.all
  go_wp2
  obtain ⟨t0, t1, _, _⟩ := ((BO.out.set0 (.slice none 0 0)).set1 (.slice none 0 0)).all
  refine bodyPost_ret (v := .tuple #[.agg #[.slice none 0 0, .slice none 0 0], .int .i64 3]) (by simp [results, Tryd.results13, go_sem, t0, t1]) rfl ?_
  exact ⟨none, 0, none, 0, rfl, Ints.nil _ _, Ints.nil _ _, (L.out.setCell (by simp; omega) _).setCell (by simp; omega) _⟩
set_option maxHeartbeats 4000000 in
theorem rin_5 (id : Ints w A d) (id' : Ints w A' d') (iv : Ints w B v) (iv' : Ints w B' v') (hd : d.length ≤ 40) (hd' : d'.length ≤ 40) (hc1 : d.length ≤ c1) (hm1 : c1 ≤ maxLen) (hc1' : d'.length ≤ c1') (hm1' : c1' ≤ maxLen) (h : cellB d v.length = true) (h' : cellB d' v'.length = true) (h3 : Sc.hasB cf 2 = true) (h4 : Sc.hasB cg 2 = true) (hC : comB d d' = true) (L : Nat) (hL : comI d d' = (L : Int)) (hLm : L ≤ 64) (P R : List Int) (hP : aheadL d = P) (hR : behindL d' = R) (S0 : Bool) (hS0 : (Sc.trOf cf).starts = S0) (hL0 : L = 0) (hS1 : S0 = false) :
    Calls Tryd.prog 13 #[.agg #[.int .i64 cf, .bool sf], .agg #[.int .i64 cg, .bool sg], .agg #[.slice A d.length c1, .slice B v.length c2], .agg #[.slice A' d'.length c1', .slice B' v'.length c2']] w (RetCI w [] [] (.int .i64 5)) := by
  have S := Lib.hid (in5_start w cf sf cg sg (.slice A d.length c1) (.slice B v.length c2) (.slice A' d'.length c1') (.slice B' v'.length c2'))
  have D0 := Lib.hid id
  have D0' := Lib.hid id'
  have V0 := Lib.hid iv
  have V0' := Lib.hid iv'
  have H1 := Lib.hid h
  have H2 := Lib.hid h'
  have H3 := Lib.hid h3
  have H4 := Lib.hid h4
  have HC := Lib.hid hC
  have HL := Lib.hid hL
  have HP := Lib.hid hP
  have HR := Lib.hid hR
  have HS0 := Lib.hid hS0
  have HL0 := Lib.hid hL0
  have HS1 := Lib.hid hS1
  clear id id' iv iv' h h' h3 h4 hC hL hP hR hS0 hL0 hS1
  go_enter Tryd.func13, Tryd.ntmps13
  go_upto_region 1 with (fail)
  generalize hW : (World.alloc (World.alloc (World.alloc (World.alloc (World.alloc w (Obj.cells #[Value.int IntKind.i64 cf, Value.bool sf] 23)) (Obj.cells #[Value.int IntKind.i64 cg, Value.bool sg] 23)) (Obj.cells #[(.slice A d.length c1), (.slice B v.length c2)] 29)) (Obj.cells #[(.slice A' d'.length c1'), (.slice B' v'.length c2')] 29)) (Obj.cells #[Value.slice none 0 0, Value.slice none 0 0] 29)) = W at *
  clear hW
  obtain ⟨q0, q1, q2, q3, a0, a1, b0, b1⟩ := S.out.cells
  go_wp2_with fail
  refine (rright_yes _ _ d _ _ _ _ (by unfold maxLen; omega) (D0.out.below S.out.2.2.2.2.2) H1.out).mono ?_
  rintro r w1 ⟨rfl, hb⟩
  replace S := Lib.hid (S.out.next hb)
  clear hb q0 q1 q2 q3 a0 a1 b0 b1
  obtain ⟨q0, q1, q2, q3, a0, a1, b0, b1⟩ := S.out.cells
  go_wp2_with fail
  refine (rright_yes _ _ d' _ _ _ _ (by unfold maxLen; omega) (D0'.out.below S.out.2.2.2.2.2) H2.out).mono ?_
  rintro r w2 ⟨rfl, hb⟩
  replace S := Lib.hid (S.out.next hb)
  clear hb q0 q1 q2 q3 a0 a1 b0 b1
  obtain ⟨q0, q1, q2, q3, a0, a1, b0, b1⟩ := S.out.cells
  go_wp2_with fail
  refine (rhas_x cf 2 true _ H3.out).mono ?_
  rintro r w3 ⟨rfl, hb⟩
  replace S := Lib.hid (S.out.next hb)
  clear hb q0 q1 q2 q3 a0 a1 b0 b1
  obtain ⟨q0, q1, q2, q3, a0, a1, b0, b1⟩ := S.out.cells
  go_wp2_with fail
  refine (rhas_x cg 2 true _ H4.out).mono ?_
  rintro r w4 ⟨rfl, hb⟩
  replace S := Lib.hid (S.out.next hb)
  clear hb q0 q1 q2 q3 a0 a1 b0 b1
  obtain ⟨q0, q1, q2, q3, a0, a1, b0, b1⟩ := S.out.cells
  go_upto_if 54 with (fail)
  go_cut [10, 12] (fun s10 s12 wx => ∃ AR cR, s12 = .slice AR R.length cR ∧ R.length ≤ cR ∧ Ints w4 AR R ∧ s10 = .int .i64 (lenB d') ∧ w4 = wx)
  case first =>
    by_cases h0 : d'.length = 0
    · obtain rfl := List.eq_nil_of_length_eq_zero h0
      go_wp2
      go_meet
      exact ⟨none, 0, by rw [← HR.out]; rfl, by rw [← HR.out]; exact Nat.le_refl _, by rw [← HR.out]; exact Ints.nil _ _, rfl, rfl⟩
    · obtain ⟨bb, ob, rfl, -, hcb⟩ := D0'.out.below S.out.2.2.2.2.2 (by omega)
      have y0 : w4.cell? ⟨bb, ob, none⟩ = some (.int .i64 (headD d')) := hcb 0 (by omega)
      have i1 : (0 : Int) < (d'.length : Int) := by omega
      have j1 : (1 : Int) ≤ (d'.length : Int) := by omega
      have k1 : (d'.length : Int) ≤ (c1' : Int) := by omega
      obtain ⟨AR, hsR, hiR⟩ := slice_high (some ⟨bb, ob, none⟩) d'.length c1' 1 (by omega) hc1' hm1'
      have hsR1 : ∀ W, (Instr.sliceAt 26 (.slice (some ⟨bb, ob, none⟩) d'.length c1') (some (.int .i64 1)) none none).run Tryd.prog W = .ok (.slice AR (d'.length - 1) (c1' - 1)) W := hsR
      have HIR := Lib.hid (hiR w4 d' rfl (D0'.out.below S.out.2.2.2.2.2))
      have HRL := Lib.hid (show R.length = d'.length - 1 by rw [← HR.out, behind_drop (by omega), List.length_drop])
      have HLB := Lib.hid (show lenB d' = headD d' by unfold lenB; rw [if_neg h0])
      have HRD := Lib.hid (show d'.drop 1 = R by rw [← HR.out, behind_drop (by omega)])
      generalize headD d' = y at *
      clear hcb hsR hiR h0
      go_wp2
      go_meet
      exact ⟨AR, c1' - 1, by rw [HRL.out], by rw [HRL.out]; omega, by rw [← HRD.out]; exact HIR.out, by rw [HLB.out], rfl⟩
  case rest =>
    obtain ⟨AR, cR, rfl, hcR, hiR, rfl, rfl⟩ := hcut
    have IR := Lib.hid hiR
    clear hiR
    go_upto_if 65 with (fail)
    go_cut [10, 11] (fun s10 s11 wx => ∃ AL cL, s11 = .slice AL P.length cL ∧ Ints w4 AL P ∧ s10 = .int .i64 (L : Int) ∧ w4 = wx)
    case first =>
      by_cases h0 : d.length = 0
      · obtain rfl := List.eq_nil_of_length_eq_zero h0
        have HLB := Lib.hid (show lenB d' = (L : Int) by rw [← HL.out]; unfold comI lenB; rfl)
        go_wp2
        go_meet
        exact ⟨none, 0, by rw [← HP.out]; rfl, by rw [← HP.out]; exact Ints.nil _ _, by rw [HLB.out], rfl⟩
      · obtain ⟨ba, oa, rfl, -, hca⟩ := D0.out.below S.out.2.2.2.2.2 (by omega)
        have x0 : w4.cell? ⟨ba, oa + (d.length - 1), none⟩ = some (.int .i64 (lastD d)) := hca (d.length - 1) (by omega)
        obtain ⟨m, hm⟩ : ∃ m, d.length - 1 = m := ⟨_, rfl⟩
        have hmi : IntKind.i64.wrap ((d.length : Int) - 1) = (m : Int) := by rw [← hm]; rw [IntWalk.i64_in _ (by omega)]; omega
        rw [hm] at x0
        have m0 : (0 : Int) ≤ (m : Int) := by omega
        have m1 : (m : Int) < (d.length : Int) := by omega
        have hmc : (m : Int) ≤ (c1 : Int) := by omega
        have i0 : (0 : Int) < (d.length : Int) := by omega
        have hsl := slice_low (some ⟨ba, oa, none⟩) d.length c1 m (by omega) hm1
        have HPL := Lib.hid (show P.length = m by rw [← HP.out, ahead_take (by omega), List.length_take]; omega)
        have HPI := Lib.hid (show Ints w4 (some ⟨ba, oa, none⟩) P by rw [← HP.out, ahead_take (by omega)]; exact ints_take (D0.out.below S.out.2.2.2.2.2) _)
        have HLL := Lib.hid (show lastD d = (L : Int) by rw [← HL.out]; exact com_last HC.out (by omega))
        have HLB := Lib.hid (show d'.length ≠ 0 → lenB d' = lastD d from fun h => by unfold lenB; rw [if_neg h]; exact com_head HC.out (by omega) (by omega))
        generalize lastD d = x at *
        clear hca hm
        by_cases h1 : d'.length = 0
        · obtain rfl := List.eq_nil_of_length_eq_zero h1
          clear HLB
          go_wp2
          go_meet
          exact ⟨_, c1, by rw [HPL.out], HPI.out, by rw [HLL.out], rfl⟩
        · have i1 : (0 : Int) < (d'.length : Int) := by omega
          have t3 : (x != lenB d') = false := by rw [HLB.out h1]; simp
          generalize lenB d' = y at *
          clear HLB h1
          go_wp2
          go_meet
          exact ⟨_, c1, by rw [HPL.out], HPI.out, by rw [HLL.out], rfl⟩
    case rest =>
      obtain ⟨AL, cL, rfl, hiL, rfl, rfl⟩ := hcut
      have IL := Lib.hid hiL
      clear hiL q0 q1 q2 q3 a0 a1 b0 b1
      obtain ⟨q0, q1, q2, q3, a0, a1, b0, b1⟩ := S.out.cells
      go_wp2_with fail
      refine (runit_x cf S0 _ HS0.out).mono ?_
      rintro r w5 ⟨u0, rfl, hb⟩
      replace S := Lib.hid (S.out.next hb)
      replace IL := Lib.hid (IL.out.below hb)
      replace IR := Lib.hid (IR.out.below hb)
      clear hb q0 q1 q2 q3 a0 a1 b0 b1
      have hz : ((L : Int) == 0) = true := by rw [HL0.out]; rfl
      obtain rfl : S0 = false := HS1.out
      have BO := Lib.hid S.out.2.2.2.2.1
      have L := Lib.hid S.out.2.2.2.2.2
      obtain ⟨o0, o1, o2, o3⟩ := BO.out.all
      go_wp2
      obtain ⟨t0, t1, _, _⟩ := ((BO.out.set0 (.slice none 0 0)).set1 (.slice none 0 0)).all
      refine bodyPost_ret (v := .tuple #[.agg #[.slice none 0 0, .slice none 0 0], .int .i64 5]) (by simp [results, Tryd.results13, go_sem, t0, t1]) rfl ?_
      exact ⟨none, 0, none, 0, rfl, Ints.nil _ _, Ints.nil _ _, (L.out.setCell (by simp; omega) _).setCell (by simp; omega) _⟩
set_option maxHeartbeats 4000000 in
theorem rin_4 (id : Ints w A d) (id' : Ints w A' d') (iv : Ints w B v) (iv' : Ints w B' v') (hd : d.length ≤ 40) (hd' : d'.length ≤ 40) (hc1 : d.length ≤ c1) (hm1 : c1 ≤ maxLen) (hc1' : d'.length ≤ c1') (hm1' : c1' ≤ maxLen) (h : cellB d v.length = true) (h' : cellB d' v'.length = true) (h3 : Sc.hasB cf 2 = true) (h4 : Sc.hasB cg 2 = true) (hC : comB d d' = true) (L : Nat) (hL : comI d d' = (L : Int)) (hLm : L ≤ 64) (P R : List Int) (hP : aheadL d = P) (hR : behindL d' = R) (S0 : Bool) (hS0 : (Sc.trOf cf).starts = S0) (hPl : P.length ≤ 40) (hRl : R.length ≤ 40) (hLZ : ((L : Int) == 0) = false ∨ (((L : Int) == 0) = true ∧ S0 = true)) (O : List Int) (hO : P ++ R = O) (hR4 : rightB O = false) :
    Calls Tryd.prog 13 #[.agg #[.int .i64 cf, .bool sf], .agg #[.int .i64 cg, .bool sg], .agg #[.slice A d.length c1, .slice B v.length c2], .agg #[.slice A' d'.length c1', .slice B' v'.length c2']] w (RetCI w [] [] (.int .i64 4)) := by
  have S := Lib.hid (in5_start w cf sf cg sg (.slice A d.length c1) (.slice B v.length c2) (.slice A' d'.length c1') (.slice B' v'.length c2'))
  have D0 := Lib.hid id
  have D0' := Lib.hid id'
  have V0 := Lib.hid iv
  have V0' := Lib.hid iv'
  have H1 := Lib.hid h
  have H2 := Lib.hid h'
  have H3 := Lib.hid h3
  have H4 := Lib.hid h4
  have HC := Lib.hid hC
  have HL := Lib.hid hL
  have HP := Lib.hid hP
  have HR := Lib.hid hR
  have HS0 := Lib.hid hS0
  have HLZ := Lib.hid hLZ
  have HO := Lib.hid hO
  have HR4 := Lib.hid hR4
  clear id id' iv iv' h h' h3 h4 hC hL hP hR hS0 hLZ hO hR4
  go_enter Tryd.func13, Tryd.ntmps13
  go_upto_region 1 with (fail)
  generalize hW : (World.alloc (World.alloc (World.alloc (World.alloc (World.alloc w (Obj.cells #[Value.int IntKind.i64 cf, Value.bool sf] 23)) (Obj.cells #[Value.int IntKind.i64 cg, Value.bool sg] 23)) (Obj.cells #[(.slice A d.length c1), (.slice B v.length c2)] 29)) (Obj.cells #[(.slice A' d'.length c1'), (.slice B' v'.length c2')] 29)) (Obj.cells #[Value.slice none 0 0, Value.slice none 0 0] 29)) = W at *
  clear hW
  obtain ⟨q0, q1, q2, q3, a0, a1, b0, b1⟩ := S.out.cells
  go_wp2_with fail
  refine (rright_yes _ _ d _ _ _ _ (by unfold maxLen; omega) (D0.out.below S.out.2.2.2.2.2) H1.out).mono ?_
  rintro r w1 ⟨rfl, hb⟩
  replace S := Lib.hid (S.out.next hb)
  clear hb q0 q1 q2 q3 a0 a1 b0 b1
  obtain ⟨q0, q1, q2, q3, a0, a1, b0, b1⟩ := S.out.cells
  go_wp2_with fail
  refine (rright_yes _ _ d' _ _ _ _ (by unfold maxLen; omega) (D0'.out.below S.out.2.2.2.2.2) H2.out).mono ?_
  rintro r w2 ⟨rfl, hb⟩
  replace S := Lib.hid (S.out.next hb)
  clear hb q0 q1 q2 q3 a0 a1 b0 b1
  obtain ⟨q0, q1, q2, q3, a0, a1, b0, b1⟩ := S.out.cells
  go_wp2_with fail
  refine (rhas_x cf 2 true _ H3.out).mono ?_
  rintro r w3 ⟨rfl, hb⟩
  replace S := Lib.hid (S.out.next hb)
  clear hb q0 q1 q2 q3 a0 a1 b0 b1
  obtain ⟨q0, q1, q2, q3, a0, a1, b0, b1⟩ := S.out.cells
  go_wp2_with fail
  refine (rhas_x cg 2 true _ H4.out).mono ?_
  rintro r w4 ⟨rfl, hb⟩
  replace S := Lib.hid (S.out.next hb)
  clear hb q0 q1 q2 q3 a0 a1 b0 b1
  obtain ⟨q0, q1, q2, q3, a0, a1, b0, b1⟩ := S.out.cells
  go_upto_if 54 with (fail)
  go_cut [10, 12] (fun s10 s12 wx => ∃ AR cR, s12 = .slice AR R.length cR ∧ R.length ≤ cR ∧ Ints w4 AR R ∧ s10 = .int .i64 (lenB d') ∧ w4 = wx)
  case first =>
    by_cases h0 : d'.length = 0
    · obtain rfl := List.eq_nil_of_length_eq_zero h0
      go_wp2
      go_meet
      exact ⟨none, 0, by rw [← HR.out]; rfl, by rw [← HR.out]; exact Nat.le_refl _, by rw [← HR.out]; exact Ints.nil _ _, rfl, rfl⟩
    · obtain ⟨bb, ob, rfl, -, hcb⟩ := D0'.out.below S.out.2.2.2.2.2 (by omega)
      have y0 : w4.cell? ⟨bb, ob, none⟩ = some (.int .i64 (headD d')) := hcb 0 (by omega)
      have i1 : (0 : Int) < (d'.length : Int) := by omega
      have j1 : (1 : Int) ≤ (d'.length : Int) := by omega
      have k1 : (d'.length : Int) ≤ (c1' : Int) := by omega
      obtain ⟨AR, hsR, hiR⟩ := slice_high (some ⟨bb, ob, none⟩) d'.length c1' 1 (by omega) hc1' hm1'
      have hsR1 : ∀ W, (Instr.sliceAt 26 (.slice (some ⟨bb, ob, none⟩) d'.length c1') (some (.int .i64 1)) none none).run Tryd.prog W = .ok (.slice AR (d'.length - 1) (c1' - 1)) W := hsR
      have HIR := Lib.hid (hiR w4 d' rfl (D0'.out.below S.out.2.2.2.2.2))
      have HRL := Lib.hid (show R.length = d'.length - 1 by rw [← HR.out, behind_drop (by omega), List.length_drop])
      have HLB := Lib.hid (show lenB d' = headD d' by unfold lenB; rw [if_neg h0])
      have HRD := Lib.hid (show d'.drop 1 = R by rw [← HR.out, behind_drop (by omega)])
      generalize headD d' = y at *
      clear hcb hsR hiR h0
      go_wp2
      go_meet
      exact ⟨AR, c1' - 1, by rw [HRL.out], by rw [HRL.out]; omega, by rw [← HRD.out]; exact HIR.out, by rw [HLB.out], rfl⟩
  case rest =>
    obtain ⟨AR, cR, rfl, hcR, hiR, rfl, rfl⟩ := hcut
    have IR := Lib.hid hiR
    clear hiR
    go_upto_if 65 with (fail)
    go_cut [10, 11] (fun s10 s11 wx => ∃ AL cL, s11 = .slice AL P.length cL ∧ Ints w4 AL P ∧ s10 = .int .i64 (L : Int) ∧ w4 = wx)
    case first =>
      by_cases h0 : d.length = 0
      · obtain rfl := List.eq_nil_of_length_eq_zero h0
        have HLB := Lib.hid (show lenB d' = (L : Int) by rw [← HL.out]; unfold comI lenB; rfl)
        go_wp2
        go_meet
        exact ⟨none, 0, by rw [← HP.out]; rfl, by rw [← HP.out]; exact Ints.nil _ _, by rw [HLB.out], rfl⟩
      · obtain ⟨ba, oa, rfl, -, hca⟩ := D0.out.below S.out.2.2.2.2.2 (by omega)
        have x0 : w4.cell? ⟨ba, oa + (d.length - 1), none⟩ = some (.int .i64 (lastD d)) := hca (d.length - 1) (by omega)
        obtain ⟨m, hm⟩ : ∃ m, d.length - 1 = m := ⟨_, rfl⟩
        have hmi : IntKind.i64.wrap ((d.length : Int) - 1) = (m : Int) := by rw [← hm]; rw [IntWalk.i64_in _ (by omega)]; omega
        rw [hm] at x0
        have m0 : (0 : Int) ≤ (m : Int) := by omega
        have m1 : (m : Int) < (d.length : Int) := by omega
        have hmc : (m : Int) ≤ (c1 : Int) := by omega
        have i0 : (0 : Int) < (d.length : Int) := by omega
        have hsl := slice_low (some ⟨ba, oa, none⟩) d.length c1 m (by omega) hm1
        have HPL := Lib.hid (show P.length = m by rw [← HP.out, ahead_take (by omega), List.length_take]; omega)
        have HPI := Lib.hid (show Ints w4 (some ⟨ba, oa, none⟩) P by rw [← HP.out, ahead_take (by omega)]; exact ints_take (D0.out.below S.out.2.2.2.2.2) _)
        have HLL := Lib.hid (show lastD d = (L : Int) by rw [← HL.out]; exact com_last HC.out (by omega))
        have HLB := Lib.hid (show d'.length ≠ 0 → lenB d' = lastD d from fun h => by unfold lenB; rw [if_neg h]; exact com_head HC.out (by omega) (by omega))
        generalize lastD d = x at *
        clear hca hm
        by_cases h1 : d'.length = 0
        · obtain rfl := List.eq_nil_of_length_eq_zero h1
          clear HLB
          go_wp2
          go_meet
          exact ⟨_, c1, by rw [HPL.out], HPI.out, by rw [HLL.out], rfl⟩
        · have i1 : (0 : Int) < (d'.length : Int) := by omega
          have t3 : (x != lenB d') = false := by rw [HLB.out h1]; simp
          generalize lenB d' = y at *
          clear HLB h1
          go_wp2
          go_meet
          exact ⟨_, c1, by rw [HPL.out], HPI.out, by rw [HLL.out], rfl⟩
    case rest =>
      obtain ⟨AL, cL, rfl, hiL, rfl, rfl⟩ := hcut
      have IL := Lib.hid hiL
      clear hiL q0 q1 q2 q3 a0 a1 b0 b1
      obtain ⟨q0, q1, q2, q3, a0, a1, b0, b1⟩ := S.out.cells
      go_wp2_with fail
      refine (runit_x cf S0 _ HS0.out).mono ?_
      rintro r w5 ⟨u0, rfl, hb⟩
      replace S := Lib.hid (S.out.next hb)
      replace IL := Lib.hid (IL.out.below hb)
      replace IR := Lib.hid (IR.out.below hb)
      clear hb q0 q1 q2 q3 a0 a1 b0 b1
      go_upto_region 17 with (fail)
      go_cut [103] (fun s103 wx => s103 = .bool false ∧ w5 = wx)
      case first =>
        rcases HLZ.out with hz | ⟨hz, hs⟩
        · go_wp2
          go_meet
          exact ⟨rfl, rfl⟩
        · obtain rfl : S0 = true := hs
          go_wp2
          go_meet
          exact ⟨rfl, rfl⟩
      case rest =>
        obtain ⟨rfl, rfl⟩ := hcut
        have hS5 := S.out.lt
        go_wp2_with (at_builtin; first
          | (refine wpList_copyI numI Tryd.underlying26 rfl (.tmp 105) (.tmp 106) rfl rfl AL cL P rfl IL.out (by omega) ?_; intro B5 c5 w6 hm1 hb1; have M1 := Lib.hid hm1; have L1 := Lib.hid hb1; clear hm1 hb1)
          | (refine wpList_appI numI Tryd.underlying26 rfl (.tmp 107) (.tmp 108) rfl w5.heap.size (.slice B5 P.length c5) P rfl M1.out AR cR R rfl (IR.out.below L1.out) (by omega) L1.out.size ?_; intro V2 w7 hm2 hg2 ha2; have M2 := Lib.hid hm2; have L2 := Lib.hid (L1.out.grown hg2 L1.out.size M1.out.block); obtain ⟨A6, n6, rfl, -⟩ := M2.out.ints; clear hm2 hg2 ha2))
        have N2 := Lib.hid (show (Value.slice A6 (P ++ R).length n6).ownBlock ≠ some w7.heap.size from fun e => by have := M2.out.lt _ e; omega)
        rw [HO.out] at M2 N2
        have BX := Lib.hid (Box.new w7 (.slice A6 O.length n6) (.slice none 0 0))
        have KB := Lib.hid (below_new w7 (.cells #[.slice A6 O.length n6, .slice none 0 0] 29))
        have HO1 := Lib.hid (show P.length + R.length = O.length by rw [← HO.out, List.length_append])
        replace S := Lib.hid (S.out.next (below_next L2.out KB.out))
        have M6 := Lib.hid (M2.out.alloc (.cells #[.slice A6 O.length n6, .slice none 0 0] 29))
        have hg16 : w.heap.size + 1 + 1 + 1 + 1 < w7.heap.size := Nat.lt_of_lt_of_le hS5 L2.out.size
        have hOl : O.length ≤ 80 := by rw [← HO1.out]; omega
        rw [HO1.out]
        generalize hW : w7.alloc (.cells #[.slice A6 O.length n6, .slice none 0 0] 29) = w8 at *
        clear hW KB M2
        generalize hg : w7.heap.size = g16 at *
        clear hg
        refine (refRightB_no _ _ O _ HR4.out (by unfold maxLen; omega) M6.out.ints').mono ?_
        rintro r w9 ⟨rfl, hb⟩
        replace S := Lib.hid (S.out.next hb)
        replace BX := Lib.hid (BX.out.next hb)
        replace M6 := Lib.hid (M6.out.below hb (Nat.le_refl _))
        clear hb
        have BO := Lib.hid S.out.2.2.2.2.1
        have L := Lib.hid S.out.2.2.2.2.2
        obtain ⟨o0, o1, o2, o3⟩ := BO.out.all
        go_wp2
        obtain ⟨t0, t1, _, _⟩ := ((BO.out.set0 (.slice none 0 0)).set1 (.slice none 0 0)).all
        refine bodyPost_ret (v := .tuple #[.agg #[.slice none 0 0, .slice none 0 0], .int .i64 4]) (by simp [results, Tryd.results13, go_sem, t0, t1]) rfl ?_
        exact ⟨none, 0, none, 0, rfl, Ints.nil _ _, Ints.nil _ _, (L.out.setCell (by simp; omega) _).setCell (by simp; omega) _⟩
set_option maxHeartbeats 16000000 in
theorem rin_0 (id : Ints w A d) (id' : Ints w A' d') (iv : Ints w B v) (iv' : Ints w B' v') (hd : d.length ≤ 40) (hd' : d'.length ≤ 40) (hc1 : d.length ≤ c1) (hm1 : c1 ≤ maxLen) (hc1' : d'.length ≤ c1') (hm1' : c1' ≤ maxLen) (h : cellB d v.length = true) (h' : cellB d' v'.length = true) (h3 : Sc.hasB cf 2 = true) (h4 : Sc.hasB cg 2 = true) (hC : comB d d' = true) (L : Nat) (hL : comI d d' = (L : Int)) (hLm : L ≤ 64) (P R : List Int) (hP : aheadL d = P) (hR : behindL d' = R) (S0 : Bool) (hS0 : (Sc.trOf cf).starts = S0) (hPl : P.length ≤ 40) (hRl : R.length ≤ 40) (hLZ : ((L : Int) == 0) = false ∨ (((L : Int) == 0) = true ∧ S0 = true)) (O : List Int) (hO : P ++ R = O) (hR4 : rightB O = true) (n : Nat) (hn : sizeI O = (n : Int)) (rv : AllR v) (rv' : AllR v') :
    Calls Tryd.prog 13 #[.agg #[.int .i64 cf, .bool sf], .agg #[.int .i64 cg, .bool sg], .agg #[.slice A d.length c1, .slice B v.length c2], .agg #[.slice A' d'.length c1', .slice B' v'.length c2']] w (RetCI w O ((List.range n).map (rinF cf sf cg sg d v d' v')) (.int .i64 0)) := by
  have n64 : n ≤ 64 := by have := sizeI_bd O; omega
  have S := Lib.hid (in5_start w cf sf cg sg (.slice A d.length c1) (.slice B v.length c2) (.slice A' d'.length c1') (.slice B' v'.length c2'))
  have D0 := Lib.hid id
  have D0' := Lib.hid id'
  have V0 := Lib.hid iv
  have V0' := Lib.hid iv'
  have H1 := Lib.hid h
  have H2 := Lib.hid h'
  have H3 := Lib.hid h3
  have H4 := Lib.hid h4
  have HC := Lib.hid hC
  have HL := Lib.hid hL
  have HP := Lib.hid hP
  have HR := Lib.hid hR
  have HS0 := Lib.hid hS0
  have HLZ := Lib.hid hLZ
  have HO := Lib.hid hO
  have HR4 := Lib.hid hR4
  have HN := Lib.hid hn
  have RV := Lib.hid rv
  have RV' := Lib.hid rv'
  clear id id' iv iv' h h' h3 h4 hC hL hP hR hS0 hLZ hO hR4 hn rv rv'
  go_enter Tryd.func13, Tryd.ntmps13
  go_upto_region 1 with (fail)
  generalize hW : (World.alloc (World.alloc (World.alloc (World.alloc (World.alloc w (Obj.cells #[Value.int IntKind.i64 cf, Value.bool sf] 23)) (Obj.cells #[Value.int IntKind.i64 cg, Value.bool sg] 23)) (Obj.cells #[(.slice A d.length c1), (.slice B v.length c2)] 29)) (Obj.cells #[(.slice A' d'.length c1'), (.slice B' v'.length c2')] 29)) (Obj.cells #[Value.slice none 0 0, Value.slice none 0 0] 29)) = W at *
  clear hW
  obtain ⟨q0, q1, q2, q3, a0, a1, b0, b1⟩ := S.out.cells
  go_wp2_with fail
  refine (rright_yes _ _ d _ _ _ _ (by unfold maxLen; omega) (D0.out.below S.out.2.2.2.2.2) H1.out).mono ?_
  rintro r w1 ⟨rfl, hb⟩
  replace S := Lib.hid (S.out.next hb)
  clear hb q0 q1 q2 q3 a0 a1 b0 b1
  obtain ⟨q0, q1, q2, q3, a0, a1, b0, b1⟩ := S.out.cells
  go_wp2_with fail
  refine (rright_yes _ _ d' _ _ _ _ (by unfold maxLen; omega) (D0'.out.below S.out.2.2.2.2.2) H2.out).mono ?_
  rintro r w2 ⟨rfl, hb⟩
  replace S := Lib.hid (S.out.next hb)
  clear hb q0 q1 q2 q3 a0 a1 b0 b1
  obtain ⟨q0, q1, q2, q3, a0, a1, b0, b1⟩ := S.out.cells
  go_wp2_with fail
  refine (rhas_x cf 2 true _ H3.out).mono ?_
  rintro r w3 ⟨rfl, hb⟩
  replace S := Lib.hid (S.out.next hb)
  clear hb q0 q1 q2 q3 a0 a1 b0 b1
  obtain ⟨q0, q1, q2, q3, a0, a1, b0, b1⟩ := S.out.cells
  go_wp2_with fail
  refine (rhas_x cg 2 true _ H4.out).mono ?_
  rintro r w4 ⟨rfl, hb⟩
  replace S := Lib.hid (S.out.next hb)
  clear hb q0 q1 q2 q3 a0 a1 b0 b1
  obtain ⟨q0, q1, q2, q3, a0, a1, b0, b1⟩ := S.out.cells
  go_upto_if 54 with (fail)
  go_cut [10, 12] (fun s10 s12 wx => ∃ AR cR, s12 = .slice AR R.length cR ∧ R.length ≤ cR ∧ Ints w4 AR R ∧ s10 = .int .i64 (lenB d') ∧ w4 = wx)
  case first =>
    as_aux_lemma =>
      by_cases h0 : d'.length = 0
      · obtain rfl := List.eq_nil_of_length_eq_zero h0
        go_wp2
        go_meet
        exact ⟨none, 0, by rw [← HR.out]; rfl, by rw [← HR.out]; exact Nat.le_refl _, by rw [← HR.out]; exact Ints.nil _ _, rfl, rfl⟩
      · obtain ⟨bb, ob, rfl, -, hcb⟩ := D0'.out.below S.out.2.2.2.2.2 (by omega)
        have y0 : w4.cell? ⟨bb, ob, none⟩ = some (.int .i64 (headD d')) := hcb 0 (by omega)
        have i1 : (0 : Int) < (d'.length : Int) := by omega
        have j1 : (1 : Int) ≤ (d'.length : Int) := by omega
        have k1 : (d'.length : Int) ≤ (c1' : Int) := by omega
        obtain ⟨AR, hsR, hiR⟩ := slice_high (some ⟨bb, ob, none⟩) d'.length c1' 1 (by omega) hc1' hm1'
        have hsR1 : ∀ W, (Instr.sliceAt 26 (.slice (some ⟨bb, ob, none⟩) d'.length c1') (some (.int .i64 1)) none none).run Tryd.prog W = .ok (.slice AR (d'.length - 1) (c1' - 1)) W := hsR
        have HIR := Lib.hid (hiR w4 d' rfl (D0'.out.below S.out.2.2.2.2.2))
        have HRL := Lib.hid (show R.length = d'.length - 1 by rw [← HR.out, behind_drop (by omega), List.length_drop])
        have HLB := Lib.hid (show lenB d' = headD d' by unfold lenB; rw [if_neg h0])
        have HRD := Lib.hid (show d'.drop 1 = R by rw [← HR.out, behind_drop (by omega)])
        generalize headD d' = y at *
        clear hcb hsR hiR h0
        go_wp2
        go_meet
        exact ⟨AR, c1' - 1, by rw [HRL.out], by rw [HRL.out]; omega, by rw [← HRD.out]; exact HIR.out, by rw [HLB.out], rfl⟩
  case rest =>
    as_aux_lemma =>
      obtain ⟨AR, cR, rfl, hcR, hiR, rfl, rfl⟩ := hcut
      have IR := Lib.hid hiR
      clear hiR
      go_upto_if 65 with (fail)
      go_cut [10, 11] (fun s10 s11 wx => ∃ AL cL, s11 = .slice AL P.length cL ∧ Ints w4 AL P ∧ s10 = .int .i64 (L : Int) ∧ w4 = wx)
      case first =>
        as_aux_lemma =>
          by_cases h0 : d.length = 0
          · obtain rfl := List.eq_nil_of_length_eq_zero h0
            have HLB := Lib.hid (show lenB d' = (L : Int) by rw [← HL.out]; unfold comI lenB; rfl)
            go_wp2
            go_meet
            exact ⟨none, 0, by rw [← HP.out]; rfl, by rw [← HP.out]; exact Ints.nil _ _, by rw [HLB.out], rfl⟩
          · obtain ⟨ba, oa, rfl, -, hca⟩ := D0.out.below S.out.2.2.2.2.2 (by omega)
            have x0 : w4.cell? ⟨ba, oa + (d.length - 1), none⟩ = some (.int .i64 (lastD d)) := hca (d.length - 1) (by omega)
            obtain ⟨m, hm⟩ : ∃ m, d.length - 1 = m := ⟨_, rfl⟩
            have hmi : IntKind.i64.wrap ((d.length : Int) - 1) = (m : Int) := by rw [← hm]; rw [IntWalk.i64_in _ (by omega)]; omega
            rw [hm] at x0
            have m0 : (0 : Int) ≤ (m : Int) := by omega
            have m1 : (m : Int) < (d.length : Int) := by omega
            have hmc : (m : Int) ≤ (c1 : Int) := by omega
            have i0 : (0 : Int) < (d.length : Int) := by omega
            have hsl := slice_low (some ⟨ba, oa, none⟩) d.length c1 m (by omega) hm1
            have HPL := Lib.hid (show P.length = m by rw [← HP.out, ahead_take (by omega), List.length_take]; omega)
            have HPI := Lib.hid (show Ints w4 (some ⟨ba, oa, none⟩) P by rw [← HP.out, ahead_take (by omega)]; exact ints_take (D0.out.below S.out.2.2.2.2.2) _)
            have HLL := Lib.hid (show lastD d = (L : Int) by rw [← HL.out]; exact com_last HC.out (by omega))
            have HLB := Lib.hid (show d'.length ≠ 0 → lenB d' = lastD d from fun h => by unfold lenB; rw [if_neg h]; exact com_head HC.out (by omega) (by omega))
            generalize lastD d = x at *
            clear hca hm
            by_cases h1 : d'.length = 0
            · obtain rfl := List.eq_nil_of_length_eq_zero h1
              clear HLB
              go_wp2
              go_meet
              exact ⟨_, c1, by rw [HPL.out], HPI.out, by rw [HLL.out], rfl⟩
            · have i1 : (0 : Int) < (d'.length : Int) := by omega
              have t3 : (x != lenB d') = false := by rw [HLB.out h1]; simp
              generalize lenB d' = y at *
              clear HLB h1
              go_wp2
              go_meet
              exact ⟨_, c1, by rw [HPL.out], HPI.out, by rw [HLL.out], rfl⟩
      case rest =>
        as_aux_lemma =>
          obtain ⟨AL, cL, rfl, hiL, rfl, rfl⟩ := hcut
          have IL := Lib.hid hiL
          clear hiL q0 q1 q2 q3 a0 a1 b0 b1
          obtain ⟨q0, q1, q2, q3, a0, a1, b0, b1⟩ := S.out.cells
          go_wp2_with fail
          refine (runit_x cf S0 _ HS0.out).mono ?_
          rintro r w5 ⟨u0, rfl, hb⟩
          replace S := Lib.hid (S.out.next hb)
          replace IL := Lib.hid (IL.out.below hb)
          replace IR := Lib.hid (IR.out.below hb)
          clear hb q0 q1 q2 q3 a0 a1 b0 b1
          go_upto_region 17 with (fail)
          go_cut [103] (fun s103 wx => s103 = .bool false ∧ w5 = wx)
          case first =>
            as_aux_lemma =>
              rcases HLZ.out with hz | ⟨hz, hs⟩
              · go_wp2
                go_meet
                exact ⟨rfl, rfl⟩
              · obtain rfl : S0 = true := hs
                go_wp2
                go_meet
                exact ⟨rfl, rfl⟩
          case rest =>
            as_aux_lemma =>
              obtain ⟨rfl, rfl⟩ := hcut
              have hS5 := S.out.lt
              go_wp2_with (at_builtin; first
                | (refine wpList_copyI numI Tryd.underlying26 rfl (.tmp 105) (.tmp 106) rfl rfl AL cL P rfl IL.out (by omega) ?_; intro B5 c5 w6 hm1 hb1; have M1 := Lib.hid hm1; have L1 := Lib.hid hb1; clear hm1 hb1)
                | (refine wpList_appI numI Tryd.underlying26 rfl (.tmp 107) (.tmp 108) rfl w5.heap.size (.slice B5 P.length c5) P rfl M1.out AR cR R rfl (IR.out.below L1.out) (by omega) L1.out.size ?_; intro V2 w7 hm2 hg2 ha2; have M2 := Lib.hid hm2; have L2 := Lib.hid (L1.out.grown hg2 L1.out.size M1.out.block); obtain ⟨A6, n6, rfl, -⟩ := M2.out.ints; clear hm2 hg2 ha2))
              have N2 := Lib.hid (show (Value.slice A6 (P ++ R).length n6).ownBlock ≠ some w7.heap.size from fun e => by have := M2.out.lt _ e; omega)
              rw [HO.out] at M2 N2
              have BX := Lib.hid (Box.new w7 (.slice A6 O.length n6) (.slice none 0 0))
              have KB := Lib.hid (below_new w7 (.cells #[.slice A6 O.length n6, .slice none 0 0] 29))
              have HO1 := Lib.hid (show P.length + R.length = O.length by rw [← HO.out, List.length_append])
              replace S := Lib.hid (S.out.next (below_next L2.out KB.out))
              have M6 := Lib.hid (M2.out.alloc (.cells #[.slice A6 O.length n6, .slice none 0 0] 29))
              have hg16 : w.heap.size + 1 + 1 + 1 + 1 < w7.heap.size := Nat.lt_of_lt_of_le hS5 L2.out.size
              have hOl : O.length ≤ 80 := by rw [← HO1.out]; omega
              rw [HO1.out]
              generalize hW : w7.alloc (.cells #[.slice A6 O.length n6, .slice none 0 0] 29) = w8 at *
              clear hW KB M2
              generalize hg : w7.heap.size = g16 at *
              clear hg
              refine (refRightB_yes _ _ O _ HR4.out (by unfold maxLen; omega) M6.out.ints').mono ?_
              rintro r w9 ⟨rfl, hb⟩
              replace S := Lib.hid (S.out.next hb)
              replace BX := Lib.hid (BX.out.next hb)
              replace M6 := Lib.hid (M6.out.below hb (Nat.le_refl _))
              clear hb
              have hgl := BX.out.lt
              obtain ⟨p0, p1, p2, p3⟩ := BX.out.all
              go_wp2_with fail
              refine (places_pc _ _ O n _ HN.out (by omega) M6.out.ints').mono ?_
              rintro r w10 ⟨AP, cP8, rfl, hp8, hb⟩
              replace S := Lib.hid (S.out.next hb)
              replace BX := Lib.hid (BX.out.next hb)
              replace M6 := Lib.hid (M6.out.below hb (Nat.le_refl _))
              clear hb p0 p1 p2 p3
              have PL := Lib.hid hp8
              clear hp8
              have O0 := Lib.hid (show OutSt w10 w10 g16 (.slice A6 O.length n6) (.slice none 0 0) [] from ⟨turned_refl _ _, BX.out, MineT.nil _ _ _, BX.out.lt⟩)
              obtain ⟨FF, hF⟩ : ∃ F, rinF cf sf cg sg d v d' v' = F := ⟨_, rfl⟩
              have HF := Lib.hid hF
              clear hF
              go_wp2
              go_loopw [18] (fun j wr => ∃ (k : Nat) (V : Value), k ≤ n ∧ j = .int .i64 (k : Int) ∧ OutSt w10 wr g16 (.slice A6 O.length n6) V ((List.range k).map FF)) (fun j _ => n - (intOf j).toNat)
              case atStart => exact ⟨0, _, Nat.zero_le _, rfl, O0.out⟩
              case round =>
                as_aux_lemma =>
                  obtain ⟨k, V, hk, rfl, hQ⟩ := hrel
                  obtain ⟨wo, rfl⟩ : ∃ x, x = wr := ⟨wr, rfl⟩
                  have Q := Lib.hid hQ
                  have PLr := Lib.hid (PL.out.grown hQ.1 hgl)
                  have So := Lib.hid (S.out.keep hQ.1 hg16)
                  have Mo := Lib.hid (own_grown M6.out hQ.1 (fun b e k => N2.out (by rw [e, k])))
                  clear hQ O0
                  by_cases hlt : k < n
                  · obtain ⟨bp, At, ct, rfl, hbp1, hbp2, hcp, hfp, hct, hcm⟩ := PLr.out k hlt
                    have HMX := Lib.hid (show (List.range (k + 1)).map FF = (List.range k).map FF ++ [FF k] by rw [List.range_succ, List.map_append]; rfl)
                    have LQ := Lib.hid (show ((List.range k).map FF).length = k by simp)
                    have HFK := Lib.hid (show rowI cf sf (rinL cg sg d v d' v' k L) = FF k by rw [← HF.out]; unfold rinF; rw [HL.out, Int.toNat_natCast])
                    have HQL := Lib.hid (dg_length O (k : Int))
                    have hol : O.length = P.length + R.length := HO1.out.symm
                    obtain ⟨A2, hsh, hih⟩ := slice_high At O.length ct P.length (by omega) hct hcm
                    have HPL := Lib.hid (show (dg O (k : Int)).take P.length = leftP P R k by unfold leftP; rw [HO.out])
                    have HPR := Lib.hid (show (dg O (k : Int)).drop P.length = rightP P R k by unfold rightP; rw [HO.out])
                    have I1 := Lib.hid (show Ints wo At (leftP P R k) by rw [← HPL.out]; exact ints_take hfp.ints _)
                    have I2 := Lib.hid (show Ints wo A2 (rightP P R k) by rw [← HPR.out]; exact hih wo _ HQL.out hfp.ints)
                    have L1 := Lib.hid (leftP_len P R k)
                    have L2' := Lib.hid (rightP_len P R k)
                    have hsub : O.length - P.length = R.length := by omega
                    rw [hsub] at hsh
                    have hsl := slice_low At O.length ct P.length (by omega) hcm
                    have HLA := Lib.hid (show ∀ j : Nat, liA d v d' k j = if d.length = 0 then v.getD 0 0 else atI d v (leftP P R k ++ [(j : Int)]) from fun j => by unfold liA; rw [HP.out, HR.out])
                    have HLBB := Lib.hid (show ∀ j : Nat, liB d d' v' k j = if d'.length = 0 then v'.getD 0 0 else atI d' v' ((j : Int) :: rightP P R k) from fun j => by unfold liB; rw [HP.out, HR.out])
                    have HSC := Lib.hid (rinL_succ cg sg d v d' v' k)
                    have HRL := Lib.hid (rinL_len cg sg d v d' v' k)
                    have HRR := Lib.hid (rinL_R (c := cg) (s := sg) (d := d) (d' := d') RV.out RV'.out k)
                    have HAR := Lib.hid (fun j => liA_R RV.out d d' k j)
                    have HBR := Lib.hid (fun j => liB_R RV'.out d d' k j)
                    generalize rinL cg sg d v d' v' k = rl at *
                    generalize liA d v d' k = la at *
                    generalize liB d d' v' k = lb at *
                    generalize leftP P R k = pl at *
                    generalize rightP P R k = pr at *
                    generalize FF k = z at *
                    generalize hys : (List.range k).map FF = ys at *
                    clear hys hih hfp HPL HPR HQL hol hsub
                    have k0 : (0 : Int) ≤ (k : Int) := by omega
                    have k1 : (k : Int) < (n : Int) := by omega
                    obtain ⟨c6', hc6'⟩ : ∃ x, P.length = x := ⟨_, rfl⟩
                    clear hc6' c6'
                    go_wp2
                    go_loopw [19, 20] (fun l jj wr => ∃ (j : Nat) (U : Value), j ≤ L ∧ jj = .int .i64 (j : Int) ∧ U = l ∧ MineT 2 wr wo.heap.size U (rl j) ∧ Below wo.heap.size wo wr) (fun _ jj _ => L - (intOf jj).toNat)
                    case atStart => exact ⟨0, _, Nat.zero_le _, rfl, rfl, by rw [List.eq_nil_of_length_eq_zero (HRL.out 0)]; exact MineT.nil _ _ _, Below.refl _ _⟩
                    case round =>
                      as_aux_lemma =>
                        obtain ⟨j, U, hj, rfl, rfl, hM, hB⟩ := hrel
                        have M := Lib.hid hM
                        have LB := Lib.hid hB
                        have Sq := Lib.hid (So.out.next hB)
                        clear hM hB
                        by_cases hjl : j < L
                        · skip

                          have hcpq : wr.cell? ⟨bp, k, none⟩ = some (.slice At O.length ct) := keepB LB.out hcp
                          have HX1 := Lib.hid (HLA.out j)
                          have HX2 := Lib.hid (HLBB.out j)
                          have HS1 := Lib.hid (HSC.out j)
                          have RX := Lib.hid (HAR.out j)
                          have RY := Lib.hid (HBR.out j)
                          have HRJ := Lib.hid (HRL.out j)
                          generalize la j = x at *
                          generalize lb j = y at *
                          generalize rl j = rl0 at *
                          have DW := Lib.hid (D0.out.below Sq.out.2.2.2.2.2)
                          have DW' := Lib.hid (D0'.out.below Sq.out.2.2.2.2.2)
                          have VW := Lib.hid (V0.out.below Sq.out.2.2.2.2.2)
                          have VW' := Lib.hid (V0'.out.below Sq.out.2.2.2.2.2)
                          have J1 := Lib.hid (I1.out.below LB.out)
                          have J2 := Lib.hid (I2.out.below LB.out)
                          have DR := Lib.hid ((Below.refl wr.heap.size wr).drew)
                          have j0 : (0 : Int) ≤ (j : Int) := by omega
                          have j1 : (j : Int) < (L : Int) := by omega
                          obtain ⟨q0, q1, q2, q3, a0, a1, b0, b1⟩ := Sq.out.cells
                          go_upto_region 30 with (fail)
                          go_region_held3 (fun w' => w'.cell? ⟨w.heap.size + 1 + 1, 1, none⟩ = some (.slice B v.length c2) ∧ w'.cell? ⟨w.heap.size + 1 + 1 + 1, 1, none⟩ = some (.slice B' v'.length c2'))
                            (first
                              | exact ⟨a1, b1⟩
                              | go_keep)
                            (fail)
                          replace Sq := Lib.hid (Sq.out.next DR.out)
                          replace M := Lib.hid (M.out.below DR.out (Nat.le_refl _))
                          replace LB := Lib.hid (below_next LB.out DR.out)
                          replace DW := Lib.hid (DW.out.below DR.out)
                          replace DW' := Lib.hid (DW'.out.below DR.out)
                          replace VW := Lib.hid (VW.out.below DR.out)
                          replace VW' := Lib.hid (VW'.out.below DR.out)
                          replace J1 := Lib.hid (J1.out.below DR.out)
                          replace J2 := Lib.hid (J2.out.below DR.out)
                          replace hcpq := keepB DR.out hcpq
                          clear q0 q1 q2 q3 a0 a1 b0 b1
                          generalize hwc : wr.drew = wb at *
                          clear hwc
                          clear DR
                          obtain ⟨q0, q1, q2, q3, a0, a1, b0, b1⟩ := Sq.out.cells
                          go_upto_if 137 with (fail)
                          go_cut [21] (fun s21 wx => OneAt wb x s21 wx)
                          case first =>
                            as_aux_lemma =>
                              by_cases h0 : d.length = 0
                              · obtain rfl := List.eq_nil_of_length_eq_zero h0
                                have hv1 : 0 < v.length := cell_one H1.out
                                obtain ⟨bv, ov, rfl, -, hcv⟩ := VW.out hv1
                                have hx : wb.cell? ⟨bv, ov, none⟩ = some (.int .i64 x) := by have := hcv 0 hv1; rw [Nat.add_zero] at this; rw [this, HX1.out, if_pos h0]
                                clear hcv h0
                                go_wp2
                                go_meet
                                exact ⟨bv, ov, v.length, c2, rfl, by omega, hx, Below.refl _ _⟩
                              · have i0 : (0 : Int) < (d.length : Int) := by omega
                                have HX3 := Lib.hid (show atI d v (pl ++ [(j : Int)]) = x by rw [HX1.out, if_neg h0])
                                have hv64 := (cellB_len H1.out).2.2.2
                                have RC := Lib.hid (fun C c3 W (hB : Below wb.heap.size wb W) (hI : Ints W C (pl ++ [(j : Int)])) => rat_y A c1 d B c2 v C (pl.length + 1) c3 (pl ++ [(j : Int)]) x W (by simp) HX3.out (by omega) (by omega) (by rw [L1.out]; omega) (DW.out.below hB) (VW.out.below hB) hI)
                                have ZA := Lib.hid (show MineT 3 (wb.alloc (.cells #[] 3)).drew wb.heap.size (.slice (some ⟨wb.heap.size, 0, none⟩) 0 0) [] from MineT.new 3 wb [] wb.heap.size (Nat.le_refl _) (by simp))
                                have ZB := Lib.hid (show MineT 3 ((wb.alloc (.cells #[.int .i64 (j : Int)] 3)).alloc (.cells #[] 3)).drew wb.heap.size (.slice (some ⟨wb.heap.size + 1, 0, none⟩) 0 0) [] from by have := MineT.new 3 (wb.alloc (.cells #[.int .i64 (j : Int)] 3)) [] wb.heap.size (by simp) (by simp); rw [show (wb.alloc (.cells #[.int .i64 (j : Int)] 3)).heap.size = wb.heap.size + 1 from by simp] at this; exact this)
                                have ZC := Lib.hid (show MineT 3 ((wb.alloc (.cells #[] 3)).alloc (.cells #[.int .i64 (j : Int)] 3)).drew wb.heap.size (.slice (some ⟨wb.heap.size, 0, none⟩) 0 0) [] from (MineT.new 3 wb [] wb.heap.size (Nat.le_refl _) (by simp)).alloc _)
                                have JB := Lib.hid (show Ints ((wb.alloc (.cells #[.int .i64 (j : Int)] 3)).alloc (.cells #[] 3)).drew (some ⟨wb.heap.size, 0, none⟩) [(j : Int)] from ((one_newJ wb (j : Int)).below (below_new _ (.cells #[] 3))).below ((Below.refl ((wb.alloc (.cells #[.int .i64 (j : Int)] 3)).alloc (.cells #[] 3)).heap.size ((wb.alloc (.cells #[.int .i64 (j : Int)] 3)).alloc (.cells #[] 3))).drew))
                                have JC := Lib.hid (show Ints ((wb.alloc (.cells #[] 3)).alloc (.cells #[.int .i64 (j : Int)] 3)).drew (some ⟨wb.heap.size + 1, 0, none⟩) [(j : Int)] from by have := one_newJ (wb.alloc (.cells #[] 3)) (j : Int); rw [show (wb.alloc (.cells #[] 3)).heap.size = wb.heap.size + 1 from by simp] at this; exact this.below ((Below.refl ((wb.alloc (.cells #[] 3)).alloc (.cells #[.int .i64 (j : Int)] 3)).heap.size ((wb.alloc (.cells #[] 3)).alloc (.cells #[.int .i64 (j : Int)] 3))).drew))
                                have BLA := Lib.hid (below_new wb (.cells #[] 3)).drew
                                have BLB := Lib.hid (below_next (below_new wb (.cells #[.int .i64 (j : Int)] 3)) (below_new _ (.cells #[] 3))).drew
                                have BLC := Lib.hid (below_next (below_new wb (.cells #[] 3)) (below_new _ (.cells #[.int .i64 (j : Int)] 3))).drew
                                clear h0
                                go_upto_region 32 with (fail)
                                go_region_held3 (fun w' => w'.cell? ⟨w.heap.size + 1 + 1, 0, none⟩ = some (.slice A d.length c1) ∧ w'.cell? ⟨w.heap.size + 1 + 1, 1, none⟩ = some (.slice B v.length c2) ∧ w'.cell? ⟨bp, k, none⟩ = some (.slice At O.length ct))
                                  (first
                                    | with_reducible exact K11.out
                                    | with_reducible exact K10.out
                                    | with_reducible exact KK.out
                                    | exact ⟨a0, a1, hcpq⟩
                                    | go_keep)
                                  (first
                                    | ((with_reducible refine step_appI numI Tryd.underlying26 rfl (.tmp 140) (.tmp 147) rfl wb.heap.size (.slice (some ⟨wb.heap.size, 0, none⟩) 0 0) [] (by simp [Act.eval]) ZA.out At ct pl (by simp [Act.eval, L1.out]) (J1.out.below BLA.out) (by rw [L1.out]; simp; omega) (by simp; try omega) ?_); intro V9 w9 hm9 hg9 ha9; have L9 := Lib.hid (BLA.out.grown hg9 (by simp; try omega) ZA.out.block); have M9 := Lib.hid (show MineT 3 w9 wb.heap.size V9 pl from hm9); have KK := Lib.hid (show w9.cell? ⟨w.heap.size + 1 + 1, 0, none⟩ = some (.slice A d.length c1) ∧ w9.cell? ⟨w.heap.size + 1 + 1, 1, none⟩ = some (.slice B v.length c2) ∧ w9.cell? ⟨bp, k, none⟩ = some (.slice At O.length ct) from ⟨keepB L9.out a0, keepB L9.out a1, keepB L9.out hcpq⟩); clear hm9 hg9 ha9)
                                    | ((with_reducible refine step_appI numI Tryd.underlying26 rfl (.tmp 140) (.tmp 147) rfl wb.heap.size (.slice (some ⟨wb.heap.size + 1, 0, none⟩) 0 0) [] (by simp [Act.eval]) ZB.out At ct pl (by simp [Act.eval, L1.out]) (J1.out.below BLB.out) (by rw [L1.out]; simp; omega) (by simp; try omega) ?_); intro V9 w9 hm9 hg9 ha9; have L9 := Lib.hid (BLB.out.grown hg9 (by simp; try omega) ZB.out.block); have J9 := Lib.hid (ints_grown JB.out hg9 (by simp [Value.ownBlock])); have M9 := Lib.hid (show MineT 3 w9 wb.heap.size V9 pl from hm9); have KK := Lib.hid (show w9.cell? ⟨w.heap.size + 1 + 1, 0, none⟩ = some (.slice A d.length c1) ∧ w9.cell? ⟨w.heap.size + 1 + 1, 1, none⟩ = some (.slice B v.length c2) ∧ w9.cell? ⟨bp, k, none⟩ = some (.slice At O.length ct) from ⟨keepB L9.out a0, keepB L9.out a1, keepB L9.out hcpq⟩); clear hm9 hg9 ha9)
                                    | ((with_reducible refine step_appI numI Tryd.underlying26 rfl (.tmp 140) (.tmp 147) rfl wb.heap.size (.slice (some ⟨wb.heap.size, 0, none⟩) 0 0) [] (by simp [Act.eval]) ZC.out At ct pl (by simp [Act.eval, L1.out]) (J1.out.below BLC.out) (by rw [L1.out]; simp; omega) (by simp; try omega) ?_); intro V9 w9 hm9 hg9 ha9; have L9 := Lib.hid (BLC.out.grown hg9 (by simp; try omega) ZC.out.block); have J9 := Lib.hid (ints_grown JC.out hg9 (by simp [Value.ownBlock])); have M9 := Lib.hid (show MineT 3 w9 wb.heap.size V9 pl from hm9); have KK := Lib.hid (show w9.cell? ⟨w.heap.size + 1 + 1, 0, none⟩ = some (.slice A d.length c1) ∧ w9.cell? ⟨w.heap.size + 1 + 1, 1, none⟩ = some (.slice B v.length c2) ∧ w9.cell? ⟨bp, k, none⟩ = some (.slice At O.length ct) from ⟨keepB L9.out a0, keepB L9.out a1, keepB L9.out hcpq⟩); clear hm9 hg9 ha9)
                                    | ((with_reducible refine step_appI numI Tryd.underlying26 rfl (.tmp 148) (.tmp 150) rfl wb.heap.size V9 pl (by simp [Act.eval]) M9.out (some ⟨wb.heap.size, 0, none⟩) 1 [(j : Int)] (by simp [Act.eval]) J9.out (by rw [L1.out]; simp; omega) L9.out.size ?_); intro V10 w10' hm10 hg10 ha10; have L10 := Lib.hid (L9.out.grown hg10 L9.out.size M9.out.block); have M10 := Lib.hid hm10; obtain ⟨A10, c10, rfl, i10⟩ := M10.out.ints; have I10 := Lib.hid i10; have K10 := Lib.hid (show w10'.cell? ⟨w.heap.size + 1 + 1, 0, none⟩ = some (.slice A d.length c1) ∧ w10'.cell? ⟨w.heap.size + 1 + 1, 1, none⟩ = some (.slice B v.length c2) ∧ w10'.cell? ⟨bp, k, none⟩ = some (.slice At O.length ct) from ⟨keepB L10.out a0, keepB L10.out a1, keepB L10.out hcpq⟩); clear hm10 hg10 ha10 i10)
                                    | ((with_reducible refine step_appI numI Tryd.underlying26 rfl (.tmp 148) (.tmp 150) rfl wb.heap.size V9 pl (by simp [Act.eval]) M9.out (some ⟨wb.heap.size + 1, 0, none⟩) 1 [(j : Int)] (by simp [Act.eval]) J9.out (by rw [L1.out]; simp; omega) L9.out.size ?_); intro V10 w10' hm10 hg10 ha10; have L10 := Lib.hid (L9.out.grown hg10 L9.out.size M9.out.block); have M10 := Lib.hid hm10; obtain ⟨A10, c10, rfl, i10⟩ := M10.out.ints; have I10 := Lib.hid i10; have K10 := Lib.hid (show w10'.cell? ⟨w.heap.size + 1 + 1, 0, none⟩ = some (.slice A d.length c1) ∧ w10'.cell? ⟨w.heap.size + 1 + 1, 1, none⟩ = some (.slice B v.length c2) ∧ w10'.cell? ⟨bp, k, none⟩ = some (.slice At O.length ct) from ⟨keepB L10.out a0, keepB L10.out a1, keepB L10.out hcpq⟩); clear hm10 hg10 ha10 i10)
                                    | ((with_reducible refine step_appI numI Tryd.underlying26 rfl (.tmp 148) (.tmp 150) rfl wb.heap.size V9 pl (by simp [Act.eval]) (M9.out.alloc (.cells #[.int .i64 (j : Int)] 3)) (some ⟨w9.heap.size, 0, none⟩) 1 [(j : Int)] (by simp [Act.eval]) (one_newJ w9 (j : Int)) (by rw [L1.out]; simp; omega) (below_next L9.out (below_new w9 (.cells #[.int .i64 (j : Int)] 3))).size ?_); intro V10 w10' hm10 hg10 ha10; have L10 := Lib.hid ((below_next L9.out (below_new w9 (.cells #[.int .i64 (j : Int)] 3))).grown hg10 (below_next L9.out (below_new w9 (.cells #[.int .i64 (j : Int)] 3))).size (M9.out.alloc (.cells #[.int .i64 (j : Int)] 3)).block); have M10 := Lib.hid hm10; obtain ⟨A10, c10, rfl, i10⟩ := M10.out.ints; have I10 := Lib.hid i10; have K10 := Lib.hid (show w10'.cell? ⟨w.heap.size + 1 + 1, 0, none⟩ = some (.slice A d.length c1) ∧ w10'.cell? ⟨w.heap.size + 1 + 1, 1, none⟩ = some (.slice B v.length c2) ∧ w10'.cell? ⟨bp, k, none⟩ = some (.slice At O.length ct) from ⟨keepB L10.out a0, keepB L10.out a1, keepB L10.out hcpq⟩); clear hm10 hg10 ha10 i10)
                                    | (go_at_call 45; (with_reducible refine (RC.out _ _ _ L10.out I10.out).mono ?_); rintro r w11 ⟨t11, rfl, hb11⟩; have L11 := Lib.hid (below_next L10.out hb11); have K11 := Lib.hid (show w11.cell? ⟨w.heap.size + 1 + 1, 0, none⟩ = some (.slice A d.length c1) ∧ w11.cell? ⟨w.heap.size + 1 + 1, 1, none⟩ = some (.slice B v.length c2) ∧ w11.cell? ⟨bp, k, none⟩ = some (.slice At O.length ct) from ⟨keepB L11.out a0, keepB L11.out a1, keepB L11.out hcpq⟩); clear hb11))
                                all_goals
                                  go_wp2
                                  go_meet
                                  exact ⟨w11.heap.size, 0, 1, 1, rfl, by omega, by rw [World.cell?_alloc_at _ _ _ _ (by simp)]; rfl, below_next L11.out (below_new w11 _)⟩
                          case rest =>
                            as_aux_lemma =>
                              obtain ⟨bx, ox, nx, cx, rfl, hnx, hcx, hbx⟩ := hcut
                              replace Sq := Lib.hid (Sq.out.next hbx)
                              replace M := Lib.hid (M.out.below hbx (Nat.le_refl _))
                              replace LB := Lib.hid (below_next LB.out hbx)
                              replace DW' := Lib.hid (DW'.out.below hbx)
                              replace VW' := Lib.hid (VW'.out.below hbx)
                              replace J2 := Lib.hid (J2.out.below hbx)
                              replace hcpq := keepB hbx hcpq
                              clear hbx DW VW J1 q0 q1 q2 q3 a0 a1 b0 b1
                              obtain ⟨q0, q1, q2, q3, a0, a1, b0, b1⟩ := Sq.out.cells
                              go_upto_if 160 with (fail)
                              go_cut [22] (fun s22 wz => OneAt wc y s22 wz)
                              case first =>
                                as_aux_lemma =>
                                  by_cases h0 : d'.length = 0
                                  · obtain rfl := List.eq_nil_of_length_eq_zero h0
                                    have hv1 : 0 < v'.length := cell_one H2.out
                                    obtain ⟨bv, ov, rfl, -, hcv⟩ := VW'.out hv1
                                    have hy : wc.cell? ⟨bv, ov, none⟩ = some (.int .i64 y) := by have := hcv 0 hv1; rw [Nat.add_zero] at this; rw [this, HX2.out, if_pos h0]
                                    clear hcv h0
                                    go_wp2
                                    go_meet
                                    exact ⟨bv, ov, v'.length, c2', rfl, by omega, hy, Below.refl _ _⟩
                                  · have i0 : (0 : Int) < (d'.length : Int) := by omega
                                    have HX3 := Lib.hid (show atI d' v' ([(j : Int)] ++ pr) = y by rw [HX2.out, if_neg h0]; rfl)
                                    have hv64 := (cellB_len H2.out).2.2.2
                                    have RC := Lib.hid (fun C c3 W (hB : Below wc.heap.size wc W) (hI : Ints W C ([(j : Int)] ++ pr)) => rat_y A' c1' d' B' c2' v' C (pr.length + 1) c3 ([(j : Int)] ++ pr) y W (by simp) HX3.out (by omega) (by omega) (by rw [L2'.out]; omega) (DW'.out.below hB) (VW'.out.below hB) hI)
                                    have ZK := Lib.hid (show MineT 3 (wc.alloc (.cells #[.int .i64 (j : Int)] 3)).drew wc.heap.size (.slice (some ⟨wc.heap.size, 0, none⟩) 1 1) [(j : Int)] from MineT.new 3 wc [(j : Int)] wc.heap.size (Nat.le_refl _) (by unfold maxLen; simp))
                                    have BLK := Lib.hid (below_new wc (.cells #[.int .i64 (j : Int)] 3)).drew
                                    clear h0
                                    go_upto_region 35 with (fail)
                                    go_region_held3 (fun w' => w'.cell? ⟨w.heap.size + 1 + 1 + 1, 0, none⟩ = some (.slice A' d'.length c1') ∧ w'.cell? ⟨w.heap.size + 1 + 1 + 1, 1, none⟩ = some (.slice B' v'.length c2') ∧ w'.cell? ⟨bp, k, none⟩ = some (.slice At O.length ct))
                                      (first
                                        | with_reducible exact K11.out
                                        | with_reducible exact K10.out
                                        | exact ⟨b0, b1, hcpq⟩
                                        | go_keep)
                                      (first
                                        | ((with_reducible refine step_appI numI Tryd.underlying26 rfl (.tmp 164) (.tmp 171) rfl wc.heap.size (.slice (some ⟨wc.heap.size, 0, none⟩) 1 1) [(j : Int)] (by simp [Act.eval]) ZK.out A2 (ct - P.length) pr (by simp [Act.eval, L2'.out]) (J2.out.below BLK.out) (by rw [L2'.out]; simp; omega) (by simp) ?_); intro V10 w10' hm10 hg10 ha10; have L10 := Lib.hid (BLK.out.grown hg10 (by simp) ZK.out.block); have M10 := Lib.hid hm10; obtain ⟨A10, c10, rfl, i10⟩ := M10.out.ints; have I10 := Lib.hid i10; have K10 := Lib.hid (show w10'.cell? ⟨w.heap.size + 1 + 1 + 1, 0, none⟩ = some (.slice A' d'.length c1') ∧ w10'.cell? ⟨w.heap.size + 1 + 1 + 1, 1, none⟩ = some (.slice B' v'.length c2') ∧ w10'.cell? ⟨bp, k, none⟩ = some (.slice At O.length ct) from ⟨keepB L10.out b0, keepB L10.out b1, keepB L10.out hcpq⟩); clear hm10 hg10 ha10 i10)
                                        | (go_at_call 45; (with_reducible refine (RC.out _ _ _ L10.out I10.out).mono ?_); rintro r w11 ⟨t11, rfl, hb11⟩; have L11 := Lib.hid (below_next L10.out hb11); have K11 := Lib.hid (show w11.cell? ⟨w.heap.size + 1 + 1 + 1, 0, none⟩ = some (.slice A' d'.length c1') ∧ w11.cell? ⟨w.heap.size + 1 + 1 + 1, 1, none⟩ = some (.slice B' v'.length c2') ∧ w11.cell? ⟨bp, k, none⟩ = some (.slice At O.length ct) from ⟨keepB L11.out b0, keepB L11.out b1, keepB L11.out hcpq⟩); clear hb11))
                                    all_goals
                                      go_wp2
                                      go_meet
                                      exact ⟨w11.heap.size, 0, 1, 1, rfl, by omega, by rw [World.cell?_alloc_at _ _ _ _ (by simp)]; rfl, below_next L11.out (below_new w11 _)⟩
                              case rest =>
                                as_aux_lemma =>
                                  obtain ⟨bq, oy, ny, cy, rfl, hny, hcy, hbx⟩ := hcut
                                  have hnx0 : 0 < nx := by omega
                                  have hny0 : 0 < ny := by omega
                                  replace Sq := Lib.hid (Sq.out.next hbx)
                                  replace M := Lib.hid (M.out.below hbx (Nat.le_refl _))
                                  replace LB := Lib.hid (below_next LB.out hbx)
                                  replace hcx := keepB hbx hcx
                                  clear hbx DW' VW' J2 hcpq q0 q1 q2 q3 a0 a1 b0 b1
                                  obtain ⟨zj, hzj⟩ : ∃ q, Sc.doI cg sg x y = q := ⟨_, rfl⟩
                                  rw [hzj] at HS1
                                  have DO := Lib.hid (rdo_x cg sg x y zj wc.drew hzj RX.out RY.out)
                                  clear hzj
                                  obtain ⟨q0, q1, q2, q3, a0, a1, b0, b1⟩ := Sq.out.cells
                                  have Sd := Lib.hid (Sq.out.next ((Below.refl wc.heap.size wc).drew))
                                  have Md := Lib.hid (M.out.below ((Below.refl wc.heap.size wc).drew) (Nat.le_refl _))
                                  have Ld := Lib.hid (below_next LB.out ((Below.refl wc.heap.size wc).drew))
                                  go_upto_region 37 with (fail)
                                  go_region_held3 (fun w' => w'.cell? ⟨w.heap.size + 1, 0, none⟩ = some (.int .i64 cg) ∧ w'.cell? ⟨w.heap.size + 1, 1, none⟩ = some (.bool sg) ∧ w'.cell? ⟨bx, ox, none⟩ = some (.int .i64 x) ∧ w'.cell? ⟨bq, oy, none⟩ = some (.int .i64 y))
                                    (first
                                      | with_reducible exact K11.out
                                      | exact ⟨q2, q3, hcx, hcy⟩
                                      | go_keep)
                                    (first
                                      | (go_at_call 46; (with_reducible refine (DO.out).mono ?_); rintro r w11 ⟨t11, rfl, hb11⟩; have L11 := Lib.hid hb11; have K11 := Lib.hid (show w11.cell? ⟨w.heap.size + 1, 0, none⟩ = some (.int .i64 cg) ∧ w11.cell? ⟨w.heap.size + 1, 1, none⟩ = some (.bool sg) ∧ w11.cell? ⟨bx, ox, none⟩ = some (.int .i64 x) ∧ w11.cell? ⟨bq, oy, none⟩ = some (.int .i64 y) from ⟨keepC hb11 q2, keepC hb11 q3, keepC hb11 hcx, keepC hb11 hcy⟩); clear hb11))
                                  replace Sq := Lib.hid (Sd.out.next L11.out)
                                  replace M := Lib.hid (Md.out.below L11.out (Nat.le_refl _))
                                  replace LB := Lib.hid (below_next Ld.out L11.out)
                                  clear Sd Md Ld L11 K11 q0 q1 q2 q3 a0 a1 b0 b1 hcx hcy DO
                                  have M8 := Lib.hid (M.out.alloc (.cells #[.int .i64 zj] 2))
                                  have X8 := Lib.hid (one_new w11 zj)
                                  have L8 := Lib.hid (below_next LB.out (below_new w11 (.cells #[.int .i64 zj] 2)))
                                  go_wp2_with (at_builtin; refine wpList_appI numL Tryd.underlying27 rfl (.tmp 192) (.tmp 194) rfl wo.heap.size U rl0 (by rfl) M8.out (some ⟨w11.heap.size, 0, none⟩) 1 [zj] rfl X8.out (by rw [HRJ.out]; simp; omega) L8.out.size ?_; intro V' w12 hm8 hg8 ha8)
                                  go_roundw
                                  case rel => exact ⟨j + 1, _, by omega, by go_num, rfl, by rw [HS1.out]; exact hm8, L8.out.grown hg8 L8.out.size M8.out.block⟩
                                  case measure => simp [intOf]; omega
                        · have e : L = j := by omega
                          subst e
                          obtain ⟨AU, cU, rfl, hu1, hu2, iu⟩ := MineT.intsC M.out
                          have HRJ := Lib.hid (HRL.out L)
                          rw [HRJ.out] at hu1 ⊢
                          have IU := Lib.hid iu
                          have HRRJ := Lib.hid (HRR.out L)
                          generalize rl L = rl0 at *
                          clear iu
                          obtain ⟨q0, q1, q2, q3, a0, a1, b0, b1⟩ := Sq.out.cells
                          have Qq := Lib.hid (Q.out.next LB.out)
                          go_wp2_with fail
                          refine (RRow_x cf sf AU cU rl0 L z _ H3.out HRJ.out HFK.out (by omega) hu1 hu2 HRRJ.out IU.out).mono ?_
                          rintro r w20 ⟨t20, rfl, hb⟩
                          replace Qq := Lib.hid (Qq.out.next hb)
                          clear hb q0 q1 q2 q3 a0 a1 b0 b1
                          have O8 := Lib.hid (Qq.out.alloc (.cells #[.int .i64 z] 2))
                          have X8 := Lib.hid (one_new w20 z)
                          have c7 := Qq.out.box.c1
                          go_wp2_with (at_builtin; refine wpList_appI numL Tryd.underlying27 rfl (.tmp 203) (.tmp 205) rfl w10.heap.size V ys (by rfl) O8.out.mine (some ⟨w20.heap.size, 0, none⟩) 1 [z] rfl X8.out (by rw [LQ.out]; simp; omega) O8.out.size ?_; intro V' w21 hm8 hg8' ha8; obtain ⟨A8, c8, rfl, -⟩ := hm8.ints; obtain ⟨y0', y1', y2', y3'⟩ := (O8.out.mid hg8').all)
                          go_roundw
                          case rel => exact ⟨k + 1, _, by omega, by go_num, by rw [HMX.out]; have hm9 := hm8; rw [List.length_append] at hm9; exact O8.out.app hm9 hg8'⟩
                          case measure => simp [intOf]; omega
                  · have e : n = k := by omega
                    subst e
                    generalize hys : (List.range n).map FF = ys at *
                    have HYS := Lib.hid (show (List.range n).map (rinF cf sf cg sg d v d' v') = ys by rw [HF.out]; exact hys)
                    obtain ⟨AV, cV, rfl, -⟩ := Q.out.mine.ints
                    obtain ⟨q0, q1, -, -⟩ := Q.out.box.all
                    have BRr := Lib.hid So.out.2.2.2.2.1
                    have LWr := Lib.hid So.out.2.2.2.2.2
                    obtain ⟨r0, r1, r2, r3⟩ := BRr.out.all
                    have hlr := So.out.lt
                    clear hys
                    go_wp2
                    have T9 := (BRr.out.set0 (.slice A6 O.length n6)).set1 (.slice AV ys.length cV)
                    obtain ⟨t0, t1, _, _⟩ := T9.all
                    refine bodyPost_ret (v := .tuple #[.agg #[.slice A6 O.length n6, .slice AV ys.length cV], .int .i64 0]) (by simp [results, Tryd.results13, go_sem, t0, t1]) rfl ?_
                    rw [HYS.out]
                    exact ⟨A6, n6, AV, cV, rfl, Mo.out.ints'.set_box BRr.out _ _, Q.out.mine.ints'.set_box BRr.out _ _, (LWr.out.setCell (by simp; omega) _).setCell (by simp; omega) _⟩
theorem rin_any (id : Ints w A d) (id' : Ints w A' d') (iv : Ints w B v) (iv' : Ints w B' v') (hd : d.length ≤ 40) (hd' : d'.length ≤ 40) (hc1 : d.length ≤ c1) (hm1 : c1 ≤ maxLen) (hc1' : d'.length ≤ c1') (hm1' : c1' ≤ maxLen) (rv : AllR v) (rv' : AllR v') (E : Int) (hE : innE cf sf cg sg d v.length d' v'.length = E) :
    Calls Tryd.prog 13 #[.agg #[.int .i64 cf, .bool sf], .agg #[.int .i64 cg, .bool sg], .agg #[.slice A d.length c1, .slice B v.length c2], .agg #[.slice A' d'.length c1', .slice B' v'.length c2']] w (RetCI w (if E = 0 then aheadL d ++ behindL d' else []) (if E = 0 then innV cf sf cg sg d v d' v' else []) (.int .i64 E)) := by
  unfold innE pfitE at hE
  by_cases h1 : cellB d v.length = true
  rotate_left
  · rw [if_neg (by rw [if_neg (fun h => h1 h.1)]; decide), if_neg (fun h => h1 h.1)] at hE
    subst hE
    exact rin_1a cf sf cg sg A c1 d B c2 v A' c1' d' B' c2' v' w id id' iv iv' hd hd' hc1 hm1 hc1' hm1' (by simpa using h1)
  by_cases h2 : cellB d' v'.length = true
  rotate_left
  · rw [if_neg (by rw [if_neg (fun h => h2 h.2)]; decide), if_neg (fun h => h2 h.2)] at hE
    subst hE
    exact rin_1b cf sf cg sg A c1 d B c2 v A' c1' d' B' c2' v' w id id' iv iv' hd hd' hc1 hm1 hc1' hm1' h1 (by simpa using h2)
  by_cases h3 : Sc.hasB cf 2 = true
  rotate_left
  · have h3' : ¬ hasAll [(cf, sf), (cg, sg)] = true := by simp [hasAll, h3]
    rw [if_neg (by rw [if_pos ⟨h1, h2⟩, if_neg h3']; decide), if_pos ⟨h1, h2⟩, if_neg h3'] at hE
    subst hE
    exact rin_13a cf sf cg sg A c1 d B c2 v A' c1' d' B' c2' v' w id id' iv iv' hd hd' hc1 hm1 hc1' hm1' h1 h2 (by simpa using h3)
  by_cases h4 : Sc.hasB cg 2 = true
  rotate_left
  · have h3' : ¬ hasAll [(cf, sf), (cg, sg)] = true := by simp [hasAll, h4]
    rw [if_neg (by rw [if_pos ⟨h1, h2⟩, if_neg h3']; decide), if_pos ⟨h1, h2⟩, if_neg h3'] at hE
    subst hE
    exact rin_13b cf sf cg sg A c1 d B c2 v A' c1' d' B' c2' v' w id id' iv iv' hd hd' hc1 hm1 hc1' hm1' h1 h2 h3 (by simpa using h4)
  have h3' : hasAll [(cf, sf), (cg, sg)] = true := by simp [hasAll, h3, h4]
  rw [if_pos (by rw [if_pos ⟨h1, h2⟩, if_pos h3'])] at hE
  by_cases hC : comB d d' = true
  rotate_left
  · rw [if_neg hC] at hE
    subst hE
    exact rin_3 cf sf cg sg A c1 d B c2 v A' c1' d' B' c2' v' w id id' iv iv' hd hd' hc1 hm1 hc1' hm1' h1 h2 h3 h4 (by simpa using hC)
  rw [if_pos hC] at hE
  have hcb := com_bd (cell_prod h1).1 (cell_prod h2).1
  obtain ⟨L, hL⟩ : ∃ L : Nat, comI d d' = (L : Int) := ⟨(comI d d').toNat, by omega⟩
  have hLm : L ≤ 64 := by omega
  have hlp := ahead_len d
  have hlr := behind_len d'
  by_cases h5 : comI d d' = 0 ∧ (Sc.trOf cf).starts = false
  · rw [if_pos h5] at hE
    subst hE
    exact rin_5 cf sf cg sg A c1 d B c2 v A' c1' d' B' c2' v' w id id' iv iv' hd hd' hc1 hm1 hc1' hm1' h1 h2 h3 h4 hC L hL hLm _ _ rfl rfl _ rfl (by have := h5.1; omega) h5.2
  rw [if_neg h5] at hE
  have hLZ : ((L : Int) == 0) = false ∨ (((L : Int) == 0) = true ∧ (Sc.trOf cf).starts = true) := by
    by_cases h0 : L = 0
    · right
      refine ⟨by simp [h0], ?_⟩
      cases hs : (Sc.trOf cf).starts with
      | true => rfl
      | false => exact absurd ⟨by omega, hs⟩ h5
    · left
      simp [h0]
  by_cases hR : rightB (aheadL d ++ behindL d') = true
  · rw [if_pos hR] at hE
    subst hE
    have hb := sizeI_bd (aheadL d ++ behindL d')
    obtain ⟨n, hn⟩ : ∃ n : Nat, sizeI (aheadL d ++ behindL d') = (n : Int) := ⟨(sizeI (aheadL d ++ behindL d')).toNat, by omega⟩
    have key := rin_0 cf sf cg sg A c1 d B c2 v A' c1' d' B' c2' v' w id id' iv iv' hd hd' hc1 hm1 hc1' hm1' h1 h2 h3 h4 hC L hL hLm _ _ rfl rfl _ rfl (by omega) (by omega) hLZ _ rfl hR n hn rv rv'
    rw [if_pos rfl, if_pos rfl]
    unfold innV
    rw [show (List.range (sizeI (aheadL d ++ behindL d')).toNat).map (innF cf sf cg sg d v d' v') = (List.range n).map (rinF cf sf cg sg d v d' v') by
      rw [hn, Int.toNat_natCast]
      exact List.map_congr_left fun k hk => (rin_is h1 h2 h3 hC hR (by rw [hn, Int.toNat_natCast]; simpa using hk)).symm]
    exact key
  · rw [if_neg hR] at hE
    subst hE
    exact rin_4 cf sf cg sg A c1 d B c2 v A' c1' d' B' c2' v' w id id' iv iv' hd hd' hc1 hm1 hc1' hm1' h1 h2 h3 h4 hC L hL hLm _ _ rfl rfl _ rfl (by omega) (by omega) hLZ _ rfl (by simpa using hR)
end
end Go.Proofs.YtbanegjmapgkdaaDoor.Pr
