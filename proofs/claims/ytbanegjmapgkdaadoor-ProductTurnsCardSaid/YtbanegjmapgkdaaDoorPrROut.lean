/-
  What riffleref09.Outer answers for any function and any two cells; nothing that was there is written. Conditions: the numbers are int64; at most 40 axes and 1000 numbers.
-/
import Derived.Test.YtbanegjmapgkdaaDoorPrRefM
import Derived.Test.YtbanegjmapgkdaaDoorFdRRed
set_option maxRecDepth 100000
namespace Go.Proofs.YtbanegjmapgkdaaDoor.Pr
open Go.Proofs.YtbanegjmapgkdaaDoor.Sh Go.Proofs.YtbanegjmapgkdaaDoor.St
open Go.Proofs.YtbanegjmapgkdaaDoor.Fd
open Go.RowKit
set_option linter.unusedVariables false

/-- The boxes of Outer: a function, two cells, and what it tells. -/
def Ro4 (w W : World) (c : Int) (s : Bool) (X Y X' Y' : Value) : Prop :=
  FnAt W w.heap.size c s ∧ Box W (w.heap.size + 1) X Y ∧ Box W (w.heap.size + 1 + 1) X' Y' ∧ Box W (w.heap.size + 1 + 1 + 1) (.slice none 0 0) (.slice none 0 0) ∧ Below w.heap.size w W
section
variable {w W W' : World} {c : Int} {s : Bool} {X Y X' Y' : Value}
theorem Ro4.lt (h : Ro4 w W c s X Y X' Y') : w.heap.size + 1 + 1 + 1 < W.heap.size := h.2.2.2.1.lt
theorem Ro4.next (h : Ro4 w W c s X Y X' Y') (hb : Below W.heap.size W W') : Ro4 w W' c s X Y X' Y' := ⟨h.1.below hb, h.2.1.next hb, h.2.2.1.next hb, h.2.2.2.1.next hb, below_next h.2.2.2.2 hb⟩
theorem Ro4.grown (h : Ro4 w W c s X Y X' Y') {g : Nat} (hg : W.grownBy W' (some g)) (hne : w.heap.size + 1 + 1 + 1 < g) : Ro4 w W' c s X Y X' Y' := by
  have hl := h.lt
  exact ⟨FnAt.kept h.1 (grown_keep hg (by omega) (by omega)), h.2.1.grown hg (fun e => by injection e; omega), h.2.2.1.grown hg (fun e => by injection e; omega), h.2.2.2.1.grown hg (fun e => by injection e; omega),
    below_turned h.2.2.2.2 hg (by omega)⟩
theorem Ro4.cells (h : Ro4 w W c s X Y X' Y') : W.cell? ⟨w.heap.size, 0, none⟩ = some (.int .i64 c) ∧ W.cell? ⟨w.heap.size, 1, none⟩ = some (.bool s) ∧ W.cell? ⟨w.heap.size + 1, 0, none⟩ = some X ∧ W.cell? ⟨w.heap.size + 1, 1, none⟩ = some Y ∧ W.cell? ⟨w.heap.size + 1 + 1, 0, none⟩ = some X' ∧ W.cell? ⟨w.heap.size + 1 + 1, 1, none⟩ = some Y' :=
  ⟨h.1.1, h.1.2, h.2.1.c0, h.2.1.c1, h.2.2.1.c0, h.2.2.1.c1⟩
theorem Ro4.below (h : Ro4 w W c s X Y X' Y') : Below w.heap.size w W := h.2.2.2.2
end
/-- Parts of a place. -/
theorem slice_low (A : Option Addr) (L c l : Nat) (h : l ≤ c) (hc : c ≤ maxLen) (W : World) : (Instr.sliceAt 26 (.slice A L c) none (some (.int .i64 (l : Int))) none).run Tryd.prog W = .ok (.slice A l c) W := by
  unfold maxLen at hc
  have h1 : (0 : Int) ≤ (l : Int) := by omega
  have h2 : (l : Int) ≤ (c : Int) := by omega
  unfold Instr.sliceAt
  go_simp
theorem slice_high (A : Option Addr) (L c l : Nat) (h : l ≤ L) (h2 : L ≤ c) (hc : c ≤ maxLen) : ∃ A', (∀ W, (Instr.sliceAt 26 (.slice A L c) (some (.int .i64 (l : Int))) none none).run Tryd.prog W = .ok (.slice A' (L - l) (c - l)) W) ∧ ∀ W p, p.length = L → Ints W A p → Ints W A' (p.drop l) := by
  unfold maxLen at hc
  have h1 : (0 : Int) ≤ (l : Int) := by omega
  have h3 : (l : Int) ≤ (L : Int) := by omega
  have h4 : (L : Int) ≤ (c : Int) := by omega
  by_cases hz : l < L
  · cases A with
    | none => exact ⟨none, fun W => by unfold Instr.sliceAt; go_simp, fun W p hp hi => fun h0 => by
        obtain ⟨b, o, e, -⟩ := hi (by omega)
        cases e⟩
    | some x =>
      refine ⟨some (x.add l), fun W => ?_, fun W p hp hi => fun h0 => ?_⟩
      · have hne : ¬ c = l := by omega
        unfold Instr.sliceAt
        go_simp
      · obtain ⟨b, o, e, hb, hc⟩ := hi (by omega)
        injection e with e
        subst e
        refine ⟨b, o + l, by rw [Go.WideShapes.add_plain], hb, fun i hi => ?_⟩
        rw [List.length_drop] at hi
        have := hc (l + i) (by omega)
        rw [← Nat.add_assoc] at this
        rw [this]
        simp [List.getD]
  · have hzz : l = L := by omega
    subst hzz
    by_cases hcl : c = l
    · subst hcl
      refine ⟨A, fun W => ?_, fun W p hp hi => by rw [← hp, List.drop_length]; exact Ints.nil _ _⟩
      unfold Instr.sliceAt
      cases A <;> go_simp
    · have hne : ¬ c = l := hcl
      cases A with
      | none => exact ⟨none, fun W => by unfold Instr.sliceAt; go_simp, fun W p hp hi => by rw [← hp, List.drop_length]; exact Ints.nil _ _⟩
      | some x => exact ⟨some (x.add l), fun W => by unfold Instr.sliceAt; go_simp, fun W p hp hi => by rw [← hp, List.drop_length]; exact Ints.nil _ _⟩
theorem rat_y (A : Option Addr) (c : Nat) (d : List Int) (B : Option Addr) (c2 : Nat) (v : List Int) (C : Option Addr) (n c3 : Nat) (p : List Int) (x : Int) (w : World) (hn : p.length = n) (hx : atI d v p = x)
    (hd : d.length ≤ 100) (hv : v.length ≤ 1000) (hp : n ≤ 100) (id : Ints w A d) (iv : Ints w B v) (ip : Ints w C p) :
    Calls Tryd.prog 45 #[.agg #[.slice A d.length c, .slice B v.length c2], .slice C n c3] w fun r w' => ∃ t : Bool, r = .returned (.tuple #[.int .i64 x, .bool t]) ∧ Below w.heap.size w w' := by
  subst hn
  exact rat_x A c d B c2 v C c3 p x w hx hd hv hp id iv ip
theorem rdo_x (c : Int) (s : Bool) (a b x : Int) (w : World) (hx : Sc.doI c s a b = x) (ha : Sc.InR a) (hb : Sc.InR b) : Calls Tryd.prog 46 #[.int .i64 c, .bool s, .int .i64 a, .int .i64 b] w fun e w' => ∃ t : Bool, e = .returned (.tuple #[.int .i64 x, .bool t]) ∧ Below w.heap.size w w' := by
  subst hx
  exact (Sc.rdo_any c s a b w ha hb).mono fun r w' ⟨h1, h2⟩ => ⟨_, h1, h2⟩
theorem atI_R {v : List Int} (h : AllR v) (d p : List Int) : Sc.InR (atI d v p) := by
  unfold atI; split
  · exact h.at _
  · unfold Sc.InR; omega
theorem ints_take {w : World} {A : Option Addr} {p : List Int} (h : Ints w A p) (l : Nat) : Ints w A (p.take l) := fun h0 => by
  rw [List.length_take] at h0
  obtain ⟨b, o, e, hb, hc⟩ := h (by omega)
  refine ⟨b, o, e, hb, fun i hi => ?_⟩
  rw [List.length_take] at hi
  rw [hc i (by omega)]
  simp [List.getD, show i < l by omega]
/-- Behind the variable that holds what is told. -/
def CutR (w : World) (O : List Int) (s8 : Value) (wx : World) : Prop := ∃ g A6 n6, s8 = .pointer (some ⟨g, 0, none⟩) ∧ Box wx g (.slice A6 O.length n6) (.slice none 0 0) ∧ MineT 3 wx w.heap.size (.slice A6 O.length n6) O ∧ (∀ b, (Value.slice A6 O.length n6).ownBlock = some b → b ≠ g) ∧ w.heap.size ≤ g ∧ Below w.heap.size w wx
theorem cutR_a {w w9 : World} {V : Value} {O : List Int} (hm : MineT 3 w9 w.heap.size V O) (hb : Below w.heap.size w w9) :
    CutR w O (.pointer (some ⟨w9.heap.size, 0, none⟩)) (w9.alloc (.cells #[V, .slice none 0 0] 29)) := by
  obtain ⟨A9, c9, rfl, -⟩ := hm.ints
  exact ⟨_, A9, c9, rfl, Box.new w9 _ _, hm.alloc _, fun b e => by have := hm.lt b e; omega, hb.size, below_next hb (below_new w9 _)⟩
theorem cutR_b {w w9 : World} {V : Value} {gb : Nat} {O : List Int} (hm : MineT 3 w9 w.heap.size V O) (hb : Below w.heap.size w w9) (bx : Box w9 gb (.slice none 0 0) (.slice none 0 0)) (hn : V.ownBlock ≠ some gb) (hg : w.heap.size ≤ gb) :
    CutR w O (.pointer (some ⟨gb, 0, none⟩)) ((w9.setCell ⟨gb, 0, none⟩ V).setCell ⟨gb, 1, none⟩ (.slice none 0 0)) := by
  obtain ⟨A9, c9, rfl, -⟩ := hm.ints
  exact ⟨_, A9, c9, rfl, (bx.set0 _).set1 _, (hm.setCell (p := ⟨gb, 0, none⟩) hn _).setCell (p := ⟨gb, 1, none⟩) hn _, fun b e k => hn (by rw [e, k]), hg, (hb.setCell (p := ⟨gb, 0, none⟩) hg _).setCell (p := ⟨gb, 1, none⟩) hg _⟩
theorem nblk {w9 : World} {gb : Nat} {x y V9 V10 : Value} (bx : Box w9 gb x y) (n : V9.ownBlock ≠ some gb) (ha : V10.ownBlock = V9.ownBlock ∨ V10.ownBlock = some w9.heap.size) : V10.ownBlock ≠ some gb := fun e => by
  rcases ha with h | h <;> rw [h] at e
  · exact n e
  · have := bx.lt
    injection e with e
    omega
theorem BoxI (w : World) : Box (((w.alloc (.cells #[] 3)).alloc (.cells #[.slice none 0 0, .slice none 0 0] 29)).drew) (w.heap.size + 1) (.slice none 0 0) (.slice none 0 0) := by
  have := Box.new (w.alloc (.cells #[] 3)) (.slice none 0 0) (.slice none 0 0)
  rw [show (w.alloc (.cells #[] 3)).heap.size = w.heap.size + 1 from by simp] at this
  exact this
section
variable (c : Int) (s : Bool) (A : Option Addr) (c1 : Nat) (d : List Int) (B : Option Addr) (c2 : Nat) (v : List Int) (A' : Option Addr) (c1' : Nat) (d' : List Int) (B' : Option Addr) (c2' : Nat) (v' : List Int) (w : World)
set_option maxHeartbeats 4000000 in
theorem rout_1a (id : Ints w A d) (id' : Ints w A' d') (iv : Ints w B v) (iv' : Ints w B' v') (hd : d.length ≤ 40) (hd' : d'.length ≤ 40) (h : cellB d v.length = false) :
    Calls Tryd.prog 16 #[.agg #[.int .i64 c, .bool s], .agg #[.slice A d.length c1, .slice B v.length c2], .agg #[.slice A' d'.length c1', .slice B' v'.length c2']] w (RetCI w [] [] (.int .i64 1)) := by
  obtain ⟨f0, b0, b1, b2, hs0, hb0⟩ := out0_all w c s (.slice A d.length c1) (.slice B v.length c2) (.slice A' d'.length c1') (.slice B' v'.length c2')
  have S := Lib.hid (show Ro4 w _ c s (.slice A d.length c1) (.slice B v.length c2) (.slice A' d'.length c1') (.slice B' v'.length c2') from ⟨f0, b0, b1, b2, hb0⟩)
  have D0 := Lib.hid id
  have D0' := Lib.hid id'
  have V0 := Lib.hid iv
  have V0' := Lib.hid iv'
  have H1 := Lib.hid h
  clear f0 b0 b1 b2 hs0 hb0 id id' iv iv' h
  go_enter Tryd.func16, Tryd.ntmps16
  go_upto_region 1 with (fail)
  generalize hW : (World.alloc (World.alloc (World.alloc (World.alloc w (Obj.cells #[Value.int IntKind.i64 c, Value.bool s] 23)) (Obj.cells #[(.slice A d.length c1), (.slice B v.length c2)] 29)) (Obj.cells #[(.slice A' d'.length c1'), (.slice B' v'.length c2')] 29)) (Obj.cells #[Value.slice none 0 0, Value.slice none 0 0] 29)) = W at *
  clear hW
  obtain ⟨q0, q1, a0, a1, b0, b1⟩ := S.out.cells
  go_wp2_with fail
  refine (rright_no _ _ d _ _ _ _ (by unfold maxLen; omega) (D0.out.below S.out.below) H1.out).mono ?_
  rintro r w1 ⟨rfl, hb⟩
  replace S := Lib.hid (S.out.next hb)
  clear hb q0 q1 a0 a1 b0 b1
  have BO := Lib.hid S.out.2.2.2.1
  have L := Lib.hid S.out.below
  obtain ⟨o0, o1, o2, o3⟩ := BO.out.all
  go_wp2
  obtain ⟨t0, t1, _, _⟩ := ((BO.out.set0 (.slice none 0 0)).set1 (.slice none 0 0)).all
  refine bodyPost_ret (v := .tuple #[.agg #[.slice none 0 0, .slice none 0 0], .int .i64 1]) (by simp [results, Tryd.results16, go_sem, t0, t1]) rfl ?_
  exact ⟨none, 0, none, 0, rfl, Ints.nil _ _, Ints.nil _ _, (L.out.setCell (by simp; omega) _).setCell (by simp; omega) _⟩
set_option maxHeartbeats 4000000 in
theorem rout_1b (id : Ints w A d) (id' : Ints w A' d') (iv : Ints w B v) (iv' : Ints w B' v') (hd : d.length ≤ 40) (hd' : d'.length ≤ 40) (h : cellB d v.length = true) (h' : cellB d' v'.length = false) :
    Calls Tryd.prog 16 #[.agg #[.int .i64 c, .bool s], .agg #[.slice A d.length c1, .slice B v.length c2], .agg #[.slice A' d'.length c1', .slice B' v'.length c2']] w (RetCI w [] [] (.int .i64 1)) := by
  obtain ⟨f0, b0, b1, b2, hs0, hb0⟩ := out0_all w c s (.slice A d.length c1) (.slice B v.length c2) (.slice A' d'.length c1') (.slice B' v'.length c2')
  have S := Lib.hid (show Ro4 w _ c s (.slice A d.length c1) (.slice B v.length c2) (.slice A' d'.length c1') (.slice B' v'.length c2') from ⟨f0, b0, b1, b2, hb0⟩)
  have D0 := Lib.hid id
  have D0' := Lib.hid id'
  have V0 := Lib.hid iv
  have V0' := Lib.hid iv'
  have H1 := Lib.hid h
  have H2 := Lib.hid h'
  clear f0 b0 b1 b2 hs0 hb0 id id' iv iv' h
  go_enter Tryd.func16, Tryd.ntmps16
  go_upto_region 1 with (fail)
  generalize hW : (World.alloc (World.alloc (World.alloc (World.alloc w (Obj.cells #[Value.int IntKind.i64 c, Value.bool s] 23)) (Obj.cells #[(.slice A d.length c1), (.slice B v.length c2)] 29)) (Obj.cells #[(.slice A' d'.length c1'), (.slice B' v'.length c2')] 29)) (Obj.cells #[Value.slice none 0 0, Value.slice none 0 0] 29)) = W at *
  clear hW
  obtain ⟨q0, q1, a0, a1, b0, b1⟩ := S.out.cells
  go_wp2_with fail
  refine (rright_yes _ _ d _ _ _ _ (by unfold maxLen; omega) (D0.out.below S.out.below) H1.out).mono ?_
  rintro r w1 ⟨rfl, hb⟩
  replace S := Lib.hid (S.out.next hb)
  clear hb q0 q1 a0 a1 b0 b1
  obtain ⟨q0, q1, a0, a1, b0, b1⟩ := S.out.cells
  go_wp2_with fail
  refine (rright_no _ _ d' _ _ _ _ (by unfold maxLen; omega) (D0'.out.below S.out.below) H2.out).mono ?_
  rintro r w2 ⟨rfl, hb⟩
  replace S := Lib.hid (S.out.next hb)
  clear hb q0 q1 a0 a1 b0 b1
  have BO := Lib.hid S.out.2.2.2.1
  have L := Lib.hid S.out.below
  obtain ⟨o0, o1, o2, o3⟩ := BO.out.all
  go_wp2
  obtain ⟨t0, t1, _, _⟩ := ((BO.out.set0 (.slice none 0 0)).set1 (.slice none 0 0)).all
  refine bodyPost_ret (v := .tuple #[.agg #[.slice none 0 0, .slice none 0 0], .int .i64 1]) (by simp [results, Tryd.results16, go_sem, t0, t1]) rfl ?_
  exact ⟨none, 0, none, 0, rfl, Ints.nil _ _, Ints.nil _ _, (L.out.setCell (by simp; omega) _).setCell (by simp; omega) _⟩
set_option maxHeartbeats 4000000 in
theorem rout_13 (id : Ints w A d) (id' : Ints w A' d') (iv : Ints w B v) (iv' : Ints w B' v') (hd : d.length ≤ 40) (hd' : d'.length ≤ 40) (h : cellB d v.length = true) (h' : cellB d' v'.length = true) (h3 : Sc.hasB c 2 = false) :
    Calls Tryd.prog 16 #[.agg #[.int .i64 c, .bool s], .agg #[.slice A d.length c1, .slice B v.length c2], .agg #[.slice A' d'.length c1', .slice B' v'.length c2']] w (RetCI w [] [] (.int .i64 13)) := by
  obtain ⟨f0, b0, b1, b2, hs0, hb0⟩ := out0_all w c s (.slice A d.length c1) (.slice B v.length c2) (.slice A' d'.length c1') (.slice B' v'.length c2')
  have S := Lib.hid (show Ro4 w _ c s (.slice A d.length c1) (.slice B v.length c2) (.slice A' d'.length c1') (.slice B' v'.length c2') from ⟨f0, b0, b1, b2, hb0⟩)
  have D0 := Lib.hid id
  have D0' := Lib.hid id'
  have V0 := Lib.hid iv
  have V0' := Lib.hid iv'
  have H1 := Lib.hid h
  have H2 := Lib.hid h'
  have H3 := Lib.hid h3
  clear f0 b0 b1 b2 hs0 hb0 id id' iv iv' h h3
  go_enter Tryd.func16, Tryd.ntmps16
  go_upto_region 1 with (fail)
  generalize hW : (World.alloc (World.alloc (World.alloc (World.alloc w (Obj.cells #[Value.int IntKind.i64 c, Value.bool s] 23)) (Obj.cells #[(.slice A d.length c1), (.slice B v.length c2)] 29)) (Obj.cells #[(.slice A' d'.length c1'), (.slice B' v'.length c2')] 29)) (Obj.cells #[Value.slice none 0 0, Value.slice none 0 0] 29)) = W at *
  clear hW
  obtain ⟨q0, q1, a0, a1, b0, b1⟩ := S.out.cells
  go_wp2_with fail
  refine (rright_yes _ _ d _ _ _ _ (by unfold maxLen; omega) (D0.out.below S.out.below) H1.out).mono ?_
  rintro r w1 ⟨rfl, hb⟩
  replace S := Lib.hid (S.out.next hb)
  clear hb q0 q1 a0 a1 b0 b1
  obtain ⟨q0, q1, a0, a1, b0, b1⟩ := S.out.cells
  go_wp2_with fail
  refine (rright_yes _ _ d' _ _ _ _ (by unfold maxLen; omega) (D0'.out.below S.out.below) H2.out).mono ?_
  rintro r w2 ⟨rfl, hb⟩
  replace S := Lib.hid (S.out.next hb)
  clear hb q0 q1 a0 a1 b0 b1
  obtain ⟨q0, q1, a0, a1, b0, b1⟩ := S.out.cells
  go_wp2_with fail
  refine (rhas_x c 2 false _ H3.out).mono ?_
  rintro r w3 ⟨rfl, hb⟩
  replace S := Lib.hid (S.out.next hb)
  clear hb q0 q1 a0 a1 b0 b1
  have BO := Lib.hid S.out.2.2.2.1
  have L := Lib.hid S.out.below
  obtain ⟨o0, o1, o2, o3⟩ := BO.out.all
  go_wp2
  obtain ⟨t0, t1, _, _⟩ := ((BO.out.set0 (.slice none 0 0)).set1 (.slice none 0 0)).all
  refine bodyPost_ret (v := .tuple #[.agg #[.slice none 0 0, .slice none 0 0], .int .i64 13]) (by simp [results, Tryd.results16, go_sem, t0, t1]) rfl ?_
  exact ⟨none, 0, none, 0, rfl, Ints.nil _ _, Ints.nil _ _, (L.out.setCell (by simp; omega) _).setCell (by simp; omega) _⟩
set_option maxHeartbeats 4000000 in
theorem rout_4 (id : Ints w A d) (id' : Ints w A' d') (iv : Ints w B v) (iv' : Ints w B' v') (hd : d.length ≤ 40) (hd' : d'.length ≤ 40) (h : cellB d v.length = true) (h' : cellB d' v'.length = true) (h3 : Sc.hasB c 2 = true) (O : List Int) (hO : d ++ d' = O) (hOl : O.length ≤ 80) (h4 : rightB O = false) :
    Calls Tryd.prog 16 #[.agg #[.int .i64 c, .bool s], .agg #[.slice A d.length c1, .slice B v.length c2], .agg #[.slice A' d'.length c1', .slice B' v'.length c2']] w (RetCI w [] [] (.int .i64 4)) := by
  obtain ⟨f0, b0, b1, b2, hs0, hb0⟩ := out0_all w c s (.slice A d.length c1) (.slice B v.length c2) (.slice A' d'.length c1') (.slice B' v'.length c2')
  have S := Lib.hid (show Ro4 w _ c s (.slice A d.length c1) (.slice B v.length c2) (.slice A' d'.length c1') (.slice B' v'.length c2') from ⟨f0, b0, b1, b2, hb0⟩)
  have D0 := Lib.hid id
  have D0' := Lib.hid id'
  have V0 := Lib.hid iv
  have V0' := Lib.hid iv'
  have H1 := Lib.hid h
  have H2 := Lib.hid h'
  have H3 := Lib.hid h3
  have HO := Lib.hid hO
  have H4 := Lib.hid h4
  clear f0 b0 b1 b2 hs0 hb0 id id' iv iv' h h3 hO h4
  go_enter Tryd.func16, Tryd.ntmps16
  go_upto_region 1 with (fail)
  generalize hW : (World.alloc (World.alloc (World.alloc (World.alloc w (Obj.cells #[Value.int IntKind.i64 c, Value.bool s] 23)) (Obj.cells #[(.slice A d.length c1), (.slice B v.length c2)] 29)) (Obj.cells #[(.slice A' d'.length c1'), (.slice B' v'.length c2')] 29)) (Obj.cells #[Value.slice none 0 0, Value.slice none 0 0] 29)) = W at *
  clear hW
  obtain ⟨q0, q1, a0, a1, b0, b1⟩ := S.out.cells
  go_wp2_with fail
  refine (rright_yes _ _ d _ _ _ _ (by unfold maxLen; omega) (D0.out.below S.out.below) H1.out).mono ?_
  rintro r w1 ⟨rfl, hb⟩
  replace S := Lib.hid (S.out.next hb)
  clear hb q0 q1 a0 a1 b0 b1
  obtain ⟨q0, q1, a0, a1, b0, b1⟩ := S.out.cells
  go_wp2_with fail
  refine (rright_yes _ _ d' _ _ _ _ (by unfold maxLen; omega) (D0'.out.below S.out.below) H2.out).mono ?_
  rintro r w2 ⟨rfl, hb⟩
  replace S := Lib.hid (S.out.next hb)
  clear hb q0 q1 a0 a1 b0 b1
  obtain ⟨q0, q1, a0, a1, b0, b1⟩ := S.out.cells
  go_wp2_with fail
  refine (rhas_x c 2 true _ H3.out).mono ?_
  rintro r w3 ⟨rfl, hb⟩
  replace S := Lib.hid (S.out.next hb)
  clear hb q0 q1 a0 a1 b0 b1
  go_upto_region 5 with (fail)
  obtain ⟨q0, q1, a0, a1, b0, b1⟩ := S.out.cells
  have IA := Lib.hid (D0.out.below S.out.below)
  have IB := Lib.hid (D0'.out.below S.out.below)
  have ZA := Lib.hid (show MineT 3 (w3.alloc (.cells #[] 3)).drew w3.heap.size (.slice (some ⟨w3.heap.size, 0, none⟩) 0 0) [] from MineT.new 3 w3 [] w3.heap.size (Nat.le_refl _) (by simp))
  have ZB := Lib.hid (show MineT 3 ((w3.alloc (.cells #[.slice none 0 0, .slice none 0 0] 29)).alloc (.cells #[] 3)).drew w3.heap.size (.slice (some ⟨w3.heap.size + 1, 0, none⟩) 0 0) [] from by have := MineT.new 3 (w3.alloc (.cells #[.slice none 0 0, .slice none 0 0] 29)) [] w3.heap.size (by simp) (by simp); rw [show (w3.alloc (.cells #[.slice none 0 0, .slice none 0 0] 29)).heap.size = w3.heap.size + 1 from by simp] at this; exact this)
  have ZC := Lib.hid (show MineT 3 ((w3.alloc (.cells #[] 3)).alloc (.cells #[.slice none 0 0, .slice none 0 0] 29)).drew w3.heap.size (.slice (some ⟨w3.heap.size, 0, none⟩) 0 0) [] from (MineT.new 3 w3 [] w3.heap.size (Nat.le_refl _) (by simp)).alloc _)
  have BLA := Lib.hid (below_new w3 (.cells #[] 3)).drew
  have BLB := Lib.hid (below_next (below_new w3 (.cells #[.slice none 0 0, .slice none 0 0] 29)) (below_new _ (.cells #[] 3))).drew
  have BLC := Lib.hid (below_next (below_new w3 (.cells #[] 3)) (below_new _ (.cells #[.slice none 0 0, .slice none 0 0] 29))).drew
  have BXB := Lib.hid ((Box.new w3 (.slice none 0 0) (.slice none 0 0)).alloc (.cells #[] 3)).drew
  have BXC := Lib.hid (BoxI w3)
  go_cut [8] (fun s8 wx => CutR w3 O s8 wx)
  case first =>
    go_region_held3 (fun w' => w'.cell? ⟨w.heap.size + 1, 0, none⟩ = some (.slice A d.length c1) ∧ w'.cell? ⟨w.heap.size + 1 + 1, 0, none⟩ = some (.slice A' d'.length c1'))
      (first
        | with_reducible exact K10.out
        | with_reducible exact KK.out
        | exact ⟨a0, b0⟩
        | exact ⟨keepB ((L10.out.setCell (Nat.le_refl _) _).setCell (Nat.le_refl _) _) a0, keepB ((L10.out.setCell (Nat.le_refl _) _).setCell (Nat.le_refl _) _) b0⟩
        | exact ⟨keepB ((L10.out.setCell (Nat.le_succ _) _).setCell (Nat.le_succ _) _) a0, keepB ((L10.out.setCell (Nat.le_succ _) _).setCell (Nat.le_succ _) _) b0⟩
        | exact ⟨keepB ((L10.out.setCell L9.out.size _).setCell L9.out.size _) a0, keepB ((L10.out.setCell L9.out.size _).setCell L9.out.size _) b0⟩
        | exact ⟨keepB (below_next L10.out (below_new w10 _)) a0, keepB (below_next L10.out (below_new w10 _)) b0⟩
        | go_keep)
      (first
        | ((with_reducible refine step_appI numI Tryd.underlying26 rfl (.tmp 31) (.tmp 33) rfl w3.heap.size (.slice (some ⟨w3.heap.size, 0, none⟩) 0 0) [] (by simp [Act.eval]) ZA.out A c1 d (by simp [Act.eval]) (IA.out.below BLA.out) (by simp; omega) (by simp; try omega) ?_); intro V9 w9 hm9 hg9 ha9; have L9 := Lib.hid (BLA.out.grown hg9 (by simp; try omega) ZA.out.block); have M9 := Lib.hid (show MineT 3 w9 w3.heap.size V9 d from hm9); have KK := Lib.hid (show w9.cell? ⟨w.heap.size + 1, 0, none⟩ = some (.slice A d.length c1) ∧ w9.cell? ⟨w.heap.size + 1 + 1, 0, none⟩ = some (.slice A' d'.length c1') from ⟨keepB L9.out a0, keepB L9.out b0⟩); clear hm9 hg9 ha9)
        | ((with_reducible refine step_appI numI Tryd.underlying26 rfl (.tmp 31) (.tmp 33) rfl w3.heap.size (.slice (some ⟨w3.heap.size + 1, 0, none⟩) 0 0) [] (by simp [Act.eval]) ZB.out A c1 d (by simp [Act.eval]) (IA.out.below BLB.out) (by simp; omega) (by simp; try omega) ?_); intro V9 w9 hm9 hg9 ha9; have L9 := Lib.hid (BLB.out.grown hg9 (by simp; try omega) ZB.out.block); have X9 := Lib.hid (BXB.out.grown hg9 (fun e => by simp [Value.ownBlock] at e)); have N9 := Lib.hid (show V9.ownBlock ≠ some (w3.heap.size) from fun e => by rcases ha9 with h | h <;> (rw [h] at e; simp [Value.ownBlock] at e; try omega)); have M9 := Lib.hid (show MineT 3 w9 w3.heap.size V9 d from hm9); have KK := Lib.hid (show w9.cell? ⟨w.heap.size + 1, 0, none⟩ = some (.slice A d.length c1) ∧ w9.cell? ⟨w.heap.size + 1 + 1, 0, none⟩ = some (.slice A' d'.length c1') from ⟨keepB L9.out a0, keepB L9.out b0⟩); clear hm9 hg9 ha9)
        | ((with_reducible refine step_appI numI Tryd.underlying26 rfl (.tmp 31) (.tmp 33) rfl w3.heap.size (.slice (some ⟨w3.heap.size, 0, none⟩) 0 0) [] (by simp [Act.eval]) ZC.out A c1 d (by simp [Act.eval]) (IA.out.below BLC.out) (by simp; omega) (by simp; try omega) ?_); intro V9 w9 hm9 hg9 ha9; have L9 := Lib.hid (BLC.out.grown hg9 (by simp; try omega) ZC.out.block); have X9 := Lib.hid (BXC.out.grown hg9 (fun e => by simp [Value.ownBlock] at e)); have N9 := Lib.hid (show V9.ownBlock ≠ some (w3.heap.size + 1) from fun e => by rcases ha9 with h | h <;> (rw [h] at e; simp [Value.ownBlock] at e; try omega)); have M9 := Lib.hid (show MineT 3 w9 w3.heap.size V9 d from hm9); have KK := Lib.hid (show w9.cell? ⟨w.heap.size + 1, 0, none⟩ = some (.slice A d.length c1) ∧ w9.cell? ⟨w.heap.size + 1 + 1, 0, none⟩ = some (.slice A' d'.length c1') from ⟨keepB L9.out a0, keepB L9.out b0⟩); clear hm9 hg9 ha9)
        | ((with_reducible refine step_appI numI Tryd.underlying26 rfl (.tmp 34) (.tmp 36) rfl w3.heap.size V9 d (by simp [Act.eval]) M9.out A' c1' d' (by simp [Act.eval]) (IB.out.below L9.out) (by omega) L9.out.size ?_); intro V10 w10 hm10 hg10 ha10; have L10 := Lib.hid (L9.out.grown hg10 L9.out.size M9.out.block); have X10 := Lib.hid (X9.out.grown hg10 (fun e => N9.out e.symm)); have N10 := Lib.hid (nblk X9.out N9.out ha10); obtain ⟨n0, n1, n2, n3⟩ := X10.out.all; have M10 := Lib.hid hm10; obtain ⟨A10, c10, rfl, -⟩ := M10.out.ints; have K10 := Lib.hid (show w10.cell? ⟨w.heap.size + 1, 0, none⟩ = some (.slice A d.length c1) ∧ w10.cell? ⟨w.heap.size + 1 + 1, 0, none⟩ = some (.slice A' d'.length c1') from ⟨keepB L10.out a0, keepB L10.out b0⟩); clear hm10 hg10 ha10)
        | ((with_reducible refine step_appI numI Tryd.underlying26 rfl (.tmp 34) (.tmp 36) rfl w3.heap.size V9 d (by simp [Act.eval]) M9.out A' c1' d' (by simp [Act.eval]) (IB.out.below L9.out) (by omega) L9.out.size ?_); intro V10 w10 hm10 hg10 ha10; have L10 := Lib.hid (L9.out.grown hg10 L9.out.size M9.out.block); have M10 := Lib.hid hm10; obtain ⟨A10, c10, rfl, -⟩ := M10.out.ints; have K10 := Lib.hid (show w10.cell? ⟨w.heap.size + 1, 0, none⟩ = some (.slice A d.length c1) ∧ w10.cell? ⟨w.heap.size + 1 + 1, 0, none⟩ = some (.slice A' d'.length c1') from ⟨keepB L10.out a0, keepB L10.out b0⟩); clear hm10 hg10 ha10)
        | ((with_reducible refine step_appI numI Tryd.underlying26 rfl (.tmp 34) (.tmp 36) rfl w3.heap.size V9 d (by simp [Act.eval]) (M9.out.alloc (.cells #[.slice none 0 0, .slice none 0 0] 29)) A' c1' d' (by simp [Act.eval]) (IB.out.below (below_next L9.out (below_new w9 (.cells #[.slice none 0 0, .slice none 0 0] 29)))) (by omega) (below_next L9.out (below_new w9 (.cells #[.slice none 0 0, .slice none 0 0] 29))).size ?_); intro V10 w10 hm10 hg10 ha10; have L10 := Lib.hid ((below_next L9.out (below_new w9 (.cells #[.slice none 0 0, .slice none 0 0] 29))).grown hg10 (below_next L9.out (below_new w9 (.cells #[.slice none 0 0, .slice none 0 0] 29))).size (M9.out.alloc (.cells #[.slice none 0 0, .slice none 0 0] 29)).block); have X10 := Lib.hid ((Box.new w9 (.slice none 0 0) (.slice none 0 0)).grown hg10 (fun e => by have h1 := M9.out.lt _ e.symm; omega)); have N10 := Lib.hid (show V10.ownBlock ≠ some w9.heap.size from fun e => by rcases ha10 with h | h; (rw [h] at e; have h1 := M9.out.lt _ e; omega); (rw [h] at e; simp at e)); obtain ⟨n0, n1, n2, n3⟩ := X10.out.all; have M10 := Lib.hid hm10; obtain ⟨A10, c10, rfl, -⟩ := M10.out.ints; have K10 := Lib.hid (show w10.cell? ⟨w.heap.size + 1, 0, none⟩ = some (.slice A d.length c1) ∧ w10.cell? ⟨w.heap.size + 1 + 1, 0, none⟩ = some (.slice A' d'.length c1') from ⟨keepB L10.out a0, keepB L10.out b0⟩); clear hm10 hg10 ha10))
    all_goals (go_wp2_with fail; go_meet)
    · exact cutR_a (V := .slice A10 (d.length + d'.length) c10) (by rw [← HO.out, ← List.length_append]; exact M10.out) L10.out
    · exact cutR_b (V := .slice A10 (d.length + d'.length) c10) (by rw [← HO.out, ← List.length_append]; exact M10.out) L10.out X10.out (by rw [← List.length_append]; exact N10.out) L9.out.size
    · exact cutR_b (V := .slice A10 (d.length + d'.length) c10) (by rw [← HO.out, ← List.length_append]; exact M10.out) L10.out X10.out (by rw [← List.length_append]; exact N10.out) (Nat.le_succ _)
    · exact cutR_b (V := .slice A10 (d.length + d'.length) c10) (by rw [← HO.out, ← List.length_append]; exact M10.out) L10.out X10.out (by rw [← List.length_append]; exact N10.out) (Nat.le_refl _)
  case rest =>
    obtain ⟨g8, A6, n6, rfl, hbx, hm6, hn6, hg8, hL8⟩ := hcut
    have BX := Lib.hid hbx
    have M6 := Lib.hid hm6
    have N6 := Lib.hid hn6
    have hlt8 : w.heap.size + 1 + 1 + 1 < g8 := Nat.lt_of_lt_of_le S.out.lt hg8
    replace S := Lib.hid (S.out.next hL8)
    clear hbx hm6 hn6 hL8 q0 q1 a0 a1 b0 b1 IA IB ZA ZB ZC BLA BLB BLC BXB BXC
    obtain ⟨p0, p1, p2, p3⟩ := BX.out.all
    go_wp2_with fail
    refine (refRightB_no _ _ O _ H4.out (by unfold maxLen; omega) M6.out.ints').mono ?_
    rintro r w4 ⟨rfl, hb⟩
    replace S := Lib.hid (S.out.next hb)
    replace BX := Lib.hid (BX.out.next hb)
    replace M6 := Lib.hid (M6.out.below hb (Nat.le_refl _))
    clear hb p0 p1 p2 p3
    have BO := Lib.hid S.out.2.2.2.1
    have L := Lib.hid S.out.below
    obtain ⟨o0, o1, o2, o3⟩ := BO.out.all
    go_wp2
    obtain ⟨t0, t1, _, _⟩ := ((BO.out.set0 (.slice none 0 0)).set1 (.slice none 0 0)).all
    refine bodyPost_ret (v := .tuple #[.agg #[.slice none 0 0, .slice none 0 0], .int .i64 4]) (by simp [results, Tryd.results16, go_sem, t0, t1]) rfl ?_
    exact ⟨none, 0, none, 0, rfl, Ints.nil _ _, Ints.nil _ _, (L.out.setCell (by simp; omega) _).setCell (by simp; omega) _⟩
set_option maxHeartbeats 8000000 in
theorem rout_0 (id : Ints w A d) (id' : Ints w A' d') (iv : Ints w B v) (iv' : Ints w B' v') (hd : d.length ≤ 40) (hd' : d'.length ≤ 40) (h : cellB d v.length = true) (h' : cellB d' v'.length = true) (h3 : Sc.hasB c 2 = true) (O : List Int) (hO : d ++ d' = O) (hOl : O.length ≤ 80) (h4 : rightB O = true) (n : Nat) (hn : sizeI O = (n : Int)) (rv : AllR v) (rv' : AllR v') (hv : v.length ≤ 64) (hv' : v'.length ≤ 64) :
    Calls Tryd.prog 16 #[.agg #[.int .i64 c, .bool s], .agg #[.slice A d.length c1, .slice B v.length c2], .agg #[.slice A' d'.length c1', .slice B' v'.length c2']] w (RetCI w O ((List.range n).map (rouG c s d v d' v')) (.int .i64 0)) := by
  obtain ⟨f0, b0, b1, b2, hs0, hb0⟩ := out0_all w c s (.slice A d.length c1) (.slice B v.length c2) (.slice A' d'.length c1') (.slice B' v'.length c2')
  have S := Lib.hid (show Ro4 w _ c s (.slice A d.length c1) (.slice B v.length c2) (.slice A' d'.length c1') (.slice B' v'.length c2') from ⟨f0, b0, b1, b2, hb0⟩)
  have D0 := Lib.hid id
  have D0' := Lib.hid id'
  have V0 := Lib.hid iv
  have V0' := Lib.hid iv'
  have H1 := Lib.hid h
  have H2 := Lib.hid h'
  have H3 := Lib.hid h3
  have HO := Lib.hid hO
  have H4 := Lib.hid h4
  have HN := Lib.hid hn
  have RV := Lib.hid rv
  have RV' := Lib.hid rv'
  clear f0 b0 b1 b2 hs0 hb0 id id' iv iv' h h3 hO h4 hn rv
  go_enter Tryd.func16, Tryd.ntmps16
  go_upto_region 1 with (fail)
  generalize hW : (World.alloc (World.alloc (World.alloc (World.alloc w (Obj.cells #[Value.int IntKind.i64 c, Value.bool s] 23)) (Obj.cells #[(.slice A d.length c1), (.slice B v.length c2)] 29)) (Obj.cells #[(.slice A' d'.length c1'), (.slice B' v'.length c2')] 29)) (Obj.cells #[Value.slice none 0 0, Value.slice none 0 0] 29)) = W at *
  clear hW
  have n64 : n ≤ 64 := by have := HN.out; have := sizeI_bd O; omega
  obtain ⟨q0, q1, a0, a1, b0, b1⟩ := S.out.cells
  go_wp2_with fail
  refine (rright_yes _ _ d _ _ _ _ (by unfold maxLen; omega) (D0.out.below S.out.below) H1.out).mono ?_
  rintro r w1 ⟨rfl, hb⟩
  replace S := Lib.hid (S.out.next hb)
  clear hb q0 q1 a0 a1 b0 b1
  obtain ⟨q0, q1, a0, a1, b0, b1⟩ := S.out.cells
  go_wp2_with fail
  refine (rright_yes _ _ d' _ _ _ _ (by unfold maxLen; omega) (D0'.out.below S.out.below) H2.out).mono ?_
  rintro r w2 ⟨rfl, hb⟩
  replace S := Lib.hid (S.out.next hb)
  clear hb q0 q1 a0 a1 b0 b1
  obtain ⟨q0, q1, a0, a1, b0, b1⟩ := S.out.cells
  go_wp2_with fail
  refine (rhas_x c 2 true _ H3.out).mono ?_
  rintro r w3 ⟨rfl, hb⟩
  replace S := Lib.hid (S.out.next hb)
  clear hb q0 q1 a0 a1 b0 b1
  go_upto_region 5 with (fail)
  obtain ⟨q0, q1, a0, a1, b0, b1⟩ := S.out.cells
  have IA := Lib.hid (D0.out.below S.out.below)
  have IB := Lib.hid (D0'.out.below S.out.below)
  have ZA := Lib.hid (show MineT 3 (w3.alloc (.cells #[] 3)).drew w3.heap.size (.slice (some ⟨w3.heap.size, 0, none⟩) 0 0) [] from MineT.new 3 w3 [] w3.heap.size (Nat.le_refl _) (by simp))
  have ZB := Lib.hid (show MineT 3 ((w3.alloc (.cells #[.slice none 0 0, .slice none 0 0] 29)).alloc (.cells #[] 3)).drew w3.heap.size (.slice (some ⟨w3.heap.size + 1, 0, none⟩) 0 0) [] from by have := MineT.new 3 (w3.alloc (.cells #[.slice none 0 0, .slice none 0 0] 29)) [] w3.heap.size (by simp) (by simp); rw [show (w3.alloc (.cells #[.slice none 0 0, .slice none 0 0] 29)).heap.size = w3.heap.size + 1 from by simp] at this; exact this)
  have ZC := Lib.hid (show MineT 3 ((w3.alloc (.cells #[] 3)).alloc (.cells #[.slice none 0 0, .slice none 0 0] 29)).drew w3.heap.size (.slice (some ⟨w3.heap.size, 0, none⟩) 0 0) [] from (MineT.new 3 w3 [] w3.heap.size (Nat.le_refl _) (by simp)).alloc _)
  have BLA := Lib.hid (below_new w3 (.cells #[] 3)).drew
  have BLB := Lib.hid (below_next (below_new w3 (.cells #[.slice none 0 0, .slice none 0 0] 29)) (below_new _ (.cells #[] 3))).drew
  have BLC := Lib.hid (below_next (below_new w3 (.cells #[] 3)) (below_new _ (.cells #[.slice none 0 0, .slice none 0 0] 29))).drew
  have BXB := Lib.hid ((Box.new w3 (.slice none 0 0) (.slice none 0 0)).alloc (.cells #[] 3)).drew
  have BXC := Lib.hid (BoxI w3)
  go_cut [8] (fun s8 wx => CutR w3 O s8 wx)
  case first =>
    go_region_held3 (fun w' => w'.cell? ⟨w.heap.size + 1, 0, none⟩ = some (.slice A d.length c1) ∧ w'.cell? ⟨w.heap.size + 1 + 1, 0, none⟩ = some (.slice A' d'.length c1'))
      (first
        | with_reducible exact K10.out
        | with_reducible exact KK.out
        | exact ⟨a0, b0⟩
        | exact ⟨keepB ((L10.out.setCell (Nat.le_refl _) _).setCell (Nat.le_refl _) _) a0, keepB ((L10.out.setCell (Nat.le_refl _) _).setCell (Nat.le_refl _) _) b0⟩
        | exact ⟨keepB ((L10.out.setCell (Nat.le_succ _) _).setCell (Nat.le_succ _) _) a0, keepB ((L10.out.setCell (Nat.le_succ _) _).setCell (Nat.le_succ _) _) b0⟩
        | exact ⟨keepB ((L10.out.setCell L9.out.size _).setCell L9.out.size _) a0, keepB ((L10.out.setCell L9.out.size _).setCell L9.out.size _) b0⟩
        | exact ⟨keepB (below_next L10.out (below_new w10 _)) a0, keepB (below_next L10.out (below_new w10 _)) b0⟩
        | go_keep)
      (first
        | ((with_reducible refine step_appI numI Tryd.underlying26 rfl (.tmp 31) (.tmp 33) rfl w3.heap.size (.slice (some ⟨w3.heap.size, 0, none⟩) 0 0) [] (by simp [Act.eval]) ZA.out A c1 d (by simp [Act.eval]) (IA.out.below BLA.out) (by simp; omega) (by simp; try omega) ?_); intro V9 w9 hm9 hg9 ha9; have L9 := Lib.hid (BLA.out.grown hg9 (by simp; try omega) ZA.out.block); have M9 := Lib.hid (show MineT 3 w9 w3.heap.size V9 d from hm9); have KK := Lib.hid (show w9.cell? ⟨w.heap.size + 1, 0, none⟩ = some (.slice A d.length c1) ∧ w9.cell? ⟨w.heap.size + 1 + 1, 0, none⟩ = some (.slice A' d'.length c1') from ⟨keepB L9.out a0, keepB L9.out b0⟩); clear hm9 hg9 ha9)
        | ((with_reducible refine step_appI numI Tryd.underlying26 rfl (.tmp 31) (.tmp 33) rfl w3.heap.size (.slice (some ⟨w3.heap.size + 1, 0, none⟩) 0 0) [] (by simp [Act.eval]) ZB.out A c1 d (by simp [Act.eval]) (IA.out.below BLB.out) (by simp; omega) (by simp; try omega) ?_); intro V9 w9 hm9 hg9 ha9; have L9 := Lib.hid (BLB.out.grown hg9 (by simp; try omega) ZB.out.block); have X9 := Lib.hid (BXB.out.grown hg9 (fun e => by simp [Value.ownBlock] at e)); have N9 := Lib.hid (show V9.ownBlock ≠ some (w3.heap.size) from fun e => by rcases ha9 with h | h <;> (rw [h] at e; simp [Value.ownBlock] at e; try omega)); have M9 := Lib.hid (show MineT 3 w9 w3.heap.size V9 d from hm9); have KK := Lib.hid (show w9.cell? ⟨w.heap.size + 1, 0, none⟩ = some (.slice A d.length c1) ∧ w9.cell? ⟨w.heap.size + 1 + 1, 0, none⟩ = some (.slice A' d'.length c1') from ⟨keepB L9.out a0, keepB L9.out b0⟩); clear hm9 hg9 ha9)
        | ((with_reducible refine step_appI numI Tryd.underlying26 rfl (.tmp 31) (.tmp 33) rfl w3.heap.size (.slice (some ⟨w3.heap.size, 0, none⟩) 0 0) [] (by simp [Act.eval]) ZC.out A c1 d (by simp [Act.eval]) (IA.out.below BLC.out) (by simp; omega) (by simp; try omega) ?_); intro V9 w9 hm9 hg9 ha9; have L9 := Lib.hid (BLC.out.grown hg9 (by simp; try omega) ZC.out.block); have X9 := Lib.hid (BXC.out.grown hg9 (fun e => by simp [Value.ownBlock] at e)); have N9 := Lib.hid (show V9.ownBlock ≠ some (w3.heap.size + 1) from fun e => by rcases ha9 with h | h <;> (rw [h] at e; simp [Value.ownBlock] at e; try omega)); have M9 := Lib.hid (show MineT 3 w9 w3.heap.size V9 d from hm9); have KK := Lib.hid (show w9.cell? ⟨w.heap.size + 1, 0, none⟩ = some (.slice A d.length c1) ∧ w9.cell? ⟨w.heap.size + 1 + 1, 0, none⟩ = some (.slice A' d'.length c1') from ⟨keepB L9.out a0, keepB L9.out b0⟩); clear hm9 hg9 ha9)
        | ((with_reducible refine step_appI numI Tryd.underlying26 rfl (.tmp 34) (.tmp 36) rfl w3.heap.size V9 d (by simp [Act.eval]) M9.out A' c1' d' (by simp [Act.eval]) (IB.out.below L9.out) (by omega) L9.out.size ?_); intro V10 w10 hm10 hg10 ha10; have L10 := Lib.hid (L9.out.grown hg10 L9.out.size M9.out.block); have X10 := Lib.hid (X9.out.grown hg10 (fun e => N9.out e.symm)); have N10 := Lib.hid (nblk X9.out N9.out ha10); obtain ⟨n0, n1, n2, n3⟩ := X10.out.all; have M10 := Lib.hid hm10; obtain ⟨A10, c10, rfl, -⟩ := M10.out.ints; have K10 := Lib.hid (show w10.cell? ⟨w.heap.size + 1, 0, none⟩ = some (.slice A d.length c1) ∧ w10.cell? ⟨w.heap.size + 1 + 1, 0, none⟩ = some (.slice A' d'.length c1') from ⟨keepB L10.out a0, keepB L10.out b0⟩); clear hm10 hg10 ha10)
        | ((with_reducible refine step_appI numI Tryd.underlying26 rfl (.tmp 34) (.tmp 36) rfl w3.heap.size V9 d (by simp [Act.eval]) M9.out A' c1' d' (by simp [Act.eval]) (IB.out.below L9.out) (by omega) L9.out.size ?_); intro V10 w10 hm10 hg10 ha10; have L10 := Lib.hid (L9.out.grown hg10 L9.out.size M9.out.block); have M10 := Lib.hid hm10; obtain ⟨A10, c10, rfl, -⟩ := M10.out.ints; have K10 := Lib.hid (show w10.cell? ⟨w.heap.size + 1, 0, none⟩ = some (.slice A d.length c1) ∧ w10.cell? ⟨w.heap.size + 1 + 1, 0, none⟩ = some (.slice A' d'.length c1') from ⟨keepB L10.out a0, keepB L10.out b0⟩); clear hm10 hg10 ha10)
        | ((with_reducible refine step_appI numI Tryd.underlying26 rfl (.tmp 34) (.tmp 36) rfl w3.heap.size V9 d (by simp [Act.eval]) (M9.out.alloc (.cells #[.slice none 0 0, .slice none 0 0] 29)) A' c1' d' (by simp [Act.eval]) (IB.out.below (below_next L9.out (below_new w9 (.cells #[.slice none 0 0, .slice none 0 0] 29)))) (by omega) (below_next L9.out (below_new w9 (.cells #[.slice none 0 0, .slice none 0 0] 29))).size ?_); intro V10 w10 hm10 hg10 ha10; have L10 := Lib.hid ((below_next L9.out (below_new w9 (.cells #[.slice none 0 0, .slice none 0 0] 29))).grown hg10 (below_next L9.out (below_new w9 (.cells #[.slice none 0 0, .slice none 0 0] 29))).size (M9.out.alloc (.cells #[.slice none 0 0, .slice none 0 0] 29)).block); have X10 := Lib.hid ((Box.new w9 (.slice none 0 0) (.slice none 0 0)).grown hg10 (fun e => by have h1 := M9.out.lt _ e.symm; omega)); have N10 := Lib.hid (show V10.ownBlock ≠ some w9.heap.size from fun e => by rcases ha10 with h | h; (rw [h] at e; have h1 := M9.out.lt _ e; omega); (rw [h] at e; simp at e)); obtain ⟨n0, n1, n2, n3⟩ := X10.out.all; have M10 := Lib.hid hm10; obtain ⟨A10, c10, rfl, -⟩ := M10.out.ints; have K10 := Lib.hid (show w10.cell? ⟨w.heap.size + 1, 0, none⟩ = some (.slice A d.length c1) ∧ w10.cell? ⟨w.heap.size + 1 + 1, 0, none⟩ = some (.slice A' d'.length c1') from ⟨keepB L10.out a0, keepB L10.out b0⟩); clear hm10 hg10 ha10))
    all_goals (go_wp2_with fail; go_meet)
    · exact cutR_a (V := .slice A10 (d.length + d'.length) c10) (by rw [← HO.out, ← List.length_append]; exact M10.out) L10.out
    · exact cutR_b (V := .slice A10 (d.length + d'.length) c10) (by rw [← HO.out, ← List.length_append]; exact M10.out) L10.out X10.out (by rw [← List.length_append]; exact N10.out) L9.out.size
    · exact cutR_b (V := .slice A10 (d.length + d'.length) c10) (by rw [← HO.out, ← List.length_append]; exact M10.out) L10.out X10.out (by rw [← List.length_append]; exact N10.out) (Nat.le_succ _)
    · exact cutR_b (V := .slice A10 (d.length + d'.length) c10) (by rw [← HO.out, ← List.length_append]; exact M10.out) L10.out X10.out (by rw [← List.length_append]; exact N10.out) (Nat.le_refl _)
  case rest =>
    obtain ⟨g8, A6, n6, rfl, hbx, hm6, hn6, hg8, hL8⟩ := hcut
    have BX := Lib.hid hbx
    have M6 := Lib.hid hm6
    have N6 := Lib.hid hn6
    have hlt8 : w.heap.size + 1 + 1 + 1 < g8 := Nat.lt_of_lt_of_le S.out.lt hg8
    replace S := Lib.hid (S.out.next hL8)
    clear hbx hm6 hn6 hL8 q0 q1 a0 a1 b0 b1 IA IB ZA ZB ZC BLA BLB BLC BXB BXC
    obtain ⟨p0, p1, p2, p3⟩ := BX.out.all
    go_wp2_with fail
    refine (refRightB_yes _ _ O _ H4.out (by unfold maxLen; omega) M6.out.ints').mono ?_
    rintro r w4 ⟨rfl, hb⟩
    replace S := Lib.hid (S.out.next hb)
    replace BX := Lib.hid (BX.out.next hb)
    replace M6 := Lib.hid (M6.out.below hb (Nat.le_refl _))
    have hgl := BX.out.lt
    clear hb p0 p1 p2 p3
    obtain ⟨p0, p1, p2, p3⟩ := BX.out.all
    go_wp2_with fail
    refine (places_pc _ _ O n _ HN.out (by omega) M6.out.ints').mono ?_
    rintro r w5 ⟨AP, cP8, rfl, hp8, hb⟩
    replace S := Lib.hid (S.out.next hb)
    replace BX := Lib.hid (BX.out.next hb)
    replace M6 := Lib.hid (M6.out.below hb (Nat.le_refl _))
    clear hb p0 p1 p2 p3
    have hgw := BX.out.lt
    have PL := Lib.hid hp8
    clear hp8
    have O0 := Lib.hid (show OutSt w5 w5 g8 (.slice A6 O.length n6) (.slice none 0 0) [] from ⟨turned_refl _ _, BX.out, MineT.nil _ _ _, BX.out.lt⟩)
    obtain ⟨FF, hF⟩ : ∃ F, rouG c s d v d' v' = F := ⟨_, rfl⟩
    have HF := Lib.hid hF
    rw [hF]
    clear hF
    go_wp2
    go_loopw [10] (fun j wr => ∃ (k : Nat) (V : Value), k ≤ n ∧ j = .int .i64 (k : Int) ∧ OutSt w5 wr g8 (.slice A6 O.length n6) V ((List.range k).map FF)) (fun j _ => n - (intOf j).toNat)
    case atStart => exact ⟨0, _, Nat.zero_le _, rfl, O0.out⟩
    case round =>
      obtain ⟨k, V, hk, rfl, hQ⟩ := hrel
      have Q := Lib.hid hQ
      have PLr := Lib.hid (PL.out.grown hQ.1 hgl)
      have Sr := Lib.hid (S.out.grown hQ.1 hlt8)
      have Mr := Lib.hid (own_grown M6.out hQ.1 N6.out)
      clear hQ O0
      by_cases hlt : k < n
      · obtain ⟨bp, At, ct, rfl, hbp1, hbp2, hcp, hfp, hct, hcm⟩ := PLr.out k hlt
        have HMX := Lib.hid (show (List.range (k + 1)).map FF = (List.range k).map FF ++ [FF k] by rw [List.range_succ, List.map_append]; rfl)
        have LQ := Lib.hid (show ((List.range k).map FF).length = k by simp)
        have HFK := Lib.hid (show Sc.doI c s (atI d v (leftP d d' k)) (atI d' v' (rightP d d' k)) = FF k by rw [← HF.out]; rfl)
        have HQL := Lib.hid (dg_length O (k : Int))
        have HPL := Lib.hid (show (dg O (k : Int)).take d.length = leftP d d' k by unfold leftP; rw [HO.out])
        have HPR := Lib.hid (show (dg O (k : Int)).drop d.length = rightP d d' k by unfold rightP; rw [HO.out])
        obtain ⟨A2, hsh, hih⟩ := slice_high At O.length ct d.length (by have := congrArg List.length HO.out; rw [List.length_append] at this; omega) hct hcm
        have I1 := Lib.hid (show Ints wr At (leftP d d' k) by rw [← HPL.out]; exact ints_take hfp.ints _)
        have I2 := Lib.hid (show Ints wr A2 (rightP d d' k) by rw [← HPR.out]; exact hih wr _ HQL.out hfp.ints)
        have L1 := Lib.hid (leftP_len d d' k)
        have L2 := Lib.hid (rightP_len d d' k)
        have hol : O.length = d.length + d'.length := by rw [← HO.out, List.length_append]
        have hsub : O.length - d.length = d'.length := by omega
        rw [hsub] at hsh
        have hdc : d.length ≤ ct := by omega
        have hsl := slice_low At O.length ct d.length hdc hcm
        obtain ⟨x, hx⟩ : ∃ x, atI d v (leftP d d' k) = x := ⟨_, rfl⟩
        obtain ⟨y, hy⟩ : ∃ y, atI d' v' (rightP d d' k) = y := ⟨_, rfl⟩
        have RX := Lib.hid (show Sc.InR x from hx ▸ atI_R RV.out _ _)
        have RY := Lib.hid (show Sc.InR y from hy ▸ atI_R RV'.out _ _)
        rw [hx, hy] at HFK
        have HX := Lib.hid hx
        have HY := Lib.hid hy
        clear hx hy hih hfp HPL HPR HQL hol hsub
        generalize leftP d d' k = pl at *
        generalize rightP d d' k = pr at *
        generalize FF k = z at *
        generalize hys : (List.range k).map FF = ys at *
        clear hys
        have k0 : (0 : Int) ≤ (k : Int) := by omega
        have k1 : (k : Int) < (n : Int) := by omega
        have DR := Lib.hid ((Below.refl wr.heap.size wr).drew)
        have A1 := Lib.hid (rat_y A c1 d B c2 v At d.length ct pl x wr.drew L1.out HX.out (by omega) (by omega) (by omega) ((D0.out.below Sr.out.below).below DR.out) ((V0.out.below Sr.out.below).below DR.out) (I1.out.below DR.out))
        have Sd := Lib.hid (Sr.out.next DR.out)
        have Qd := Lib.hid Q.out.drew
        obtain ⟨q0, q1, a0, a1, b0, b1⟩ := Sr.out.cells
        go_upto_region 12 with (fail)
        go_region_held3 (fun w' => w'.cell? ⟨w.heap.size + 1, 0, none⟩ = some (.slice A d.length c1) ∧ w'.cell? ⟨w.heap.size + 1, 1, none⟩ = some (.slice B v.length c2) ∧ w'.cell? ⟨bp, k, none⟩ = some (.slice At O.length ct))
          (first
            | with_reducible exact KK.out
            | go_keep)
          (first
            | (go_at_call 45; (with_reducible refine (A1.out).mono ?_); rintro r w10 ⟨t10, rfl, hb10⟩; have H10 := Lib.hid hb10; have KK := Lib.hid (show w10.cell? ⟨w.heap.size + 1, 0, none⟩ = some (.slice A d.length c1) ∧ w10.cell? ⟨w.heap.size + 1, 1, none⟩ = some (.slice B v.length c2) ∧ w10.cell? ⟨bp, k, none⟩ = some (.slice At O.length ct) from ⟨keepC hb10 a0, keepC hb10 a1, keepC hb10 hcp⟩); clear hb10))
        have hcp2 := KK.out.2.2
        have I3 := Lib.hid ((I2.out.below DR.out).below H10.out)
        clear hcp q0 q1 a0 a1 b0 b1 KK
        replace Sr := Lib.hid (Sd.out.next H10.out)
        replace Q := Lib.hid (Qd.out.next H10.out)
        clear Sd Qd A1 I1 I2 DR H10
        have DR := Lib.hid ((Below.refl w10.heap.size w10).drew)
        have A2' := Lib.hid (rat_y A' c1' d' B' c2' v' A2 d'.length (ct - d.length) pr y w10.drew L2.out HY.out (by omega) (by omega) (by omega) ((D0'.out.below Sr.out.below).below DR.out) ((V0'.out.below Sr.out.below).below DR.out) (I3.out.below DR.out))
        have Sd := Lib.hid (Sr.out.next DR.out)
        have Qd := Lib.hid Q.out.drew
        obtain ⟨q0, q1, a0, a1, b0, b1⟩ := Sr.out.cells
        go_upto_region 13 with (fail)
        go_region_held3 (fun w' => w'.cell? ⟨w.heap.size + 1, 0, none⟩ = some (.slice A d.length c1) ∧ w'.cell? ⟨w.heap.size + 1 + 1, 0, none⟩ = some (.slice A' d'.length c1') ∧ w'.cell? ⟨w.heap.size + 1 + 1, 1, none⟩ = some (.slice B' v'.length c2') ∧ w'.cell? ⟨bp, k, none⟩ = some (.slice At O.length ct))
          (first
            | with_reducible exact KK.out
            | go_keep)
          (first
            | (go_at_call 45; (with_reducible refine (A2'.out).mono ?_); rintro r w11 ⟨t11, rfl, hb11⟩; have H11 := Lib.hid hb11; have KK := Lib.hid (show w11.cell? ⟨w.heap.size + 1, 0, none⟩ = some (.slice A d.length c1) ∧ w11.cell? ⟨w.heap.size + 1 + 1, 0, none⟩ = some (.slice A' d'.length c1') ∧ w11.cell? ⟨w.heap.size + 1 + 1, 1, none⟩ = some (.slice B' v'.length c2') ∧ w11.cell? ⟨bp, k, none⟩ = some (.slice At O.length ct) from ⟨keepC hb11 a0, keepC hb11 b0, keepC hb11 b1, keepC hb11 hcp2⟩); clear hb11))
        clear hcp2 q0 q1 a0 a1 b0 b1 KK
        replace Sr := Lib.hid (Sd.out.next H11.out)
        replace Q := Lib.hid (Qd.out.next H11.out)
        clear Sd Qd A2' I3 DR H11
        obtain ⟨q0, q1, a0, a1, b0, b1⟩ := Sr.out.cells
        go_wp2_with fail
        refine (rdo_x c s x y z _ HFK.out RX.out RY.out).mono ?_
        rintro r w12 ⟨t12, rfl, hb⟩
        replace Sr := Lib.hid (Sr.out.next hb)
        replace Q := Lib.hid (Q.out.next hb)
        clear hb q0 q1 a0 a1 b0 b1
        have O8 := Lib.hid (Q.out.alloc (.cells #[.int .i64 z] 2))
        have X8 := Lib.hid (one_new w12 z)
        have c7 := Q.out.box.c1
        go_wp2_with (at_builtin; refine wpList_appI numL Tryd.underlying27 rfl (.tmp 90) (.tmp 92) rfl w5.heap.size V ys (by rfl) O8.out.mine (some ⟨w12.heap.size, 0, none⟩) 1 [z] rfl X8.out (by rw [LQ.out]; simp; omega) O8.out.size ?_; intro V' w13 hm8 hg8' ha8; obtain ⟨A8, c8, rfl, -⟩ := hm8.ints; obtain ⟨y0', y1', y2', y3'⟩ := (O8.out.mid hg8').all)
        go_roundw
        case rel => exact ⟨k + 1, _, by omega, by go_num, by rw [HMX.out]; have hm9 := hm8; rw [List.length_append] at hm9; exact O8.out.app hm9 hg8'⟩
        case measure => simp [intOf]; omega
      · obtain rfl : k = n := by omega
        generalize hys : (List.range k).map FF = ys at *
        have HYS := Lib.hid (show (List.range k).map (rouG c s d v d' v') = ys by rw [HF.out]; exact hys)
        obtain ⟨AV, cV, rfl, -⟩ := Q.out.mine.ints
        obtain ⟨q0, q1, -, -⟩ := Q.out.box.all
        have BRr := Lib.hid Sr.out.2.2.2.1
        have LWr := Lib.hid Sr.out.below
        obtain ⟨r0, r1, r2, r3⟩ := BRr.out.all
        have hlr := Sr.out.lt
        clear hys
        go_wp2
        have T9 := (BRr.out.set0 (.slice A6 O.length n6)).set1 (.slice AV ys.length cV)
        obtain ⟨t0, t1, _, _⟩ := T9.all
        refine bodyPost_ret (v := .tuple #[.agg #[.slice A6 O.length n6, .slice AV ys.length cV], .int .i64 0]) (by simp [results, Tryd.results16, go_sem, t0, t1]) rfl ?_
        rw [HYS.out]
        exact ⟨A6, n6, AV, cV, rfl, Mr.out.ints'.set_box BRr.out _ _, Q.out.mine.ints'.set_box BRr.out _ _, (LWr.out.setCell (by simp; omega) _).setCell (by simp; omega) _⟩
theorem rout_any (id : Ints w A d) (id' : Ints w A' d') (hd : d.length ≤ 40) (hd' : d'.length ≤ 40) (rv : AllR v) (rv' : AllR v') (iv : Ints w B v) (iv' : Ints w B' v') (E : Int) (hE : outE c s d v.length d' v'.length = E) :
    Calls Tryd.prog 16 #[.agg #[.int .i64 c, .bool s], .agg #[.slice A d.length c1, .slice B v.length c2], .agg #[.slice A' d'.length c1', .slice B' v'.length c2']] w (RetCI w (if E = 0 then d ++ d' else []) (if E = 0 then outV c s v v' else []) (.int .i64 E)) := by
  unfold outE pfitE at hE
  by_cases h1 : cellB d v.length = true
  rotate_left
  · rw [if_neg (by rw [if_neg (fun h => h1 h.1)]; decide), if_neg (fun h => h1 h.1)] at hE
    subst hE
    exact rout_1a c s A c1 d B c2 v A' c1' d' B' c2' v' w id id' iv iv' hd hd' (by simpa using h1)
  by_cases h2 : cellB d' v'.length = true
  rotate_left
  · rw [if_neg (by rw [if_neg (fun h => h2 h.2)]; decide), if_neg (fun h => h2 h.2)] at hE
    subst hE
    exact rout_1b c s A c1 d B c2 v A' c1' d' B' c2' v' w id id' iv iv' hd hd' h1 (by simpa using h2)
  by_cases h3 : Sc.hasB c 2 = true
  rotate_left
  · have h3' : ¬ hasAll [(c, s)] = true := by simpa [hasAll] using h3
    rw [if_neg (by rw [if_pos ⟨h1, h2⟩, if_neg h3']; decide), if_pos ⟨h1, h2⟩, if_neg h3'] at hE
    subst hE
    exact rout_13 c s A c1 d B c2 v A' c1' d' B' c2' v' w id id' iv iv' hd hd' h1 h2 (by simpa using h3)
  have h3' : hasAll [(c, s)] = true := by simpa [hasAll] using h3
  rw [if_pos (by rw [if_pos ⟨h1, h2⟩, if_pos h3'])] at hE
  by_cases h4 : rightB (d ++ d') = true
  · rw [if_pos h4] at hE
    subst hE
    rw [if_pos rfl, if_pos rfl, ← rou_is h1 h2]
    exact rout_0 c s A c1 d B c2 v A' c1' d' B' c2' v' w id id' iv iv' hd hd' h1 h2 h3 _ rfl (by simp; omega) h4 _ (rou_size h1 h2 h4) rv rv' (cellB_len h1).2.2.2 (cellB_len h2).2.2.2
  · rw [if_neg h4] at hE
    subst hE
    exact rout_4 c s A c1 d B c2 v A' c1' d' B' c2' v' w id id' iv iv' hd hd' h1 h2 h3 _ rfl (by simp; omega) (by simpa using h4)
end
end Go.Proofs.YtbanegjmapgkdaaDoor.Pr
