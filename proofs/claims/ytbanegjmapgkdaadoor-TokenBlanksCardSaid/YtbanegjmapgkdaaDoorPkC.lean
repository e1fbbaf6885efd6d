/-
  append(row, list...) where the row is the call's own and the list is any slice of numbers, nil let in: what the row holds behind it. Condition: both are short. What riffleref03.Nums, slices.Equal and slices.Clone of int64 answer for any lists of numbers, and that they change nothing that was there. Condition: a slice is no longer than an int can say (Clone: at most 200 numbers). What rifflelaw03.Great, cell.Right, cell.Same, riffleref03.Right and riffleref03.Same answer for any cells; nothing that was there is written. Condition: the slices are no longer than an int can say. What cell.Same, cell.At, riffleref03.Same and riffleref03.At answer for any cells and places; nothing that was there is written. Condition: the slices are no longer than an int can say. What cell.cut answers: the i-th piece of a list of pieces of one size; the world is as it was. Condition: the piece lies within the list. What cell.Of, cell.List, cell.Zero, cell.Scalar, riffleref03.Zero and riffleref03.Scalar answer for any axes and numbers; nothing that was there is written. Condition: at most 100 axes and 1000 numbers. What cell.Item answers for any cell and any number; nothing that was there is written. Condition: at most 100 axes and 1000 numbers. What riffleref03.Item answers for any cell and any number; nothing that was there is written. Condition: at most 100 axes and 1000 numbers. What cell.all answers of any cells, with cell.Right and with the function literal of cell.Stack; nothing that was there is written. Condition: the slices are no longer than an int can say. cell.Zero with its new row known whole, cell.cut with the address told, and copy of a list into such a row. Conditions: as told in each. What cell.Stack answers of cells that may be stacked: the cell of all their numbers, in order; nothing that was there is written. Condition: at most 70 cells, of at most 10 axes and 200 numbers. A row of numbers known whole, filled place by place; what has turned since. No condition. A cell that is made number by number: its box, and the row that grows by append. Conditions: as told in each. All places of axes, as the document's Places tells them, in new memory: what stays of them behind calls and stores. Condition: at most 100 axes. How the arguments of a law read: slices of numbers, cells, numbers and bools that came in, as lists. No condition.
-/
import Derived.Test.YtbanegjmapgkdaaDoorPkS
import Derived.Maps.AppendAt
import Derived.Lib.SliceRun
import Derived.Deep.RegionHeld3
import Derived.Deep.RegionLaw
import Derived.Laws.CopyOwn
import Derived.Deep.DeepCutAuto
import Derived.Lib.SmallJoins
import Derived.WalkKit
import Derived.ProofKit
import Derived.OpenShut
import Derived.ChangeOld
import Derived.Below
set_option maxRecDepth 100000
-- CellApp
namespace Go.Proofs.YtbanegjmapgkdaaDoor.Sh
open Go.RowKit
set_option linter.unusedVariables false

/-- The value v is a slice of the call's own (blocks from base on, elements of type t) with these numbers. -/
def MineT (t : TypeId) (w : World) (base : Nat) (v : Value) (xs : List Int) : Prop := w.ownsRow base t 1 v xs.length (xs.map (Value.int .i64))
/-- t is the type of a number of 64 bits. -/
def NumT (t : TypeId) : Prop := (Tryd.prog.info? t).map (fun i => (i.zero, i.size, i.bytes)) = some (some (.int .i64 0), 1, 8)
section
variable {w w' : World} {t : TypeId} {base : Nat} {v : Value} {xs : List Int}
theorem MineT.nil (t : TypeId) (w : World) (base : Nat) : MineT t w base (.slice none 0 0) [] := World.ownsRow_nil _ _ _ _
theorem MineT.ints (h : MineT t w base v xs) : ∃ A c, v = .slice A xs.length c ∧ Ints w A xs := by
  have hc := World.ownsRow.cells h (g := v.ownBlock.getD 0)
  rcases h.2 with ⟨rfl, h0⟩ | ⟨g, cap, cur, rfl, hb, hg, _⟩
  · exact ⟨none, 0, by rw [h0], fun hp => absurd hp (by omega)⟩
  · refine ⟨some ⟨g, 0, none⟩, cap, rfl, fun _ => ⟨g, 0, rfl, ?_, fun i hi => ?_⟩⟩
    · rcases Nat.lt_or_ge g w.heap.size with hlt | hge
      · exact hlt
      · rw [Array.getElem?_eq_none hge] at hg; cases hg
    · have := hc rfl i (.int .i64 (xs.getD i 0)) (by simp [List.getD, hi])
      have e : ((⟨g, 0, none⟩ : Addr).add i) = ⟨g, 0 + i, none⟩ := Go.WideShapes.add_plain ..
      rw [← e]; exact this
theorem MineT.lt (h : MineT t w base v xs) : ∀ g, v.ownBlock = some g → g < w.heap.size := by
  intro g hg
  rcases h.2 with ⟨rfl, _⟩ | ⟨g', cap, cur, rfl, _, hh, _⟩
  · simp [Value.ownBlock] at hg
  · simp [Value.ownBlock] at hg
    subst hg
    rcases Nat.lt_or_ge g' w.heap.size with hlt | hge
    · exact hlt
    · rw [Array.getElem?_eq_none hge] at hh; cases hh
theorem MineT.block (h : MineT t w base v xs) : ∀ k, v.ownBlock = some k → base ≤ k := by
  intro k hk
  rcases h.2 with ⟨rfl, _⟩ | ⟨g, cap, cur, rfl, hb, _⟩
  · simp [Value.ownBlock] at hk
  · simp [Value.ownBlock] at hk; omega
theorem MineT.keep (h : MineT t w base v xs) (hk : ∀ g, v.ownBlock = some g → w'.heap[g]? = w.heap[g]?) : MineT t w' base v xs := by
  refine ⟨h.1, ?_⟩
  rcases h.2 with h0 | ⟨g, cap, cur, rfl, hb, hg, hr⟩
  · exact .inl h0
  · exact .inr ⟨g, cap, cur, rfl, hb, (hk g rfl).trans hg, hr⟩
theorem MineT.below {B : Nat} (h : MineT t w base v xs) (hb : Below B w w') (hB : w.heap.size ≤ B) : MineT t w' base v xs :=
  h.keep fun g hg => hb.block g (Nat.lt_of_lt_of_le (h.lt g hg) hB)
theorem MineT.alloc (h : MineT t w base v xs) (o : Obj) : MineT t (w.alloc o) base v xs := h.keep fun g hg => Below.heap_alloc w o g (h.lt g hg)
theorem MineT.setCell (h : MineT t w base v xs) {p : Addr} (hp : v.ownBlock ≠ some p.block) (u : Value) : MineT t (w.setCell p u) base v xs :=
  h.keep fun g hg => Below.heap_setCell w p u g (fun e => hp (by rw [hg, e]))
theorem MineT.drewN (h : MineT t w base v xs) (n : Nat) : MineT t (w.drewN n) base v xs := h
theorem MineT.drew (h : MineT t w base v xs) : MineT t w.drew base v xs := h
theorem MineT.mono {b : Nat} (h : MineT t w base v xs) (hb : b ≤ base) : MineT t w b v xs := by
  refine ⟨h.1, ?_⟩
  rcases h.2 with h0 | ⟨g, cap, cur, rfl, hb', hr⟩
  · exact .inl h0
  · exact .inr ⟨g, cap, cur, rfl, by omega, hr⟩
theorem MineT.new (t : TypeId) (w : World) (xs : List Int) (base : Nat) (hb : base ≤ w.heap.size) (hl : xs.length ≤ maxLen) : MineT t (w.alloc (.cells (cellsI xs) t)) base (.slice (some ⟨w.heap.size, 0, none⟩) xs.length xs.length) xs :=
  ⟨by simp, .inr ⟨w.heap.size, xs.length, cellsI xs, rfl, hb, heap_alloc_new w _, Nat.le_refl _, hl, by simp [cellsI], by simp [cellsI, ← List.map_take]⟩⟩
end

theorem run_app_nil {P : Program} {w : World} {base : Nat} {t ty e : TypeId} {i : TypeInfo} {size : Nat} (ht : P.underlying t = some (.slice e)) (hi : P.info? e = some i)
    {v : Value} {n : Nat} {xs : List Value} (hown : w.ownsRow base e size v n xs) (c : Nat) : (Builtin.append_ #[t, t] ty #[v, .slice none 0 c]).run P w = .ok v w := by
  rcases hown.2 with ⟨rfl, rfl⟩ | ⟨g, cap, cur, rfl, _, _, hle, _⟩ <;>
    simp [Builtin.append_, run_underlying ht, sizeOf, typeInfo, Builtin.lenOf, Builtin.firstCells, storeCells, *]

theorem run_appI {t ty e : TypeId} (hinf : NumT e) (ht : Tryd.prog.underlying t = some (.slice e)) {w : World} {base : Nat} {v : Value} {xs : List Int} (hown : MineT e w base v xs)
    {A : Option Addr} {c : Nat} {ys : List Int} (hi : Ints w A ys) (hlen : xs.length + ys.length ≤ 100000) (hbase : base ≤ w.heap.size) :
    ∃ v' w', (Builtin.append_ #[t, t] ty #[v, .slice A ys.length c]).run Tryd.prog w = .ok v' w' ∧ MineT e w' base v' (xs ++ ys) ∧ w.grownBy w' v.ownBlock ∧ (v'.ownBlock = v.ownBlock ∨ v'.ownBlock = some w.heap.size) := by
  obtain ⟨i0, hi0, hz0, hz1, hz2⟩ := info_parts hinf
  rcases A with _ | ad
  · have h0 : ys = [] := by
      rcases Nat.eq_zero_or_pos ys.length with h | h
      · exact List.eq_nil_of_length_eq_zero h
      · obtain ⟨_, _, e, _⟩ := hi h; cases e
    subst h0
    exact ⟨v, w, run_app_nil ht hi0 hown c, by simpa using hown, World.grownBy.refl w _, .inl rfl⟩
  · obtain ⟨v', w', hr, h1, h2, _, h4⟩ := run_append_own_at (P := Tryd.prog) w base t ty e i0 (.int .i64 0) 1 8 ht hi0 hz0 hz1 hz2 rfl (by decide) v xs.length (xs.map (Value.int .i64)) hown ad ys.length c (ys.map (Value.int .i64)) (by simp)
      (fun j u hj => by
        have hjl : j < ys.length := by
          have := (List.getElem?_eq_some_iff.1 hj).1
          simpa using this
        obtain ⟨b, off, e1, hb, hc⟩ := hi (by omega)
        injection e1 with e1
        subst e1
        rw [Go.WideShapes.add_plain, hc j hjl]
        rw [List.getElem?_map, List.getElem?_eq_getElem hjl] at hj
        simp at hj
        simp [List.getD, hjl, hj])
      (fun u hu => by simp at hu; obtain ⟨y, _, rfl⟩ := hu; rfl) (by unfold maxLen; omega) (by omega) hbase
    exact ⟨v', w', hr, by unfold MineT; simpa using h1, h2, h4⟩

theorem wp_appI {t e : TypeId} (hinf : NumT e) (ht : Tryd.prog.underlying t = some (.slice e)) {w : World} {o : Oper} {a : Act} {K : Act → World → Prop} {Q : Exit → Act → World → Prop} (s x : Operand)
    (ho : o.op = .call { callee := .builtin .append, args := #[s, x], argTypes := #[t, t] })
    (base : Nat) (v : Value) (xs : List Int) (hs : a.eval s = v) (hown : MineT e w base v xs) (A : Option Addr) (c : Nat) (ys : List Int) (hx : a.eval x = .slice A ys.length c) (hi : Ints w A ys)
    (hlen : xs.length + ys.length ≤ 100000) (hbase : base ≤ w.heap.size)
    (h : ∀ v' w', MineT e w' base v' (xs ++ ys) → w.grownBy w' v.ownBlock → (v'.ownBlock = v.ownBlock ∨ v'.ownBlock = some w.heap.size) → K (a.put o.dst v') w') : o.wp Tryd.prog a w K Q := by
  obtain ⟨v', w', hrun, h2, h3, h4⟩ := run_appI (ty := o.type) (c := c) hinf ht hown hi hlen hbase
  unfold Oper.wp execOp
  simp only [ho, resolve, invoke, builtin, Sem.run_bind, Sem.run_pure, Result.andThen_ok, List.map_toArray, List.map_cons, List.map_nil, hs, hx, hrun]
  exact h v' w' h2 h3 h4

theorem wpList_appI {t e : TypeId} (hinf : NumT e) (ht : Tryd.prog.underlying t = some (.slice e)) {w : World} {ops : Array Oper} {rest : List Oper} {o : Oper} {a : Act} {Q : Exit → Act → World → Prop} (hgd : o.guard = none) (s x : Operand)
    (ho : o.op = .call { callee := .builtin .append, args := #[s, x], argTypes := #[t, t] })
    (base : Nat) (v : Value) (xs : List Int) (hs : a.eval s = v) (hown : MineT e w base v xs) (A : Option Addr) (c : Nat) (ys : List Int) (hx : a.eval x = .slice A ys.length c) (hi : Ints w A ys)
    (hlen : xs.length + ys.length ≤ 100000) (hbase : base ≤ w.heap.size)
    (h : ∀ v' w', MineT e w' base v' (xs ++ ys) → w.grownBy w' v.ownBlock → (v'.ownBlock = v.ownBlock ∨ v'.ownBlock = some w.heap.size) → wpList Tryd.prog ops Q rest (a.put o.dst v') w') : wpList Tryd.prog ops Q (o :: rest) a w :=
  wpList_plain hgd fun _ hK => wp_appI hinf ht s x ho base v xs hs hown A c ys hx hi hlen hbase fun v' w' h2 h3 h4 => hK _ _ (h v' w' h2 h3 h4)

theorem numI : NumT 3 := by unfold NumT; kernel_rfl
theorem numL : NumT 2 := by unfold NumT; kernel_rfl

/-- A copy of a list in a new row: the row that was there has no numbers. -/
theorem wpList_copyI {t e : TypeId} (hinf : NumT e) (ht : Tryd.prog.underlying t = some (.slice e)) {w : World} {ops : Array Oper} {rest : List Oper} {o : Oper} {a : Act} {Q : Exit → Act → World → Prop} (hgd : o.guard = none) (s x : Operand)
    (ho : o.op = .call { callee := .builtin .append, args := #[s, x], argTypes := #[t, t] })
    (hs : a.eval s = .slice (some ⟨w.heap.size, 0, none⟩) 0 0) (A : Option Addr) (c : Nat) (ys : List Int) (hx : a.eval x = .slice A ys.length c) (hi : Ints w A ys)
    (hlen : ys.length ≤ 100000)
    (h : ∀ B c' w', MineT e w' w.heap.size (.slice B ys.length c') ys → Below w.heap.size w w' → wpList Tryd.prog ops Q rest (a.put o.dst (.slice B ys.length c')) w') : wpList Tryd.prog ops Q (o :: rest) a (w.alloc (.cells #[] e)) := by
  have hb0 : Below w.heap.size w (w.alloc (.cells #[] e)) := (Below.refl _ w).alloc (Nat.le_refl _) _
  refine wpList_appI hinf ht hgd s x ho w.heap.size _ [] hs (by have := MineT.new e w [] w.heap.size (Nat.le_refl _) (by simp); exact this) A c ys hx (hi.below hb0) (by simpa using hlen) (by simp) ?_
  intro v' w' h1 h2 h3
  rw [List.nil_append] at h1
  obtain ⟨B, c', rfl, _⟩ := h1.ints
  exact h B c' w' h1 (hb0.grown h2 (by simp) (fun k hk => by simp [Value.ownBlock] at hk; omega))
end Go.Proofs.YtbanegjmapgkdaaDoor.Sh
-- CellBase
namespace Go.Proofs.YtbanegjmapgkdaaDoor.Sh
open Go.RowKit
set_option linter.unusedVariables false

set_option maxHeartbeats 1000000 in
theorem nums_any (A : Option Addr) (c : Nat) (a : List Int) (B : Option Addr) (d : Nat) (b : List Int) (w : World) (hl : a.length ≤ maxLen) (hl2 : b.length ≤ maxLen) (ha : Ints w A a) (hb : Ints w B b) :
    Calls Tryd.prog 28 #[.slice A a.length c, .slice B b.length d] w fun e w' => e = .returned (.bool (decide (a = b))) ∧ ∃ n, w' = w.drewN n := by
  unfold maxLen at hl hl2
  by_cases he : a.length = b.length
  · have hev : ((a.length : Int) != (b.length : Int)) = false := by simp [he]
    have HE := Lib.hid he
    have hle : a.length ≤ b.length := by omega
    have hle2 : b.length ≤ a.length := by omega
    clear he
    go_enter Tryd.func28, Tryd.ntmps28
    go_wp2
    go_loopw [5] (fun i wr => ∃ k n : Nat, k ≤ a.length ∧ i = .int .i64 k ∧ a.take k = b.take k ∧ wr = w.drewN n)
      (fun i _ => a.length - (intOf i).toNat)
    case atStart => exact ⟨0, 0, Nat.zero_le _, rfl, rfl, rfl⟩
    case round =>
      obtain ⟨k, n, hk, rfl, htk, rfl⟩ := hrel
      have HT := Lib.hid htk
      clear htk
      by_cases hlt : k < a.length
      · obtain ⟨b1, o1, rfl, hb1, hc1⟩ := ha (by omega)
        obtain ⟨b2, o2, rfl, hb2, hc2⟩ := hb (by omega)
        have h1 : (w.drewN n).cell? ⟨b1, o1 + k, none⟩ = some (.int .i64 (a.getD k 0)) := hc1 k hlt
        have h2 : (w.drewN n).cell? ⟨b2, o2 + k, none⟩ = some (.int .i64 (b.getD k 0)) := hc2 k (by omega)
        have hta := Lib.hid (take_snoc a k hlt)
        have htb := Lib.hid (take_snoc b k (by omega))
        have i0 : (0 : Int) ≤ (k : Int) := by omega
        have i1 : (k : Int) < (a.length : Int) := by omega
        have i2 : (k : Int) < (b.length : Int) := by omega
        clear hc1 hc2 ha hb
        generalize hx : a.getD k 0 = x at *
        generalize hy : b.getD k 0 = y at *
        have HX := Lib.hid hx
        have HY := Lib.hid hy
        clear hx hy
        generalize hw1 : w.drewN n = w1 at *
        have HW := Lib.hid hw1
        clear hw1
        by_cases hxy : x = y
        · have hq : (x != y) = false := by simp [hxy]
          have HQ := Lib.hid hxy
          clear hxy
          go_wp2_with fail
          go_quiet (fail)
          go_wp2
          go_roundw
          case rel => exact ⟨k + 1, n + nq, by omega, by go_num, by rw [hta.out, htb.out, HT.out, HQ.out], by rw [← HW.out, World.drewN_drewN]⟩
          case measure => simp [intOf]; omega
        · have hq : (x != y) = true := by simp [hxy]
          have hab : ¬ a = b := fun h => hxy (by rw [← HX.out, ← HY.out, h])
          clear hxy
          go_wp2_with fail
          go_quiet (fail)
          go_wp2
          go_ret
          exact ⟨ret_bool (by simp [hab]), n + nq, by rw [← HW.out, World.drewN_drewN]⟩
      · obtain rfl : k = a.length := by omega
        have hab : a = b := by have := HT.out; rwa [List.take_length, HE.out, List.take_length] at this
        go_wp2
        go_ret
        exact ⟨ret_bool (by simp [hab]), n, rfl⟩
  · have hev : ((a.length : Int) != (b.length : Int)) = true := by simp; omega
    have hne : ¬ a = b := fun h => he (by rw [h])
    go_enter Tryd.func28, Tryd.ntmps28
    go_wp2
    go_ret
    exact ⟨ret_bool (by simp [hne]), 0, rfl⟩
/-- A slice of these numbers, of the call's own, is answered; nothing that was there is written. -/
def RetT (t : TypeId) (w : World) (xs : List Int) (e : Ending) (w' : World) : Prop := ∃ B c, e = .returned (.slice B xs.length c) ∧ MineT t w' w.heap.size (.slice B xs.length c) xs ∧ Below w.heap.size w w'

set_option maxHeartbeats 400000 in
theorem clone64_any (A : Option Addr) (c : Nat) (d : List Int) (w : World) (hl : d.length ≤ 1000) (hi : Ints w A d) :
    Calls Tryd.prog 50 #[.slice A d.length c] w (RetT 2 w d) := by
  have q : ∀ (w : World) (a : Option Addr) (n c n' c' : Nat), (binOp .eql 27 (.slice a n c) (.slice none n' c')).run Tryd.prog w = .ok (.bool a.isNone) w := fun w a n c n' c' => Go.Lib.run_eql_slice_nil w _ _ a n c n' c' Tryd.underlying27
  rcases A with _ | a
  · have hd : d = [] := by
      rcases Nat.eq_zero_or_pos d.length with h | h
      · exact List.eq_nil_of_length_eq_zero h
      · obtain ⟨_, _, e, _⟩ := hi h; cases e
    subst hd
    go_enter Tryd.func50, Tryd.ntmps50
    go_wp2
    go_ret
    exact ⟨_, _, rfl, MineT.nil _ _ _, Below.refl _ _⟩
  · have HI := Lib.hid hi
    clear hi
    go_enter Tryd.func50, Tryd.ntmps50
    go_wp2_with (at_builtin; refine wpList_copyI numL Tryd.underlying27 rfl (.tmp 5) (.tmp 6) rfl rfl _ _ d rfl HI.out (by omega) ?_; intro B c' w' hm hb)
    go_ret
    exact ⟨_, _, rfl, hm, hb⟩
theorem clone_t (A : Option Addr) (c : Nat) (d : List Int) (w : World) (hl : d.length ≤ 100) (hi : Ints w A d) :
    Calls Tryd.prog 70 #[.slice A d.length c] w (RetT 3 w d) := by
  refine (clone_any A c d w hl hi).mono ?_
  rintro e w' ⟨v, rfl, hm, hb⟩
  obtain ⟨B, c', rfl, _⟩ := hm.ints
  exact ⟨B, c', rfl, hm, hb⟩
end Go.Proofs.YtbanegjmapgkdaaDoor.Sh
-- CellTell
namespace Go.Proofs.YtbanegjmapgkdaaDoor.Sh
open Go.RowKit
set_option linter.unusedVariables false

/-- May a cell of these axes with that many numbers be? -/
def cellB (d : List Int) (n : Nat) : Bool := rightB d && decide ((n : Int) = sizeI d)
theorem cellB_not {d : List Int} {n : Nat} (h : rightB d = false) : cellB d n = false := by simp [cellB, h]
theorem cellB_is {d : List Int} {n : Nat} (h : rightB d = true) : cellB d n = decide ((n : Int) = sizeI d) := by simp [cellB, h]

/-- Two cells of a block below stay as they are. -/
theorem keepC {W w1 : World} {g : Nat} {x y : Value} (hb : Below W.heap.size W w1) (h : W.cell? ⟨g, 0, none⟩ = some x ∧ W.cell? ⟨g, 1, none⟩ = some y) :
    w1.cell? ⟨g, 0, none⟩ = some x ∧ w1.cell? ⟨g, 1, none⟩ = some y :=
  ⟨(hb.cell (p := ⟨g, 0, none⟩) (World.block_lt_of_cell? W ⟨g, 0, none⟩ h.1)).trans h.1, (hb.cell (p := ⟨g, 1, none⟩) (World.block_lt_of_cell? W ⟨g, 0, none⟩ h.1)).trans h.2⟩
theorem block_of {W : World} {g : Nat} {x : Value} (h : W.cell? ⟨g, 0, none⟩ = some x) : g < W.heap.size := World.block_lt_of_cell? W ⟨g, 0, none⟩ h

/-- Take an operation first whose guard says yes. -/
theorem take_yes {P : Program} {md : Region.Mode} {ops : Array Oper} {Q : Exit → Act → World → Prop} {S : World → Prop} {i : Nat} {oi : Oper} {fuel : Nat} {listed : Array Bool} {a : Act} {w : World} (dst : Option Tmp) (v : Value) (hi : ops[i]? = some oi) (hd : oi.dst = dst)
    (hs : Region.noSelect ops = true) (hf : Region.free md ops listed i = true) (hr : (Region.ready md ops listed).contains i = true)
    (hQ : ∀ c a w, Q (.panic c) (a.put dst v) w → Q (.panic c) a w) (hw : Region.wanted oi (yielded ops a.tmps) = true) (hS : S w) (hy : ∀ w, S w → (execOp a.eval oi).run P w = .ok (.value v) w)
    (h : wpAnyH P md ops Q S fuel (listed.setIfInBounds i true) (a.put dst v) w) : wpAnyH P md ops Q S (fuel + 1) listed a w := by
  subst hd
  exact wpAnyH_take hi hs hf hr hQ (Or.inl ⟨hw, hy⟩) hS h
/-- Pass an operation by whose guard says no. -/
theorem take_no {P : Program} {md : Region.Mode} {ops : Array Oper} {Q : Exit → Act → World → Prop} {S : World → Prop} {i : Nat} {oi : Oper} {fuel : Nat} {listed : Array Bool} {a : Act} {w : World} (dst : Option Tmp) (hi : ops[i]? = some oi) (hd : oi.dst = dst)
    (hs : Region.noSelect ops = true) (hf : Region.free md ops listed i = true) (hr : (Region.ready md ops listed).contains i = true)
    (hQ : ∀ c a w, Q (.panic c) (a.put dst undef) w → Q (.panic c) a w) (hw : Region.wanted oi (yielded ops a.tmps) = false) (hS : S w)
    (h : wpAnyH P md ops Q S fuel (listed.setIfInBounds i true) (a.put dst undef) w) : wpAnyH P md ops Q S (fuel + 1) listed a w := by
  subst hd
  exact wpAnyH_take hi hs hf hr hQ (Or.inr ⟨hw, rfl⟩) hS h

set_option maxHeartbeats 1000000 in
theorem great_no (A : Option Addr) (n c : Nat) (B : Option Addr) (m c2 : Nat) (w : World) (h1 : n ≤ 10) (h2 : m ≤ 200) :
    Calls Tryd.prog 10 #[.agg #[.slice A n c, .slice B m c2]] w fun e w' => e = .returned (.bool false) ∧ Below w.heap.size w w' := by
  go_enter Tryd.func10, Tryd.ntmps10
  go_wp2
  go_ret
  exact ⟨ret_bool (by first | (simp; done) | (simp; omega)), (Below.refl _ _).alloc (Nat.le_refl _) _⟩
set_option maxHeartbeats 1000000 in
theorem great_yes (A : Option Addr) (n c : Nat) (B : Option Addr) (m c2 : Nat) (w : World) (h : ¬ (n ≤ 10 ∧ m ≤ 200)) :
    Calls Tryd.prog 10 #[.agg #[.slice A n c, .slice B m c2]] w fun e w' => e = .returned (.bool true) ∧ Below w.heap.size w w' := by
  by_cases h1 : n ≤ 10
  · have h2 : 200 < m := by omega
    clear h
    go_enter Tryd.func10, Tryd.ntmps10
    go_wp2
    go_ret
    exact ⟨ret_bool (by first | (simp; done) | (simp; omega)), (Below.refl _ _).alloc (Nat.le_refl _) _⟩
  · have h2 : 10 < n := by omega
    clear h
    go_enter Tryd.func10, Tryd.ntmps10
    go_wp2
    go_ret
    exact ⟨ret_bool (by first | (simp; done) | (simp; omega)), (Below.refl _ _).alloc (Nat.le_refl _) _⟩

theorem right_yes (A : Option Addr) (c : Nat) (d : List Int) (w : World) (h : rightB d = true) (hl : d.length ≤ maxLen) (hi : Ints w A d) :
    Calls Tryd.prog 73 #[.slice A d.length c] w fun e w' => e = .returned (.bool true) ∧ Below w.heap.size w w' :=
  (right_any A c d w hl hi).mono fun _ _ ⟨a, b⟩ => ⟨by rw [a, h], b⟩
theorem right_no (A : Option Addr) (c : Nat) (d : List Int) (w : World) (h : rightB d = false) (hl : d.length ≤ maxLen) (hi : Ints w A d) :
    Calls Tryd.prog 73 #[.slice A d.length c] w fun e w' => e = .returned (.bool false) ∧ Below w.heap.size w w' :=
  (right_any A c d w hl hi).mono fun _ _ ⟨a, b⟩ => ⟨by rw [a, h], b⟩
theorem refRight_yes (A : Option Addr) (c : Nat) (d : List Int) (w : World) (h : rightB d = true) (hl : d.length ≤ maxLen) (hi : Ints w A d) :
    Calls Tryd.prog 43 #[.slice A d.length c] w fun e w' => e = .returned (.bool true) ∧ w = w' :=
  (refRight_any A c d w hl hi).mono fun _ _ ⟨a, b⟩ => ⟨by rw [a, h], b⟩
theorem refRight_no (A : Option Addr) (c : Nat) (d : List Int) (w : World) (h : rightB d = false) (hl : d.length ≤ maxLen) (hi : Ints w A d) :
    Calls Tryd.prog 43 #[.slice A d.length c] w fun e w' => e = .returned (.bool false) ∧ w = w' :=
  (refRight_any A c d w hl hi).mono fun _ _ ⟨a, b⟩ => ⟨by rw [a, h], b⟩

theorem refRightB_yes (A : Option Addr) (c : Nat) (d : List Int) (w : World) (h : rightB d = true) (hl : d.length ≤ maxLen) (hi : Ints w A d) :
    Calls Tryd.prog 43 #[.slice A d.length c] w fun e w' => e = .returned (.bool true) ∧ Below w.heap.size w w' :=
  (refRight_any A c d w hl hi).mono fun _ _ ⟨a, b⟩ => ⟨by rw [a, h], by rw [← b]; exact Below.refl _ _⟩
theorem refRightB_no (A : Option Addr) (c : Nat) (d : List Int) (w : World) (h : rightB d = false) (hl : d.length ≤ maxLen) (hi : Ints w A d) :
    Calls Tryd.prog 43 #[.slice A d.length c] w fun e w' => e = .returned (.bool false) ∧ Below w.heap.size w w' :=
  (refRight_any A c d w hl hi).mono fun _ _ ⟨a, b⟩ => ⟨by rw [a, h], by rw [← b]; exact Below.refl _ _⟩
theorem refSizeB (A : Option Addr) (c : Nat) (d : List Int) (w : World) (hl : d.length ≤ maxLen) (hi : Ints w A d) :
    Calls Tryd.prog 78 #[.slice A d.length c] w fun e w' => e = .returned (.int .i64 (sizeI d)) ∧ Below w.heap.size w w' :=
  (refSize_any A c d w hl hi).mono fun _ _ ⟨a, b⟩ => ⟨a, by rw [← b]; exact Below.refl _ _⟩

set_option maxHeartbeats 1000000 in
theorem cright_any (A : Option Addr) (c : Nat) (d : List Int) (B : Option Addr) (n c2 : Nat) (w : World) (hl : d.length ≤ maxLen) (hi : Ints w A d) :
    Calls Tryd.prog 35 #[.agg #[.slice A d.length c, .slice B n c2]] w fun e w' => e = .returned (.bool (cellB d n)) ∧ Below w.heap.size w w' := by
  have hB0 : Below w.heap.size w (w.alloc (.cells #[.slice A d.length c, .slice B n c2] 29)) := (Below.refl _ w).alloc (Nat.le_refl _) _
  have hi0 := hi.below hB0
  have hS : (w.alloc (.cells #[.slice A d.length c, .slice B n c2] 29)).cell? ⟨w.heap.size, 0, none⟩ = some (.slice A d.length c) ∧ (w.alloc (.cells #[.slice A d.length c, .slice B n c2] 29)).cell? ⟨w.heap.size, 1, none⟩ = some (.slice B n c2) :=
    ⟨by rw [World.cell?_alloc_at _ _ _ _ (by simp)]; rfl, by rw [World.cell?_alloc_at _ _ _ _ (by simp)]; rfl⟩
  have HB0 := Lib.hid hB0
  have HI0 := Lib.hid hi0
  have HS := Lib.hid hS
  clear hB0 hi0 hi hS
  by_cases hR : rightB d = true
  · have HR := Lib.hid hR
    have HC := Lib.hid (cellB_is (n := n) hR)
    clear hR
    go_enter Tryd.func35, Tryd.ntmps35
    go_wp2_with fail
    have hS := HS.out
    have hi0 := HI0.out
    generalize w.alloc (.cells #[.slice A d.length c, .slice B n c2] 29) = W0 at *
    generalize hg : w.heap.size = g at *
    have HG := Lib.hid hg
    clear hg HS HI0
    rw [← HG.out] at HB0
    go_region_held3 (fun w' => w'.cell? ⟨g, 0, none⟩ = some (.slice A d.length c) ∧ w'.cell? ⟨g, 1, none⟩ = some (.slice B n c2))
      (first
        | go_keep
        | exact keepC hb1 (by go_keep)
        | exact keepC hb2 (by go_keep))
      (first
        | (go_at_call 73; refine (right_yes _ _ d _ HR.out hl (by exact hi0)).mono ?_; rintro e w1 ⟨rfl, hb1⟩; have hi1 := Ints.below (A := A) (l := d) (by exact hi0) hb1; have HB1 := Lib.hid (Go.Proofs.YtbanegjmapgkdaaDoor.Sh.below_next (a := w) (by first | exact HB0.out | exact HB0.out.drew | exact below_drewN HB0.out _) hb1))
        | (go_at_call 36; refine (size_any _ _ d _ hl (by exact hi1)).mono ?_; rintro e w2 ⟨rfl, hb2⟩; have HB2 := Lib.hid (Go.Proofs.YtbanegjmapgkdaaDoor.Sh.below_next (a := w) (by first | exact HB1.out | exact HB1.out.drew | exact below_drewN HB1.out _) hb2)))
    go_wp2
    go_ret
    exact ⟨ret_bool (by rw [HC.out]; first | rfl | (simp; done) | (rw [Bool.eq_iff_iff]; simp; omega)), by first | exact HB2.out | exact HB2.out.drew | exact below_drewN HB2.out _⟩
  · have HR := Lib.hid (show rightB d = false by simpa using hR)
    have HC := Lib.hid (cellB_not (n := n) HR.out)
    clear hR
    go_enter Tryd.func35, Tryd.ntmps35
    go_wp2_with fail
    have hS := HS.out
    have hi0 := HI0.out
    generalize w.alloc (.cells #[.slice A d.length c, .slice B n c2] 29) = W0 at *
    generalize hg : w.heap.size = g at *
    have HG := Lib.hid hg
    clear hg HS HI0
    rw [← HG.out] at HB0
    refine wp_region_held_drew (S := fun w' => w'.cell? ⟨g, 0, none⟩ = some (.slice A d.length c) ∧ w'.cell? ⟨g, 1, none⟩ = some (.slice B n c2)) (by kernel_rfl) ?_ (fun hHeld => ?_)
    · exact hS
    refine take_yes (i := 0) (some 3) (.pointer (some ⟨g, 0, none⟩)) rfl rfl (by kernel_rfl) (by kernel_rfl) (by kernel_rfl) (fun _ _ _ h => h) (by rfl) (by assumption) ?_ ?_
    · intro w hSw; (try dsimp only at hSw); go_simp
    simp only [Act.put, List.setIfInBounds_toArray, List.set_cons_zero, List.set_cons_succ]
    refine take_yes (i := 1) (some 4) (.slice A d.length c) rfl rfl (by kernel_rfl) (by kernel_rfl) (by kernel_rfl) (fun _ _ _ h => h) (by rfl) (by assumption) ?_ ?_
    · intro w hSw; (try dsimp only at hSw); go_simp
    simp only [Act.put, List.setIfInBounds_toArray, List.set_cons_zero, List.set_cons_succ]
    refine wpAnyH_ready (rs := [2]) (by kernel_rfl) (by simp) ?_
    refine AllReadyH.cons rfl (fun K hK => ?_) AllReadyH.nil
    go_simp
    (go_at_call 73; refine (right_no _ _ d _ HR.out hl (by exact hi0)).mono ?_; rintro e w1 ⟨rfl, hb1⟩; have hi1 := Ints.below (A := A) (l := d) (by exact hi0) hb1; have HB1 := Lib.hid (Go.Proofs.YtbanegjmapgkdaaDoor.Sh.below_next (a := w) (by first | exact HB0.out | exact HB0.out.drew | exact below_drewN HB0.out _) hb1))
    go_wp2_with fail
    refine hK.out _ _ (keepC hb1 (by go_keep)) (fun hHeld2 => ?_)
    clear hK K
    refine take_yes (i := 3) (some 6) (.bool false) rfl rfl (by kernel_rfl) (by kernel_rfl) (by kernel_rfl) (fun _ _ _ h => h) (by rfl) (by assumption) ?_ ?_
    · intro w hSw; (try dsimp only at hSw); go_simp
    simp only [Act.put, List.setIfInBounds_toArray, List.set_cons_zero, List.set_cons_succ]
    refine take_no (i := 4) (some 7) rfl rfl (by kernel_rfl) (by kernel_rfl) (by kernel_rfl) (fun _ _ _ h => h) (by rfl) (by assumption) ?_
    simp only [Act.put, List.setIfInBounds_toArray, List.set_cons_zero, List.set_cons_succ]
    refine take_no (i := 5) (some 8) rfl rfl (by kernel_rfl) (by kernel_rfl) (by kernel_rfl) (fun _ _ _ h => h) (by rfl) (by assumption) ?_
    simp only [Act.put, List.setIfInBounds_toArray, List.set_cons_zero, List.set_cons_succ]
    refine take_no (i := 6) (some 9) rfl rfl (by kernel_rfl) (by kernel_rfl) (by kernel_rfl) (fun _ _ _ h => h) (by rfl) (by assumption) ?_
    simp only [Act.put, List.setIfInBounds_toArray, List.set_cons_zero, List.set_cons_succ]
    refine take_no (i := 7) (some 10) rfl rfl (by kernel_rfl) (by kernel_rfl) (by kernel_rfl) (fun _ _ _ h => h) (by rfl) (by assumption) ?_
    simp only [Act.put, List.setIfInBounds_toArray, List.set_cons_zero, List.set_cons_succ]
    refine take_no (i := 8) (some 11) rfl rfl (by kernel_rfl) (by kernel_rfl) (by kernel_rfl) (fun _ _ _ h => h) (by rfl) (by assumption) ?_
    simp only [Act.put, List.setIfInBounds_toArray, List.set_cons_zero, List.set_cons_succ]
    refine take_no (i := 9) (some 12) rfl rfl (by kernel_rfl) (by kernel_rfl) (by kernel_rfl) (fun _ _ _ h => h) (by rfl) (by assumption) ?_
    simp only [Act.put, List.setIfInBounds_toArray, List.set_cons_zero, List.set_cons_succ]
    refine take_no (i := 10) (some 13) rfl rfl (by kernel_rfl) (by kernel_rfl) (by kernel_rfl) (fun _ _ _ h => h) (by rfl) (by assumption) ?_
    simp only [Act.put, List.setIfInBounds_toArray, List.set_cons_zero, List.set_cons_succ]
    refine take_yes (i := 11) (some 14) (.bool false) rfl rfl (by kernel_rfl) (by kernel_rfl) (by kernel_rfl) (fun _ _ _ h => h) (by rfl) (by assumption) ?_ ?_
    · intro w hSw; (try dsimp only at hSw); go_simp
    simp only [Act.put, List.setIfInBounds_toArray, List.set_cons_zero, List.set_cons_succ]
    refine take_yes (i := 12) (some 2) (.bool false) rfl rfl (by kernel_rfl) (by kernel_rfl) (by kernel_rfl) (fun _ _ _ h => h) (by rfl) (by assumption) ?_ ?_
    · intro w hSw; (try dsimp only at hSw); go_simp
    simp only [Act.put, List.setIfInBounds_toArray, List.set_cons_zero, List.set_cons_succ]
    refine wpAnyH_done (by kernel_rfl) ?_ _
    go_wp2
    go_ret
    exact ⟨ret_bool HC.out.symm, by first | exact HB1.out | exact HB1.out.drew | exact below_drewN HB1.out _⟩

set_option maxHeartbeats 1000000 in
theorem rright_any (A : Option Addr) (c : Nat) (d : List Int) (B : Option Addr) (n c2 : Nat) (w : World) (hl : d.length ≤ maxLen) (hi : Ints w A d) :
    Calls Tryd.prog 40 #[.agg #[.slice A d.length c, .slice B n c2]] w fun e w' => e = .returned (.bool (cellB d n)) ∧ Below w.heap.size w w' := by
  have hB0 : Below w.heap.size w (w.alloc (.cells #[.slice A d.length c, .slice B n c2] 29)) := (Below.refl _ w).alloc (Nat.le_refl _) _
  have hi0 := hi.below hB0
  have hS : (w.alloc (.cells #[.slice A d.length c, .slice B n c2] 29)).cell? ⟨w.heap.size, 0, none⟩ = some (.slice A d.length c) ∧ (w.alloc (.cells #[.slice A d.length c, .slice B n c2] 29)).cell? ⟨w.heap.size, 1, none⟩ = some (.slice B n c2) :=
    ⟨by rw [World.cell?_alloc_at _ _ _ _ (by simp)]; rfl, by rw [World.cell?_alloc_at _ _ _ _ (by simp)]; rfl⟩
  have HB0 := Lib.hid hB0
  have HI0 := Lib.hid hi0
  have HS := Lib.hid hS
  clear hB0 hi0 hi hS
  by_cases hR : rightB d = true
  · have HR := Lib.hid hR
    have HC := Lib.hid (cellB_is (n := n) hR)
    clear hR
    go_enter Tryd.func40, Tryd.ntmps40
    go_wp2_with fail
    have hS := HS.out
    have hi0 := HI0.out
    generalize w.alloc (.cells #[.slice A d.length c, .slice B n c2] 29) = W0 at *
    generalize hg : w.heap.size = g at *
    have HG := Lib.hid hg
    clear hg HS HI0
    rw [← HG.out] at HB0
    go_region_held3 (fun w' => w'.cell? ⟨g, 0, none⟩ = some (.slice A d.length c) ∧ w'.cell? ⟨g, 1, none⟩ = some (.slice B n c2))
      (first
        | go_keep
        | exact keepC hb1 (by go_keep)
        | exact keepC hb2 (by go_keep))
      (first
        | (go_at_call 43; refine (refRightB_yes _ _ d _ HR.out hl (by exact hi0)).mono ?_; rintro e w1 ⟨rfl, hb1⟩; have hi1 := Ints.below (A := A) (l := d) (by exact hi0) hb1; have HB1 := Lib.hid (Go.Proofs.YtbanegjmapgkdaaDoor.Sh.below_next (a := w) (by first | exact HB0.out | exact HB0.out.drew | exact below_drewN HB0.out _) hb1))
        | (go_at_call 78; refine (refSizeB _ _ d _ hl (by exact hi1)).mono ?_; rintro e w2 ⟨rfl, hb2⟩; have HB2 := Lib.hid (Go.Proofs.YtbanegjmapgkdaaDoor.Sh.below_next (a := w) (by first | exact HB1.out | exact HB1.out.drew | exact below_drewN HB1.out _) hb2)))
    go_wp2
    go_ret
    exact ⟨ret_bool (by rw [HC.out]; first | rfl | (simp; done) | (rw [Bool.eq_iff_iff]; simp; omega)), by first | exact HB2.out | exact HB2.out.drew | exact below_drewN HB2.out _⟩
  · have HR := Lib.hid (show rightB d = false by simpa using hR)
    have HC := Lib.hid (cellB_not (n := n) HR.out)
    clear hR
    go_enter Tryd.func40, Tryd.ntmps40
    go_wp2_with fail
    have hS := HS.out
    have hi0 := HI0.out
    generalize w.alloc (.cells #[.slice A d.length c, .slice B n c2] 29) = W0 at *
    generalize hg : w.heap.size = g at *
    have HG := Lib.hid hg
    clear hg HS HI0
    rw [← HG.out] at HB0
    refine wp_region_held_drew (S := fun w' => w'.cell? ⟨g, 0, none⟩ = some (.slice A d.length c) ∧ w'.cell? ⟨g, 1, none⟩ = some (.slice B n c2)) (by kernel_rfl) ?_ (fun hHeld => ?_)
    · exact hS
    refine take_yes (i := 0) (some 3) (.pointer (some ⟨g, 0, none⟩)) rfl rfl (by kernel_rfl) (by kernel_rfl) (by kernel_rfl) (fun _ _ _ h => h) (by rfl) (by assumption) ?_ ?_
    · intro w hSw; (try dsimp only at hSw); go_simp
    simp only [Act.put, List.setIfInBounds_toArray, List.set_cons_zero, List.set_cons_succ]
    refine take_yes (i := 1) (some 4) (.slice A d.length c) rfl rfl (by kernel_rfl) (by kernel_rfl) (by kernel_rfl) (fun _ _ _ h => h) (by rfl) (by assumption) ?_ ?_
    · intro w hSw; (try dsimp only at hSw); go_simp
    simp only [Act.put, List.setIfInBounds_toArray, List.set_cons_zero, List.set_cons_succ]
    refine wpAnyH_ready (rs := [2]) (by kernel_rfl) (by simp) ?_
    refine AllReadyH.cons rfl (fun K hK => ?_) AllReadyH.nil
    go_simp
    (go_at_call 43; refine (refRightB_no _ _ d _ HR.out hl (by exact hi0)).mono ?_; rintro e w1 ⟨rfl, hb1⟩; have hi1 := Ints.below (A := A) (l := d) (by exact hi0) hb1; have HB1 := Lib.hid (Go.Proofs.YtbanegjmapgkdaaDoor.Sh.below_next (a := w) (by first | exact HB0.out | exact HB0.out.drew | exact below_drewN HB0.out _) hb1))
    go_wp2_with fail
    refine hK.out _ _ (keepC hb1 (by go_keep)) (fun hHeld2 => ?_)
    clear hK K
    refine take_yes (i := 3) (some 6) (.bool false) rfl rfl (by kernel_rfl) (by kernel_rfl) (by kernel_rfl) (fun _ _ _ h => h) (by rfl) (by assumption) ?_ ?_
    · intro w hSw; (try dsimp only at hSw); go_simp
    simp only [Act.put, List.setIfInBounds_toArray, List.set_cons_zero, List.set_cons_succ]
    refine take_no (i := 4) (some 7) rfl rfl (by kernel_rfl) (by kernel_rfl) (by kernel_rfl) (fun _ _ _ h => h) (by rfl) (by assumption) ?_
    simp only [Act.put, List.setIfInBounds_toArray, List.set_cons_zero, List.set_cons_succ]
    refine take_no (i := 5) (some 8) rfl rfl (by kernel_rfl) (by kernel_rfl) (by kernel_rfl) (fun _ _ _ h => h) (by rfl) (by assumption) ?_
    simp only [Act.put, List.setIfInBounds_toArray, List.set_cons_zero, List.set_cons_succ]
    refine take_no (i := 6) (some 9) rfl rfl (by kernel_rfl) (by kernel_rfl) (by kernel_rfl) (fun _ _ _ h => h) (by rfl) (by assumption) ?_
    simp only [Act.put, List.setIfInBounds_toArray, List.set_cons_zero, List.set_cons_succ]
    refine take_no (i := 7) (some 10) rfl rfl (by kernel_rfl) (by kernel_rfl) (by kernel_rfl) (fun _ _ _ h => h) (by rfl) (by assumption) ?_
    simp only [Act.put, List.setIfInBounds_toArray, List.set_cons_zero, List.set_cons_succ]
    refine take_no (i := 8) (some 11) rfl rfl (by kernel_rfl) (by kernel_rfl) (by kernel_rfl) (fun _ _ _ h => h) (by rfl) (by assumption) ?_
    simp only [Act.put, List.setIfInBounds_toArray, List.set_cons_zero, List.set_cons_succ]
    refine take_no (i := 9) (some 12) rfl rfl (by kernel_rfl) (by kernel_rfl) (by kernel_rfl) (fun _ _ _ h => h) (by rfl) (by assumption) ?_
    simp only [Act.put, List.setIfInBounds_toArray, List.set_cons_zero, List.set_cons_succ]
    refine take_no (i := 10) (some 13) rfl rfl (by kernel_rfl) (by kernel_rfl) (by kernel_rfl) (fun _ _ _ h => h) (by rfl) (by assumption) ?_
    simp only [Act.put, List.setIfInBounds_toArray, List.set_cons_zero, List.set_cons_succ]
    refine take_yes (i := 11) (some 14) (.bool false) rfl rfl (by kernel_rfl) (by kernel_rfl) (by kernel_rfl) (fun _ _ _ h => h) (by rfl) (by assumption) ?_ ?_
    · intro w hSw; (try dsimp only at hSw); go_simp
    simp only [Act.put, List.setIfInBounds_toArray, List.set_cons_zero, List.set_cons_succ]
    refine take_yes (i := 12) (some 2) (.bool false) rfl rfl (by kernel_rfl) (by kernel_rfl) (by kernel_rfl) (fun _ _ _ h => h) (by rfl) (by assumption) ?_ ?_
    · intro w hSw; (try dsimp only at hSw); go_simp
    simp only [Act.put, List.setIfInBounds_toArray, List.set_cons_zero, List.set_cons_succ]
    refine wpAnyH_done (by kernel_rfl) ?_ _
    go_wp2
    go_ret
    exact ⟨ret_bool HC.out.symm, by first | exact HB1.out | exact HB1.out.drew | exact below_drewN HB1.out _⟩

end Go.Proofs.YtbanegjmapgkdaaDoor.Sh
-- CellAt
namespace Go.Proofs.YtbanegjmapgkdaaDoor.Sh
open Go.RowKit
set_option linter.unusedVariables false

/-- The world behind the boxing of a cell. -/
theorem boxed (w : World) (x y : Value) : ((w.alloc (.cells #[x, y] 29)).cell? ⟨w.heap.size, 0, none⟩ = some x ∧ (w.alloc (.cells #[x, y] 29)).cell? ⟨w.heap.size, 1, none⟩ = some y) ∧ Below w.heap.size w (w.alloc (.cells #[x, y] 29)) :=
  ⟨⟨by rw [World.cell?_alloc_at _ _ _ _ (by simp)]; rfl, by rw [World.cell?_alloc_at _ _ _ _ (by simp)]; rfl⟩, (Below.refl _ w).alloc (Nat.le_refl _) _⟩
theorem below_box {w w1 : World} {o : Obj} (h : Below (w.alloc o).heap.size (w.alloc o) w1) : Below w.heap.size w w1 := ((Below.refl _ w).alloc (Nat.le_refl _) o).trans (h.mono (by simp))

def sameB (d v e u : List Int) : Bool := decide (d = e) && decide (v = u)
section
variable (A : Option Addr) (c : Nat) (a : List Int) (B : Option Addr) (d : Nat) (b : List Int) (w : World) (hl : a.length ≤ maxLen) (hl2 : b.length ≤ maxLen) (ha : Ints w A a) (hb : Ints w B b)
include hl hl2 ha hb
theorem same_yes (h : a = b) : Calls Tryd.prog 80 #[.slice A a.length c, .slice B b.length d] w fun e w' => e = .returned (.bool true) ∧ Below w.heap.size w w' :=
  (same_any A c a B d b w hl hl2 ha hb).mono fun _ _ ⟨e, n, q⟩ => ⟨by rw [e, decide_eq_true h], by rw [q]; exact below_drewN (Below.refl _ _) n⟩
theorem same_no (h : ¬ a = b) : Calls Tryd.prog 80 #[.slice A a.length c, .slice B b.length d] w fun e w' => e = .returned (.bool false) ∧ Below w.heap.size w w' :=
  (same_any A c a B d b w hl hl2 ha hb).mono fun _ _ ⟨e, n, q⟩ => ⟨by rw [e, decide_eq_false h], by rw [q]; exact below_drewN (Below.refl _ _) n⟩
theorem refSame_yes (h : a = b) : Calls Tryd.prog 48 #[.slice A a.length c, .slice B b.length d] w fun e w' => e = .returned (.bool true) ∧ Below w.heap.size w w' :=
  (refSame_any A c a B d b w hl hl2 ha hb).mono fun _ _ ⟨e, n, q⟩ => ⟨by rw [e, decide_eq_true h], by rw [q]; exact below_drewN (Below.refl _ _) n⟩
theorem refSame_no (h : ¬ a = b) : Calls Tryd.prog 48 #[.slice A a.length c, .slice B b.length d] w fun e w' => e = .returned (.bool false) ∧ Below w.heap.size w w' :=
  (refSame_any A c a B d b w hl hl2 ha hb).mono fun _ _ ⟨e, n, q⟩ => ⟨by rw [e, decide_eq_false h], by rw [q]; exact below_drewN (Below.refl _ _) n⟩
theorem nums_b : Calls Tryd.prog 28 #[.slice A a.length c, .slice B b.length d] w fun e w' => e = .returned (.bool (decide (a = b))) ∧ Below w.heap.size w w' :=
  (nums_any A c a B d b w hl hl2 ha hb).mono fun _ _ ⟨e, n, q⟩ => ⟨e, by rw [q]; exact below_drewN (Below.refl _ _) n⟩
end

/-- The two boxes of cells of a call that takes two. -/
theorem boxed2 (w : World) (x y z u : Value) (w1 : World) (h : Below ((w.alloc (.cells #[x, y] 29)).alloc (.cells #[z, u] 29)).heap.size ((w.alloc (.cells #[x, y] 29)).alloc (.cells #[z, u] 29)) w1) :
    w1.cell? ⟨w.heap.size, 1, none⟩ = some y ∧ w1.cell? ⟨w.heap.size + 1, 1, none⟩ = some u ∧ Below w.heap.size w w1 := by
  have h1 := (boxed w x y).1
  have h2 := (boxed (w.alloc (.cells #[x, y] 29)) z u).1
  rw [show (w.alloc (.cells #[x, y] 29)).heap.size = w.heap.size + 1 from by simp] at h2
  refine ⟨?_, (keepC h h2).2, below_box (below_box h)⟩
  rw [h.cell (p := ⟨w.heap.size, 1, none⟩) (by simp; omega), World.cell?_alloc_past _ _ _ (by simp)]
  exact h1.2

set_option maxHeartbeats 1000000 in
theorem rsame_any (A : Option Addr) (c : Nat) (d : List Int) (B : Option Addr) (c2 : Nat) (v : List Int) (A' : Option Addr) (c' : Nat) (e : List Int) (B' : Option Addr) (c2' : Nat) (u : List Int) (w : World)
    (hd : d.length ≤ maxLen) (hv : v.length ≤ maxLen) (he : e.length ≤ maxLen) (hu : u.length ≤ maxLen) (id : Ints w A d) (iv : Ints w B v) (ie : Ints w A' e) (iu : Ints w B' u) :
    Calls Tryd.prog 14 #[.agg #[.slice A d.length c, .slice B v.length c2], .agg #[.slice A' e.length c', .slice B' u.length c2']] w fun r w' => r = .returned (.bool (sameB d v e u)) ∧ Below w.heap.size w w' := by
  have hb2 : Below w.heap.size w ((w.alloc (.cells #[.slice A d.length c, .slice B v.length c2] 29)).alloc (.cells #[.slice A' e.length c', .slice B' u.length c2'] 29)) := below_box (below_box (Below.refl _ _))
  have jd := Lib.hid (id.below hb2)
  have je := Lib.hid (ie.below hb2)
  by_cases h : d = e
  · have H := Lib.hid h
    have HS : Hid (sameB d v e u = decide (v = u)) := Lib.hid (by simp [sameB, h])
    have IV := Lib.hid iv
    have IU := Lib.hid iu
    clear h id iv ie iu hb2
    go_enter Tryd.func14, Tryd.ntmps14
    go_wp2_with fail
    refine (refSame_yes _ _ d _ _ e _ hd he jd.out je.out H.out).mono ?_
    rintro r w1 ⟨rfl, hb1⟩
    obtain ⟨h1, h2, h3⟩ := boxed2 w _ _ _ _ w1 hb1
    have kv := Lib.hid (IV.out.below h3)
    have ku := Lib.hid (IU.out.below h3)
    have H3 := Lib.hid h3
    clear hb1 h3
    go_wp2_with fail
    refine (nums_b _ _ v _ _ u _ hv hu kv.out ku.out).mono ?_
    rintro r w2 ⟨rfl, hb2⟩
    have H4 := Lib.hid (below_next H3.out hb2)
    clear hb2
    go_wp2
    go_ret
    exact ⟨ret_bool HS.out.symm, H4.out⟩
  · have H := Lib.hid h
    have HS : Hid (sameB d v e u = false) := Lib.hid (by simp [sameB, h])
    clear h id iv ie iu hb2
    go_enter Tryd.func14, Tryd.ntmps14
    go_wp2_with fail
    refine (refSame_no _ _ d _ _ e _ hd he jd.out je.out H.out).mono ?_
    rintro r w1 ⟨rfl, hb1⟩
    have H3 := Lib.hid (boxed2 w _ _ _ _ w1 hb1).2.2
    clear hb1
    go_wp2
    go_ret
    exact ⟨ret_bool HS.out.symm, H3.out⟩


/-- Is there a number at a place of a cell, and which? -/
def atB (d v p : List Int) : Bool := cellB d v.length && decide (0 ≤ idxI d p)
def atI (d v p : List Int) : Int := if atB d v p = true then v.getD (idxI d p).toNat 0 else 0
theorem atB_not {d v p : List Int} (h : cellB d v.length = false) : atB d v p = false ∧ atI d v p = 0 := by simp [atB, atI, h]
theorem atB_out {d v p : List Int} (h : ¬ 0 ≤ idxI d p) : atB d v p = false ∧ atI d v p = 0 := by simp [atB, atI, h]
theorem atB_is {d v p : List Int} (h : cellB d v.length = true) (hi : 0 ≤ idxI d p) : atB d v p = true ∧ atI d v p = v.getD (idxI d p).toNat 0 := by simp [atB, atI, h, hi]
theorem cellB_parts {d : List Int} {n : Nat} (h : cellB d n = true) : rightB d = true ∧ (n : Int) = sizeI d := by simpa [cellB] using h
theorem idx_lt {d p : List Int} {n : Nat} (h : cellB d n = true) (hi : 0 ≤ idxI d p) : idxI d p < n := by
  obtain ⟨hr, hn⟩ := cellB_parts h
  unfold idxI at hi ⊢
  split at hi
  · rename_i hh
    rw [if_pos hh]
    have := (hor_bd d p hh.2).2
    have hs : sizeI d = prod d := by simp [sizeI, hr]
    omega
  · omega

section
variable (A : Option Addr) (c : Nat) (d : List Int) (B : Option Addr) (n c2 : Nat) (w : World) (hl : d.length ≤ maxLen) (hi : Ints w A d)
include hl hi
theorem cright_yes (h : cellB d n = true) : Calls Tryd.prog 35 #[.agg #[.slice A d.length c, .slice B n c2]] w fun e w' => e = .returned (.bool true) ∧ Below w.heap.size w w' :=
  (cright_any A c d B n c2 w hl hi).mono fun _ _ ⟨a, b⟩ => ⟨by rw [a, h], b⟩
theorem cright_no (h : cellB d n = false) : Calls Tryd.prog 35 #[.agg #[.slice A d.length c, .slice B n c2]] w fun e w' => e = .returned (.bool false) ∧ Below w.heap.size w w' :=
  (cright_any A c d B n c2 w hl hi).mono fun _ _ ⟨a, b⟩ => ⟨by rw [a, h], b⟩
theorem rright_yes (h : cellB d n = true) : Calls Tryd.prog 40 #[.agg #[.slice A d.length c, .slice B n c2]] w fun e w' => e = .returned (.bool true) ∧ Below w.heap.size w w' :=
  (rright_any A c d B n c2 w hl hi).mono fun _ _ ⟨a, b⟩ => ⟨by rw [a, h], b⟩
theorem rright_no (h : cellB d n = false) : Calls Tryd.prog 40 #[.agg #[.slice A d.length c, .slice B n c2]] w fun e w' => e = .returned (.bool false) ∧ Below w.heap.size w w' :=
  (rright_any A c d B n c2 w hl hi).mono fun _ _ ⟨a, b⟩ => ⟨by rw [a, h], b⟩
end

set_option maxHeartbeats 1000000 in
theorem cat_any (A : Option Addr) (c : Nat) (d : List Int) (B : Option Addr) (c2 : Nat) (v : List Int) (C : Option Addr) (c3 : Nat) (p : List Int) (w : World)
    (hd : d.length ≤ maxLen) (hv : v.length ≤ maxLen) (hp : p.length ≤ maxLen) (id : Ints w A d) (iv : Ints w B v) (ip : Ints w C p) :
    Calls Tryd.prog 83 #[.agg #[.slice A d.length c, .slice B v.length c2], .slice C p.length c3] w fun r w' => r = .returned (.tuple #[.int .i64 (atI d v p), .bool (atB d v p)]) ∧ Below w.heap.size w w' := by
  unfold maxLen at hv
  have hS := boxed w (.slice A d.length c) (.slice B v.length c2)
  have jd := Lib.hid (id.below hS.2)
  have HS := Lib.hid hS
  have ID := Lib.hid id
  have IV := Lib.hid iv
  have IP := Lib.hid ip
  clear id iv ip hS
  by_cases hR : cellB d v.length = true
  · have HR := Lib.hid hR
    by_cases h0 : 0 ≤ idxI d p
    · have hlt := idx_lt hR h0
      have HA := Lib.hid (atB_is (p := p) hR h0)
      clear hR
      go_enter Tryd.func83, Tryd.ntmps83
      go_wp2_with fail
      refine (cright_yes _ _ d _ _ _ _ hd jd.out HR.out).mono ?_
      rintro r w1 ⟨rfl, hb1⟩
      obtain ⟨k0, k1⟩ := keepC hb1 HS.out.1
      have H1 := Lib.hid (HS.out.2.trans (hb1.mono (by simp)))
      have i1 := Lib.hid (ID.out.below H1.out)
      have j1 := Lib.hid (IP.out.below H1.out)
      clear hb1
      go_wp2_with fail
      refine (index_any _ _ d _ _ p _ hd hp i1.out j1.out).mono ?_
      rintro r w2 ⟨rfl, hb2⟩
      obtain ⟨q0, q1⟩ := keepC hb2 ⟨k0, k1⟩
      have H2 := Lib.hid (below_next H1.out hb2)
      obtain ⟨b, off, rfl, hb, hcs⟩ := IV.out.below H2.out (by omega)
      have hck := hcs (idxI d p).toNat (by omega)
      clear hb2 k0 k1 hcs
      generalize v.getD (idxI d p).toNat 0 = z at *
      generalize idxI d p = q at *
      go_wp2
      go_ret2
      exact ⟨ret_two HA.out.2.symm HA.out.1.symm, H2.out⟩
    · have h1 : idxI d p < 0 := by omega
      have HA := Lib.hid (atB_out (v := v) h0)
      clear hR h0
      go_enter Tryd.func83, Tryd.ntmps83
      go_wp2_with fail
      refine (cright_yes _ _ d _ _ _ _ hd jd.out HR.out).mono ?_
      rintro r w1 ⟨rfl, hb1⟩
      obtain ⟨k0, k1⟩ := keepC hb1 HS.out.1
      have H1 := Lib.hid (HS.out.2.trans (hb1.mono (by simp)))
      have i1 := Lib.hid (ID.out.below H1.out)
      have j1 := Lib.hid (IP.out.below H1.out)
      clear hb1
      go_wp2_with fail
      refine (index_any _ _ d _ _ p _ hd hp i1.out j1.out).mono ?_
      rintro r w2 ⟨rfl, hb2⟩
      have H2 := Lib.hid (below_next H1.out hb2)
      clear hb2 k0 k1
      generalize idxI d p = q at *
      go_wp2
      go_ret2
      exact ⟨ret_two HA.out.2.symm HA.out.1.symm, H2.out⟩
  · have HR := Lib.hid (show cellB d v.length = false by simpa using hR)
    have HA := Lib.hid (atB_not (p := p) HR.out)
    clear hR
    go_enter Tryd.func83, Tryd.ntmps83
    go_wp2_with fail
    refine (cright_no _ _ d _ _ _ _ hd jd.out HR.out).mono ?_
    rintro r w1 ⟨rfl, hb1⟩
    have H1 := Lib.hid (HS.out.2.trans (hb1.mono (by simp)))
    clear hb1
    go_wp2
    go_ret2
    exact ⟨ret_two HA.out.2.symm HA.out.1.symm, H1.out⟩

set_option maxHeartbeats 2000000 in
theorem rat_any (A : Option Addr) (c : Nat) (d : List Int) (B : Option Addr) (c2 : Nat) (v : List Int) (C : Option Addr) (c3 : Nat) (p : List Int) (w : World)
    (hd : d.length ≤ maxLen) (hv : v.length ≤ maxLen) (hp : p.length ≤ maxLen) (id : Ints w A d) (iv : Ints w B v) (ip : Ints w C p) :
    Calls Tryd.prog 45 #[.agg #[.slice A d.length c, .slice B v.length c2], .slice C p.length c3] w fun r w' => r = .returned (.tuple #[.int .i64 (atI d v p), .bool (atB d v p)]) ∧ Below w.heap.size w w' := by
  unfold maxLen at hv hp
  have hS := boxed w (.slice A d.length c) (.slice B v.length c2)
  have jd := Lib.hid (id.below hS.2)
  have HS := Lib.hid hS
  have ID := Lib.hid id
  have IV := Lib.hid iv
  have IP := Lib.hid ip
  clear id iv ip hS
  by_cases hR : cellB d v.length = true
  · have HR := Lib.hid hR
    obtain ⟨h3, hall, h64⟩ := rightB_all (cellB_parts hR).1
    have HA := Lib.hid hall
    clear hall hR
    by_cases he : p.length = d.length
    · have hev : ((p.length : Int) != (d.length : Int)) = false := by simp [he]
      have HE := Lib.hid he
      have hle : d.length ≤ p.length := by omega
      have hle2 : p.length ≤ d.length := by omega
      clear he
      go_enter Tryd.func45, Tryd.ntmps45
      go_wp2_with fail
      refine (rright_yes _ _ d _ _ _ _ hd jd.out HR.out).mono ?_
      rintro r w1 ⟨rfl, hb1⟩
      obtain ⟨k0, k1⟩ := keepC hb1 HS.out.1
      have H1 := Lib.hid (HS.out.2.trans (hb1.mono (by simp)))
      clear hb1
      go_wp2
      go_loopw [6, 7] (fun s i wr => ∃ k n : Nat, k ≤ p.length ∧ i = .int .i64 k ∧ inB (d.take k) (p.take k) = true ∧ s = .int .i64 (hor (d.take k) (p.take k) 0) ∧ wr = w1.drewN n)
        (fun _ i _ => p.length - (intOf i).toNat)
      case atStart => exact ⟨0, 0, Nat.zero_le _, rfl, rfl, rfl, rfl⟩
      case round =>
        obtain ⟨k, n, hk, rfl, hin, rfl, rfl⟩ := hrel
        have HI := Lib.hid hin
        clear hin
        by_cases hlt : k < p.length
        · obtain ⟨b1, o1, rfl, hbb1, hc1⟩ := (ID.out.below H1.out) (by omega)
          obtain ⟨b2, o2, rfl, hbb2, hc2⟩ := (IP.out.below H1.out) (by omega)
          have h1 : (w1.drewN n).cell? ⟨b1, o1 + k, none⟩ = some (.int .i64 (d.getD k 0)) := hc1 k (by omega)
          have h2 : (w1.drewN n).cell? ⟨b2, o2 + k, none⟩ = some (.int .i64 (p.getD k 0)) := hc2 k (by omega)
          have g0 : (w1.drewN n).cell? ⟨w.heap.size, 0, none⟩ = some (.slice (some ⟨b1, o1, none⟩) d.length c) := k0
          have g1 : (w1.drewN n).cell? ⟨w.heap.size, 1, none⟩ = some (.slice B v.length c2) := k1
          have hti := Lib.hid (inB_take d p k HE.out (by omega))
          have hth := Lib.hid (hor_take d p k HE.out (by omega))
          have hbad := fun h => Lib.hid (idxI_bad (d := d) (p := p) (k := k) HE.out (by omega) h)
          have hh := hor_bd _ _ HI.out
          have hpb := prod_bd (d.take k) (by rw [List.all_eq_true]; intro x hx; exact List.all_eq_true.1 HA.out x (List.mem_of_mem_take hx))
          have hlk : (d.take k).length ≤ k := List.length_take_le _ _
          have hp1 : prod (d.take k) ≤ 4096 := hpb.2.2.1 (by omega)
          have hdk := okAx_at HA.out k (by omega)
          have i0 : (0 : Int) ≤ (k : Int) := by omega
          have i1 : (k : Int) < (d.length : Int) := by omega
          have i2 : (k : Int) < (p.length : Int) := by omega
          have hs0 := hh.1
          have hs1 : hor (d.take k) (p.take k) 0 ≤ 4096 := by omega
          clear hc1 hc2 hpb hlk hh hp1 k0 k1
          generalize hx : d.getD k 0 = x at *
          generalize hy : p.getD k 0 = y at *
          generalize hq : hor (d.take k) (p.take k) 0 = q at *
          have HX := Lib.hid hx
          have HY := Lib.hid hy
          clear hx hy hq
          generalize hw1 : w1.drewN n = w2 at *
          have HW := Lib.hid hw1
          clear hw1
          have hm := mul_bd hs0 hs1 hdk.1 hdk.2
          by_cases hy0 : 0 ≤ y
          · have hyd : decide (y < 0) = false := by simp; omega
            by_cases hy1 : y < x
            · clear hbad
              go_wp2_with fail
              go_quiet (fail)
              revert nq
              intro nq0
              go_wp2_with fail
              go_quiet (fail)
              go_wp2
              go_roundw
              case rel => exact ⟨k + 1, n + (nq0 + nq), by omega, by go_num, by rw [hti.out, HI.out]; simp [hy0, hy1], by rw [hth.out], by rw [← HW.out, World.drewN_drewN]⟩
              case measure => simp [intOf]; omega
            · have HB := hbad (by omega)
              have HZ := Lib.hid (atB_out (d := d) (v := v) (p := p) (by rw [HB.out]; decide))
              clear hbad
              go_wp2_with fail
              go_quiet (fail)
              go_wp2
              go_ret2
              exact ⟨ret_two HZ.out.2.symm HZ.out.1.symm, by rw [← HW.out, World.drewN_drewN]; exact below_drewN H1.out _⟩
          · have HB := hbad (by omega)
            have HZ := Lib.hid (atB_out (d := d) (v := v) (p := p) (by rw [HB.out]; decide))
            have hy2 : y < 0 := by omega
            clear hbad hy0
            go_wp2_with fail
            go_quiet (fail)
            go_wp2
            go_ret2
            exact ⟨ret_two HZ.out.2.symm HZ.out.1.symm, by rw [← HW.out, World.drewN_drewN]; exact below_drewN H1.out _⟩
        · obtain rfl : k = p.length := by omega
          have hin := HI.out
          rw [List.take_length, List.take_of_length_le (show d.length ≤ p.length by omega)] at *
          have hix : idxI d p = hor d p 0 := by simp [idxI, (cellB_parts HR.out).1, hin]
          have h0 := (hor_bd d p hin).1
          have hlt2 : hor d p 0 < v.length := by rw [← hix]; exact idx_lt HR.out (by rw [hix]; exact h0)
          have HZ := Lib.hid (atB_is (p := p) HR.out (by rw [hix]; exact h0))
          have HX := Lib.hid hix
          obtain ⟨b, off, rfl, hb, hcs⟩ := IV.out.below H1.out (by omega)
          have hck : (w1.drewN n).cell? ⟨b, off + (hor d p 0).toNat, none⟩ = _ := hcs (hor d p 0).toNat (by omega)
          have g0 : (w1.drewN n).cell? ⟨w.heap.size, 0, none⟩ = some (.slice A d.length c) := k0
          have g1 : (w1.drewN n).cell? ⟨w.heap.size, 1, none⟩ = some (.slice (some ⟨b, off, none⟩) v.length c2) := k1
          clear hin hix hcs k0 k1
          rw [HX.out] at HZ
          generalize v.getD (hor d p 0).toNat 0 = z at *
          generalize hor d p 0 = q at *
          go_wp2
          go_ret2
          exact ⟨ret_two HZ.out.2.symm HZ.out.1.symm, below_drewN H1.out _⟩
    · have hev : ((p.length : Int) != (d.length : Int)) = true := by simp; omega
      have HB := idxI_len (d := d) he
      have HZ := Lib.hid (atB_out (d := d) (v := v) (p := p) (by rw [HB]; decide))
      clear he HB
      go_enter Tryd.func45, Tryd.ntmps45
      go_wp2_with fail
      refine (rright_yes _ _ d _ _ _ _ hd jd.out HR.out).mono ?_
      rintro r w1 ⟨rfl, hb1⟩
      obtain ⟨k0, k1⟩ := keepC hb1 HS.out.1
      have H1 := Lib.hid (HS.out.2.trans (hb1.mono (by simp)))
      clear hb1
      go_wp2
      go_ret2
      exact ⟨ret_two HZ.out.2.symm HZ.out.1.symm, H1.out⟩
  · have HR := Lib.hid (show cellB d v.length = false by simpa using hR)
    have HZ := Lib.hid (atB_not (p := p) HR.out)
    clear hR
    go_enter Tryd.func45, Tryd.ntmps45
    go_wp2_with fail
    refine (rright_no _ _ d _ _ _ _ hd jd.out HR.out).mono ?_
    rintro r w1 ⟨rfl, hb1⟩
    have H1 := Lib.hid (HS.out.2.trans (hb1.mono (by simp)))
    clear hb1
    go_wp2
    go_ret2
    exact ⟨ret_two HZ.out.2.symm HZ.out.1.symm, H1.out⟩
end Go.Proofs.YtbanegjmapgkdaaDoor.Sh
-- CellCut
namespace Go.Proofs.YtbanegjmapgkdaaDoor.Sh
open Go.RowKit
set_option linter.unusedVariables false

theorem MineT.cap {t : TypeId} {w : World} {base : Nat} {A : Option Addr} {n c : Nat} {xs : List Int} (h : MineT t w base (.slice A n c) xs) : n ≤ c ∧ c ≤ maxLen := by
  rcases h.2 with ⟨h0, _⟩ | ⟨g, cap, cur, h1, _, _, h2, h3, _⟩
  · injection h0 with _ h1 h2; subst h1 h2; simp
  · injection h1 with _ h4 h5; subst h5; omega

/-- The i-th piece of a list of pieces of size s. -/
def piece (v : List Int) (i s : Nat) : List Int := (v.drop (i * s)).take s
theorem piece_length {v : List Int} {i s : Nat} (h : (i + 1) * s ≤ v.length) : (piece v i s).length = s := by
  rw [Nat.add_mul, Nat.one_mul] at h
  simp [piece]; omega
theorem ret_slice {A : Option Addr} {m n s : Nat} (h : m = s) (hn : n = s) : Ending.returned (.slice A m m) = .returned (.slice A n s) := by rw [h, hn]
def RetCut (xs : List Int) (s : Nat) (w : World) (e : Ending) (w' : World) : Prop := ∃ A, e = .returned (.slice A xs.length s) ∧ Ints w A xs ∧ w = w'

set_option maxHeartbeats 1000000 in
theorem cut_any (A : Option Addr) (c : Nat) (v : List Int) (i s : Nat) (w : World) (hc : v.length ≤ c) (hcm : c ≤ maxLen) (hv : v.length ≤ 10000) (hi0 : i ≤ 10000) (hi : Ints w A v) (h : (i + 1) * s ≤ v.length) :
    Calls Tryd.prog 51 #[.slice A v.length c, .int .i64 i, .int .i64 s] w (RetCut (piece v i s) s w) := by
  unfold maxLen at hcm
  have hin : i * s + s ≤ v.length := by rw [Nat.add_mul, Nat.one_mul] at h; exact h
  rcases Nat.eq_zero_or_pos s with h0 | hs
  · subst h0
    have HN : Hid (Ints w A (piece v i 0)) := Lib.hid (fun hp => absurd hp (by simp [piece]))
    clear h hin hi
    rcases A with _ | a
    · go_enter Tryd.func51, Tryd.ntmps51
      go_wp2
      go_ret
      exact ⟨none, by simp [piece], HN.out, rfl⟩
    · have HM : ∀ x, Ints w x (piece v i 0) := fun x hp => absurd hp (by simp [piece])
      have HX := Lib.hid HM
      clear HM HN
      go_enter Tryd.func51, Tryd.ntmps51
      go_wp2
      go_ret
      exact ⟨_, by simp [piece]; rfl, HX.out _, rfl⟩
  · have hs2 : s ≤ 10000 := by omega
    obtain ⟨b, off, rfl, hb, hcs⟩ := hi (by omega)
    have HX : Hid (Ints w (some ⟨b, off + i * s, none⟩) (piece v i s)) := Lib.hid (fun hp => by
      have hpl := piece_length h
      refine ⟨b, off + i * s, rfl, hb, fun j hj => ?_⟩
      rw [Nat.add_assoc, hcs _ (by omega)]
      have e1 : i * s + j < v.length := by omega
      have e2 : j < s := by omega
      simp [piece, List.getD, e2])
    have hne : ¬ (i + 1) * s = i * s := by rw [Nat.add_mul, Nat.one_mul]; omega
    have hq : (i + 1) * s - i * s = s := by rw [Nat.add_mul, Nat.one_mul]; omega
    have HQ := Lib.hid hq
    have g0 : (0 : Int) ≤ (i : Int) * (s : Int) := Int.mul_nonneg (by omega) (by omega)
    have g1 : (i : Int) * (s : Int) ≤ ((i : Int) + 1) * (s : Int) := Int.mul_le_mul_of_nonneg_right (by omega) (by omega)
    have g2 : ((i : Int) + 1) * (s : Int) ≤ c := by
      have : (((i + 1) * s : Nat) : Int) ≤ c := by omega
      simpa using this
    have HP := Lib.hid (piece_length h)
    clear hcs hi hq h hin
    go_enter Tryd.func51, Tryd.ntmps51
    go_wp2
    go_ret
    exact ⟨some ⟨b, off + i * s, none⟩, ret_slice HQ.out HP.out, HX.out, rfl⟩
end Go.Proofs.YtbanegjmapgkdaaDoor.Sh
-- CellMake
namespace Go.Proofs.YtbanegjmapgkdaaDoor.Sh
open Go.RowKit
set_option linter.unusedVariables false

/-- A slice of numbers, nil let in, in blocks from base on. -/
def Fr (w : World) (base : Nat) (A : Option Addr) (l : List Int) : Prop :=
  0 < l.length → ∃ b off, A = some ⟨b, off, none⟩ ∧ base ≤ b ∧ b < w.heap.size ∧ ∀ i, i < l.length → w.cell? ⟨b, off + i, none⟩ = some (.int .i64 (l.getD i 0))
section
variable {w w' : World} {base : Nat} {A : Option Addr} {l : List Int}
theorem Fr.ints (h : Fr w base A l) : Ints w A l := fun hp => by obtain ⟨b, off, e, _, h1, h2⟩ := h hp; exact ⟨b, off, e, h1, h2⟩
theorem Fr.nil (w : World) (base : Nat) (A : Option Addr) : Fr w base A [] := fun h => absurd h (by simp)
theorem Fr.below (h : Fr w base A l) (hb : Below w.heap.size w w') : Fr w' base A l := fun hp => by
  obtain ⟨b, off, e, hle, hlt, hc⟩ := h hp
  exact ⟨b, off, e, hle, Nat.lt_of_lt_of_le hlt hb.size, fun i hi => (hb.cell (p := ⟨b, off + i, none⟩) hlt).trans (hc i hi)⟩
theorem Fr.mono {b' : Nat} (h : Fr w base A l) (hb : b' ≤ base) : Fr w b' A l := fun hp => by
  obtain ⟨b, off, e, hle, hlt, hc⟩ := h hp
  exact ⟨b, off, e, by omega, hlt, hc⟩
theorem Fr.set_ (h : Fr w base A l) {p : Addr} (hp : p.block < base) (u : Value) : Fr (w.setCell p u) base A l := fun hl => by
  obtain ⟨b, off, e, hle, hlt, hc⟩ := h hl
  exact ⟨b, off, e, hle, by simpa [World.setCell] using hlt, fun i hi => (World.cell?_setCell_other w p ⟨b, off + i, none⟩ u (fun e => by rw [e] at hp; simp at hp; omega)).trans (hc i hi)⟩
theorem Fr.alloc (h : Fr w base A l) (o : Obj) : Fr (w.alloc o) base A l := h.below ((Below.refl _ w).alloc (Nat.le_refl _) _)
end
theorem MineT.fr {t : TypeId} {base : Nat} {A : Option Addr} {w : World} {n c : Nat} {xs : List Int} (h : MineT t w base (.slice A n c) xs) : Fr w base A xs := fun hp => by
  obtain ⟨A', c', e, hi⟩ := h.ints
  injection e with e1
  subst e1
  obtain ⟨b, off, e2, h1, h2⟩ := hi hp
  subst e2
  exact ⟨b, off, rfl, h.block b rfl, h1, h2⟩

/-- A cell of these axes and numbers lies behind two slices, in blocks from base on. -/
def IsCell (w : World) (base : Nat) (d v : List Int) (x : Value) : Prop := ∃ A c B c2, x = .agg #[.slice A d.length c, .slice B v.length c2] ∧ Fr w base A d ∧ Fr w base B v ∧ v.length ≤ c2 ∧ c2 ≤ maxLen ∧ d.length ≤ c ∧ c ≤ maxLen
section
variable {w w' : World} {base : Nat} {d v : List Int} {x : Value}
theorem IsCell.below (h : IsCell w base d v x) (hb : Below w.heap.size w w') : IsCell w' base d v x := by
  obtain ⟨A, c, B, c2, e, h1, h2, h3⟩ := h
  exact ⟨A, c, B, c2, e, h1.below hb, h2.below hb, h3⟩
theorem IsCell.mono {b' : Nat} (h : IsCell w base d v x) (hb : b' ≤ base) : IsCell w b' d v x := by
  obtain ⟨A, c, B, c2, e, h1, h2, h3⟩ := h
  exact ⟨A, c, B, c2, e, h1.mono hb, h2.mono hb, h3⟩
theorem IsCell.set2 (h : IsCell w base d v x) {g : Nat} (hg : g < base) (y z : Value) : IsCell ((w.setCell ⟨g, 0, none⟩ y).setCell ⟨g, 1, none⟩ z) base d v x := by
  obtain ⟨A, c, B, c2, e, h1, h2, h3⟩ := h
  exact ⟨A, c, B, c2, e, (h1.set_ (p := ⟨g, 0, none⟩) hg y).set_ (p := ⟨g, 1, none⟩) hg z, (h2.set_ (p := ⟨g, 0, none⟩) hg y).set_ (p := ⟨g, 1, none⟩) hg z, h3⟩
theorem IsCell.none (w : World) (base : Nat) : IsCell w base [] [] (.agg #[.slice none 0 0, .slice none 0 0]) := ⟨.none, 0, .none, 0, rfl, Fr.nil _ _ _, Fr.nil _ _ _, by simp, by simp, by simp, by simp⟩
theorem isCell_of {t t' : TypeId} {b b' : Nat} {A B : Option Addr} {c c2 : Nat} (h : MineT t w b (.slice A d.length c) d) (h' : MineT t' w b' (.slice B v.length c2) v) (hb : base ≤ b) (hb' : base ≤ b') : IsCell w base d v (.agg #[.slice A d.length c, .slice B v.length c2]) :=
  ⟨A, c, B, c2, rfl, h.fr.mono hb, h'.fr.mono hb', h'.cap.1, h'.cap.2, h.cap.1, h.cap.2⟩
end
/-- A cell and another answer. -/
def RetC (w : World) (d v : List Int) (y : Value) (e : Ending) (w' : World) : Prop := ∃ x, e = .returned (.tuple #[x, y]) ∧ IsCell w' w.heap.size d v x ∧ Below w.heap.size w w'
/-- A cell alone. -/
def RetC1 (w : World) (d v : List Int) (e : Ending) (w' : World) : Prop := ∃ x, e = .returned x ∧ IsCell w' w.heap.size d v x ∧ Below w.heap.size w w'

/-- Block g is the box of a cell, with these two slices. -/
def Box (w : World) (g : Nat) (x y : Value) : Prop := w.heap[g]? = some (.cells #[x, y] 29 (0, 0))
section
variable {w w' : World} {g : Nat} {x y : Value}
theorem Box.lt (h : Box w g x y) : g < w.heap.size := by
  rcases Nat.lt_or_ge g w.heap.size with hlt | hge
  · exact hlt
  · unfold Box at h; rw [Array.getElem?_eq_none hge] at h; cases h
theorem Box.new (w : World) (x y : Value) : Box (w.alloc (.cells #[x, y] 29)) w.heap.size x y := heap_alloc_new w _
theorem Box.c0 (h : Box w g x y) : w.cell? ⟨g, 0, none⟩ = some x := by rw [cell_of_row w g 0 _ _ _ h]; rfl
theorem Box.c1 (h : Box w g x y) : w.cell? ⟨g, 1, none⟩ = some y := by rw [cell_of_row w g 1 _ _ _ h]; rfl
theorem Box.f (h : Box w g x y) (i : Nat) : w.frozen? ⟨g, i, none⟩ = false := by unfold Box at h; simp [World.frozen?, h]
theorem Box.all (h : Box w g x y) : w.cell? ⟨g, 0, none⟩ = some x ∧ w.cell? ⟨g, 1, none⟩ = some y ∧ w.frozen? ⟨g, 0, none⟩ = false ∧ w.frozen? ⟨g, 1, none⟩ = false := ⟨h.c0, h.c1, h.f 0, h.f 1⟩
theorem Box.drewN (h : Box w g x y) (n : Nat) : Box (w.drewN n) g x y := h
theorem Box.drew (h : Box w g x y) : Box w.drew g x y := h
theorem Box.alloc (h : Box w g x y) (o : Obj) : Box (w.alloc o) g x y := (Below.heap_alloc w o g h.lt).trans h
theorem Box.below {B : Nat} (h : Box w g x y) (hb : Below B w w') (hg : g < B) : Box w' g x y := (hb.block g hg).trans h
theorem Box.next (h : Box w g x y) (hb : Below w.heap.size w w') : Box w' g x y := h.below hb h.lt
theorem Box.far (h : Box w g x y) {p : Addr} (hp : g ≠ p.block) (u : Value) : Box (w.setCell p u) g x y := (Below.heap_setCell w p u g hp).trans h
theorem Box.set0 (h : Box w g x y) (u : Value) : Box (w.setCell ⟨g, 0, none⟩ u) g u y := by
  unfold Box at h ⊢
  simp [World.setCell, Array.getElem?_modify, h]
theorem Box.set1 (h : Box w g x y) (u : Value) : Box (w.setCell ⟨g, 1, none⟩ u) g x u := by
  unfold Box at h ⊢
  simp [World.setCell, Array.getElem?_modify, h]
theorem Box.grown {row : Option Nat} (h : Box w g x y) (hb : w.grownBy w' row) (hg : some g ≠ row) : Box w' g x y := (hb.block g h.lt hg).trans h
end

theorem MineT.ints' {t : TypeId} {base : Nat} {A : Option Addr} {w : World} {n c : Nat} {xs : List Int} (h : MineT t w base (.slice A n c) xs) : Ints w A xs := by
  obtain ⟨A', c', e, hi⟩ := h.ints
  injection e with e1
  rw [e1]; exact hi
theorem MineT.box {t : TypeId} {base : Nat} {w : World} {v : Value} {xs : List Int} {g : Nat} (h : MineT t w base v xs) (hg : g < base) (x y : Value) : MineT t ((w.setCell ⟨g, 0, none⟩ x).setCell ⟨g, 1, none⟩ y) base v xs := by
  have hp : v.ownBlock ≠ some g := fun e => by have := h.block g e; omega
  exact (h.setCell (p := ⟨g, 0, none⟩) hp x).setCell (p := ⟨g, 1, none⟩) hp y
theorem MineT.made (t : TypeId) (w : World) (n base : Nat) (hb : base ≤ w.heap.size) (hl : n ≤ maxLen) : MineT t (w.alloc (.cells (madeCells #[Value.int .i64 0] n) t)) base (.slice (some ⟨w.heap.size, 0, none⟩) n n) (List.replicate n 0) := by
  have := MineT.new t w (List.replicate n 0) base hb (by simpa using hl)
  rw [cells_made]
  simpa using this

/-- What Of answers. -/
def ofE (d : List Int) (n : Nat) : Int := if rightB d = true then (if (n : Int) = sizeI d then 0 else 3) else 1
def ofD (d : List Int) (n : Nat) : List Int := if ofE d n = 0 then d else []
def ofV (d v : List Int) : List Int := if ofE d v.length = 0 then v else []
theorem of_arg {d v : List Int} (h : rightB d = false) : ofE d v.length = 1 ∧ ofD d v.length = [] ∧ ofV d v = [] := by simp [ofE, ofD, ofV, h]
theorem of_len {d v : List Int} (h : rightB d = true) (hn : ¬ (v.length : Int) = sizeI d) : ofE d v.length = 3 ∧ ofD d v.length = [] ∧ ofV d v = [] := by simp [ofE, ofD, ofV, h, hn]
theorem of_ok {d v : List Int} (h : rightB d = true) (hn : (v.length : Int) = sizeI d) : ofE d v.length = 0 ∧ ofD d v.length = d ∧ ofV d v = v := by simp [ofE, ofD, ofV, h, hn]

theorem list_right {n : Nat} (h : n ≤ 64) : rightB [(n : Int)] = true ∧ ((n : Nat) : Int) = sizeI [(n : Int)] := by
  have h1 : rightB [(n : Int)] = true := by simp [rightB, okAx, prod]; omega
  exact ⟨h1, by simp [sizeI, h1, prod]⟩

set_option maxHeartbeats 1000000 in
theorem scalar_any (n : Int) (w : World) :
    Calls Tryd.prog 49 #[.int .i64 n] w (RetC1 w [] [n]) := by
  go_enter Tryd.func49, Tryd.ntmps49
  go_wp2
  refine bodyPost_ret (v := .agg #[.slice none 0 0, .slice (some ⟨w.heap.size + 1, 0, none⟩) 1 1]) (by simp [results, Tryd.results49, go_sem]) rfl ?_
  have hm := MineT.new 2 (w.alloc (.cells #[.slice none 0 0, .slice (some ⟨w.heap.size + 1, 0, none⟩) 1 1] 29)) [n] w.heap.size (by simp) (by unfold maxLen; simp)
  rw [show (w.alloc (.cells #[.slice none 0 0, .slice (some ⟨w.heap.size + 1, 0, none⟩) 1 1] 29)).heap.size = w.heap.size + 1 from by simp] at hm
  exact ⟨_, rfl, ⟨none, 0, _, 1, rfl, Fr.nil _ _ _, hm.fr, by simp, by unfold maxLen; simp⟩, ((Below.refl _ _).alloc (Nat.le_refl _) _).alloc (by simp) _⟩

/-- What Zero answers. -/
def zeroD (d : List Int) : List Int := if rightB d = true then d else []
def zeroV (d : List Int) : List Int := List.replicate (sizeI d).toNat 0

set_option maxHeartbeats 1000000 in
theorem zero_any (A : Option Addr) (c : Nat) (d : List Int) (w : World) (hd : d.length ≤ 100) (id : Ints w A d) :
    Calls Tryd.prog 33 #[.slice A d.length c] w (RetC1 w (zeroD d) (zeroV d)) := by
  have ID := Lib.hid (id.below (w' := w.alloc (.cells #[.slice none 0 0, .slice none 0 0] 29)) (below_box (Below.refl _ _)))
  have ID0 := Lib.hid id
  have HS := Lib.hid (Box.new w (.slice none 0 0) (.slice none 0 0))
  clear id
  by_cases hR : rightB d = true
  · have HR := Lib.hid hR
    obtain ⟨h3, hall, h64⟩ := rightB_all hR
    have hp0 := (prod_bd d hall).1
    obtain ⟨n, hn⟩ : ∃ n : Nat, sizeI d = n := ⟨(prod d).toNat, by rw [sizeI_mk h3 hall h64]; omega⟩
    have hn64 : n ≤ 64 := by have : sizeI d = prod d := sizeI_mk h3 hall h64; omega
    have hz : zeroD d = d ∧ zeroV d = List.replicate n 0 := by simp [zeroD, zeroV, hR, hn]
    rw [hz.1, hz.2]
    have HN := Lib.hid hn
    clear hR hall hz hn hp0 h64 h3
    have hmk := fun W => run_make_row' (P := Tryd.prog) 27 2 (.int .i64 0) 8 Tryd.underlying27 numL rfl .i64 .i64 n (by omega) (by omega) W
    go_enter Tryd.func33, Tryd.ntmps33
    go_wp2_with fail
    refine (right_yes _ _ d _ HR.out (by unfold maxLen; omega) ID.out).mono ?_
    rintro r w1 ⟨rfl, hb1⟩
    have S1 := Lib.hid (HS.out.next hb1)
    have H1 := Lib.hid (below_box hb1)
    have I1 := Lib.hid (ID0.out.below H1.out)
    clear hb1
    go_wp2_with fail
    refine (clone_t _ _ d _ hd I1.out).mono ?_
    rintro r w2 ⟨A2, c2, rfl, hm2, hb2⟩
    have S2 := Lib.hid (S1.out.next hb2)
    have H2 := Lib.hid (below_next H1.out hb2)
    have I2 := Lib.hid (ID0.out.below H2.out)
    have M2 := Lib.hid hm2
    clear hb2 hm2
    go_wp2_with fail
    refine (size_any _ _ d _ (by unfold maxLen; omega) I2.out).mono ?_
    rintro r w3 ⟨rfl, hb3⟩
    have S3 := Lib.hid (S2.out.next hb3)
    have H3 := Lib.hid (below_next H2.out hb3)
    have M3 := Lib.hid (M2.out.below hb3 (Nat.le_refl _))
    clear hb3
    rw [HN.out]
    have S4 := Lib.hid (S3.out.alloc (.cells (madeCells #[Value.int .i64 0] n) 2))
    obtain ⟨s0, s1, s2, s3⟩ := S4.out.all
    go_wp2
    have T := (S4.out.set0 (.slice A2 d.length c2)).set1 (.slice (some ⟨w3.heap.size, 0, none⟩) n n)
    obtain ⟨t0, t1, _, _⟩ := T.all
    refine bodyPost_ret (v := .agg #[.slice A2 d.length c2, .slice (some ⟨w3.heap.size, 0, none⟩) n n]) (by simp [results, Tryd.results33, go_sem, t0, t1]) rfl ?_
    have m3 := (M3.out.alloc (.cells (madeCells #[Value.int .i64 0] n) 2)).box S1.out.lt (.slice A2 d.length c2) (.slice (some ⟨w3.heap.size, 0, none⟩) n n)
    have m4 := (MineT.made 2 w3 n w3.heap.size (Nat.le_refl _) (by unfold maxLen; omega)).box S3.out.lt (.slice A2 d.length c2) (.slice (some ⟨w3.heap.size, 0, none⟩) n n)
    have hc := isCell_of (base := w.heap.size) (v := List.replicate n 0) (c2 := n) m3 (by rw [List.length_replicate]; exact m4) H1.out.size H3.out.size
    rw [List.length_replicate] at hc
    exact ⟨_, rfl, hc, (((H3.out.alloc H3.out.size _).setCell (Nat.le_refl _) _).setCell (Nat.le_refl _) _)⟩
  · have HR := Lib.hid (show rightB d = false by simpa using hR)
    have hz : zeroD d = [] ∧ zeroV d = [] := by simp [zeroD, zeroV, hR, sizeI]
    rw [hz.1, hz.2]
    clear hR hz
    go_enter Tryd.func33, Tryd.ntmps33
    go_wp2_with fail
    refine (right_no _ _ d _ HR.out (by unfold maxLen; omega) ID.out).mono ?_
    rintro r w1 ⟨rfl, hb1⟩
    have S1 := Lib.hid (HS.out.next hb1)
    have H1 := Lib.hid (below_box hb1)
    obtain ⟨s0, s1, s2, s3⟩ := S1.out.all
    clear hb1
    go_wp2
    have T := (S1.out.set0 (.slice none 0 0)).set1 (.slice none 0 0)
    obtain ⟨t0, t1, _, _⟩ := T.all
    refine bodyPost_ret (v := .agg #[.slice none 0 0, .slice none 0 0]) (by simp [results, Tryd.results33, go_sem, t0, t1]) rfl ?_
    exact ⟨_, rfl, IsCell.none _ _, (H1.out.setCell (Nat.le_refl _) _).setCell (Nat.le_refl _) _⟩

end Go.Proofs.YtbanegjmapgkdaaDoor.Sh
-- CellItem
namespace Go.Proofs.YtbanegjmapgkdaaDoor.Sh
open Go.RowKit
set_option linter.unusedVariables false

/-- A slice of these numbers, in new memory. -/
def RetF (w : World) (xs : List Int) (e : Ending) (w' : World) : Prop := ∃ A c, e = .returned (.slice A xs.length c) ∧ Fr w' w.heap.size A xs ∧ (xs.length ≤ c ∧ c ≤ maxLen) ∧ Below w.heap.size w w'

set_option maxHeartbeats 1000000 in
theorem without_f (A : Option Addr) (c : Nat) (d : List Int) (x : Int) (w : World) (hl : d.length ≤ 100) (hi : Ints w A d) (hx : 0 ≤ x ∧ x < d.length) :
    Calls Tryd.prog 32 #[.slice A d.length c, .int .i64 x] w (RetF w (withoutL d x)) := by
  · have hw := (withinB_iff x d.length).2 hx
    have HW := Lib.hid hw
    have hL : withoutL d x = d.eraseIdx x.toNat := if_pos hx
    rw [hL]
    obtain ⟨k, rfl⟩ : ∃ k : Nat, x = k := ⟨x.toNat, by omega⟩
    rw [Int.toNat_natCast]
    have hk : k < d.length := by omega
    clear hw hL hx
    go_enter Tryd.func32, Tryd.ntmps32
    go_wp2_with fail
    refine (clone_any _ _ d _ hl hi).mono ?_
    rintro e w1 ⟨v, rfl, hm, hb1⟩
    have hm0 : w1.ownsRow w.heap.size 3 1 v d.length (d.map (Value.int .i64)) := hm
    rcases hm0.2 with ⟨rfl, h0⟩ | ⟨g, cap, cur, rfl, hbg, hgg, hnc, hcm, _⟩
    · omega
    · have hglt : g < w1.heap.size := by
        rcases Nat.lt_or_ge g w1.heap.size with hlt | hge
        · exact hlt
        · rw [Array.getElem?_eq_none hge] at hgg; cases hgg
      have hc : ∀ j, j < d.length → w1.cell? ⟨g, 0 + j, none⟩ = some (.int .i64 (d.getD j 0)) := by
        intro j hj
        rw [Nat.zero_add, hm0.cellAt j (by omega)]
        simp [List.getD, hj]
      have hf : ∀ j, j < d.length → w1.frozen? ⟨g, 0 + j, none⟩ = false := fun j _ => by rw [Nat.zero_add]; exact hm0.frozenAt j
      have hdel : Calls Tryd.prog 72 #[.slice (some ⟨g, 0, none⟩) d.length cap, .int .i64 (k : Int), .int .i64 ((k : Int) + 1)] w1 _ :=
        Any.slices_Delete_int_cells deleteLays g 0 d.length cap k (k + 1) d w1 (Nat.le_refl _) hnc (by unfold maxLen at hcm; omega) (by omega) (by omega) hc hf
      have HD := Lib.hid hdel
      have HC := Lib.hid hc
      have HBB := Lib.hid hb1
      clear hm hm0 hb1 hc hf hdel hgg
      go_wp2_with (go_at_call 71; refine (within_yesL _ _ _ HW.out).mono ?_; rintro e w' ⟨rfl, rfl⟩)
      refine HD.out.mono ?_
      rintro e w2 ⟨rfl, q, rfl⟩
      have hE : d.length - 1 = (d.eraseIdx k).length := by rw [List.length_eraseIdx_of_lt hk]
      have hI := deleted_ints d k hk g w1 q hglt HC.out
      have HBX := Lib.hid (below_setCells hbg (((d.take d.length).take k ++ (d.take d.length).drop (k + 1) ++ List.replicate (k + 1 - k) 0).map (Value.int .i64)) 0 w _ (below_drewN HBB.out q))
      have HI := Lib.hid hI
      have HE := Lib.hid hE
      clear hI hE
      generalize (w1.drewN q).setCells g 0 (((d.take d.length).take k ++ (d.take d.length).drop (k + 1) ++ List.replicate (k + 1 - k) 0).map (Value.int .i64)) = w3 at *
      go_wp2
      go_ret
      exact ⟨some ⟨g, 0, none⟩, cap, by rw [← HE.out]; rfl, fun hp => (by
        obtain ⟨b, off, e1, h1, h2⟩ := HI.out hp
        injection e1 with e1
        injection e1 with e2 e3
        subst e2 e3
        exact ⟨g, 0, rfl, hbg, h1, h2⟩), ⟨by rw [← HE.out]; omega, hcm⟩, HBX.out⟩

/-- Has a cell an Item of this number? -/
def itemB (d : List Int) (n : Nat) (i : Int) : Bool := cellB d n && decide (0 < d.length) && decide (0 ≤ i) && decide (i < d.getD 0 0)
def itemD (d : List Int) (n : Nat) (i : Int) : List Int := if itemB d n i = true then d.tail else []
def itemV (d v : List Int) (i : Int) : List Int := if itemB d v.length i = true then piece v i.toNat (sizeI d.tail).toNat else []
theorem item_not {d v : List Int} {i : Int} (h : itemB d v.length i = false) : itemD d v.length i = [] ∧ itemV d v i = [] := by simp [itemD, itemV, h]
theorem item_is {d v : List Int} {i : Int} (h : itemB d v.length i = true) : itemD d v.length i = d.tail ∧ itemV d v i = piece v i.toNat (sizeI d.tail).toNat := by simp [itemD, itemV, h]
/-- The parts of a cell that has Items. -/
theorem item_parts {d : List Int} {n : Nat} {i : Int} (h : itemB d n i = true) : ∃ (x s k : Nat) (t : List Int), d = (x : Int) :: t ∧ rightB d = true ∧ rightB t = true ∧ sizeI t = s ∧ n = x * s ∧ i = k ∧ k < x ∧ (k + 1) * s ≤ n ∧ n ≤ 64 ∧ x ≤ 64 ∧ d.length ≤ 3 := by
  simp only [itemB, Bool.and_eq_true, decide_eq_true_eq] at h
  obtain ⟨⟨⟨h1, h2⟩, h3⟩, h4⟩ := h
  obtain ⟨hr, hn⟩ := cellB_parts h1
  cases d with
  | nil => simp at h2
  | cons y t =>
    simp at h4
    obtain ⟨hl3, hall, h64⟩ := rightB_all hr
    have hs : sizeI (y :: t) = prod (y :: t) := sizeI_mk hl3 hall h64
    rw [prod_cons] at h64 hs
    have hy := okAx_bd (by simpa using (List.all_eq_true.1 hall) y (by simp))
    have hta : t.all okAx = true := by
      rw [List.all_eq_true] at hall ⊢
      intro z hz
      exact hall z (by simp [hz])
    have hp0 := (prod_bd t hta).1
    have hge : 1 * prod t ≤ y * prod t := Int.mul_le_mul_of_nonneg_right (by omega) hp0
    have hrt : rightB t = true := rightB_mk (by simp at hl3; omega) hta (by omega)
    have hst : sizeI t = prod t := by simp [sizeI, hrt]
    have hki : (i + 1) * prod t ≤ y * prod t := Int.mul_le_mul_of_nonneg_right (by omega) hp0
    refine ⟨y.toNat, (prod t).toNat, i.toNat, t, by simp; omega, hr, hrt, by rw [hst]; omega, ?_, by omega, by omega, ?_, by omega, by omega, hl3⟩
    · have : ((y.toNat * (prod t).toNat : Nat) : Int) = y * prod t := by rw [Int.natCast_mul, Int.toNat_of_nonneg (by omega), Int.toNat_of_nonneg hp0]
      omega
    · have : (((i.toNat + 1) * (prod t).toNat : Nat) : Int) = (i + 1) * prod t := by rw [Int.natCast_mul, Int.natCast_add, Int.toNat_of_nonneg (by omega), Int.toNat_of_nonneg hp0]; rfl
      omega

theorem size_nat (A : Option Addr) (c : Nat) (d : List Int) (s : Nat) (w : World) (hs : sizeI d = s) (hl : d.length ≤ maxLen) (hi : Ints w A d) :
    Calls Tryd.prog 36 #[.slice A d.length c] w fun e w' => e = .returned (.int .i64 (s : Int)) ∧ Below w.heap.size w w' := by
  rw [← hs]; exact size_any A c d w hl hi
theorem keep1 {W w1 : World} {g : Nat} {x : Value} (hb : Below W.heap.size W w1) (h : W.cell? ⟨g, 1, none⟩ = some x) : w1.cell? ⟨g, 1, none⟩ = some x :=
  (hb.cell (p := ⟨g, 1, none⟩) (World.block_lt_of_cell? W ⟨g, 1, none⟩ h)).trans h

set_option maxHeartbeats 2000000 in
theorem item_yes (A : Option Addr) (c : Nat) (d : List Int) (B : Option Addr) (c2 : Nat) (v : List Int) (i : Int) (w : World) (hc : v.length ≤ c2) (hcm : c2 ≤ maxLen) (id : Ints w A d) (iv : Ints w B v) (h : itemB d v.length i = true) :
    Calls Tryd.prog 18 #[.agg #[.slice A d.length c, .slice B v.length c2], .int .i64 i] w (RetC w d.tail (piece v i.toNat (sizeI d.tail).toNat) (.bool true)) := by
  have hcell : cellB d v.length = true := by
    simp only [itemB, Bool.and_eq_true] at h
    exact h.1.1.1
  obtain ⟨x, s, k, t, rfl, hr, hrt, hst, hn, rfl, hk, hks, hn64, hx, hl3⟩ := item_parts h
  have e0 : (((x : Int) :: t).tail) = t := rfl
  rw [e0, hst, Int.toNat_natCast, Int.toNat_natCast]
  have h2 : 2 ≤ 4 := by omega
  have hb2 : Below w.heap.size w ((w.alloc (.cells #[.slice A ((x : Int) :: t).length c, .slice B v.length c2] 29)).alloc (.cells #[.slice none 0 0, .slice none 0 0] 29)) := below_box (below_box (Below.refl _ _))
  have hS0 := (Box.new w (.slice A ((x : Int) :: t).length c) (.slice B v.length c2)).alloc (.cells #[.slice none 0 0, .slice none 0 0] 29)
  have hS1 := Box.new (w.alloc (.cells #[.slice A ((x : Int) :: t).length c, .slice B v.length c2] 29)) (.slice none 0 0) (.slice none 0 0)
  rw [show (w.alloc (.cells #[.slice A ((x : Int) :: t).length c, .slice B v.length c2] 29)).heap.size = w.heap.size + 1 from by simp] at hS1
  have HS0 := Lib.hid hS0
  have HS1 := Lib.hid hS1
  have JD := Lib.hid (id.below hb2)
  have ID := Lib.hid id
  have IV := Lib.hid iv
  have HC := Lib.hid hcell
  have HST := Lib.hid hst
  have HPL := Lib.hid (piece_length hks)
  have hs64 : s ≤ 64 := by rw [Nat.add_mul, Nat.one_mul] at hks; omega
  have HKS := Lib.hid hks
  have e1 : ((x : Int) :: t).length = t.length + 1 := rfl
  have HE1 := Lib.hid e1
  have hlen : 0 < ((x : Int) :: t).length := by simp
  have hcm' := Lib.hid hcm
  clear hS0 hS1 hb2 id iv hcell hst hr hrt h e0 e1 hn hks hcm
  generalize hD : ((x : Int) :: t) = d at *
  have HD := Lib.hid hD
  clear hD
  have hz0 : ((d.length : Int) == 0) = false := by simp; intro e; rw [e] at hlen; simp at hlen
  have hz1 : d.length ≠ 0 := by omega
  go_enter Tryd.func18, Tryd.ntmps18
  go_wp2_with fail
  refine (cright_yes _ _ d _ _ _ _ (by unfold maxLen; omega) JD.out HC.out).mono ?_
  rintro r w1 ⟨rfl, hb1⟩
  have S1 := Lib.hid (HS0.out.next hb1)
  have T1 := Lib.hid (HS1.out.next hb1)
  have H1 := Lib.hid (below_box (below_box hb1))
  have I1 := Lib.hid (ID.out.below H1.out)
  obtain ⟨s0, s1, s2, s3⟩ := S1.out.all
  obtain ⟨b, off, rfl, hb, hcs⟩ := I1.out (by omega)
  have hc0 : w1.cell? ⟨b, off, none⟩ = some (.int .i64 (x : Int)) := by have := hcs 0 (by omega); rw [← HD.out] at this; simpa using this
  clear hb1 hcs
  go_wp2_with fail
  refine (without_f _ _ d 0 _ (by omega) I1.out (by omega)).mono ?_
  rintro r w2 ⟨A2, e2, rfl, hf2, hcap2, hb2⟩
  have hwo : withoutL d 0 = t := by rw [← HD.out]; simp [withoutL]
  rw [hwo] at hf2 hcap2 ⊢
  have HCP := Lib.hid hcap2
  clear hwo hcap2
  have S2 := Lib.hid (S1.out.next hb2)
  have T2 := Lib.hid (T1.out.next hb2)
  have H2 := Lib.hid (below_next H1.out hb2)
  have H12 := Lib.hid hb2
  have F2 := Lib.hid hf2
  have it0 := hf2.ints
  have iv0 := IV.out.below H2.out
  clear hb2 hf2 s0 s1 s2 s3 hc0 hb
  have hS := S2.out.c1
  go_wp2_with fail
  generalize hg : w.heap.size = g at *
  have HG := Lib.hid hg
  clear hg
  go_region_held3 (fun w' => w'.cell? ⟨g, 1, none⟩ = some (.slice B v.length c2))
    (first
      | go_keep
      | exact keep1 hb3 (by go_keep)
      | exact keep1 hb5 (by go_keep))
    (first
      | (go_at_call 36; refine (size_nat _ _ t s _ HST.out (by have := HE1.out; unfold maxLen; omega) (by exact it0)).mono ?_; rintro e w3 ⟨rfl, hb3⟩; have iv3 := Ints.below (A := B) (l := v) (by exact iv0) hb3; have H3 := Lib.hid (Go.Proofs.YtbanegjmapgkdaaDoor.Sh.below_next (a := w2) (by first | exact Below.refl _ _ | exact (Below.refl _ _).drew | exact below_drewN (Below.refl _ _) _) hb3))
      | (go_at_call 51; refine (cut_any _ _ v k s _ hc hcm'.out (by omega) (by omega) (by exact iv3) HKS.out).mono ?_; rintro e w4 ⟨A4, rfl, hi4, rfl⟩)
      | (go_at_call 50; refine (clone64_any _ _ (piece v k s) _ (by rw [HPL.out]; omega) (by exact hi4)).mono ?_; rintro e w5 ⟨A5, e5, rfl, hm5, hb5⟩; have H5 := Lib.hid (Go.Proofs.YtbanegjmapgkdaaDoor.Sh.below_next (a := w2) (by first | exact H3.out | exact H3.out.drew | exact below_drewN H3.out _) hb5)))
  have U := Lib.hid (T2.out.next H5.out)
  obtain ⟨u0, u1, u2, u3⟩ := U.out.all
  have M5 := Lib.hid hm5
  have B3 := H3.out.size
  clear hm5 hb3 hb5 hi4 iv3 it0 iv0
  go_wp2
  have T := (U.out.set0 (.slice A2 t.length e2)).set1 (.slice A5 (piece v k s).length e5)
  obtain ⟨t0, t1, _, _⟩ := T.all
  refine bodyPost_ret (v := .tuple #[.agg #[.slice A2 t.length e2, .slice A5 (piece v k s).length e5], .bool true]) (by simp [results, Tryd.results18, go_sem, t0, t1]) rfl ?_
  have g1 := T1.out.lt
  have g2 := T2.out.lt
  have b12 := H12.out.size
  have hc : IsCell w5 w1.heap.size t (piece v k s) (.agg #[.slice A2 t.length e2, .slice A5 (piece v k s).length e5]) :=
    ⟨A2, e2, A5, e5, rfl, F2.out.below H5.out, M5.out.fr.mono (by first | exact Nat.le_trans b12 B3 | (simp; omega)), M5.out.cap.1, M5.out.cap.2, HCP.out.1, HCP.out.2⟩
  exact ⟨_, rfl, (hc.set2 g1 _ _).mono (by rw [HG.out]; omega), by rw [HG.out]; exact ((H2.out.trans (H5.out.mono (by omega))).setCell (by simp) _).setCell (by simp) _⟩

set_option maxHeartbeats 2000000 in
theorem item_no (A : Option Addr) (c : Nat) (d : List Int) (B : Option Addr) (c2 : Nat) (n : Nat) (i : Int) (w : World) (hd : d.length ≤ 100) (id : Ints w A d) (h : itemB d n i = false) :
    Calls Tryd.prog 18 #[.agg #[.slice A d.length c, .slice B n c2], .int .i64 i] w (RetC w [] [] (.bool false)) := by
  have hb2 : Below w.heap.size w ((w.alloc (.cells #[.slice A d.length c, .slice B n c2] 29)).alloc (.cells #[.slice none 0 0, .slice none 0 0] 29)) := below_box (below_box (Below.refl _ _))
  have hS0 := (Box.new w (.slice A d.length c) (.slice B n c2)).alloc (.cells #[.slice none 0 0, .slice none 0 0] 29)
  have hS1 := Box.new (w.alloc (.cells #[.slice A d.length c, .slice B n c2] 29)) (.slice none 0 0) (.slice none 0 0)
  rw [show (w.alloc (.cells #[.slice A d.length c, .slice B n c2] 29)).heap.size = w.heap.size + 1 from by simp] at hS1
  have HS0 := Lib.hid hS0
  have HS1 := Lib.hid hS1
  have JD := Lib.hid (id.below hb2)
  have ID := Lib.hid id
  clear hS0 hS1 hb2 id
  by_cases hcell : cellB d n = true
  · have HC := Lib.hid hcell
    by_cases hlen : 0 < d.length
    · have hz0 : ((d.length : Int) == 0) = false := by simp; intro e; rw [e] at hlen; simp at hlen
      have hz1 : d.length ≠ 0 := by omega
      by_cases hi0 : 0 ≤ i
      · have hi1 : d.getD 0 0 ≤ i := by
          simp only [itemB, hcell, hlen, hi0, decide_true, Bool.and_true, Bool.true_and, decide_eq_false_iff_not] at h
          omega
        have hid : decide (i < 0) = false := by simp; omega
        clear h hcell
        go_enter Tryd.func18, Tryd.ntmps18
        go_wp2_with fail
        refine (cright_yes _ _ d _ _ _ _ (by unfold maxLen; omega) JD.out HC.out).mono ?_
        rintro r w1 ⟨rfl, hb1⟩
        have S1 := Lib.hid (HS0.out.next hb1)
        have T1 := Lib.hid (HS1.out.next hb1)
        have H1 := Lib.hid (below_box (below_box hb1))
        obtain ⟨s0, s1, s2, s3⟩ := S1.out.all
        obtain ⟨u0, u1, u2, u3⟩ := T1.out.all
        obtain ⟨b, off, rfl, hb, hcs⟩ := ID.out.below H1.out (by omega)
        have hc0 : w1.cell? ⟨b, off, none⟩ = some (.int .i64 (d.getD 0 0)) := hcs 0 (by omega)
        clear hb1 hcs
        generalize d.getD 0 0 = x at *
        go_wp2
        have T := (T1.out.set0 (.slice none 0 0)).set1 (.slice none 0 0)
        obtain ⟨t0, t1, _, _⟩ := T.all
        refine bodyPost_ret (v := .tuple #[.agg #[.slice none 0 0, .slice none 0 0], .bool false]) (by simp [results, Tryd.results18, go_sem, t0, t1]) rfl ?_
        exact ⟨_, rfl, IsCell.none _ _, (H1.out.setCell (by simp) _).setCell (by simp) _⟩
      · have hi1 : i < 0 := by omega
        clear h hcell hi0
        go_enter Tryd.func18, Tryd.ntmps18
        go_wp2_with fail
        refine (cright_yes _ _ d _ _ _ _ (by unfold maxLen; omega) JD.out HC.out).mono ?_
        rintro r w1 ⟨rfl, hb1⟩
        have S1 := Lib.hid (HS0.out.next hb1)
        have T1 := Lib.hid (HS1.out.next hb1)
        have H1 := Lib.hid (below_box (below_box hb1))
        obtain ⟨s0, s1, s2, s3⟩ := S1.out.all
        obtain ⟨u0, u1, u2, u3⟩ := T1.out.all
        clear hb1
        go_wp2
        have T := (T1.out.set0 (.slice none 0 0)).set1 (.slice none 0 0)
        obtain ⟨t0, t1, _, _⟩ := T.all
        refine bodyPost_ret (v := .tuple #[.agg #[.slice none 0 0, .slice none 0 0], .bool false]) (by simp [results, Tryd.results18, go_sem, t0, t1]) rfl ?_
        exact ⟨_, rfl, IsCell.none _ _, (H1.out.setCell (by simp) _).setCell (by simp) _⟩
    · have hdn : d = [] := List.eq_nil_of_length_eq_zero (by omega)
      subst hdn
      clear h hcell hlen
      go_enter Tryd.func18, Tryd.ntmps18
      go_wp2_with fail
      refine (cright_yes _ _ [] _ _ _ _ (by simp) JD.out HC.out).mono ?_
      rintro r w1 ⟨rfl, hb1⟩
      have S1 := Lib.hid (HS0.out.next hb1)
      have T1 := Lib.hid (HS1.out.next hb1)
      have H1 := Lib.hid (below_box (below_box hb1))
      obtain ⟨s0, s1, s2, s3⟩ := S1.out.all
      obtain ⟨u0, u1, u2, u3⟩ := T1.out.all
      rw [List.length_nil] at s0
      clear hb1
      go_wp2
      have T := (T1.out.set0 (.slice none 0 0)).set1 (.slice none 0 0)
      obtain ⟨t0, t1, _, _⟩ := T.all
      refine bodyPost_ret (v := .tuple #[.agg #[.slice none 0 0, .slice none 0 0], .bool false]) (by simp [results, Tryd.results18, go_sem, t0, t1]) rfl ?_
      exact ⟨_, rfl, IsCell.none _ _, (H1.out.setCell (by simp) _).setCell (by simp) _⟩
  · have HC := Lib.hid (show cellB d n = false by simpa using hcell)
    clear h hcell
    go_enter Tryd.func18, Tryd.ntmps18
    go_wp2_with fail
    refine (cright_no _ _ d _ _ _ _ (by unfold maxLen; omega) JD.out HC.out).mono ?_
    rintro r w1 ⟨rfl, hb1⟩
    have T1 := Lib.hid (HS1.out.next hb1)
    have H1 := Lib.hid (below_box (below_box hb1))
    obtain ⟨u0, u1, u2, u3⟩ := T1.out.all
    clear hb1
    go_wp2
    have T := (T1.out.set0 (.slice none 0 0)).set1 (.slice none 0 0)
    obtain ⟨t0, t1, _, _⟩ := T.all
    refine bodyPost_ret (v := .tuple #[.agg #[.slice none 0 0, .slice none 0 0], .bool false]) (by simp [results, Tryd.results18, go_sem, t0, t1]) rfl ?_
    exact ⟨_, rfl, IsCell.none _ _, (H1.out.setCell (by simp) _).setCell (by simp) _⟩
end Go.Proofs.YtbanegjmapgkdaaDoor.Sh
-- CellRItem
namespace Go.Proofs.YtbanegjmapgkdaaDoor.Sh
open Go.RowKit
set_option linter.unusedVariables false

theorem step_appI {t e : TypeId} (hinf : NumT e) (ht : Tryd.prog.underlying t = some (.slice e)) {w : World} {ops : Array Oper} {o : Oper} {a : Act} {K : Act → World → Prop} {Q : Exit → Act → World → Prop} {E : Prop} (hgd : o.guard = none) (s x : Operand)
    (ho : o.op = .call { callee := .builtin .append, args := #[s, x], argTypes := #[t, t] })
    (base : Nat) (v : Value) (xs : List Int) (hs : a.eval s = v) (hown : MineT e w base v xs) (A : Option Addr) (c : Nat) (ys : List Int) (hx : a.eval x = .slice A ys.length c) (hi : Ints w A ys)
    (hlen : xs.length + ys.length ≤ 100000) (hbase : base ≤ w.heap.size)
    (h : ∀ v' w', MineT e w' base v' (xs ++ ys) → w.grownBy w' v.ownBlock → (v'.ownBlock = v.ownBlock ∨ v'.ownBlock = some w.heap.size) → K (a.put o.dst v') w') :
    if Region.wanted o (yielded ops a.tmps) = true then Oper.wp Tryd.prog o a w K Q else E := by
  have hw : Region.wanted o (yielded ops a.tmps) = true := by simp [Region.wanted, hgd]
  rw [if_pos hw]
  exact wp_appI hinf ht s x ho base v xs hs hown A c ys hx hi hlen hbase h

/-- The numbers of the i-th piece among the first q. -/
def part (v : List Int) (i s q : Nat) : List Int := ((v.take q).drop (i * s)).take s
theorem part_zero (v : List Int) (i s : Nat) : part v i s 0 = [] := by simp [part]
theorem part_length (v : List Int) (i s q : Nat) : (part v i s q).length ≤ s := by simp [part]; omega
theorem part_in {v : List Int} {i s q : Nat} (h1 : i * s ≤ q) (h2 : q < i * s + s) (hq : q < v.length) : part v i s (q + 1) = part v i s q ++ [v.getD q 0] := by
  unfold part
  have l1 : ((v.take q).drop (i * s)).length ≤ s := by simp; omega
  have l2 : ((v.take q).drop (i * s) ++ [v.getD q 0]).length ≤ s := by simp; omega
  rw [take_snoc v q hq, List.drop_append_of_le_length (by simp; omega), List.take_of_length_le l2, List.take_of_length_le l1]
theorem part_out {v : List Int} {i s q : Nat} (h : q < i * s ∨ i * s + s ≤ q) (hq : q < v.length) : part v i s (q + 1) = part v i s q := by
  unfold part
  rcases h with h | h
  · rw [List.drop_of_length_le (by simp; omega), List.drop_of_length_le (by simp; omega)]
  · rw [take_snoc v q hq, List.drop_append_of_le_length (by simp; omega), List.take_append_of_le_length (by simp; omega)]
theorem part_all (v : List Int) (i s : Nat) : part v i s v.length = piece v i s := by simp [part, piece]
theorem head_is {x s q k : Nat} {t : List Int} (hr : rightB t = true) (hs : sizeI t = s) (hq : q < x * s) : ((dg ((x : Int) :: t) q).getD 0 0 = (k : Int)) ↔ (k * s ≤ q ∧ q < k * s + s) := by
  have hp : prod t = s := by rw [← hs]; simp [sizeI, hr]
  have h0 : 0 < s := by
    rcases Nat.eq_zero_or_pos s with h | h
    · subst h; simp at hq
    · exact h
  have e : (dg ((x : Int) :: t) q).getD 0 0 = ((q / s : Nat) : Int) := by
    show ((q : Int) / prod t) % (x : Int) = _
    rw [hp]
    have h1 : q / s < x := (Nat.div_lt_iff_lt_mul h0).2 hq
    rw [← Int.natCast_ediv, ← Int.natCast_emod, Nat.mod_eq_of_lt h1]
  rw [e]
  constructor
  · intro h
    have h1 : q / s = k := by omega
    have h2 := Nat.div_add_mod q s
    have h3 := Nat.mod_lt q h0
    rw [h1, Nat.mul_comm] at h2
    omega
  · rintro ⟨h1, h2⟩
    have : q / s = k := by
      apply Nat.div_eq_of_lt_le
      · rw [Nat.mul_comm] at h1; rw [Nat.mul_comm]; exact h1
      · rw [Nat.add_mul, Nat.one_mul]; omega
    omega

theorem own_grown {w w' : World} {base : Nat} {e : TypeId} {size : Nat} {v : Value} {n : Nat} {xs : List Value} {g : Nat} {x y : Value} (h : w.ownsRow base e size v n xs) (hb : Box w g x y) (hne : e ≠ 29) (hg : w.grownBy w' (some g)) : w'.ownsRow base e size v n xs := by
  have hlt := own_lt h
  refine ⟨h.1, ?_⟩
  rcases h.2 with hn | ⟨g', cap, cur, rfl, hbg, hh, r⟩
  · exact .inl hn
  · refine .inr ⟨g', cap, cur, rfl, hbg, (hg.block g' (hlt g' rfl) (fun e1 => ?_)).trans hh, r⟩
    injection e1 with e1
    subst e1
    unfold Box at hb
    rw [hh] at hb
    injection hb with hb
    injection hb with _ ht
    exact hne ht
theorem Outs.grown {d : List Int} {w w' : World} {base : Nat} {v : Value} {n g : Nat} {x y : Value} (h : Outs d w base v n) (hb : Box w g x y) (hg : w.grownBy w' (some g)) : Outs d w' base v n := by
  obtain ⟨vs, h1, h2⟩ := h
  exact ⟨vs, own_grown h1 hb (by decide) hg, fun t u hu => own_grown (h2 t u hu) hb (by decide) hg⟩
/-- Only block g, and what is new, has turned. -/
theorem turned_drew {a w : World} {row : Option Nat} (h : a.grownBy w row) : a.grownBy w.drew row := ⟨h.os, h.tape, h.output, h.size, h.block⟩
theorem turned_drewN {a w : World} {row : Option Nat} (h : a.grownBy w row) (n : Nat) : a.grownBy (w.drewN n) row := ⟨h.os, h.tape, h.output, h.size, h.block⟩
theorem turned_alloc {a w : World} {row : Option Nat} (h : a.grownBy w row) (o : Obj) : a.grownBy (w.alloc o) row :=
  ⟨h.os, h.tape, h.output, Nat.le_trans h.size (by simp), fun i hi hne => (Below.heap_alloc w o i (Nat.lt_of_lt_of_le hi h.size)).trans (h.block i hi hne)⟩
theorem turned_set {a w : World} {g : Nat} (h : a.grownBy w (some g)) (j : Nat) (u : Value) : a.grownBy (w.setCell ⟨g, j, none⟩ u) (some g) :=
  ⟨h.os, h.tape, h.output, by simpa [World.setCell] using h.size, fun i hi hne => (Below.heap_setCell w ⟨g, j, none⟩ u i (fun e => hne (by rw [e]))).trans (h.block i hi hne)⟩
theorem turned_grown {a w w' : World} {row r2 : Option Nat} (h : a.grownBy w row) (k : w.grownBy w' r2) (hr : ∀ g, r2 = some g → a.heap.size ≤ g) : a.grownBy w' row :=
  ⟨k.os.trans h.os, k.tape.trans h.tape, k.output.trans h.output, Nat.le_trans h.size k.size, fun i hi hne => (k.block i (Nat.lt_of_lt_of_le hi h.size) (fun e => by have := hr i e.symm; omega)).trans (h.block i hi hne)⟩
theorem below_turned {a b c : World} {g : Nat} (h : Below a.heap.size a b) (k : b.grownBy c (some g)) (hg : a.heap.size ≤ g) : Below a.heap.size a c :=
  ⟨k.os.trans h.os, k.tape.trans h.tape, k.output.trans h.output, Nat.le_trans h.size k.size, fun i hi => (k.block i (Nat.lt_of_lt_of_le hi h.size) (fun e => by injection e with e; omega)).trans (h.block i hi)⟩

end Go.Proofs.YtbanegjmapgkdaaDoor.Sh
-- CellAll
namespace Go.Proofs.YtbanegjmapgkdaaDoor.Sh
open Go.RowKit
set_option linter.unusedVariables false

/-- A cell as two lists: its axes and its numbers. -/
abbrev Two := List Int × List Int
/-- A slice of cells, nil let in. -/
def Cells (w : World) (A : Option Addr) (L : List Two) : Prop :=
  0 < L.length → ∃ b off, A = some ⟨b, off, none⟩ ∧ b < w.heap.size ∧ ∀ i (h : i < L.length), ∃ Ai ci Bi ei, w.cell? ⟨b, off + 2 * i, none⟩ = some (.slice Ai L[i].1.length ci) ∧ w.cell? ⟨b, off + 2 * i + 1, none⟩ = some (.slice Bi L[i].2.length ei) ∧ Ints w Ai L[i].1 ∧ Ints w Bi L[i].2
theorem Cells.below {w w' : World} {A : Option Addr} {L : List Two} (h : Cells w A L) (hb : Below w.heap.size w w') : Cells w' A L := by
  intro hl
  obtain ⟨b, off, e, hlt, hc⟩ := h hl
  refine ⟨b, off, e, Nat.lt_of_lt_of_le hlt hb.size, fun i hi => ?_⟩
  obtain ⟨Ai, ci, Bi, ei, h1, h2, h3, h4⟩ := hc i hi
  exact ⟨Ai, ci, Bi, ei, (hb.cell (p := ⟨b, off + 2 * i, none⟩) hlt).trans h1, (hb.cell (p := ⟨b, off + 2 * i + 1, none⟩) hlt).trans h2, h3.below hb, h4.below hb⟩
def SmallL (L : List Two) : Prop := ∀ x ∈ L, x.1.length ≤ 10 ∧ x.2.length ≤ 200

theorem all_take_snoc (p : Two → Bool) (L : List Two) (k : Nat) (h : k < L.length) : (L.take (k + 1)).all p = ((L.take k).all p && p L[k]) := by
  rw [List.take_succ_eq_append_getElem h, List.all_append, List.all_cons, List.all_nil, Bool.and_true]
theorem all_bad (p : Two → Bool) (L : List Two) (k : Nat) (h : k < L.length) (hp : p L[k] = false) : L.all p = false := by
  rw [Bool.eq_false_iff]
  intro ha
  rw [List.all_eq_true] at ha
  rw [ha _ (List.getElem_mem h)] at hp
  cases hp
def pR (x : Two) : Bool := cellB x.1 x.2.length
def pD (d : List Int) (x : Two) : Bool := decide (d = x.1)
theorem box_read {w : World} {g : Nat} {x y : Value} (h : Box w g x y) {o : Obj} : (w.alloc o).cell? ⟨g, 0, none⟩ = some x := (h.alloc o).c0
end Go.Proofs.YtbanegjmapgkdaaDoor.Sh
-- CellCopy
namespace Go.Proofs.YtbanegjmapgkdaaDoor.Sh
open Go.RowKit
set_option linter.unusedVariables false

/-- A cell of these axes with n noughts, whose row is a new block known whole. -/
def RetZ (w : World) (d : List Int) (n : Nat) (e : Ending) (w' : World) : Prop := ∃ A c g, e = .returned (.agg #[.slice A d.length c, .slice (some ⟨g, 0, none⟩) n n]) ∧ MineT 3 w' w.heap.size (.slice A d.length c) d ∧ w'.heap[g]? = some (.cells (cellsI (List.replicate n 0)) 2 (0, 0)) ∧ w.heap.size ≤ g ∧ Below w.heap.size w w'
set_option maxHeartbeats 1000000 in
theorem zero_m (A : Option Addr) (c : Nat) (d : List Int) (w : World) (hd : d.length ≤ 100) (id : Ints w A d) (hR : rightB d = true) :
    Calls Tryd.prog 33 #[.slice A d.length c] w (RetZ w d (sizeI d).toNat) := by
  have ID := Lib.hid (id.below (w' := w.alloc (.cells #[.slice none 0 0, .slice none 0 0] 29)) (below_box (Below.refl _ _)))
  have ID0 := Lib.hid id
  have HS := Lib.hid (Box.new w (.slice none 0 0) (.slice none 0 0))
  clear id
  · have HR := Lib.hid hR
    obtain ⟨h3, hall, h64⟩ := rightB_all hR
    have hp0 := (prod_bd d hall).1
    obtain ⟨n, hn⟩ : ∃ n : Nat, sizeI d = n := ⟨(prod d).toNat, by rw [sizeI_mk h3 hall h64]; omega⟩
    have hn64 : n ≤ 64 := by have : sizeI d = prod d := sizeI_mk h3 hall h64; omega
    rw [hn, Int.toNat_natCast]
    have HN := Lib.hid hn
    clear hR hall hn hp0 h64 h3
    have hmk := fun W => run_make_row' (P := Tryd.prog) 27 2 (.int .i64 0) 8 Tryd.underlying27 numL rfl .i64 .i64 n (by omega) (by omega) W
    go_enter Tryd.func33, Tryd.ntmps33
    go_wp2_with fail
    refine (right_yes _ _ d _ HR.out (by unfold maxLen; omega) ID.out).mono ?_
    rintro r w1 ⟨rfl, hb1⟩
    have S1 := Lib.hid (HS.out.next hb1)
    have H1 := Lib.hid (below_box hb1)
    have I1 := Lib.hid (ID0.out.below H1.out)
    clear hb1
    go_wp2_with fail
    refine (clone_t _ _ d _ hd I1.out).mono ?_
    rintro r w2 ⟨A2, c2, rfl, hm2, hb2⟩
    have S2 := Lib.hid (S1.out.next hb2)
    have H2 := Lib.hid (below_next H1.out hb2)
    have I2 := Lib.hid (ID0.out.below H2.out)
    have M2 := Lib.hid hm2
    clear hb2 hm2
    go_wp2_with fail
    refine (size_any _ _ d _ (by unfold maxLen; omega) I2.out).mono ?_
    rintro r w3 ⟨rfl, hb3⟩
    have S3 := Lib.hid (S2.out.next hb3)
    have H3 := Lib.hid (below_next H2.out hb3)
    have M3 := Lib.hid (M2.out.below hb3 (Nat.le_refl _))
    clear hb3
    rw [HN.out]
    have S4 := Lib.hid (S3.out.alloc (.cells (madeCells #[Value.int .i64 0] n) 2))
    obtain ⟨s0, s1, s2, s3⟩ := S4.out.all
    go_wp2
    have T := (S4.out.set0 (.slice A2 d.length c2)).set1 (.slice (some ⟨w3.heap.size, 0, none⟩) n n)
    obtain ⟨t0, t1, _, _⟩ := T.all
    refine bodyPost_ret (v := .agg #[.slice A2 d.length c2, .slice (some ⟨w3.heap.size, 0, none⟩) n n]) (by simp [results, Tryd.results33, go_sem, t0, t1]) rfl ?_
    have m3 := (M3.out.alloc (.cells (madeCells #[Value.int .i64 0] n) 2)).box S1.out.lt (.slice A2 d.length c2) (.slice (some ⟨w3.heap.size, 0, none⟩) n n)
    have hrow : (((w3.alloc (.cells (madeCells #[Value.int .i64 0] n) 2)).setCell ⟨w.heap.size, 0, none⟩ (.slice A2 d.length c2)).setCell ⟨w.heap.size, 1, none⟩ (.slice (some ⟨w3.heap.size, 0, none⟩) n n)).heap[w3.heap.size]? = some (.cells (cellsI (List.replicate n 0)) 2 (0, 0)) := by
      have hne : ¬ w3.heap.size = w.heap.size := by have := S3.out.lt; omega
      rw [Below.heap_setCell _ ⟨w.heap.size, 1, none⟩ _ _ hne, Below.heap_setCell _ ⟨w.heap.size, 0, none⟩ _ _ hne, ← cells_made]
      exact heap_alloc_new w3 _
    exact ⟨A2, c2, w3.heap.size, rfl, m3.mono H1.out.size, hrow, H3.out.size, (((H3.out.alloc H3.out.size _).setCell (Nat.le_refl _) _).setCell (Nat.le_refl _) _)⟩

/-- A piece of a row, with its address. -/
def RetAt (g i s : Nat) (w : World) (e : Ending) (w' : World) : Prop := ∃ A, e = .returned (.slice A s s) ∧ (0 < s → A = some ⟨g, i * s, none⟩) ∧ w = w'
set_option maxHeartbeats 1000000 in
theorem cut_at (g n c i s : Nat) (w : World) (hc : n ≤ c) (hcm : c ≤ 10000) (hi0 : i ≤ 10000) (h : (i + 1) * s ≤ n) :
    Calls Tryd.prog 51 #[.slice (some ⟨g, 0, none⟩) n c, .int .i64 i, .int .i64 s] w (RetAt g i s w) := by
  have hin : i * s + s ≤ n := by rw [Nat.add_mul, Nat.one_mul] at h; exact h
  rcases Nat.eq_zero_or_pos s with h0 | hs
  · subst h0
    clear h hin
    go_enter Tryd.func51, Tryd.ntmps51
    go_wp2
    go_ret
    exact ⟨_, by first | rfl | simp, fun h => absurd h (by omega), rfl⟩
  · have hs2 : s ≤ 10000 := by omega
    have hne : ¬ (i + 1) * s = i * s := by rw [Nat.add_mul, Nat.one_mul]; omega
    have HQ := Lib.hid (show (i + 1) * s - i * s = s by rw [Nat.add_mul, Nat.one_mul]; omega)
    have g0 : (0 : Int) ≤ (i : Int) * (s : Int) := Int.mul_nonneg (by omega) (by omega)
    have g1 : (i : Int) * (s : Int) ≤ ((i : Int) + 1) * (s : Int) := Int.mul_le_mul_of_nonneg_right (by omega) (by omega)
    have g2 : ((i : Int) + 1) * (s : Int) ≤ c := by
      have : (((i + 1) * s : Nat) : Int) ≤ c := by omega
      simpa using this
    clear h hin
    go_enter Tryd.func51, Tryd.ntmps51
    go_wp2
    go_ret
    exact ⟨some ⟨g, i * s, none⟩, ret_slice HQ.out rfl, fun _ => rfl, rfl⟩

theorem run_copyI {ty : TypeId} {w : World} {g off : Nat} {cur ys : List Int} {dp A : Option Addr} {s c c' : Nat} (hg : w.heap[g]? = some (.cells (cellsI cur) 2 (0, 0))) (hdp : 0 < s → dp = some ⟨g, off, none⟩) (hy : Ints w A ys) (hn : ys.length = s) (hf : off + ys.length ≤ cur.length) :
    ∃ w', (Builtin.copy_ #[27, 27] ty #[.slice dp s c, .slice A ys.length c']).run Tryd.prog w = .ok (goInt ys.length) w' ∧ w'.heap[g]? = some (.cells (cellsI (splice cur off ys)) 2 (0, 0)) ∧ w.grownBy w' (some g) := by
  have hsz : (Tryd.prog.info? 2).map (·.size) = some 1 := by kernel_rfl
  rcases Nat.eq_zero_or_pos ys.length with h0 | h0
  · obtain rfl : ys = [] := List.eq_nil_of_length_eq_zero h0
    refine ⟨w, ?_, by simpa [splice] using hg, World.grownBy.refl w _⟩
    exact run_copy_none (P := Tryd.prog) w 27 27 ty 2 dp A s c 0 c' Tryd.underlying27 hsz (by simp)
  · obtain ⟨b, o, rfl, hb, hcs⟩ := hy h0
    have hd := hdp (by omega)
    subst hd
    have hrun := run_copy_row (P := Tryd.prog) w 27 27 ty 2 g off s c ⟨b, o, none⟩ ys.length c' (cellsI cur) 2 (ys.map (Value.int .i64)) Tryd.underlying27 hsz hg (by simp [hn])
      (fun j v hj => by
        have hjl : j < ys.length := by
          have := (List.getElem?_eq_some_iff.1 hj).1
          simpa using this
        rw [Go.WideShapes.add_plain, hcs j hjl]
        rw [List.getElem?_map, List.getElem?_eq_getElem hjl] at hj
        simp at hj
        simp [List.getD, hjl, hj]) (by simpa [cellsI] using hf) (fun v hv => by simp at hv; obtain ⟨y, _, rfl⟩ := hv; rfl)
    rw [List.length_map] at hrun
    refine ⟨_, hrun, ?_, ?_⟩
    · rw [setRow_heap w g _ _ 2 _ hg]
      simp [cellsI, splice]
    · exact ⟨rfl, rfl, rfl, by simp [World.setRow], fun i hi hne => setRow_other w g i _ (fun e => hne (by rw [e]))⟩
theorem step_copyI {w : World} {ops : Array Oper} {o : Oper} {a : Act} {K : Act → World → Prop} {Q : Exit → Act → World → Prop} {E : Prop} (hgd : o.guard = none) (d x : Operand)
    (ho : o.op = .call { callee := .builtin .copy, args := #[d, x], argTypes := #[27, 27] })
    (g off : Nat) (cur ys : List Int) (dp A : Option Addr) (s c c' : Nat) (hd : a.eval d = .slice dp s c) (hx : a.eval x = .slice A ys.length c') (hg : w.heap[g]? = some (.cells (cellsI cur) 2 (0, 0))) (hdp : 0 < s → dp = some ⟨g, off, none⟩) (hy : Ints w A ys) (hn : ys.length = s) (hf : off + ys.length ≤ cur.length)
    (h : ∀ w', w'.heap[g]? = some (.cells (cellsI (splice cur off ys)) 2 (0, 0)) → w.grownBy w' (some g) → K (a.put o.dst (goInt ys.length)) w') :
    if Region.wanted o (yielded ops a.tmps) = true then Oper.wp Tryd.prog o a w K Q else E := by
  have hw : Region.wanted o (yielded ops a.tmps) = true := by simp [Region.wanted, hgd]
  rw [if_pos hw]
  obtain ⟨w', hrun, h1, h2⟩ := run_copyI (ty := o.type) (c := c) (c' := c') hg hdp hy hn hf
  unfold Oper.wp execOp
  simp only [ho, resolve, invoke, builtin, Sem.run_bind, Sem.run_pure, Result.andThen_ok, List.map_toArray, List.map_cons, List.map_nil, hd, hx, hrun]
  exact h w' h1 h2
end Go.Proofs.YtbanegjmapgkdaaDoor.Sh
-- CellStack
namespace Go.Proofs.YtbanegjmapgkdaaDoor.Sh
open Go.RowKit
set_option linter.unusedVariables false

def catV (L : List Two) : List Int := (L.map (·.2)).flatten
theorem catV_take (L : List Two) (k : Nat) (h : k < L.length) : catV (L.take (k + 1)) = catV (L.take k) ++ L[k].2 := by
  unfold catV
  rw [List.take_succ_eq_append_getElem h, List.map_append, List.flatten_append]
  simp
theorem catV_len {L : List Two} {s : Nat} (h : ∀ x ∈ L, x.2.length = s) : (catV L).length = L.length * s := by
  unfold catV
  induction L with
  | nil => simp
  | cons x L ih =>
    rw [List.map_cons, List.flatten_cons, List.length_append, ih (fun y hy => h y (List.mem_cons_of_mem _ hy)), h x (by simp), List.length_cons, Nat.add_mul, Nat.one_mul]
    omega
/-- The row behind k copies. -/
def rowK (L : List Two) (s k : Nat) : List Int := catV (L.take k) ++ List.replicate ((L.length - k) * s) 0
theorem rowK_0 (L : List Two) (s : Nat) : rowK L s 0 = List.replicate (L.length * s) 0 := by simp [rowK, catV]
theorem rowK_n (L : List Two) (s : Nat) : rowK L s L.length = catV L := by simp [rowK]
theorem catV_take_len {L : List Two} {s k : Nat} (h : ∀ x ∈ L, x.2.length = s) (hk : k ≤ L.length) : (catV (L.take k)).length = k * s := by
  rw [catV_len (L := L.take k) (s := s) (fun x hx => h x (List.mem_of_mem_take hx)), List.length_take, Nat.min_eq_left hk]
theorem rowK_len {L : List Two} {s k : Nat} (h : ∀ x ∈ L, x.2.length = s) (hk : k ≤ L.length) : (rowK L s k).length = L.length * s := by
  unfold rowK
  rw [List.length_append, catV_take_len h hk, List.length_replicate, ← Nat.add_mul, Nat.add_sub_cancel' hk]
theorem rowK_succ {L : List Two} {s k : Nat} (h : ∀ x ∈ L, x.2.length = s) (hk : k < L.length) : splice (rowK L s k) (k * s) L[k].2 = rowK L s (k + 1) := by
  have hl := catV_take_len h (Nat.le_of_lt hk)
  have hv : L[k].2.length = s := h _ (List.getElem_mem hk)
  unfold splice
  rw [hv]
  unfold rowK
  rw [catV_take L k hk, List.take_append_of_le_length (by omega), List.take_of_length_le (by omega), List.drop_append, List.drop_of_length_le (by omega), List.nil_append, hl, List.append_assoc]
  congr 2
  rw [List.drop_replicate]
  congr 1
  have : L.length - k = (L.length - (k + 1)) + 1 := by omega
  rw [this, Nat.add_mul, Nat.one_mul]
  omega

section
variable {A : Option Addr} {c : Nat} {L : List Two} {w : World}
end
theorem keepG {W w' : World} {gV g : Nat} {x : Value} (h : W.grownBy w' (some gV)) (hg : g ≠ gV) (hc : W.cell? ⟨g, 1, none⟩ = some x) : w'.cell? ⟨g, 1, none⟩ = some x :=
  (World.cell?_of_block (h.block g (World.block_lt_of_cell? W ⟨g, 1, none⟩ hc) (fun e => hg (by injection e)))).trans hc
theorem mine_turned {t : TypeId} {w w' : World} {base gV : Nat} {v : Value} {xs ys : List Int} (h : MineT t w base v xs) (hg : w.heap[gV]? = some (.cells (cellsI ys) 2 (0, 0))) (ht : t ≠ 2) (hr : w.grownBy w' (some gV)) : MineT t w' base v xs := by
  refine h.keep fun g hv => hr.block g (h.lt g hv) (fun e => ?_)
  injection e with e
  subst e
  rcases h.2 with ⟨rfl, _⟩ | ⟨g', cap, cur, rfl, _, hh, _⟩
  · simp [Value.ownBlock] at hv
  · simp [Value.ownBlock] at hv
    subst hv
    rw [hg] at hh
    injection hh with hh
    injection hh with _ hh
    exact ht hh.symm
theorem mine_block {w : World} {base gV : Nat} {xs : List Int} (hg : w.heap[gV]? = some (.cells (cellsI xs) 2 (0, 0))) (hb : base ≤ gV) (hl : xs.length ≤ maxLen) : MineT 2 w base (.slice (some ⟨gV, 0, none⟩) xs.length xs.length) xs :=
  ⟨by simp, .inr ⟨gV, xs.length, cellsI xs, rfl, hb, hg, Nat.le_refl _, hl, by simp [cellsI], by simp [cellsI, ← List.map_take]⟩⟩

end Go.Proofs.YtbanegjmapgkdaaDoor.Sh
-- Row64
namespace Go.Proofs.YtbanegjmapgkdaaDoor.Sh
open Go.RowKit
set_option linter.unusedVariables false

theorem turned_below {a w w' : World} {row : Option Nat} (h : a.grownBy w row) (k : Below w.heap.size w w') : a.grownBy w' row :=
  ⟨k.os.trans h.os, k.tape.trans h.tape, k.output.trans h.output, Nat.le_trans h.size k.size, fun i hi hne => (k.block i (Nat.lt_of_lt_of_le hi h.size)).trans (h.block i hi hne)⟩
theorem turned_refl (a : World) (row : Option Nat) : a.grownBy a row := World.grownBy.refl a row
/-- Block g is just these numbers. -/
def Row64 (w : World) (g : Nat) (xs : List Int) : Prop := w.heap[g]? = some (.cells (cellsI xs) 2 (0, 0))
section
variable {w w' : World} {g : Nat} {xs : List Int}
theorem Row64.lt (h : Row64 w g xs) : g < w.heap.size := by
  rcases Nat.lt_or_ge g w.heap.size with hlt | hge
  · exact hlt
  · unfold Row64 at h; rw [Array.getElem?_eq_none hge] at h; cases h
theorem Row64.cell (h : Row64 w g xs) {i : Nat} (hi : i < xs.length) : w.cell? ⟨g, i, none⟩ = some (.int .i64 (xs.getD i 0)) := by
  rw [cell_of_row w g i _ _ _ h]; simp [cellsI, List.getD, hi]
theorem Row64.frozen (h : Row64 w g xs) (i : Nat) : w.frozen? ⟨g, i, none⟩ = false := by unfold Row64 at h; simp [World.frozen?, h]
theorem Row64.drew (h : Row64 w g xs) : Row64 w.drew g xs := h
theorem Row64.drewN (h : Row64 w g xs) (n : Nat) : Row64 (w.drewN n) g xs := h
theorem Row64.alloc (h : Row64 w g xs) (o : Obj) : Row64 (w.alloc o) g xs := (Below.heap_alloc w o g h.lt).trans h
theorem Row64.next (h : Row64 w g xs) (hb : Below w.heap.size w w') : Row64 w' g xs := (hb.block g h.lt).trans h
theorem Row64.far (h : Row64 w g xs) {p : Addr} (hp : g ≠ p.block) (u : Value) : Row64 (w.setCell p u) g xs := (Below.heap_setCell w p u g hp).trans h
theorem Row64.set_ (h : Row64 w g xs) (i : Nat) (x : Int) : Row64 (w.setCell ⟨g, i, none⟩ (.int .i64 x)) g (xs.set i x) := by
  unfold Row64 at h ⊢
  simp [World.setCell, Array.getElem?_modify, h, cellsI, List.map_set]
theorem Row64.ints (h : Row64 w g xs) : Ints w (some ⟨g, 0, none⟩) xs := fun _ => ⟨g, 0, rfl, h.lt, fun i hi => by rw [Nat.zero_add]; exact h.cell hi⟩
end
/-- The numbers of the first k places, noughts behind. -/
def fillK (f : Nat → Int) (n k : Nat) : List Int := (List.range n).map fun i => if i < k then f i else 0
theorem fillK_length (f : Nat → Int) (n k : Nat) : (fillK f n k).length = n := by simp [fillK]
theorem fillK_0 (f : Nat → Int) (n : Nat) : fillK f n 0 = List.replicate n 0 := by
  apply List.ext_getElem <;> simp [fillK]
theorem fillK_n (f : Nat → Int) (n : Nat) : fillK f n n = (List.range n).map f := by
  apply List.map_congr_left
  intro i hi
  rw [if_pos (List.mem_range.1 hi)]
theorem fillK_succ (f : Nat → Int) (n k : Nat) (h : k < n) : (fillK f n k).set k (f k) = fillK f n (k + 1) := by
  apply List.ext_getElem
  · simp [fillK]
  · intro i h1 h2
    rw [List.getElem_set]
    simp only [fillK, List.getElem_map, List.getElem_range]
    by_cases hik : k = i
    · subst hik; simp
    · rw [if_neg hik]
      by_cases hlt : i < k
      · rw [if_pos hlt, if_pos (by omega)]
      · rw [if_neg hlt, if_neg (by omega)]
theorem below_new (w : World) (o : Obj) : Below w.heap.size w (w.alloc o) := (Below.refl _ w).alloc (Nat.le_refl _) o
end Go.Proofs.YtbanegjmapgkdaaDoor.Sh
-- SpOut
namespace Go.Proofs.YtbanegjmapgkdaaDoor.Sh
open Go.RowKit
set_option linter.unusedVariables false

/-- Since w0 only block g has turned, which is a cell's box; its numbers are a row of the call's own. -/
def OutSt (w0 w : World) (g : Nat) (X V : Value) (ys : List Int) : Prop := w0.grownBy w (some g) ∧ Box w g X V ∧ MineT 2 w w0.heap.size V ys ∧ g < w0.heap.size
section
variable {w0 w w' w5 : World} {g : Nat} {X V V' : Value} {ys zs : List Int}
theorem OutSt.turn (h : OutSt w0 w g X V ys) : w0.grownBy w (some g) := h.1
theorem OutSt.box (h : OutSt w0 w g X V ys) : Box w g X V := h.2.1
theorem OutSt.mine (h : OutSt w0 w g X V ys) : MineT 2 w w0.heap.size V ys := h.2.2.1
theorem OutSt.new (w : World) (X : Value) : OutSt (w.alloc (.cells #[X, .slice none 0 0] 29)) (w.alloc (.cells #[X, .slice none 0 0] 29)) w.heap.size X (.slice none 0 0) [] :=
  ⟨World.grownBy.refl _ _, Box.new w _ _, MineT.nil _ _ _, by simp⟩
theorem OutSt.next (h : OutSt w0 w g X V ys) (hb : Below w.heap.size w w') : OutSt w0 w' g X V ys :=
  ⟨turned_below h.1 hb, h.2.1.next hb, h.2.2.1.below hb (Nat.le_refl _), h.2.2.2⟩
theorem OutSt.drewN (h : OutSt w0 w g X V ys) (n : Nat) : OutSt w0 (w.drewN n) g X V ys := ⟨turned_drewN h.1 n, h.2.1, h.2.2.1, h.2.2.2⟩
theorem OutSt.drew (h : OutSt w0 w g X V ys) : OutSt w0 w.drew g X V ys := ⟨turned_drew h.1, h.2.1, h.2.2.1, h.2.2.2⟩
theorem OutSt.alloc (h : OutSt w0 w g X V ys) (o : Obj) : OutSt w0 (w.alloc o) g X V ys := h.next ((Below.refl _ w).alloc (Nat.le_refl _) o)
theorem OutSt.size (h : OutSt w0 w g X V ys) : w0.heap.size ≤ w.heap.size := h.1.size
theorem OutSt.ne (h : OutSt w0 w g X V ys) : some g ≠ V.ownBlock := fun e => by have := h.2.2.1.block g e.symm; have := h.2.2.2; omega
/-- Behind an append and ahead of its store. -/
theorem OutSt.mid (h : OutSt w0 w g X V ys) (hg : w.grownBy w5 V.ownBlock) : Box w5 g X V := h.2.1.grown hg h.ne
theorem OutSt.app (h : OutSt w0 w g X V ys) (hm : MineT 2 w5 w0.heap.size V' (ys ++ zs)) (hg : w.grownBy w5 V.ownBlock) : OutSt w0 (w5.setCell ⟨g, 1, none⟩ V') g X V' (ys ++ zs) :=
  ⟨turned_set (turned_grown h.1 hg h.2.2.1.block) 1 _, (h.mid hg).set1 _, hm.setCell (p := ⟨g, 1, none⟩) (fun e => by have := hm.block g e; have := h.2.2.2; omega) _, h.2.2.2⟩
end
theorem one_new (w : World) (x : Int) : Ints (w.alloc (.cells #[.int .i64 x] 2)) (some ⟨w.heap.size, 0, none⟩) [x] := (MineT.new 2 w [x] 0 (Nat.zero_le _) (by unfold maxLen; simp)).ints'
end Go.Proofs.YtbanegjmapgkdaaDoor.Sh
-- ShapePls5
namespace Go.Proofs.YtbanegjmapgkdaaDoor.Sh
open Go.RowKit
set_option linter.unusedVariables false

/-- A row of rows, the t-th is the t-th place, in blocks from lo on. -/
def Pls (w : World) (lo : Nat) (d : List Int) (n : Nat) (A : Option Addr) : Prop :=
  ∀ t, t < n → ∃ b At ct, A = some ⟨b, 0, none⟩ ∧ lo ≤ b ∧ b < w.heap.size ∧ w.cell? ⟨b, t, none⟩ = some (.slice At d.length ct) ∧ Fr w lo At (dg d t)
theorem Fr.grown {w w' : World} {lo : Nat} {A : Option Addr} {l : List Int} {g : Nat} (h : Fr w lo A l) (hg : w.grownBy w' (some g)) (hlo : g < lo) : Fr w' lo A l := fun hp => by
  obtain ⟨b, off, e, h1, h2, h3⟩ := h hp
  exact ⟨b, off, e, h1, Nat.lt_of_lt_of_le h2 hg.size, fun i hi => (World.cell?_of_block (hg.block b h2 (fun e => by injection e with e; omega))).trans (h3 i hi)⟩
theorem Pls.grown {w w' : World} {lo : Nat} {d : List Int} {n : Nat} {A : Option Addr} {g : Nat} (h : Pls w lo d n A) (hg : w.grownBy w' (some g)) (hlo : g < lo) : Pls w' lo d n A := fun t ht => by
  obtain ⟨b, At, ct, e, h1, h2, h3, h4⟩ := h t ht
  exact ⟨b, At, ct, e, h1, Nat.lt_of_lt_of_le h2 hg.size, (World.cell?_of_block (hg.block b h2 (fun e => by injection e with e; omega))).trans h3, h4.grown hg hlo⟩
theorem Pls.below {w w' : World} {lo : Nat} {d : List Int} {n : Nat} {A : Option Addr} (h : Pls w lo d n A) (hb : Below w.heap.size w w') : Pls w' lo d n A := fun t ht => by
  obtain ⟨b, At, ct, e, h1, h2, h3, h4⟩ := h t ht
  exact ⟨b, At, ct, e, h1, Nat.lt_of_lt_of_le h2 hb.size, (hb.cell (p := ⟨b, t, none⟩) h2).trans h3, h4.below hb⟩
def RetPls (d : List Int) (n : Nat) (w : World) (e : Ending) (w' : World) : Prop := ∃ A c, e = .returned (.slice A n c) ∧ Pls w' w.heap.size d n A ∧ Below w.heap.size w w'
theorem places_p (A : Option Addr) (c : Nat) (d : List Int) (n : Nat) (w : World) (hn : sizeI d = n) (hl : d.length ≤ 100) (hi : Ints w A d) :
    Calls Tryd.prog 44 #[.slice A d.length c] w (RetPls d n w) := by
  refine (places_b A c d w hl hi).mono ?_
  rintro e w' ⟨v, base, rfl, hbase, hout, hb⟩
  rw [hn, Int.toNat_natCast] at hout
  obtain ⟨vs, h1, h2⟩ := hout
  have hlen : vs.length = n := by simpa using h1.1
  rcases h1.2 with ⟨rfl, h0⟩ | ⟨g, cap, cur, rfl, hg, hh, _⟩
  · exact ⟨none, 0, by rw [h0], fun t ht => absurd ht (by omega), hb⟩
  · refine ⟨_, cap, rfl, fun t ht => ?_, hb⟩
    have hc := h1.cellAt t (by omega)
    have hv : vs[t]? = some vs[t] := List.getElem?_eq_getElem (by omega)
    have hm := h2 t _ hv
    obtain ⟨At, ct, hu, hi⟩ := hm.ints
    rw [hu] at hm
    have hf := MineT.fr (t := 3) hm
    rw [hv, hu, dg_length] at hc
    have hlt : g < w'.heap.size := by
      rcases Nat.lt_or_ge g w'.heap.size with hlt | hge
      · exact hlt
      · rw [Array.getElem?_eq_none hge] at hh; cases hh
    exact ⟨g, At, ct, rfl, by omega, hlt, hc, hf.mono hbase⟩
/-- A cell, wherever it lies, and another answer. -/
def RetCI (w : World) (d v : List Int) (y : Value) (e : Ending) (w' : World) : Prop := ∃ A c B c2, e = .returned (.tuple #[.agg #[.slice A d.length c, .slice B v.length c2], y]) ∧ Ints w' A d ∧ Ints w' B v ∧ Below w.heap.size w w'
theorem Ints.nil (w : World) (A : Option Addr) : Ints w A [] := fun h => absurd h (by simp)
theorem RetC.ci {w : World} {d v : List Int} {y : Value} {e : Ending} {w' : World} (h : RetC w d v y e w') : RetCI w d v y e w' := by
  obtain ⟨x, rfl, ⟨A, c, B, c2, rfl, h1, h2, -⟩, hb⟩ := h
  exact ⟨A, c, B, c2, rfl, h1.ints, h2.ints, hb⟩
end Go.Proofs.YtbanegjmapgkdaaDoor.Sh
-- Frame
namespace Go.Proofs.YtbanegjmapgkdaaDoor.Sh
open Go.Joins Go.ChangeShapes Go.WideShapes Go.ChangeAt Go.RowKit Go.Deep
set_option linter.unusedVariables false

theorem own : ownKnob Tryd.prog.godebug = none := by kernel_rfl
theorem laidOut : laidOutB Tryd.prog = true := by kernel_rfl
def WfL (l : List Int) : Prop := ∀ n ∈ l, (Lit.int .i64 n).wf = true
/-- A slice of numbers that came in, with its room. -/
def IntsC (w : World) (A : Option Addr) (c : Nat) (l : List Int) : Prop := Ints w A l ∧ l.length ≤ c ∧ c ≤ maxLen ∧ l.length ≤ maxLen ∧ WfL l
section
variable {H : Type} {enc : TypeId × Value → H} {w : World} {t e : TypeId} {v : Value}
theorem row_of {fuel : Nat} {base : Nat} {held : Bool} {x : DataW H × List MemPlace} (ht : Tryd.prog.underlying t = some (.slice e)) (he : Tryd.prog.underlying e = some (.int .i64)) (hc : Tryd.prog.cellsOf e = 1)
    (h : DataW.trod enc Tryd.prog w base (fun _ => true) held fuel t [v] = some x) : ∃ A c l, v = .slice A (List.length l) c ∧ IntsC w A c l := by
  have hr : ∃ a len cap zs, v = .slice a len cap ∧ IsRow .i64 w a len cap zs := by
    rcases open_ints ht he hc h with ⟨hcs, _⟩ | ⟨x, l, c, zs, hcs, _, hl, hm, hz, _, hcell, hwz⟩
    · injection hcs with hcs
      exact ⟨none, 0, 0, [], hcs, .inl ⟨rfl, rfl, rfl, rfl⟩⟩
    · injection hcs with hcs
      exact ⟨_, l, c, zs, hcs, .inr ⟨_, rfl, hl, hm, by simpa using hz, hcell, hwz⟩⟩
  obtain ⟨a, len, cap, zs, rfl, hz⟩ := hr
  have hcap : len ≤ cap ∧ cap ≤ maxLen := by
    rcases hz with ⟨_, rfl, rfl, _⟩ | ⟨x, _, h1, h2, _⟩
    · simp
    · exact ⟨h1, h2⟩
  obtain ⟨l, rfl, h1, h2, h3⟩ := hz.view
  exact ⟨a, cap, l, rfl, h2, hcap.1, hcap.2, h1, h3⟩
variable {d : DataW H} {p : List MemPlace} {r : Reach} {b0 base : Nat}
theorem ints_arg (ht : Tryd.prog.underlying t = some (.slice e)) (he : Tryd.prog.underlying e = some (.int .i64)) (hc : Tryd.prog.cellsOf e = 1) (hok : Value.okWide Tryd.prog w r b0 t v) (h : DataW.Trod enc Tryd.prog w base (fun _ => true) true t v d p) :
    ∃ A c l, v = .slice A (List.length l) c ∧ IntsC w A c l := by
  obtain ⟨a, len, cap, rfl⟩ := okWide_slice ht hok
  obtain ⟨fuel, hf⟩ := h
  exact row_of ht he hc (by simpa [Value.cells] using hf)
theorem cell_arg (hok : Value.okWide Tryd.prog w r b0 29 v) (h : DataW.Trod enc Tryd.prog w base (fun _ => true) true 29 v d p) :
    ∃ A c l B c2 m, v = .agg #[.slice A (List.length l) c, .slice B (List.length m) c2] ∧ IntsC w A c l ∧ IntsC w B c2 m := by
  obtain ⟨x0, y0, ya0, yb0, fu0, rfl, _, _, ta0, tb0⟩ := open_agg2 Tryd.underlying29 (by kernel_rfl) (by kernel_rfl) hok h
  obtain ⟨A, c, l, rfl, h1⟩ := row_of Tryd.underlying26 Tryd.underlying3 (by kernel_rfl) ta0
  obtain ⟨B, c2, m, rfl, h2⟩ := row_of Tryd.underlying27 Tryd.underlying2 (by kernel_rfl) tb0
  exact ⟨A, c, l, B, c2, m, rfl, h1, h2⟩
theorem fn_arg (hok : Value.okWide Tryd.prog w r b0 23 v) (h : DataW.Trod enc Tryd.prog w base (fun _ => true) true 23 v d p) :
    ∃ (c : Int) (s : Bool), v = .agg #[.int .i64 c, .bool s] ∧ (Lit.int .i64 c).wf = true := by
  obtain ⟨x0, y0, ya0, yb0, fu0, rfl, _, _, ta0, tb0⟩ := open_agg2 Tryd.underlying23 (by kernel_rfl) (by kernel_rfl) hok h
  obtain ⟨c, hcs, _, hw⟩ := DataW.trod_int Tryd.underlying3 ta0
  obtain ⟨s, hss, _⟩ := DataW.trod_bool Tryd.underlying4 tb0
  injection hcs with hcs
  injection hss with hss
  subst hcs hss
  exact ⟨c, s, rfl, hw⟩
theorem int_arg (ht : Tryd.prog.underlying t = some (.int .i64)) (hok : Value.okWide Tryd.prog w r b0 t v) (h : DataW.Trod enc Tryd.prog w base (fun _ => true) true t v d p) : ∃ n : Int, v = .int .i64 n ∧ (Lit.int .i64 n).wf = true := by
  obtain ⟨n, rfl, _, _, hw⟩ := open_int ht hok h
  exact ⟨n, rfl, hw⟩
end
end Go.Proofs.YtbanegjmapgkdaaDoor.Sh
