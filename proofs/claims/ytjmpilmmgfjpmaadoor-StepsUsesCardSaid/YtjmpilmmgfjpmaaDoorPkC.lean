/-
  append(row, list...) where the row is the call's own and the list is any slice of numbers, nil let in: what the row holds behind it. Condition: both are short. What riffleref03.Nums, slices.Equal and slices.Clone of int64 answer for any lists of numbers, and that they change nothing that was there. Condition: a slice is no longer than an int can say (Clone: at most 200 numbers). What rifflelaw03.Great, cell.Right, cell.Same, riffleref03.Right and riffleref03.Same answer for any cells; nothing that was there is written. Condition: the slices are no longer than an int can say. What cell.Same, cell.At, riffleref03.Same and riffleref03.At answer for any cells and places; nothing that was there is written. Condition: the slices are no longer than an int can say. What cell.cut answers: the i-th piece of a list of pieces of one size; the world is as it was. Condition: the piece lies within the list. What cell.Of, cell.List, cell.Zero, cell.Scalar, riffleref03.Zero and riffleref03.Scalar answer for any axes and numbers; nothing that was there is written. Condition: at most 100 axes and 1000 numbers. What cell.Item answers for any cell and any number; nothing that was there is written. Condition: at most 100 axes and 1000 numbers. What riffleref03.Item answers for any cell and any number; nothing that was there is written. Condition: at most 100 axes and 1000 numbers. What cell.all answers of any cells, with cell.Right and with the function literal of cell.Stack; nothing that was there is written. Condition: the slices are no longer than an int can say. cell.Zero with its new row known whole, cell.cut with the address told, and copy of a list into such a row. Conditions: as told in each. What cell.Stack answers of cells that may be stacked: the cell of all their numbers, in order; nothing that was there is written. Condition: at most 70 cells, of at most 10 axes and 200 numbers. A row of numbers known whole, filled place by place; what has turned since. No condition. A cell that is made number by number: its box, and the row that grows by append. Conditions: as told in each. All places of axes, as the document's Places tells them, in new memory: what stays of them behind calls and stores. Condition: at most 100 axes. How the arguments of a law read: slices of numbers, cells, numbers and bools that came in, as lists. No condition.
-/
import Derived.Test.YtjmpilmmgfjpmaaDoorPkS
import Derived.Maps.AppendAt
import Derived.Lib.SliceRun
import Derived.Deep.RegionHeld3
import Derived.Deep.RegionLaw
import Derived.Laws.CopyOwn
import Derived.Deep.DeepCutAuto
import Derived.Lib.SmallJoins
import Derived.WalkKit
import Derived.ProofKit
import Derived.OpenShut
import Derived.ChangeOld
import Derived.Below
set_option maxRecDepth 100000
-- CellApp
namespace Go.Proofs.YtjmpilmmgfjpmaaDoor.Sh
open Go.RowKit
set_option linter.unusedVariables false

/-- The value v is a slice of the call's own (blocks from base on, elements of type t) with these numbers. -/
def MineT (t : TypeId) (w : World) (base : Nat) (v : Value) (xs : List Int) : Prop := w.ownsRow base t 1 v xs.length (xs.map (Value.int .i64))
/-- t is the type of a number of 64 bits. -/
def NumT (t : TypeId) : Prop := (Tryd.prog.info? t).map (fun i => (i.zero, i.size, i.bytes)) = some (some (.int .i64 0), 1, 8)
section
variable {w w' : World} {t : TypeId} {base : Nat} {v : Value} {xs : List Int}
theorem MineT.nil (t : TypeId) (w : World) (base : Nat) : MineT t w base (.slice none 0 0) [] := World.ownsRow_nil _ _ _ _
theorem MineT.ints (h : MineT t w base v xs) : ∃ A c, v = .slice A xs.length c ∧ Ints w A xs := by
  have hc := World.ownsRow.cells h (g := v.ownBlock.getD 0)
  rcases h.2 with ⟨rfl, h0⟩ | ⟨g, cap, cur, rfl, hb, hg, _⟩
  · exact ⟨none, 0, by rw [h0], fun hp => absurd hp (by omega)⟩
  · refine ⟨some ⟨g, 0, none⟩, cap, rfl, fun _ => ⟨g, 0, rfl, ?_, fun i hi => ?_⟩⟩
    · rcases Nat.lt_or_ge g w.heap.size with hlt | hge
      · exact hlt
      · rw [Array.getElem?_eq_none hge] at hg; cases hg
    · have := hc rfl i (.int .i64 (xs.getD i 0)) (by simp [List.getD, hi])
      have e : ((⟨g, 0, none⟩ : Addr).add i) = ⟨g, 0 + i, none⟩ := Go.WideShapes.add_plain ..
      rw [← e]; exact this
theorem MineT.lt (h : MineT t w base v xs) : ∀ g, v.ownBlock = some g → g < w.heap.size := by
  intro g hg
  rcases h.2 with ⟨rfl, _⟩ | ⟨g', cap, cur, rfl, _, hh, _⟩
  · simp [Value.ownBlock] at hg
  · simp [Value.ownBlock] at hg
    subst hg
    rcases Nat.lt_or_ge g' w.heap.size with hlt | hge
    · exact hlt
    · rw [Array.getElem?_eq_none hge] at hh; cases hh
theorem MineT.block (h : MineT t w base v xs) : ∀ k, v.ownBlock = some k → base ≤ k := by
  intro k hk
  rcases h.2 with ⟨rfl, _⟩ | ⟨g, cap, cur, rfl, hb, _⟩
  · simp [Value.ownBlock] at hk
  · simp [Value.ownBlock] at hk; omega
theorem MineT.keep (h : MineT t w base v xs) (hk : ∀ g, v.ownBlock = some g → w'.heap[g]? = w.heap[g]?) : MineT t w' base v xs := by
  refine ⟨h.1, ?_⟩
  rcases h.2 with h0 | ⟨g, cap, cur, rfl, hb, hg, hr⟩
  · exact .inl h0
  · exact .inr ⟨g, cap, cur, rfl, hb, (hk g rfl).trans hg, hr⟩
theorem MineT.below {B : Nat} (h : MineT t w base v xs) (hb : Below B w w') (hB : w.heap.size ≤ B) : MineT t w' base v xs :=
  h.keep fun g hg => hb.block g (Nat.lt_of_lt_of_le (h.lt g hg) hB)
theorem MineT.alloc (h : MineT t w base v xs) (o : Obj) : MineT t (w.alloc o) base v xs := h.keep fun g hg => Below.heap_alloc w o g (h.lt g hg)
theorem MineT.setCell (h : MineT t w base v xs) {p : Addr} (hp : v.ownBlock ≠ some p.block) (u : Value) : MineT t (w.setCell p u) base v xs :=
  h.keep fun g hg => Below.heap_setCell w p u g (fun e => hp (by rw [hg, e]))
theorem MineT.drewN (h : MineT t w base v xs) (n : Nat) : MineT t (w.drewN n) base v xs := h
theorem MineT.drew (h : MineT t w base v xs) : MineT t w.drew base v xs := h
theorem MineT.mono {b : Nat} (h : MineT t w base v xs) (hb : b ≤ base) : MineT t w b v xs := by
  refine ⟨h.1, ?_⟩
  rcases h.2 with h0 | ⟨g, cap, cur, rfl, hb', hr⟩
  · exact .inl h0
  · exact .inr ⟨g, cap, cur, rfl, by omega, hr⟩
theorem MineT.new (t : TypeId) (w : World) (xs : List Int) (base : Nat) (hb : base ≤ w.heap.size) (hl : xs.length ≤ maxLen) : MineT t (w.alloc (.cells (cellsI xs) t)) base (.slice (some ⟨w.heap.size, 0, none⟩) xs.length xs.length) xs :=
  ⟨by simp, .inr ⟨w.heap.size, xs.length, cellsI xs, rfl, hb, heap_alloc_new w _, Nat.le_refl _, hl, by simp [cellsI], by simp [cellsI, ← List.map_take]⟩⟩
end

theorem run_app_nil {P : Program} {w : World} {base : Nat} {t ty e : TypeId} {i : TypeInfo} {size : Nat} (ht : P.underlying t = some (.slice e)) (hi : P.info? e = some i)
    {v : Value} {n : Nat} {xs : List Value} (hown : w.ownsRow base e size v n xs) (c : Nat) : (Builtin.append_ #[t, t] ty #[v, .slice none 0 c]).run P w = .ok v w := by
  rcases hown.2 with ⟨rfl, rfl⟩ | ⟨g, cap, cur, rfl, _, _, hle, _⟩ <;>
    simp [Builtin.append_, run_underlying ht, sizeOf, typeInfo, Builtin.lenOf, Builtin.firstCells, storeCells, *]

theorem run_appI {t ty e : TypeId} (hinf : NumT e) (ht : Tryd.prog.underlying t = some (.slice e)) {w : World} {base : Nat} {v : Value} {xs : List Int} (hown : MineT e w base v xs)
    {A : Option Addr} {c : Nat} {ys : List Int} (hi : Ints w A ys) (hlen : xs.length + ys.length ≤ 100000) (hbase : base ≤ w.heap.size) :
    ∃ v' w', (Builtin.append_ #[t, t] ty #[v, .slice A ys.length c]).run Tryd.prog w = .ok v' w' ∧ MineT e w' base v' (xs ++ ys) ∧ w.grownBy w' v.ownBlock ∧ (v'.ownBlock = v.ownBlock ∨ v'.ownBlock = some w.heap.size) := by
  obtain ⟨i0, hi0, hz0, hz1, hz2⟩ := info_parts hinf
  rcases A with _ | ad
  · have h0 : ys = [] := by
      rcases Nat.eq_zero_or_pos ys.length with h | h
      · exact List.eq_nil_of_length_eq_zero h
      · obtain ⟨_, _, e, _⟩ := hi h; cases e
    subst h0
    exact ⟨v, w, run_app_nil ht hi0 hown c, by simpa using hown, World.grownBy.refl w _, .inl rfl⟩
  · obtain ⟨v', w', hr, h1, h2, _, h4⟩ := run_append_own_at (P := Tryd.prog) w base t ty e i0 (.int .i64 0) 1 8 ht hi0 hz0 hz1 hz2 rfl (by decide) v xs.length (xs.map (Value.int .i64)) hown ad ys.length c (ys.map (Value.int .i64)) (by simp)
      (fun j u hj => by
        have hjl : j < ys.length := by
          have := (List.getElem?_eq_some_iff.1 hj).1
          simpa using this
        obtain ⟨b, off, e1, hb, hc⟩ := hi (by omega)
        injection e1 with e1
        subst e1
        rw [Go.WideShapes.add_plain, hc j hjl]
        rw [List.getElem?_map, List.getElem?_eq_getElem hjl] at hj
        simp at hj
        simp [List.getD, hjl, hj])
      (fun u hu => by simp at hu; obtain ⟨y, _, rfl⟩ := hu; rfl) (by unfold maxLen; omega) (by omega) hbase
    exact ⟨v', w', hr, by unfold MineT; simpa using h1, h2, h4⟩

theorem wp_appI {t e : TypeId} (hinf : NumT e) (ht : Tryd.prog.underlying t = some (.slice e)) {w : World} {o : Oper} {a : Act} {K : Act → World → Prop} {Q : Exit → Act → World → Prop} (s x : Operand)
    (ho : o.op = .call { callee := .builtin .append, args := #[s, x], argTypes := #[t, t] })
    (base : Nat) (v : Value) (xs : List Int) (hs : a.eval s = v) (hown : MineT e w base v xs) (A : Option Addr) (c : Nat) (ys : List Int) (hx : a.eval x = .slice A ys.length c) (hi : Ints w A ys)
    (hlen : xs.length + ys.length ≤ 100000) (hbase : base ≤ w.heap.size)
    (h : ∀ v' w', MineT e w' base v' (xs ++ ys) → w.grownBy w' v.ownBlock → (v'.ownBlock = v.ownBlock ∨ v'.ownBlock = some w.heap.size) → K (a.put o.dst v') w') : o.wp Tryd.prog a w K Q := by
  obtain ⟨v', w', hrun, h2, h3, h4⟩ := run_appI (ty := o.type) (c := c) hinf ht hown hi hlen hbase
  unfold Oper.wp execOp
  simp only [ho, resolve, invoke, builtin, Sem.run_bind, Sem.run_pure, Result.andThen_ok, List.map_toArray, List.map_cons, List.map_nil, hs, hx, hrun]
  exact h v' w' h2 h3 h4

theorem wpList_appI {t e : TypeId} (hinf : NumT e) (ht : Tryd.prog.underlying t = some (.slice e)) {w : World} {ops : Array Oper} {rest : List Oper} {o : Oper} {a : Act} {Q : Exit → Act → World → Prop} (hgd : o.guard = none) (s x : Operand)
    (ho : o.op = .call { callee := .builtin .append, args := #[s, x], argTypes := #[t, t] })
    (base : Nat) (v : Value) (xs : List Int) (hs : a.eval s = v) (hown : MineT e w base v xs) (A : Option Addr) (c : Nat) (ys : List Int) (hx : a.eval x = .slice A ys.length c) (hi : Ints w A ys)
    (hlen : xs.length + ys.length ≤ 100000) (hbase : base ≤ w.heap.size)
    (h : ∀ v' w', MineT e w' base v' (xs ++ ys) → w.grownBy w' v.ownBlock → (v'.ownBlock = v.ownBlock ∨ v'.ownBlock = some w.heap.size) → wpList Tryd.prog ops Q rest (a.put o.dst v') w') : wpList Tryd.prog ops Q (o :: rest) a w :=
  wpList_plain hgd fun _ hK => wp_appI hinf ht s x ho base v xs hs hown A c ys hx hi hlen hbase fun v' w' h2 h3 h4 => hK _ _ (h v' w' h2 h3 h4)

theorem numI : NumT 3 := by unfold NumT; kernel_rfl
theorem numL : NumT 2 := by unfold NumT; kernel_rfl

/-- A copy of a list in a new row: the row that was there has no numbers. -/
theorem wpList_copyI {t e : TypeId} (hinf : NumT e) (ht : Tryd.prog.underlying t = some (.slice e)) {w : World} {ops : Array Oper} {rest : List Oper} {o : Oper} {a : Act} {Q : Exit → Act → World → Prop} (hgd : o.guard = none) (s x : Operand)
    (ho : o.op = .call { callee := .builtin .append, args := #[s, x], argTypes := #[t, t] })
    (hs : a.eval s = .slice (some ⟨w.heap.size, 0, none⟩) 0 0) (A : Option Addr) (c : Nat) (ys : List Int) (hx : a.eval x = .slice A ys.length c) (hi : Ints w A ys)
    (hlen : ys.length ≤ 100000)
    (h : ∀ B c' w', MineT e w' w.heap.size (.slice B ys.length c') ys → Below w.heap.size w w' → wpList Tryd.prog ops Q rest (a.put o.dst (.slice B ys.length c')) w') : wpList Tryd.prog ops Q (o :: rest) a (w.alloc (.cells #[] e)) := by
  have hb0 : Below w.heap.size w (w.alloc (.cells #[] e)) := (Below.refl _ w).alloc (Nat.le_refl _) _
  refine wpList_appI hinf ht hgd s x ho w.heap.size _ [] hs (by have := MineT.new e w [] w.heap.size (Nat.le_refl _) (by simp); exact this) A c ys hx (hi.below hb0) (by simpa using hlen) (by simp) ?_
  intro v' w' h1 h2 h3
  rw [List.nil_append] at h1
  obtain ⟨B, c', rfl, _⟩ := h1.ints
  exact h B c' w' h1 (hb0.grown h2 (by simp) (fun k hk => by simp [Value.ownBlock] at hk; omega))
end Go.Proofs.YtjmpilmmgfjpmaaDoor.Sh
-- CellBase
namespace Go.Proofs.YtjmpilmmgfjpmaaDoor.Sh
open Go.RowKit
set_option linter.unusedVariables false

set_option maxHeartbeats 1000000 in
theorem nums_any (A : Option Addr) (c : Nat) (a : List Int) (B : Option Addr) (d : Nat) (b : List Int) (w : World) (hl : a.length ≤ maxLen) (hl2 : b.length ≤ maxLen) (ha : Ints w A a) (hb : Ints w B b) :
    Calls Tryd.prog 22 #[.slice A a.length c, .slice B b.length d] w fun e w' => e = .returned (.bool (decide (a = b))) ∧ ∃ n, w' = w.drewN n := by
  unfold maxLen at hl hl2
  by_cases he : a.length = b.length
  · have hev : ((a.length : Int) != (b.length : Int)) = false := by simp [he]
    have HE := Lib.hid he
    have hle : a.length ≤ b.length := by omega
    have hle2 : b.length ≤ a.length := by omega
    clear he
    go_enter Tryd.func22, Tryd.ntmps22
    go_wp2
    go_loopw [5] (fun i wr => ∃ k n : Nat, k ≤ a.length ∧ i = .int .i64 k ∧ a.take k = b.take k ∧ wr = w.drewN n)
      (fun i _ => a.length - (intOf i).toNat)
    case atStart => exact ⟨0, 0, Nat.zero_le _, rfl, rfl, rfl⟩
    case round =>
      obtain ⟨k, n, hk, rfl, htk, rfl⟩ := hrel
      have HT := Lib.hid htk
      clear htk
      by_cases hlt : k < a.length
      · obtain ⟨b1, o1, rfl, hb1, hc1⟩ := ha (by omega)
        obtain ⟨b2, o2, rfl, hb2, hc2⟩ := hb (by omega)
        have h1 : (w.drewN n).cell? ⟨b1, o1 + k, none⟩ = some (.int .i64 (a.getD k 0)) := hc1 k hlt
        have h2 : (w.drewN n).cell? ⟨b2, o2 + k, none⟩ = some (.int .i64 (b.getD k 0)) := hc2 k (by omega)
        have hta := Lib.hid (take_snoc a k hlt)
        have htb := Lib.hid (take_snoc b k (by omega))
        have i0 : (0 : Int) ≤ (k : Int) := by omega
        have i1 : (k : Int) < (a.length : Int) := by omega
        have i2 : (k : Int) < (b.length : Int) := by omega
        clear hc1 hc2 ha hb
        generalize hx : a.getD k 0 = x at *
        generalize hy : b.getD k 0 = y at *
        have HX := Lib.hid hx
        have HY := Lib.hid hy
        clear hx hy
        generalize hw1 : w.drewN n = w1 at *
        have HW := Lib.hid hw1
        clear hw1
        by_cases hxy : x = y
        · have hq : (x != y) = false := by simp [hxy]
          have HQ := Lib.hid hxy
          clear hxy
          go_wp2_with fail
          go_quiet (fail)
          go_wp2
          go_roundw
          case rel => exact ⟨k + 1, n + nq, by omega, by go_num, by rw [hta.out, htb.out, HT.out, HQ.out], by rw [← HW.out, World.drewN_drewN]⟩
          case measure => simp [intOf]; omega
        · have hq : (x != y) = true := by simp [hxy]
          have hab : ¬ a = b := fun h => hxy (by rw [← HX.out, ← HY.out, h])
          clear hxy
          go_wp2_with fail
          go_quiet (fail)
          go_wp2
          go_ret
          exact ⟨ret_bool (by simp [hab]), n + nq, by rw [← HW.out, World.drewN_drewN]⟩
      · obtain rfl : k = a.length := by omega
        have hab : a = b := by have := HT.out; rwa [List.take_length, HE.out, List.take_length] at this
        go_wp2
        go_ret
        exact ⟨ret_bool (by simp [hab]), n, rfl⟩
  · have hev : ((a.length : Int) != (b.length : Int)) = true := by simp; omega
    have hne : ¬ a = b := fun h => he (by rw [h])
    go_enter Tryd.func22, Tryd.ntmps22
    go_wp2
    go_ret
    exact ⟨ret_bool (by simp [hne]), 0, rfl⟩
/-- A slice of these numbers, of the call's own, is answered; nothing that was there is written. -/
def RetT (t : TypeId) (w : World) (xs : List Int) (e : Ending) (w' : World) : Prop := ∃ B c, e = .returned (.slice B xs.length c) ∧ MineT t w' w.heap.size (.slice B xs.length c) xs ∧ Below w.heap.size w w'

set_option maxHeartbeats 400000 in
theorem clone64_any (A : Option Addr) (c : Nat) (d : List Int) (w : World) (hl : d.length ≤ 1000) (hi : Ints w A d) :
    Calls Tryd.prog 49 #[.slice A d.length c] w (RetT 2 w d) := by
  have q : ∀ (w : World) (a : Option Addr) (n c n' c' : Nat), (binOp .eql 43 (.slice a n c) (.slice none n' c')).run Tryd.prog w = .ok (.bool a.isNone) w := fun w a n c n' c' => Go.Lib.run_eql_slice_nil w _ _ a n c n' c' Tryd.underlying43
  rcases A with _ | a
  · have hd : d = [] := by
      rcases Nat.eq_zero_or_pos d.length with h | h
      · exact List.eq_nil_of_length_eq_zero h
      · obtain ⟨_, _, e, _⟩ := hi h; cases e
    subst hd
    go_enter Tryd.func49, Tryd.ntmps49
    go_wp2
    go_ret
    exact ⟨_, _, rfl, MineT.nil _ _ _, Below.refl _ _⟩
  · have HI := Lib.hid hi
    clear hi
    go_enter Tryd.func49, Tryd.ntmps49
    go_wp2_with (at_builtin; refine wpList_copyI numL Tryd.underlying43 rfl (.tmp 5) (.tmp 6) rfl rfl _ _ d rfl HI.out (by omega) ?_; intro B c' w' hm hb)
    go_ret
    exact ⟨_, _, rfl, hm, hb⟩
theorem clone_t (A : Option Addr) (c : Nat) (d : List Int) (w : World) (hl : d.length ≤ 100) (hi : Ints w A d) :
    Calls Tryd.prog 69 #[.slice A d.length c] w (RetT 3 w d) := by
  refine (clone_any A c d w hl hi).mono ?_
  rintro e w' ⟨v, rfl, hm, hb⟩
  obtain ⟨B, c', rfl, _⟩ := hm.ints
  exact ⟨B, c', rfl, hm, hb⟩
end Go.Proofs.YtjmpilmmgfjpmaaDoor.Sh
-- CellTell
namespace Go.Proofs.YtjmpilmmgfjpmaaDoor.Sh
open Go.RowKit
set_option linter.unusedVariables false

/-- May a cell of these axes with that many numbers be? -/
def cellB (d : List Int) (n : Nat) : Bool := rightB d && decide ((n : Int) = sizeI d)
theorem cellB_not {d : List Int} {n : Nat} (h : rightB d = false) : cellB d n = false := by simp [cellB, h]
theorem cellB_is {d : List Int} {n : Nat} (h : rightB d = true) : cellB d n = decide ((n : Int) = sizeI d) := by simp [cellB, h]

/-- Two cells of a block below stay as they are. -/
theorem keepC {W w1 : World} {g : Nat} {x y : Value} (hb : Below W.heap.size W w1) (h : W.cell? ⟨g, 0, none⟩ = some x ∧ W.cell? ⟨g, 1, none⟩ = some y) :
    w1.cell? ⟨g, 0, none⟩ = some x ∧ w1.cell? ⟨g, 1, none⟩ = some y :=
  ⟨(hb.cell (p := ⟨g, 0, none⟩) (World.block_lt_of_cell? W ⟨g, 0, none⟩ h.1)).trans h.1, (hb.cell (p := ⟨g, 1, none⟩) (World.block_lt_of_cell? W ⟨g, 0, none⟩ h.1)).trans h.2⟩
theorem block_of {W : World} {g : Nat} {x : Value} (h : W.cell? ⟨g, 0, none⟩ = some x) : g < W.heap.size := World.block_lt_of_cell? W ⟨g, 0, none⟩ h

/-- Take an operation first whose guard says yes. -/
theorem take_yes {P : Program} {md : Region.Mode} {ops : Array Oper} {Q : Exit → Act → World → Prop} {S : World → Prop} {i : Nat} {oi : Oper} {fuel : Nat} {listed : Array Bool} {a : Act} {w : World} (dst : Option Tmp) (v : Value) (hi : ops[i]? = some oi) (hd : oi.dst = dst)
    (hs : Region.noSelect ops = true) (hf : Region.free md ops listed i = true) (hr : (Region.ready md ops listed).contains i = true)
    (hQ : ∀ c a w, Q (.panic c) (a.put dst v) w → Q (.panic c) a w) (hw : Region.wanted oi (yielded ops a.tmps) = true) (hS : S w) (hy : ∀ w, S w → (execOp a.eval oi).run P w = .ok (.value v) w)
    (h : wpAnyH P md ops Q S fuel (listed.setIfInBounds i true) (a.put dst v) w) : wpAnyH P md ops Q S (fuel + 1) listed a w := by
  subst hd
  exact wpAnyH_take hi hs hf hr hQ (Or.inl ⟨hw, hy⟩) hS h
/-- Pass an operation by whose guard says no. -/
theorem take_no {P : Program} {md : Region.Mode} {ops : Array Oper} {Q : Exit → Act → World → Prop} {S : World → Prop} {i : Nat} {oi : Oper} {fuel : Nat} {listed : Array Bool} {a : Act} {w : World} (dst : Option Tmp) (hi : ops[i]? = some oi) (hd : oi.dst = dst)
    (hs : Region.noSelect ops = true) (hf : Region.free md ops listed i = true) (hr : (Region.ready md ops listed).contains i = true)
    (hQ : ∀ c a w, Q (.panic c) (a.put dst undef) w → Q (.panic c) a w) (hw : Region.wanted oi (yielded ops a.tmps) = false) (hS : S w)
    (h : wpAnyH P md ops Q S fuel (listed.setIfInBounds i true) (a.put dst undef) w) : wpAnyH P md ops Q S (fuel + 1) listed a w := by
  subst hd
  exact wpAnyH_take hi hs hf hr hQ (Or.inr ⟨hw, rfl⟩) hS h

theorem right_yes (A : Option Addr) (c : Nat) (d : List Int) (w : World) (h : rightB d = true) (hl : d.length ≤ maxLen) (hi : Ints w A d) :
    Calls Tryd.prog 45 #[.slice A d.length c] w fun e w' => e = .returned (.bool true) ∧ Below w.heap.size w w' :=
  (right_any A c d w hl hi).mono fun _ _ ⟨a, b⟩ => ⟨by rw [a, h], b⟩
theorem right_no (A : Option Addr) (c : Nat) (d : List Int) (w : World) (h : rightB d = false) (hl : d.length ≤ maxLen) (hi : Ints w A d) :
    Calls Tryd.prog 45 #[.slice A d.length c] w fun e w' => e = .returned (.bool false) ∧ Below w.heap.size w w' :=
  (right_any A c d w hl hi).mono fun _ _ ⟨a, b⟩ => ⟨by rw [a, h], b⟩
theorem refRight_yes (A : Option Addr) (c : Nat) (d : List Int) (w : World) (h : rightB d = true) (hl : d.length ≤ maxLen) (hi : Ints w A d) :
    Calls Tryd.prog 40 #[.slice A d.length c] w fun e w' => e = .returned (.bool true) ∧ w = w' :=
  (refRight_any A c d w hl hi).mono fun _ _ ⟨a, b⟩ => ⟨by rw [a, h], b⟩
theorem refRight_no (A : Option Addr) (c : Nat) (d : List Int) (w : World) (h : rightB d = false) (hl : d.length ≤ maxLen) (hi : Ints w A d) :
    Calls Tryd.prog 40 #[.slice A d.length c] w fun e w' => e = .returned (.bool false) ∧ w = w' :=
  (refRight_any A c d w hl hi).mono fun _ _ ⟨a, b⟩ => ⟨by rw [a, h], b⟩

theorem refRightB_yes (A : Option Addr) (c : Nat) (d : List Int) (w : World) (h : rightB d = true) (hl : d.length ≤ maxLen) (hi : Ints w A d) :
    Calls Tryd.prog 40 #[.slice A d.length c] w fun e w' => e = .returned (.bool true) ∧ Below w.heap.size w w' :=
  (refRight_any A c d w hl hi).mono fun _ _ ⟨a, b⟩ => ⟨by rw [a, h], by rw [← b]; exact Below.refl _ _⟩
theorem refRightB_no (A : Option Addr) (c : Nat) (d : List Int) (w : World) (h : rightB d = false) (hl : d.length ≤ maxLen) (hi : Ints w A d) :
    Calls Tryd.prog 40 #[.slice A d.length c] w fun e w' => e = .returned (.bool false) ∧ Below w.heap.size w w' :=
  (refRight_any A c d w hl hi).mono fun _ _ ⟨a, b⟩ => ⟨by rw [a, h], by rw [← b]; exact Below.refl _ _⟩
end Go.Proofs.YtjmpilmmgfjpmaaDoor.Sh
-- CellAt
namespace Go.Proofs.YtjmpilmmgfjpmaaDoor.Sh
open Go.RowKit
set_option linter.unusedVariables false

theorem below_box {w w1 : World} {o : Obj} (h : Below (w.alloc o).heap.size (w.alloc o) w1) : Below w.heap.size w w1 := ((Below.refl _ w).alloc (Nat.le_refl _) o).trans (h.mono (by simp))

def sameB (d v e u : List Int) : Bool := decide (d = e) && decide (v = u)
section
variable (A : Option Addr) (c : Nat) (a : List Int) (B : Option Addr) (d : Nat) (b : List Int) (w : World) (hl : a.length ≤ maxLen) (hl2 : b.length ≤ maxLen) (ha : Ints w A a) (hb : Ints w B b)
include hl hl2 ha hb
theorem nums_b : Calls Tryd.prog 22 #[.slice A a.length c, .slice B b.length d] w fun e w' => e = .returned (.bool (decide (a = b))) ∧ Below w.heap.size w w' :=
  (nums_any A c a B d b w hl hl2 ha hb).mono fun _ _ ⟨e, n, q⟩ => ⟨e, by rw [q]; exact below_drewN (Below.refl _ _) n⟩
end

/-- Is there a number at a place of a cell, and which? -/
def atB (d v p : List Int) : Bool := cellB d v.length && decide (0 ≤ idxI d p)
def atI (d v p : List Int) : Int := if atB d v p = true then v.getD (idxI d p).toNat 0 else 0
theorem atB_not {d v p : List Int} (h : cellB d v.length = false) : atB d v p = false ∧ atI d v p = 0 := by simp [atB, atI, h]
theorem atB_out {d v p : List Int} (h : ¬ 0 ≤ idxI d p) : atB d v p = false ∧ atI d v p = 0 := by simp [atB, atI, h]
theorem atB_is {d v p : List Int} (h : cellB d v.length = true) (hi : 0 ≤ idxI d p) : atB d v p = true ∧ atI d v p = v.getD (idxI d p).toNat 0 := by simp [atB, atI, h, hi]
theorem cellB_parts {d : List Int} {n : Nat} (h : cellB d n = true) : rightB d = true ∧ (n : Int) = sizeI d := by simpa [cellB] using h
theorem idx_lt {d p : List Int} {n : Nat} (h : cellB d n = true) (hi : 0 ≤ idxI d p) : idxI d p < n := by
  obtain ⟨hr, hn⟩ := cellB_parts h
  unfold idxI at hi ⊢
  split at hi
  · rename_i hh
    rw [if_pos hh]
    have := (hor_bd d p hh.2).2
    have hs : sizeI d = prod d := by simp [sizeI, hr]
    omega
  · omega

section
variable (A : Option Addr) (c : Nat) (d : List Int) (B : Option Addr) (n c2 : Nat) (w : World) (hl : d.length ≤ maxLen) (hi : Ints w A d)
include hl hi
end

end Go.Proofs.YtjmpilmmgfjpmaaDoor.Sh
-- CellCut
namespace Go.Proofs.YtjmpilmmgfjpmaaDoor.Sh
open Go.RowKit
set_option linter.unusedVariables false

theorem MineT.cap {t : TypeId} {w : World} {base : Nat} {A : Option Addr} {n c : Nat} {xs : List Int} (h : MineT t w base (.slice A n c) xs) : n ≤ c ∧ c ≤ maxLen := by
  rcases h.2 with ⟨h0, _⟩ | ⟨g, cap, cur, h1, _, _, h2, h3, _⟩
  · injection h0 with _ h1 h2; subst h1 h2; simp
  · injection h1 with _ h4 h5; subst h5; omega

/-- The i-th piece of a list of pieces of size s. -/
def piece (v : List Int) (i s : Nat) : List Int := (v.drop (i * s)).take s
theorem piece_length {v : List Int} {i s : Nat} (h : (i + 1) * s ≤ v.length) : (piece v i s).length = s := by
  rw [Nat.add_mul, Nat.one_mul] at h
  simp [piece]; omega
theorem ret_slice {A : Option Addr} {m n s : Nat} (h : m = s) (hn : n = s) : Ending.returned (.slice A m m) = .returned (.slice A n s) := by rw [h, hn]
def RetCut (xs : List Int) (s : Nat) (w : World) (e : Ending) (w' : World) : Prop := ∃ A, e = .returned (.slice A xs.length s) ∧ Ints w A xs ∧ w = w'

end Go.Proofs.YtjmpilmmgfjpmaaDoor.Sh
-- CellMake
namespace Go.Proofs.YtjmpilmmgfjpmaaDoor.Sh
open Go.RowKit
set_option linter.unusedVariables false

/-- A slice of numbers, nil let in, in blocks from base on. -/
def Fr (w : World) (base : Nat) (A : Option Addr) (l : List Int) : Prop :=
  0 < l.length → ∃ b off, A = some ⟨b, off, none⟩ ∧ base ≤ b ∧ b < w.heap.size ∧ ∀ i, i < l.length → w.cell? ⟨b, off + i, none⟩ = some (.int .i64 (l.getD i 0))
section
variable {w w' : World} {base : Nat} {A : Option Addr} {l : List Int}
theorem Fr.ints (h : Fr w base A l) : Ints w A l := fun hp => by obtain ⟨b, off, e, _, h1, h2⟩ := h hp; exact ⟨b, off, e, h1, h2⟩
theorem Fr.nil (w : World) (base : Nat) (A : Option Addr) : Fr w base A [] := fun h => absurd h (by simp)
theorem Fr.below (h : Fr w base A l) (hb : Below w.heap.size w w') : Fr w' base A l := fun hp => by
  obtain ⟨b, off, e, hle, hlt, hc⟩ := h hp
  exact ⟨b, off, e, hle, Nat.lt_of_lt_of_le hlt hb.size, fun i hi => (hb.cell (p := ⟨b, off + i, none⟩) hlt).trans (hc i hi)⟩
theorem Fr.mono {b' : Nat} (h : Fr w base A l) (hb : b' ≤ base) : Fr w b' A l := fun hp => by
  obtain ⟨b, off, e, hle, hlt, hc⟩ := h hp
  exact ⟨b, off, e, by omega, hlt, hc⟩
theorem Fr.set_ (h : Fr w base A l) {p : Addr} (hp : p.block < base) (u : Value) : Fr (w.setCell p u) base A l := fun hl => by
  obtain ⟨b, off, e, hle, hlt, hc⟩ := h hl
  exact ⟨b, off, e, hle, by simpa [World.setCell] using hlt, fun i hi => (World.cell?_setCell_other w p ⟨b, off + i, none⟩ u (fun e => by rw [e] at hp; simp at hp; omega)).trans (hc i hi)⟩
theorem Fr.alloc (h : Fr w base A l) (o : Obj) : Fr (w.alloc o) base A l := h.below ((Below.refl _ w).alloc (Nat.le_refl _) _)
end
theorem MineT.fr {t : TypeId} {base : Nat} {A : Option Addr} {w : World} {n c : Nat} {xs : List Int} (h : MineT t w base (.slice A n c) xs) : Fr w base A xs := fun hp => by
  obtain ⟨A', c', e, hi⟩ := h.ints
  injection e with e1
  subst e1
  obtain ⟨b, off, e2, h1, h2⟩ := hi hp
  subst e2
  exact ⟨b, off, rfl, h.block b rfl, h1, h2⟩

/-- A cell of these axes and numbers lies behind two slices, in blocks from base on. -/
def IsCell (w : World) (base : Nat) (d v : List Int) (x : Value) : Prop := ∃ A c B c2, x = .agg #[.slice A d.length c, .slice B v.length c2] ∧ Fr w base A d ∧ Fr w base B v ∧ v.length ≤ c2 ∧ c2 ≤ maxLen ∧ d.length ≤ c ∧ c ≤ maxLen
section
variable {w w' : World} {base : Nat} {d v : List Int} {x : Value}
theorem IsCell.below (h : IsCell w base d v x) (hb : Below w.heap.size w w') : IsCell w' base d v x := by
  obtain ⟨A, c, B, c2, e, h1, h2, h3⟩ := h
  exact ⟨A, c, B, c2, e, h1.below hb, h2.below hb, h3⟩
theorem IsCell.mono {b' : Nat} (h : IsCell w base d v x) (hb : b' ≤ base) : IsCell w b' d v x := by
  obtain ⟨A, c, B, c2, e, h1, h2, h3⟩ := h
  exact ⟨A, c, B, c2, e, h1.mono hb, h2.mono hb, h3⟩
theorem IsCell.set2 (h : IsCell w base d v x) {g : Nat} (hg : g < base) (y z : Value) : IsCell ((w.setCell ⟨g, 0, none⟩ y).setCell ⟨g, 1, none⟩ z) base d v x := by
  obtain ⟨A, c, B, c2, e, h1, h2, h3⟩ := h
  exact ⟨A, c, B, c2, e, (h1.set_ (p := ⟨g, 0, none⟩) hg y).set_ (p := ⟨g, 1, none⟩) hg z, (h2.set_ (p := ⟨g, 0, none⟩) hg y).set_ (p := ⟨g, 1, none⟩) hg z, h3⟩
theorem IsCell.none (w : World) (base : Nat) : IsCell w base [] [] (.agg #[.slice none 0 0, .slice none 0 0]) := ⟨.none, 0, .none, 0, rfl, Fr.nil _ _ _, Fr.nil _ _ _, by simp, by simp, by simp, by simp⟩
theorem isCell_of {t t' : TypeId} {b b' : Nat} {A B : Option Addr} {c c2 : Nat} (h : MineT t w b (.slice A d.length c) d) (h' : MineT t' w b' (.slice B v.length c2) v) (hb : base ≤ b) (hb' : base ≤ b') : IsCell w base d v (.agg #[.slice A d.length c, .slice B v.length c2]) :=
  ⟨A, c, B, c2, rfl, h.fr.mono hb, h'.fr.mono hb', h'.cap.1, h'.cap.2, h.cap.1, h.cap.2⟩
end
/-- A cell and another answer. -/
def RetC (w : World) (d v : List Int) (y : Value) (e : Ending) (w' : World) : Prop := ∃ x, e = .returned (.tuple #[x, y]) ∧ IsCell w' w.heap.size d v x ∧ Below w.heap.size w w'
/-- A cell alone. -/
def RetC1 (w : World) (d v : List Int) (e : Ending) (w' : World) : Prop := ∃ x, e = .returned x ∧ IsCell w' w.heap.size d v x ∧ Below w.heap.size w w'

section
variable {w w' : World} {g : Nat} {x y : Value}
end

theorem MineT.ints' {t : TypeId} {base : Nat} {A : Option Addr} {w : World} {n c : Nat} {xs : List Int} (h : MineT t w base (.slice A n c) xs) : Ints w A xs := by
  obtain ⟨A', c', e, hi⟩ := h.ints
  injection e with e1
  rw [e1]; exact hi
theorem MineT.box {t : TypeId} {base : Nat} {w : World} {v : Value} {xs : List Int} {g : Nat} (h : MineT t w base v xs) (hg : g < base) (x y : Value) : MineT t ((w.setCell ⟨g, 0, none⟩ x).setCell ⟨g, 1, none⟩ y) base v xs := by
  have hp : v.ownBlock ≠ some g := fun e => by have := h.block g e; omega
  exact (h.setCell (p := ⟨g, 0, none⟩) hp x).setCell (p := ⟨g, 1, none⟩) hp y
theorem MineT.made (t : TypeId) (w : World) (n base : Nat) (hb : base ≤ w.heap.size) (hl : n ≤ maxLen) : MineT t (w.alloc (.cells (madeCells #[Value.int .i64 0] n) t)) base (.slice (some ⟨w.heap.size, 0, none⟩) n n) (List.replicate n 0) := by
  have := MineT.new t w (List.replicate n 0) base hb (by simpa using hl)
  rw [cells_made]
  simpa using this

/-- What Of answers. -/
def ofE (d : List Int) (n : Nat) : Int := if rightB d = true then (if (n : Int) = sizeI d then 0 else 3) else 1
def ofD (d : List Int) (n : Nat) : List Int := if ofE d n = 0 then d else []
def ofV (d v : List Int) : List Int := if ofE d v.length = 0 then v else []
theorem of_arg {d v : List Int} (h : rightB d = false) : ofE d v.length = 1 ∧ ofD d v.length = [] ∧ ofV d v = [] := by simp [ofE, ofD, ofV, h]
theorem of_len {d v : List Int} (h : rightB d = true) (hn : ¬ (v.length : Int) = sizeI d) : ofE d v.length = 3 ∧ ofD d v.length = [] ∧ ofV d v = [] := by simp [ofE, ofD, ofV, h, hn]
theorem of_ok {d v : List Int} (h : rightB d = true) (hn : (v.length : Int) = sizeI d) : ofE d v.length = 0 ∧ ofD d v.length = d ∧ ofV d v = v := by simp [ofE, ofD, ofV, h, hn]

theorem list_right {n : Nat} (h : n ≤ 64) : rightB [(n : Int)] = true ∧ ((n : Nat) : Int) = sizeI [(n : Int)] := by
  have h1 : rightB [(n : Int)] = true := by simp [rightB, okAx, prod]; omega
  exact ⟨h1, by simp [sizeI, h1, prod]⟩

/-- What Zero answers. -/
def zeroD (d : List Int) : List Int := if rightB d = true then d else []
def zeroV (d : List Int) : List Int := List.replicate (sizeI d).toNat 0

end Go.Proofs.YtjmpilmmgfjpmaaDoor.Sh
-- CellItem
namespace Go.Proofs.YtjmpilmmgfjpmaaDoor.Sh
open Go.RowKit
set_option linter.unusedVariables false

/-- A slice of these numbers, in new memory. -/
def RetF (w : World) (xs : List Int) (e : Ending) (w' : World) : Prop := ∃ A c, e = .returned (.slice A xs.length c) ∧ Fr w' w.heap.size A xs ∧ (xs.length ≤ c ∧ c ≤ maxLen) ∧ Below w.heap.size w w'

/-- Has a cell an Item of this number? -/
def itemB (d : List Int) (n : Nat) (i : Int) : Bool := cellB d n && decide (0 < d.length) && decide (0 ≤ i) && decide (i < d.getD 0 0)
def itemD (d : List Int) (n : Nat) (i : Int) : List Int := if itemB d n i = true then d.tail else []
def itemV (d v : List Int) (i : Int) : List Int := if itemB d v.length i = true then piece v i.toNat (sizeI d.tail).toNat else []
theorem item_not {d v : List Int} {i : Int} (h : itemB d v.length i = false) : itemD d v.length i = [] ∧ itemV d v i = [] := by simp [itemD, itemV, h]
theorem item_is {d v : List Int} {i : Int} (h : itemB d v.length i = true) : itemD d v.length i = d.tail ∧ itemV d v i = piece v i.toNat (sizeI d.tail).toNat := by simp [itemD, itemV, h]
/-- The parts of a cell that has Items. -/
theorem item_parts {d : List Int} {n : Nat} {i : Int} (h : itemB d n i = true) : ∃ (x s k : Nat) (t : List Int), d = (x : Int) :: t ∧ rightB d = true ∧ rightB t = true ∧ sizeI t = s ∧ n = x * s ∧ i = k ∧ k < x ∧ (k + 1) * s ≤ n ∧ n ≤ 64 ∧ x ≤ 64 ∧ d.length ≤ 3 := by
  simp only [itemB, Bool.and_eq_true, decide_eq_true_eq] at h
  obtain ⟨⟨⟨h1, h2⟩, h3⟩, h4⟩ := h
  obtain ⟨hr, hn⟩ := cellB_parts h1
  cases d with
  | nil => simp at h2
  | cons y t =>
    simp at h4
    obtain ⟨hl3, hall, h64⟩ := rightB_all hr
    have hs : sizeI (y :: t) = prod (y :: t) := sizeI_mk hl3 hall h64
    rw [prod_cons] at h64 hs
    have hy := okAx_bd (by simpa using (List.all_eq_true.1 hall) y (by simp))
    have hta : t.all okAx = true := by
      rw [List.all_eq_true] at hall ⊢
      intro z hz
      exact hall z (by simp [hz])
    have hp0 := (prod_bd t hta).1
    have hge : 1 * prod t ≤ y * prod t := Int.mul_le_mul_of_nonneg_right (by omega) hp0
    have hrt : rightB t = true := rightB_mk (by simp at hl3; omega) hta (by omega)
    have hst : sizeI t = prod t := by simp [sizeI, hrt]
    have hki : (i + 1) * prod t ≤ y * prod t := Int.mul_le_mul_of_nonneg_right (by omega) hp0
    refine ⟨y.toNat, (prod t).toNat, i.toNat, t, by simp; omega, hr, hrt, by rw [hst]; omega, ?_, by omega, by omega, ?_, by omega, by omega, hl3⟩
    · have : ((y.toNat * (prod t).toNat : Nat) : Int) = y * prod t := by rw [Int.natCast_mul, Int.toNat_of_nonneg (by omega), Int.toNat_of_nonneg hp0]
      omega
    · have : (((i.toNat + 1) * (prod t).toNat : Nat) : Int) = (i + 1) * prod t := by rw [Int.natCast_mul, Int.natCast_add, Int.toNat_of_nonneg (by omega), Int.toNat_of_nonneg hp0]; rfl
      omega

theorem keep1 {W w1 : World} {g : Nat} {x : Value} (hb : Below W.heap.size W w1) (h : W.cell? ⟨g, 1, none⟩ = some x) : w1.cell? ⟨g, 1, none⟩ = some x :=
  (hb.cell (p := ⟨g, 1, none⟩) (World.block_lt_of_cell? W ⟨g, 1, none⟩ h)).trans h

end Go.Proofs.YtjmpilmmgfjpmaaDoor.Sh
-- CellRItem
namespace Go.Proofs.YtjmpilmmgfjpmaaDoor.Sh
open Go.RowKit
set_option linter.unusedVariables false

theorem step_appI {t e : TypeId} (hinf : NumT e) (ht : Tryd.prog.underlying t = some (.slice e)) {w : World} {ops : Array Oper} {o : Oper} {a : Act} {K : Act → World → Prop} {Q : Exit → Act → World → Prop} {E : Prop} (hgd : o.guard = none) (s x : Operand)
    (ho : o.op = .call { callee := .builtin .append, args := #[s, x], argTypes := #[t, t] })
    (base : Nat) (v : Value) (xs : List Int) (hs : a.eval s = v) (hown : MineT e w base v xs) (A : Option Addr) (c : Nat) (ys : List Int) (hx : a.eval x = .slice A ys.length c) (hi : Ints w A ys)
    (hlen : xs.length + ys.length ≤ 100000) (hbase : base ≤ w.heap.size)
    (h : ∀ v' w', MineT e w' base v' (xs ++ ys) → w.grownBy w' v.ownBlock → (v'.ownBlock = v.ownBlock ∨ v'.ownBlock = some w.heap.size) → K (a.put o.dst v') w') :
    if Region.wanted o (yielded ops a.tmps) = true then Oper.wp Tryd.prog o a w K Q else E := by
  have hw : Region.wanted o (yielded ops a.tmps) = true := by simp [Region.wanted, hgd]
  rw [if_pos hw]
  exact wp_appI hinf ht s x ho base v xs hs hown A c ys hx hi hlen hbase h

/-- The numbers of the i-th piece among the first q. -/
def part (v : List Int) (i s q : Nat) : List Int := ((v.take q).drop (i * s)).take s
theorem part_zero (v : List Int) (i s : Nat) : part v i s 0 = [] := by simp [part]
theorem part_length (v : List Int) (i s q : Nat) : (part v i s q).length ≤ s := by simp [part]; omega
theorem part_in {v : List Int} {i s q : Nat} (h1 : i * s ≤ q) (h2 : q < i * s + s) (hq : q < v.length) : part v i s (q + 1) = part v i s q ++ [v.getD q 0] := by
  unfold part
  have l1 : ((v.take q).drop (i * s)).length ≤ s := by simp; omega
  have l2 : ((v.take q).drop (i * s) ++ [v.getD q 0]).length ≤ s := by simp; omega
  rw [take_snoc v q hq, List.drop_append_of_le_length (by simp; omega), List.take_of_length_le l2, List.take_of_length_le l1]
theorem part_out {v : List Int} {i s q : Nat} (h : q < i * s ∨ i * s + s ≤ q) (hq : q < v.length) : part v i s (q + 1) = part v i s q := by
  unfold part
  rcases h with h | h
  · rw [List.drop_of_length_le (by simp; omega), List.drop_of_length_le (by simp; omega)]
  · rw [take_snoc v q hq, List.drop_append_of_le_length (by simp; omega), List.take_append_of_le_length (by simp; omega)]
theorem part_all (v : List Int) (i s : Nat) : part v i s v.length = piece v i s := by simp [part, piece]
theorem head_is {x s q k : Nat} {t : List Int} (hr : rightB t = true) (hs : sizeI t = s) (hq : q < x * s) : ((dg ((x : Int) :: t) q).getD 0 0 = (k : Int)) ↔ (k * s ≤ q ∧ q < k * s + s) := by
  have hp : prod t = s := by rw [← hs]; simp [sizeI, hr]
  have h0 : 0 < s := by
    rcases Nat.eq_zero_or_pos s with h | h
    · subst h; simp at hq
    · exact h
  have e : (dg ((x : Int) :: t) q).getD 0 0 = ((q / s : Nat) : Int) := by
    show ((q : Int) / prod t) % (x : Int) = _
    rw [hp]
    have h1 : q / s < x := (Nat.div_lt_iff_lt_mul h0).2 hq
    rw [← Int.natCast_ediv, ← Int.natCast_emod, Nat.mod_eq_of_lt h1]
  rw [e]
  constructor
  · intro h
    have h1 : q / s = k := by omega
    have h2 := Nat.div_add_mod q s
    have h3 := Nat.mod_lt q h0
    rw [h1, Nat.mul_comm] at h2
    omega
  · rintro ⟨h1, h2⟩
    have : q / s = k := by
      apply Nat.div_eq_of_lt_le
      · rw [Nat.mul_comm] at h1; rw [Nat.mul_comm]; exact h1
      · rw [Nat.add_mul, Nat.one_mul]; omega
    omega

/-- Only block g, and what is new, has turned. -/
theorem turned_drew {a w : World} {row : Option Nat} (h : a.grownBy w row) : a.grownBy w.drew row := ⟨h.os, h.tape, h.output, h.size, h.block⟩
theorem turned_drewN {a w : World} {row : Option Nat} (h : a.grownBy w row) (n : Nat) : a.grownBy (w.drewN n) row := ⟨h.os, h.tape, h.output, h.size, h.block⟩
theorem turned_alloc {a w : World} {row : Option Nat} (h : a.grownBy w row) (o : Obj) : a.grownBy (w.alloc o) row :=
  ⟨h.os, h.tape, h.output, Nat.le_trans h.size (by simp), fun i hi hne => (Below.heap_alloc w o i (Nat.lt_of_lt_of_le hi h.size)).trans (h.block i hi hne)⟩
theorem turned_set {a w : World} {g : Nat} (h : a.grownBy w (some g)) (j : Nat) (u : Value) : a.grownBy (w.setCell ⟨g, j, none⟩ u) (some g) :=
  ⟨h.os, h.tape, h.output, by simpa [World.setCell] using h.size, fun i hi hne => (Below.heap_setCell w ⟨g, j, none⟩ u i (fun e => hne (by rw [e]))).trans (h.block i hi hne)⟩
theorem turned_grown {a w w' : World} {row r2 : Option Nat} (h : a.grownBy w row) (k : w.grownBy w' r2) (hr : ∀ g, r2 = some g → a.heap.size ≤ g) : a.grownBy w' row :=
  ⟨k.os.trans h.os, k.tape.trans h.tape, k.output.trans h.output, Nat.le_trans h.size k.size, fun i hi hne => (k.block i (Nat.lt_of_lt_of_le hi h.size) (fun e => by have := hr i e.symm; omega)).trans (h.block i hi hne)⟩
theorem below_turned {a b c : World} {g : Nat} (h : Below a.heap.size a b) (k : b.grownBy c (some g)) (hg : a.heap.size ≤ g) : Below a.heap.size a c :=
  ⟨k.os.trans h.os, k.tape.trans h.tape, k.output.trans h.output, Nat.le_trans h.size k.size, fun i hi => (k.block i (Nat.lt_of_lt_of_le hi h.size) (fun e => by injection e with e; omega)).trans (h.block i hi)⟩

end Go.Proofs.YtjmpilmmgfjpmaaDoor.Sh
-- CellAll
namespace Go.Proofs.YtjmpilmmgfjpmaaDoor.Sh
open Go.RowKit
set_option linter.unusedVariables false

/-- A cell as two lists: its axes and its numbers. -/
abbrev Two := List Int × List Int
/-- A slice of cells, nil let in. -/
def Cells (w : World) (A : Option Addr) (L : List Two) : Prop :=
  0 < L.length → ∃ b off, A = some ⟨b, off, none⟩ ∧ b < w.heap.size ∧ ∀ i (h : i < L.length), ∃ Ai ci Bi ei, w.cell? ⟨b, off + 2 * i, none⟩ = some (.slice Ai L[i].1.length ci) ∧ w.cell? ⟨b, off + 2 * i + 1, none⟩ = some (.slice Bi L[i].2.length ei) ∧ Ints w Ai L[i].1 ∧ Ints w Bi L[i].2
theorem Cells.below {w w' : World} {A : Option Addr} {L : List Two} (h : Cells w A L) (hb : Below w.heap.size w w') : Cells w' A L := by
  intro hl
  obtain ⟨b, off, e, hlt, hc⟩ := h hl
  refine ⟨b, off, e, Nat.lt_of_lt_of_le hlt hb.size, fun i hi => ?_⟩
  obtain ⟨Ai, ci, Bi, ei, h1, h2, h3, h4⟩ := hc i hi
  exact ⟨Ai, ci, Bi, ei, (hb.cell (p := ⟨b, off + 2 * i, none⟩) hlt).trans h1, (hb.cell (p := ⟨b, off + 2 * i + 1, none⟩) hlt).trans h2, h3.below hb, h4.below hb⟩
def SmallL (L : List Two) : Prop := ∀ x ∈ L, x.1.length ≤ 10 ∧ x.2.length ≤ 200

theorem all_take_snoc (p : Two → Bool) (L : List Two) (k : Nat) (h : k < L.length) : (L.take (k + 1)).all p = ((L.take k).all p && p L[k]) := by
  rw [List.take_succ_eq_append_getElem h, List.all_append, List.all_cons, List.all_nil, Bool.and_true]
theorem all_bad (p : Two → Bool) (L : List Two) (k : Nat) (h : k < L.length) (hp : p L[k] = false) : L.all p = false := by
  rw [Bool.eq_false_iff]
  intro ha
  rw [List.all_eq_true] at ha
  rw [ha _ (List.getElem_mem h)] at hp
  cases hp
def pR (x : Two) : Bool := cellB x.1 x.2.length
def pD (d : List Int) (x : Two) : Bool := decide (d = x.1)
end Go.Proofs.YtjmpilmmgfjpmaaDoor.Sh
-- CellCopy
namespace Go.Proofs.YtjmpilmmgfjpmaaDoor.Sh
open Go.RowKit
set_option linter.unusedVariables false

/-- A cell of these axes with n noughts, whose row is a new block known whole. -/
def RetZ (w : World) (d : List Int) (n : Nat) (e : Ending) (w' : World) : Prop := ∃ A c g, e = .returned (.agg #[.slice A d.length c, .slice (some ⟨g, 0, none⟩) n n]) ∧ MineT 3 w' w.heap.size (.slice A d.length c) d ∧ w'.heap[g]? = some (.cells (cellsI (List.replicate n 0)) 2 (0, 0)) ∧ w.heap.size ≤ g ∧ Below w.heap.size w w'
/-- A piece of a row, with its address. -/
def RetAt (g i s : Nat) (w : World) (e : Ending) (w' : World) : Prop := ∃ A, e = .returned (.slice A s s) ∧ (0 < s → A = some ⟨g, i * s, none⟩) ∧ w = w'
theorem run_copyI {ty : TypeId} {w : World} {g off : Nat} {cur ys : List Int} {dp A : Option Addr} {s c c' : Nat} (hg : w.heap[g]? = some (.cells (cellsI cur) 2 (0, 0))) (hdp : 0 < s → dp = some ⟨g, off, none⟩) (hy : Ints w A ys) (hn : ys.length = s) (hf : off + ys.length ≤ cur.length) :
    ∃ w', (Builtin.copy_ #[43, 43] ty #[.slice dp s c, .slice A ys.length c']).run Tryd.prog w = .ok (goInt ys.length) w' ∧ w'.heap[g]? = some (.cells (cellsI (splice cur off ys)) 2 (0, 0)) ∧ w.grownBy w' (some g) := by
  have hsz : (Tryd.prog.info? 2).map (·.size) = some 1 := by kernel_rfl
  rcases Nat.eq_zero_or_pos ys.length with h0 | h0
  · obtain rfl : ys = [] := List.eq_nil_of_length_eq_zero h0
    refine ⟨w, ?_, by simpa [splice] using hg, World.grownBy.refl w _⟩
    exact run_copy_none (P := Tryd.prog) w 43 43 ty 2 dp A s c 0 c' Tryd.underlying43 hsz (by simp)
  · obtain ⟨b, o, rfl, hb, hcs⟩ := hy h0
    have hd := hdp (by omega)
    subst hd
    have hrun := run_copy_row (P := Tryd.prog) w 43 43 ty 2 g off s c ⟨b, o, none⟩ ys.length c' (cellsI cur) 2 (ys.map (Value.int .i64)) Tryd.underlying43 hsz hg (by simp [hn])
      (fun j v hj => by
        have hjl : j < ys.length := by
          have := (List.getElem?_eq_some_iff.1 hj).1
          simpa using this
        rw [Go.WideShapes.add_plain, hcs j hjl]
        rw [List.getElem?_map, List.getElem?_eq_getElem hjl] at hj
        simp at hj
        simp [List.getD, hjl, hj]) (by simpa [cellsI] using hf) (fun v hv => by simp at hv; obtain ⟨y, _, rfl⟩ := hv; rfl)
    rw [List.length_map] at hrun
    refine ⟨_, hrun, ?_, ?_⟩
    · rw [setRow_heap w g _ _ 2 _ hg]
      simp [cellsI, splice]
    · exact ⟨rfl, rfl, rfl, by simp [World.setRow], fun i hi hne => setRow_other w g i _ (fun e => hne (by rw [e]))⟩
theorem step_copyI {w : World} {ops : Array Oper} {o : Oper} {a : Act} {K : Act → World → Prop} {Q : Exit → Act → World → Prop} {E : Prop} (hgd : o.guard = none) (d x : Operand)
    (ho : o.op = .call { callee := .builtin .copy, args := #[d, x], argTypes := #[43, 43] })
    (g off : Nat) (cur ys : List Int) (dp A : Option Addr) (s c c' : Nat) (hd : a.eval d = .slice dp s c) (hx : a.eval x = .slice A ys.length c') (hg : w.heap[g]? = some (.cells (cellsI cur) 2 (0, 0))) (hdp : 0 < s → dp = some ⟨g, off, none⟩) (hy : Ints w A ys) (hn : ys.length = s) (hf : off + ys.length ≤ cur.length)
    (h : ∀ w', w'.heap[g]? = some (.cells (cellsI (splice cur off ys)) 2 (0, 0)) → w.grownBy w' (some g) → K (a.put o.dst (goInt ys.length)) w') :
    if Region.wanted o (yielded ops a.tmps) = true then Oper.wp Tryd.prog o a w K Q else E := by
  have hw : Region.wanted o (yielded ops a.tmps) = true := by simp [Region.wanted, hgd]
  rw [if_pos hw]
  obtain ⟨w', hrun, h1, h2⟩ := run_copyI (ty := o.type) (c := c) (c' := c') hg hdp hy hn hf
  unfold Oper.wp execOp
  simp only [ho, resolve, invoke, builtin, Sem.run_bind, Sem.run_pure, Result.andThen_ok, List.map_toArray, List.map_cons, List.map_nil, hd, hx, hrun]
  exact h w' h1 h2
end Go.Proofs.YtjmpilmmgfjpmaaDoor.Sh
-- CellStack
namespace Go.Proofs.YtjmpilmmgfjpmaaDoor.Sh
open Go.RowKit
set_option linter.unusedVariables false

def catV (L : List Two) : List Int := (L.map (·.2)).flatten
theorem catV_take (L : List Two) (k : Nat) (h : k < L.length) : catV (L.take (k + 1)) = catV (L.take k) ++ L[k].2 := by
  unfold catV
  rw [List.take_succ_eq_append_getElem h, List.map_append, List.flatten_append]
  simp
theorem catV_len {L : List Two} {s : Nat} (h : ∀ x ∈ L, x.2.length = s) : (catV L).length = L.length * s := by
  unfold catV
  induction L with
  | nil => simp
  | cons x L ih =>
    rw [List.map_cons, List.flatten_cons, List.length_append, ih (fun y hy => h y (List.mem_cons_of_mem _ hy)), h x (by simp), List.length_cons, Nat.add_mul, Nat.one_mul]
    omega
/-- The row behind k copies. -/
def rowK (L : List Two) (s k : Nat) : List Int := catV (L.take k) ++ List.replicate ((L.length - k) * s) 0
theorem rowK_0 (L : List Two) (s : Nat) : rowK L s 0 = List.replicate (L.length * s) 0 := by simp [rowK, catV]
theorem rowK_n (L : List Two) (s : Nat) : rowK L s L.length = catV L := by simp [rowK]
theorem catV_take_len {L : List Two} {s k : Nat} (h : ∀ x ∈ L, x.2.length = s) (hk : k ≤ L.length) : (catV (L.take k)).length = k * s := by
  rw [catV_len (L := L.take k) (s := s) (fun x hx => h x (List.mem_of_mem_take hx)), List.length_take, Nat.min_eq_left hk]
theorem rowK_len {L : List Two} {s k : Nat} (h : ∀ x ∈ L, x.2.length = s) (hk : k ≤ L.length) : (rowK L s k).length = L.length * s := by
  unfold rowK
  rw [List.length_append, catV_take_len h hk, List.length_replicate, ← Nat.add_mul, Nat.add_sub_cancel' hk]
theorem rowK_succ {L : List Two} {s k : Nat} (h : ∀ x ∈ L, x.2.length = s) (hk : k < L.length) : splice (rowK L s k) (k * s) L[k].2 = rowK L s (k + 1) := by
  have hl := catV_take_len h (Nat.le_of_lt hk)
  have hv : L[k].2.length = s := h _ (List.getElem_mem hk)
  unfold splice
  rw [hv]
  unfold rowK
  rw [catV_take L k hk, List.take_append_of_le_length (by omega), List.take_of_length_le (by omega), List.drop_append, List.drop_of_length_le (by omega), List.nil_append, hl, List.append_assoc]
  congr 2
  rw [List.drop_replicate]
  congr 1
  have : L.length - k = (L.length - (k + 1)) + 1 := by omega
  rw [this, Nat.add_mul, Nat.one_mul]
  omega

section
variable {A : Option Addr} {c : Nat} {L : List Two} {w : World}
end
theorem keepG {W w' : World} {gV g : Nat} {x : Value} (h : W.grownBy w' (some gV)) (hg : g ≠ gV) (hc : W.cell? ⟨g, 1, none⟩ = some x) : w'.cell? ⟨g, 1, none⟩ = some x :=
  (World.cell?_of_block (h.block g (World.block_lt_of_cell? W ⟨g, 1, none⟩ hc) (fun e => hg (by injection e)))).trans hc
theorem mine_turned {t : TypeId} {w w' : World} {base gV : Nat} {v : Value} {xs ys : List Int} (h : MineT t w base v xs) (hg : w.heap[gV]? = some (.cells (cellsI ys) 2 (0, 0))) (ht : t ≠ 2) (hr : w.grownBy w' (some gV)) : MineT t w' base v xs := by
  refine h.keep fun g hv => hr.block g (h.lt g hv) (fun e => ?_)
  injection e with e
  subst e
  rcases h.2 with ⟨rfl, _⟩ | ⟨g', cap, cur, rfl, _, hh, _⟩
  · simp [Value.ownBlock] at hv
  · simp [Value.ownBlock] at hv
    subst hv
    rw [hg] at hh
    injection hh with hh
    injection hh with _ hh
    exact ht hh.symm
theorem mine_block {w : World} {base gV : Nat} {xs : List Int} (hg : w.heap[gV]? = some (.cells (cellsI xs) 2 (0, 0))) (hb : base ≤ gV) (hl : xs.length ≤ maxLen) : MineT 2 w base (.slice (some ⟨gV, 0, none⟩) xs.length xs.length) xs :=
  ⟨by simp, .inr ⟨gV, xs.length, cellsI xs, rfl, hb, hg, Nat.le_refl _, hl, by simp [cellsI], by simp [cellsI, ← List.map_take]⟩⟩

end Go.Proofs.YtjmpilmmgfjpmaaDoor.Sh
-- Row64
namespace Go.Proofs.YtjmpilmmgfjpmaaDoor.Sh
open Go.RowKit
set_option linter.unusedVariables false

theorem turned_below {a w w' : World} {row : Option Nat} (h : a.grownBy w row) (k : Below w.heap.size w w') : a.grownBy w' row :=
  ⟨k.os.trans h.os, k.tape.trans h.tape, k.output.trans h.output, Nat.le_trans h.size k.size, fun i hi hne => (k.block i (Nat.lt_of_lt_of_le hi h.size)).trans (h.block i hi hne)⟩
theorem turned_refl (a : World) (row : Option Nat) : a.grownBy a row := World.grownBy.refl a row
/-- Block g is just these numbers. -/
def Row64 (w : World) (g : Nat) (xs : List Int) : Prop := w.heap[g]? = some (.cells (cellsI xs) 2 (0, 0))
section
variable {w w' : World} {g : Nat} {xs : List Int}
theorem Row64.lt (h : Row64 w g xs) : g < w.heap.size := by
  rcases Nat.lt_or_ge g w.heap.size with hlt | hge
  · exact hlt
  · unfold Row64 at h; rw [Array.getElem?_eq_none hge] at h; cases h
theorem Row64.cell (h : Row64 w g xs) {i : Nat} (hi : i < xs.length) : w.cell? ⟨g, i, none⟩ = some (.int .i64 (xs.getD i 0)) := by
  rw [cell_of_row w g i _ _ _ h]; simp [cellsI, List.getD, hi]
theorem Row64.frozen (h : Row64 w g xs) (i : Nat) : w.frozen? ⟨g, i, none⟩ = false := by unfold Row64 at h; simp [World.frozen?, h]
theorem Row64.drew (h : Row64 w g xs) : Row64 w.drew g xs := h
theorem Row64.drewN (h : Row64 w g xs) (n : Nat) : Row64 (w.drewN n) g xs := h
theorem Row64.alloc (h : Row64 w g xs) (o : Obj) : Row64 (w.alloc o) g xs := (Below.heap_alloc w o g h.lt).trans h
theorem Row64.next (h : Row64 w g xs) (hb : Below w.heap.size w w') : Row64 w' g xs := (hb.block g h.lt).trans h
theorem Row64.far (h : Row64 w g xs) {p : Addr} (hp : g ≠ p.block) (u : Value) : Row64 (w.setCell p u) g xs := (Below.heap_setCell w p u g hp).trans h
theorem Row64.set_ (h : Row64 w g xs) (i : Nat) (x : Int) : Row64 (w.setCell ⟨g, i, none⟩ (.int .i64 x)) g (xs.set i x) := by
  unfold Row64 at h ⊢
  simp [World.setCell, Array.getElem?_modify, h, cellsI, List.map_set]
theorem Row64.ints (h : Row64 w g xs) : Ints w (some ⟨g, 0, none⟩) xs := fun _ => ⟨g, 0, rfl, h.lt, fun i hi => by rw [Nat.zero_add]; exact h.cell hi⟩
end
/-- The numbers of the first k places, noughts behind. -/
def fillK (f : Nat → Int) (n k : Nat) : List Int := (List.range n).map fun i => if i < k then f i else 0
theorem fillK_length (f : Nat → Int) (n k : Nat) : (fillK f n k).length = n := by simp [fillK]
theorem fillK_0 (f : Nat → Int) (n : Nat) : fillK f n 0 = List.replicate n 0 := by
  apply List.ext_getElem <;> simp [fillK]
theorem fillK_n (f : Nat → Int) (n : Nat) : fillK f n n = (List.range n).map f := by
  apply List.map_congr_left
  intro i hi
  rw [if_pos (List.mem_range.1 hi)]
theorem fillK_succ (f : Nat → Int) (n k : Nat) (h : k < n) : (fillK f n k).set k (f k) = fillK f n (k + 1) := by
  apply List.ext_getElem
  · simp [fillK]
  · intro i h1 h2
    rw [List.getElem_set]
    simp only [fillK, List.getElem_map, List.getElem_range]
    by_cases hik : k = i
    · subst hik; simp
    · rw [if_neg hik]
      by_cases hlt : i < k
      · rw [if_pos hlt, if_pos (by omega)]
      · rw [if_neg hlt, if_neg (by omega)]
theorem below_new (w : World) (o : Obj) : Below w.heap.size w (w.alloc o) := (Below.refl _ w).alloc (Nat.le_refl _) o
end Go.Proofs.YtjmpilmmgfjpmaaDoor.Sh
-- SpOut
namespace Go.Proofs.YtjmpilmmgfjpmaaDoor.Sh
open Go.RowKit
set_option linter.unusedVariables false

section
variable {w0 w w' w5 : World} {g : Nat} {X V V' : Value} {ys zs : List Int}
end
theorem one_new (w : World) (x : Int) : Ints (w.alloc (.cells #[.int .i64 x] 2)) (some ⟨w.heap.size, 0, none⟩) [x] := (MineT.new 2 w [x] 0 (Nat.zero_le _) (by unfold maxLen; simp)).ints'
end Go.Proofs.YtjmpilmmgfjpmaaDoor.Sh
-- ShapePls5
namespace Go.Proofs.YtjmpilmmgfjpmaaDoor.Sh
open Go.RowKit
set_option linter.unusedVariables false

/-- A row of rows, the t-th is the t-th place, in blocks from lo on. -/
def Pls (w : World) (lo : Nat) (d : List Int) (n : Nat) (A : Option Addr) : Prop :=
  ∀ t, t < n → ∃ b At ct, A = some ⟨b, 0, none⟩ ∧ lo ≤ b ∧ b < w.heap.size ∧ w.cell? ⟨b, t, none⟩ = some (.slice At d.length ct) ∧ Fr w lo At (dg d t)
theorem Fr.grown {w w' : World} {lo : Nat} {A : Option Addr} {l : List Int} {g : Nat} (h : Fr w lo A l) (hg : w.grownBy w' (some g)) (hlo : g < lo) : Fr w' lo A l := fun hp => by
  obtain ⟨b, off, e, h1, h2, h3⟩ := h hp
  exact ⟨b, off, e, h1, Nat.lt_of_lt_of_le h2 hg.size, fun i hi => (World.cell?_of_block (hg.block b h2 (fun e => by injection e with e; omega))).trans (h3 i hi)⟩
theorem Pls.grown {w w' : World} {lo : Nat} {d : List Int} {n : Nat} {A : Option Addr} {g : Nat} (h : Pls w lo d n A) (hg : w.grownBy w' (some g)) (hlo : g < lo) : Pls w' lo d n A := fun t ht => by
  obtain ⟨b, At, ct, e, h1, h2, h3, h4⟩ := h t ht
  exact ⟨b, At, ct, e, h1, Nat.lt_of_lt_of_le h2 hg.size, (World.cell?_of_block (hg.block b h2 (fun e => by injection e with e; omega))).trans h3, h4.grown hg hlo⟩
theorem Pls.below {w w' : World} {lo : Nat} {d : List Int} {n : Nat} {A : Option Addr} (h : Pls w lo d n A) (hb : Below w.heap.size w w') : Pls w' lo d n A := fun t ht => by
  obtain ⟨b, At, ct, e, h1, h2, h3, h4⟩ := h t ht
  exact ⟨b, At, ct, e, h1, Nat.lt_of_lt_of_le h2 hb.size, (hb.cell (p := ⟨b, t, none⟩) h2).trans h3, h4.below hb⟩
def RetPls (d : List Int) (n : Nat) (w : World) (e : Ending) (w' : World) : Prop := ∃ A c, e = .returned (.slice A n c) ∧ Pls w' w.heap.size d n A ∧ Below w.heap.size w w'
/-- A cell, wherever it lies, and another answer. -/
def RetCI (w : World) (d v : List Int) (y : Value) (e : Ending) (w' : World) : Prop := ∃ A c B c2, e = .returned (.tuple #[.agg #[.slice A d.length c, .slice B v.length c2], y]) ∧ Ints w' A d ∧ Ints w' B v ∧ Below w.heap.size w w'
theorem Ints.nil (w : World) (A : Option Addr) : Ints w A [] := fun h => absurd h (by simp)
theorem RetC.ci {w : World} {d v : List Int} {y : Value} {e : Ending} {w' : World} (h : RetC w d v y e w') : RetCI w d v y e w' := by
  obtain ⟨x, rfl, ⟨A, c, B, c2, rfl, h1, h2, -⟩, hb⟩ := h
  exact ⟨A, c, B, c2, rfl, h1.ints, h2.ints, hb⟩
end Go.Proofs.YtjmpilmmgfjpmaaDoor.Sh
-- Frame
namespace Go.Proofs.YtjmpilmmgfjpmaaDoor.Sh
open Go.Joins Go.ChangeShapes Go.WideShapes Go.ChangeAt Go.RowKit Go.Deep
set_option linter.unusedVariables false

theorem own : ownKnob Tryd.prog.godebug = none := by kernel_rfl
theorem laidOut : laidOutB Tryd.prog = true := by kernel_rfl
def WfL (l : List Int) : Prop := ∀ n ∈ l, (Lit.int .i64 n).wf = true
/-- A slice of numbers that came in, with its room. -/
def IntsC (w : World) (A : Option Addr) (c : Nat) (l : List Int) : Prop := Ints w A l ∧ l.length ≤ c ∧ c ≤ maxLen ∧ l.length ≤ maxLen ∧ WfL l
section
variable {H : Type} {enc : TypeId × Value → H} {w : World} {t e : TypeId} {v : Value}
theorem row_of {fuel : Nat} {base : Nat} {held : Bool} {x : DataW H × List MemPlace} (ht : Tryd.prog.underlying t = some (.slice e)) (he : Tryd.prog.underlying e = some (.int .i64)) (hc : Tryd.prog.cellsOf e = 1)
    (h : DataW.trod enc Tryd.prog w base (fun _ => true) held fuel t [v] = some x) : ∃ A c l, v = .slice A (List.length l) c ∧ IntsC w A c l := by
  have hr : ∃ a len cap zs, v = .slice a len cap ∧ IsRow .i64 w a len cap zs := by
    rcases open_ints ht he hc h with ⟨hcs, _⟩ | ⟨x, l, c, zs, hcs, _, hl, hm, hz, _, hcell, hwz⟩
    · injection hcs with hcs
      exact ⟨none, 0, 0, [], hcs, .inl ⟨rfl, rfl, rfl, rfl⟩⟩
    · injection hcs with hcs
      exact ⟨_, l, c, zs, hcs, .inr ⟨_, rfl, hl, hm, by simpa using hz, hcell, hwz⟩⟩
  obtain ⟨a, len, cap, zs, rfl, hz⟩ := hr
  have hcap : len ≤ cap ∧ cap ≤ maxLen := by
    rcases hz with ⟨_, rfl, rfl, _⟩ | ⟨x, _, h1, h2, _⟩
    · simp
    · exact ⟨h1, h2⟩
  obtain ⟨l, rfl, h1, h2, h3⟩ := hz.view
  exact ⟨a, cap, l, rfl, h2, hcap.1, hcap.2, h1, h3⟩
variable {d : DataW H} {p : List MemPlace} {r : Reach} {b0 base : Nat}
theorem ints_arg (ht : Tryd.prog.underlying t = some (.slice e)) (he : Tryd.prog.underlying e = some (.int .i64)) (hc : Tryd.prog.cellsOf e = 1) (hok : Value.okWide Tryd.prog w r b0 t v) (h : DataW.Trod enc Tryd.prog w base (fun _ => true) true t v d p) :
    ∃ A c l, v = .slice A (List.length l) c ∧ IntsC w A c l := by
  obtain ⟨a, len, cap, rfl⟩ := okWide_slice ht hok
  obtain ⟨fuel, hf⟩ := h
  exact row_of ht he hc (by simpa [Value.cells] using hf)
theorem fn_arg (hok : Value.okWide Tryd.prog w r b0 37 v) (h : DataW.Trod enc Tryd.prog w base (fun _ => true) true 37 v d p) :
    ∃ (c : Int) (s : Bool), v = .agg #[.int .i64 c, .bool s] ∧ (Lit.int .i64 c).wf = true := by
  obtain ⟨x0, y0, ya0, yb0, fu0, rfl, _, _, ta0, tb0⟩ := open_agg2 Tryd.underlying37 (by kernel_rfl) (by kernel_rfl) hok h
  obtain ⟨c, hcs, _, hw⟩ := DataW.trod_int Tryd.underlying3 ta0
  obtain ⟨s, hss, _⟩ := DataW.trod_bool Tryd.underlying4 tb0
  injection hcs with hcs
  injection hss with hss
  subst hcs hss
  exact ⟨c, s, rfl, hw⟩
theorem int_arg (ht : Tryd.prog.underlying t = some (.int .i64)) (hok : Value.okWide Tryd.prog w r b0 t v) (h : DataW.Trod enc Tryd.prog w base (fun _ => true) true t v d p) : ∃ n : Int, v = .int .i64 n ∧ (Lit.int .i64 n).wf = true := by
  obtain ⟨n, rfl, _, _, hw⟩ := open_int ht hok h
  exact ⟨n, rfl, hw⟩
end
end Go.Proofs.YtjmpilmmgfjpmaaDoor.Sh
