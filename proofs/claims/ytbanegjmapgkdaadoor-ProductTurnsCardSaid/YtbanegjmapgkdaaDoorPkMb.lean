/-
  What mold.below, mold.lengths, mold.filled and slices.ContainsFunc of mold.below answer; nothing that was there is written. Conditions: at most 1000 numbers; the axes may be. What mold.Reshape and the document's Reshape answer for any two cells; nothing that was there is written. Condition: at most 100 axes and 1000 numbers. What the document's Reshape answers for any two cells; nothing that was there is written. Condition: at most 100 axes and 1000 numbers. What math/bits.Mul64 and math/bits.Mul answer of 1 and a small number, and what slices.Repeat answers of one number. Condition: the number is at most 64. What mold.listed, mold.often, mold.total, mold.cut and mold.layParts do. Conditions: as told in each. What mold.layParts does: each part of a list is copied as often as told, one behind the other, into a row known whole that has just that room. Conditions: as told. What mold.Copy answers where it answers a cell; nothing that was there is written. Conditions: as told; at most 100 axes and 1000 numbers.
-/
import Derived.Test.YtbanegjmapgkdaaDoorPkM
import Derived.Deep.QuietTactic
import Derived.BigQuiet
import Derived.IntWalk
import Derived.Laws.BitsAllLaws
import Derived.Laws.BitsLemmas
import Derived.Deep.RegionHeld3
set_option maxRecDepth 100000
-- MoFill
namespace Go.Proofs.YtbanegjmapgkdaaDoor.Sh
open Go.RowKit
set_option linter.unusedVariables false

/-- Is one below nought? -/
def negB (v : List Int) : Bool := v.any fun x => decide (x < 0)
theorem negB_no {v : List Int} (h : negB v = false) (i : Nat) (hi : i < v.length) : 0 ≤ v.getD i 0 := by
  unfold negB at h
  rw [List.any_eq_false] at h
  have := h v[i] (List.getElem_mem hi)
  simp at this
  simpa [List.getD, hi] using this
theorem negB_take {v : List Int} {k : Nat} (hk : k < v.length) : negB (v.take (k + 1)) = (negB (v.take k) || decide (v.getD k 0 < 0)) := by
  unfold negB; rw [take_snoc v k hk]; simp
theorem negB_yes {v : List Int} {k : Nat} (hk : k < v.length) (h : v.getD k 0 < 0) : negB v = true := by
  unfold negB
  rw [List.any_eq_true]
  exact ⟨v[k], List.getElem_mem hk, by simpa [List.getD, hk] using h⟩
/-- Is there an index? -/
def RetIx (b : Bool) (w : World) (e : Ending) (w' : World) : Prop := ∃ n : Int, e = .returned (.int .i64 n) ∧ decide (0 ≤ n) = b ∧ w = w'
/-- A number as a length: no greater than 65. -/
def len65 (x : Int) : Int := min x 65
def lensL (v : List Int) : List Int := v.map len65
theorem lensL_eq (v : List Int) : lensL v = (List.range v.length).map (fun i => len65 (v.getD i 0)) := by
  apply List.ext_getElem
  · simp [lensL]
  · intro i h1 h2
    simp [lensL] at h1
    simp [lensL, List.getD, h1]
theorem Own.lens {w : World} {g : Nat} {xs : List Int} (h : Own w g xs) {base : Nat} (hb : base ≤ g) (hl : xs.length ≤ maxLen) : MineT 3 w base (.slice (some ⟨g, 0, none⟩) xs.length xs.length) xs :=
  ⟨by simp, .inr ⟨g, xs.length, cellsI xs, rfl, hb, h, Nat.le_refl _, hl, by simp [cellsI], by simp [cellsI, ← List.map_take]⟩⟩
/-- Numbers over and over. -/
def cyc (v : List Int) (i : Nat) : Int := v.getD (i % v.length) 0
theorem cyc_step {v : List Int} {n p q : Nat} (hp : p % v.length = 0) (hq : q ≤ v.length) (hn : p + q ≤ n) : splice (fillK (cyc v) n p) p (v.take q) = fillK (cyc v) n (p + q) := by
  apply List.ext_getElem
  · rw [length_splice _ _ _ (by rw [fillK_length]; simp; omega), fillK_length, fillK_length]
  · intro i h1 h2
    rw [fillK_length] at h2
    have hlen : (v.take q).length = q := by simp; omega
    have e0 : (fillK (cyc v) n (p + q))[i]? = some (if i < p + q then cyc v i else 0) := by simp [fillK, h2]
    have e1 : (splice (fillK (cyc v) n p) p (v.take q))[i]? = some (if i < p + q then cyc v i else 0) := by
      unfold splice
      by_cases c1 : i < p
      · rw [List.getElem?_append_left (by simp [fillK]; omega), List.getElem?_take_of_lt c1]
        simp [fillK, h2, c1, show i < p + q by omega]
      · have lt1 : (List.take p (fillK (cyc v) n p)).length = p := by simp [fillK]; omega
        rw [List.getElem?_append_right (by rw [lt1]; omega), lt1]
        by_cases c2 : i < p + q
        · have hm : i % v.length = i - p := by
            have : i = (i - p) + p := by omega
            rw [this, Nat.add_mod, hp, Nat.add_zero, Nat.mod_mod]
            rw [Nat.mod_eq_of_lt (by omega)]
            omega
          rw [List.getElem?_append_left (by rw [hlen]; omega), List.getElem?_take_of_lt (by omega), if_pos c2]
          unfold cyc
          rw [hm]
          simp [List.getD, show i - p < v.length by omega]
        · rw [List.getElem?_append_right (by rw [hlen]; omega), hlen, List.getElem?_drop]
          have : p + q + (i - p - q) = i := by omega
          rw [this, if_neg c2]
          simp [fillK, h2, c1]
    have := e1.trans e0.symm
    rw [List.getElem?_eq_getElem h1, List.getElem?_eq_getElem (by rw [fillK_length]; exact h2)] at this
    exact Option.some.inj this
end Go.Proofs.YtbanegjmapgkdaaDoor.Sh
-- MoResh
namespace Go.Proofs.YtbanegjmapgkdaaDoor.Sh
open Go.RowKit
set_option linter.unusedVariables false

/-- The boxes of two cells and of the answer. -/
theorem w2_all (w : World) (x y z t : Value) :
    Box (((w.alloc (.cells #[x, y] 29)).alloc (.cells #[z, t] 29)).alloc (.cells #[.slice none 0 0, .slice none 0 0] 29)) w.heap.size x y ∧
    Box (((w.alloc (.cells #[x, y] 29)).alloc (.cells #[z, t] 29)).alloc (.cells #[.slice none 0 0, .slice none 0 0] 29)) (w.heap.size + 1) z t ∧
    Box (((w.alloc (.cells #[x, y] 29)).alloc (.cells #[z, t] 29)).alloc (.cells #[.slice none 0 0, .slice none 0 0] 29)) (w.heap.size + 1 + 1) (.slice none 0 0) (.slice none 0 0) ∧
    Below w.heap.size w (((w.alloc (.cells #[x, y] 29)).alloc (.cells #[z, t] 29)).alloc (.cells #[.slice none 0 0, .slice none 0 0] 29)) := by
  have e1 : (w.alloc (.cells #[x, y] 29)).heap.size = w.heap.size + 1 := by simp
  have e2 : ((w.alloc (.cells #[x, y] 29)).alloc (.cells #[z, t] 29)).heap.size = w.heap.size + 1 + 1 := by simp
  refine ⟨((Box.new w x y).alloc _).alloc _, ?_, ?_, below_next (below_new w _) (below_next (below_new _ _) (below_new _ _))⟩
  · have := (Box.new (w.alloc (.cells #[x, y] 29)) z t).alloc (.cells #[.slice none 0 0, .slice none 0 0] 29)
    rw [e1] at this; exact this
  · have := Box.new ((w.alloc (.cells #[x, y] 29)).alloc (.cells #[z, t] 29)) (.slice none 0 0) (.slice none 0 0)
    rw [e2] at this; exact this
theorem sizeI_nat (d : List Int) (h : rightB d = true) : ∃ n : Nat, sizeI d = n ∧ n ≤ 64 := by
  obtain ⟨h3, hall, h64⟩ := rightB_all h
  have hp := (prod_bd d hall).1
  exact ⟨(prod d).toNat, by rw [sizeI_mk h3 hall h64]; omega, by omega⟩
/-- What Reshape answers. -/
def rsE (d v e u : List Int) : Int := if cellB d v.length = true ∧ cellB e u.length = true then (if d.length ≤ 1 then (if negB v = true then 5 else if rightB (lensL v) = true then 0 else 4) else 2) else 1
def rsD (d v e u : List Int) : List Int := if rsE d v e u = 0 then lensL v else []
def rsV (d v e u : List Int) : List Int := if rsE d v e u = 0 then (List.range (sizeI (lensL v)).toNat).map (cyc u) else []
section
variable {d v e u : List Int}
theorem rs_1 (h : cellB d v.length = false) : rsE d v e u = 1 ∧ rsD d v e u = [] ∧ rsV d v e u = [] := by simp [rsD, rsV, rsE, h]
theorem rs_2 (h : cellB e u.length = false) : rsE d v e u = 1 ∧ rsD d v e u = [] ∧ rsV d v e u = [] := by simp [rsD, rsV, rsE, h]
theorem rs_3 (h1 : cellB d v.length = true) (h2 : cellB e u.length = true) (h : ¬ d.length ≤ 1) : rsE d v e u = 2 ∧ rsD d v e u = [] ∧ rsV d v e u = [] := by simp [rsD, rsV, rsE, h, h1, h2]
theorem rs_4 (h1 : cellB d v.length = true) (h2 : cellB e u.length = true) (h3 : d.length ≤ 1) (h : negB v = true) : rsE d v e u = 5 ∧ rsD d v e u = [] ∧ rsV d v e u = [] := by simp [rsD, rsV, rsE, h, h1, h2, h3]
theorem rs_5 (h1 : cellB d v.length = true) (h2 : cellB e u.length = true) (h3 : d.length ≤ 1) (h4 : negB v = false) (h : rightB (lensL v) = false) : rsE d v e u = 4 ∧ rsD d v e u = [] ∧ rsV d v e u = [] := by simp [rsD, rsV, rsE, h, h1, h2, h3, h4]
theorem rs_6 (h1 : cellB d v.length = true) (h2 : cellB e u.length = true) (h3 : d.length ≤ 1) (h4 : negB v = false) (h : rightB (lensL v) = true) {n : Nat} (hn : sizeI (lensL v) = n) : rsE d v e u = 0 ∧ rsD d v e u = lensL v ∧ rsV d v e u = (List.range n).map (cyc u) := by simp [rsD, rsV, rsE, h, h1, h2, h3, h4, hn]
end
theorem cellB_small {d : List Int} {n : Nat} (h : cellB d n = true) : d.length ≤ 3 ∧ n ≤ 64 := by
  obtain ⟨h1, h2⟩ := cellB_parts h
  obtain ⟨m, hm, h64⟩ := sizeI_nat d h1
  exact ⟨(rightB_all h1).1, by omega⟩

end Go.Proofs.YtbanegjmapgkdaaDoor.Sh
-- MoRResh
namespace Go.Proofs.YtbanegjmapgkdaaDoor.Sh
open Go.RowKit
set_option linter.unusedVariables false

theorem lens_take {v : List Int} {k : Nat} (hk : k < v.length) : lensL (v.take (k + 1)) = lensL (v.take k) ++ [len65 (v.getD k 0)] := by unfold lensL; rw [take_snoc v k hk]; simp
theorem one_newI (w : World) (x : Int) : Ints (w.alloc (.cells #[.int .i64 x] 3)) (some ⟨w.heap.size, 0, none⟩) [x] := (MineT.new 3 w [x] 0 (Nat.zero_le _) (by unfold maxLen; simp)).ints'
theorem below_grown {a b c : World} {r : Option Nat} (h : Below a.heap.size a b) (k : b.grownBy c r) (hr : ∀ g, r = some g → a.heap.size ≤ g) : Below a.heap.size a c := h.grown k h.size hr
theorem keep_set {W : World} {g k b o : Nat} {x y : Value} (h : W.cell? ⟨b, o, none⟩ = some y) (hne : b ≠ g) : (W.setCell ⟨g, k, none⟩ x).drew.cell? ⟨b, o, none⟩ = some y :=
  (World.cell?_setCell_other W ⟨g, k, none⟩ ⟨b, o, none⟩ x (fun e => by injection e with e1; omega)).trans h
theorem emod_nat {k n : Nat} (hn : 0 < n) : ((k : Int) % (n : Int)) = ((k % n : Nat) : Int) := (Int.natCast_emod k n).symm

end Go.Proofs.YtbanegjmapgkdaaDoor.Sh
-- MoRep
namespace Go.Proofs.YtbanegjmapgkdaaDoor.Sh
open Go.RowKit
set_option linter.unusedVariables false

def mulHi (p : Int) : Int := IntKind.u64.wrap (IntKind.u64.wrap (IntKind.u64.wrap (IntKind.u64.wrap (bits .and .u64 1 4294967295 * bits .and .u64 p 4294967295) / 4294967296) / 4294967296) + IntKind.u64.wrap (bits .and .u64 (IntKind.u64.wrap (IntKind.u64.wrap (bits .and .u64 1 4294967295 * bits .and .u64 p 4294967295) / 4294967296)) 4294967295 + IntKind.u64.wrap (bits .and .u64 1 4294967295 * (p / 4294967296))) / 4294967296)
theorem mulHi_0 : ∀ p : Fin 65, mulHi ((p.val : Nat) : Int) = 0 := by decide +kernel
/-- Block g is just these numbers, of this type. -/
def RowT (t : TypeId) (w : World) (g : Nat) (xs : List Int) : Prop := w.heap[g]? = some (.cells (cellsI xs) t (0, 0))
theorem run_copyT {sl el ty : TypeId} (hinf : NumT el) (ht : Tryd.prog.underlying sl = some (.slice el)) {w : World} {g off : Nat} {cur ys : List Int} {dp A : Option Addr} {s c c' q : Nat} (hg : RowT el w g cur) (hq : q = Nat.min ys.length s) (hdp : 0 < s → dp = some ⟨g, off, none⟩) (hy : Ints w A ys) (hf : off + s ≤ cur.length) :
    ∃ w', (Builtin.copy_ #[sl, sl] ty #[.slice dp s c, .slice A ys.length c']).run Tryd.prog w = .ok (goInt q) w' ∧ RowT el w' g (splice cur off (ys.take q)) ∧ w.grownBy w' (some g) := by
  have hsz : (Tryd.prog.info? el).map (·.size) = some 1 := by
    unfold NumT at hinf
    obtain ⟨i, hi, hz⟩ := Option.map_eq_some_iff.1 hinf
    simp only [Prod.mk.injEq] at hz
    rw [hi]; simp [hz.2.1]
  have hq1 : q ≤ ys.length := by rw [hq]; exact Nat.min_le_left _ _
  have hq2 : q ≤ s := by rw [hq]; exact Nat.min_le_right _ _
  rcases Nat.eq_zero_or_pos q with h0 | h0
  · have hr := run_copy_none (P := Tryd.prog) w sl sl ty el dp A s c ys.length c' ht hsz (by rw [← hq]; exact h0)
    subst h0
    exact ⟨w, hr, by simpa [splice] using hg, World.grownBy.refl w _⟩
  · obtain ⟨b, o, rfl, hb, hcs⟩ := hy (by omega)
    have hd := hdp (by omega)
    subst hd
    have hlen : ((ys.take q).map (Value.int .i64)).length = q := by simp; omega
    have hrun := run_copy_row (P := Tryd.prog) w sl sl ty el g off s c ⟨b, o, none⟩ ys.length c' (cellsI cur) el ((ys.take q).map (Value.int .i64)) ht hsz hg (by rw [hlen, hq])
      (fun j v hj => by
        have hjl : j < q := by
          have := (List.getElem?_eq_some_iff.1 hj).1
          rw [hlen] at this; exact this
        rw [Go.WideShapes.add_plain, hcs j (by omega)]
        rw [List.getElem?_map, List.getElem?_take_of_lt hjl, List.getElem?_eq_getElem (by omega)] at hj
        simp at hj
        simp [List.getD, show j < ys.length by omega, hj]) (by rw [hlen]; simp only [cellsI]; simp; omega) (fun v hv => by obtain ⟨y, _, rfl⟩ := List.mem_map.1 hv; rfl)
    rw [hlen] at hrun
    refine ⟨_, hrun, ?_, ?_⟩
    · unfold RowT
      rw [setRow_heap w g _ _ el _ hg]
      have hq3 : min q ys.length = q := by omega
      simp [cellsI, splice, hq3]
    · exact ⟨rfl, rfl, rfl, by simp [World.setRow], fun i hi hne => setRow_other w g i _ (fun e => hne (by rw [e]))⟩
theorem wpList_copyT {sl el : TypeId} (hinf : NumT el) (ht : Tryd.prog.underlying sl = some (.slice el)) {w : World} {ops : Array Oper} {rest : List Oper} {o : Oper} {a : Act} {Q : Exit → Act → World → Prop} (hgd : o.guard = none) (d x : Operand)
    (ho : o.op = .call { callee := .builtin .copy, args := #[d, x], argTypes := #[sl, sl] })
    (g off : Nat) (cur ys : List Int) (dp A : Option Addr) (s c c' q : Nat) (hd : a.eval d = .slice dp s c) (hx : a.eval x = .slice A ys.length c') (hg : RowT el w g cur) (hq : q = Nat.min ys.length s) (hdp : 0 < s → dp = some ⟨g, off, none⟩) (hy : Ints w A ys) (hf : off + s ≤ cur.length)
    (h : ∀ w', RowT el w' g (splice cur off (ys.take q)) → w.grownBy w' (some g) → wpList Tryd.prog ops Q rest (a.put o.dst (goInt q)) w') : wpList Tryd.prog ops Q (o :: rest) a w := by
  refine wpList_plain hgd fun K hK => ?_
  obtain ⟨w', hrun, h1, h2⟩ := run_copyT (ty := o.type) (c := c) (c' := c') hinf ht hg hq hdp hy hf
  unfold Oper.wp execOp
  simp only [ho, resolve, invoke, builtin, Sem.run_bind, Sem.run_pure, Result.andThen_ok, List.map_toArray, List.map_cons, List.map_nil, hd, hx, hrun]
  exact hK _ _ (h w' h1 h2)
theorem step_copyT {sl el : TypeId} (hinf : NumT el) (ht : Tryd.prog.underlying sl = some (.slice el)) {w : World} {ops : Array Oper} {o : Oper} {a : Act} {K : Act → World → Prop} {Q : Exit → Act → World → Prop} {E : Prop} (hgd : o.guard = none) (d x : Operand)
    (ho : o.op = .call { callee := .builtin .copy, args := #[d, x], argTypes := #[sl, sl] })
    (g off : Nat) (cur ys : List Int) (dp A : Option Addr) (s c c' q : Nat) (hd : a.eval d = .slice dp s c) (hx : a.eval x = .slice A ys.length c') (hg : RowT el w g cur) (hq : q = Nat.min ys.length s) (hdp : 0 < s → dp = some ⟨g, off, none⟩) (hy : Ints w A ys) (hf : off + s ≤ cur.length)
    (h : ∀ w', RowT el w' g (splice cur off (ys.take q)) → w.grownBy w' (some g) → K (a.put o.dst (goInt q)) w') :
    if Region.wanted o (yielded ops a.tmps) = true then Oper.wp Tryd.prog o a w K Q else E := by
  have hw : Region.wanted o (yielded ops a.tmps) = true := by simp [Region.wanted, hgd]
  rw [if_pos hw]
  obtain ⟨w', hrun, h1, h2⟩ := run_copyT (ty := o.type) (c := c) (c' := c') hinf ht hg hq hdp hy hf
  unfold Oper.wp execOp
  simp only [ho, resolve, invoke, builtin, Sem.run_bind, Sem.run_pure, Result.andThen_ok, List.map_toArray, List.map_cons, List.map_nil, hd, hx, hrun]
  exact h w' h1 h2
theorem const_step {t : Int} {p m q : Nat} (h : m + q ≤ p) (ys : List Int) (hy : ys = List.replicate q t) : splice (fillK (fun _ => t) p m) m ys = fillK (fun _ => t) p (m + q) := by
  subst hy
  apply List.ext_getElem
  · rw [length_splice _ _ _ (by rw [fillK_length]; simp; omega), fillK_length, fillK_length]
  · intro i h1 h2
    rw [fillK_length] at h2
    have e0 : (fillK (fun _ => t) p (m + q))[i]? = some (if i < m + q then t else 0) := by simp [fillK, h2]
    have e1 : (splice (fillK (fun _ => t) p m) m (List.replicate q t))[i]? = some (if i < m + q then t else 0) := by
      unfold splice
      by_cases c1 : i < m
      · rw [List.getElem?_append_left (by simp [fillK]; omega), List.getElem?_take_of_lt c1]
        simp [fillK, h2, c1, show i < m + q by omega]
      · have lt1 : (List.take m (fillK (fun _ => t) p m)).length = m := by simp [fillK]; omega
        rw [List.getElem?_append_right (by rw [lt1]; omega), lt1]
        by_cases c2 : i < m + q
        · rw [List.getElem?_append_left (by simp; omega), if_pos c2]
          simp [show i - m < q by omega]
        · rw [List.getElem?_append_right (by simp; omega), List.length_replicate, List.getElem?_drop]
          have : m + q + (i - m - q) = i := by omega
          rw [this, if_neg c2]
          simp [fillK, h2, c1]
    have := e1.trans e0.symm
    rw [List.getElem?_eq_getElem h1, List.getElem?_eq_getElem (by rw [fillK_length]; exact h2)] at this
    exact Option.some.inj this
theorem const_take {t : Int} {p m q : Nat} (hq : q ≤ m) (hm : m ≤ p) : ((fillK (fun _ => t) p m).take m).take q = List.replicate q t := by
  apply List.ext_getElem
  · simp [fillK]; omega
  · intro i h1 h2
    simp at h2
    simp [fillK, show i < m by omega]
theorem RowT.ints {t : TypeId} {w : World} {g : Nat} {xs : List Int} (h : RowT t w g xs) (hlt : g < w.heap.size) (m : Nat) (hm : m ≤ xs.length) : Ints w (some ⟨g, 0, none⟩) (xs.take m) := fun _ => ⟨g, 0, rfl, hlt, fun i hi => by
  rw [Nat.zero_add, cell_of_row w g i _ _ _ h]
  simp at hi
  simp [cellsI, List.getD, hi, show i < xs.length by omega]⟩
theorem RowT.lt {t : TypeId} {w : World} {g : Nat} {xs : List Int} (h : RowT t w g xs) : g < w.heap.size := by
  rcases Nat.lt_or_ge g w.heap.size with hlt | hge
  · exact hlt
  · unfold RowT at h; rw [Array.getElem?_eq_none hge] at h; cases h
end Go.Proofs.YtbanegjmapgkdaaDoor.Sh
-- MoParts
namespace Go.Proofs.YtbanegjmapgkdaaDoor.Sh
open Go.RowKit
set_option linter.unusedVariables false

def listedL (e : List Int) : List Int := if e.length = 0 then [1] else e
/-- How often each part is copied. -/
def timesL (d v : List Int) (P : Nat) : List Int := if d.length = 0 then List.replicate P (len65 (v.getD 0 0)) else lensL v
def sumL (l : List Int) : Int := l.foldl (· + ·) 0
theorem sumL_take {l : List Int} {k : Nat} (hk : k < l.length) : sumL (l.take (k + 1)) = sumL (l.take k) + l.getD k 0 := by unfold sumL; rw [take_snoc l k hk]; simp
/-- Numbers from 0 to 65. -/
def SmallT (l : List Int) : Prop := ∀ i, i < l.length → 0 ≤ l.getD i 0 ∧ l.getD i 0 ≤ 65
theorem sumL_bd {l : List Int} (h : SmallT l) (k : Nat) (hk : k ≤ l.length) : 0 ≤ sumL (l.take k) ∧ sumL (l.take k) ≤ 65 * k := by
  induction k with
  | zero => simp [sumL]
  | succ k ih =>
    have h1 := ih (by omega)
    have h2 := h k (by omega)
    rw [sumL_take (by omega)]
    omega
/-- A piece of a list, wherever it lies. -/
def RetPc (B : Option Addr) (u xs : List Int) (s : Nat) (w : World) (e : Ending) (w' : World) : Prop := ∃ A, e = .returned (.slice A s s) ∧ (∀ W, Ints W B u → Ints W A xs) ∧ w = w'
end Go.Proofs.YtbanegjmapgkdaaDoor.Sh
-- MoLayP
namespace Go.Proofs.YtbanegjmapgkdaaDoor.Sh
open Go.RowKit
set_option linter.unusedVariables false

/-- How often the k-th part is copied. -/
def tk (T : List Int) (k : Nat) : Nat := (T.getD (k % T.length) 0).toNat
def tot (T : List Int) : Nat → Nat
  | 0 => 0
  | k + 1 => tot T k + tk T k
def cpL (u : List Int) (s : Nat) (T : List Int) : Nat → List Int
  | 0 => []
  | k + 1 => cpL u s T k ++ (List.replicate (tk T k) (piece u k s)).flatten
theorem tot_mono (T : List Int) {j k : Nat} (h : j ≤ k) : tot T j ≤ tot T k := by
  induction k with
  | zero => obtain rfl : j = 0 := by omega
            exact Nat.le_refl _
  | succ k ih =>
    rcases Nat.lt_or_ge j (k + 1) with h1 | h1
    · exact Nat.le_trans (ih (by omega)) (by simp [tot])
    · obtain rfl : j = k + 1 := by omega
      exact Nat.le_refl _
theorem flat_len (i : Nat) (p : List Int) : (List.replicate i p).flatten.length = i * p.length := by
  induction i with
  | zero => simp
  | succ i ih => rw [List.replicate_succ, List.flatten_cons, List.length_append, ih, Nat.add_mul, Nat.one_mul, Nat.add_comm]
theorem cpL_len {u : List Int} {s : Nat} (T : List Int) {k : Nat} (h : k * s ≤ u.length) : (cpL u s T k).length = tot T k * s := by
  induction k with
  | zero => simp [cpL, tot]
  | succ k ih =>
    have h1 : k * s ≤ u.length := by rw [Nat.add_mul, Nat.one_mul] at h; omega
    rw [cpL, List.length_append, ih h1, flat_len, piece_length h, tot, Nat.add_mul]
theorem flat_succ (i : Nat) (p : List Int) : (List.replicate (i + 1) p).flatten = (List.replicate i p).flatten ++ p := by
  rw [List.replicate_succ', List.flatten_append]; simp
theorem splice_tail {cur p : List Int} {m s q : Nat} (hp : p.length = s) (hs : s ≤ m) (hq : q = Nat.min p.length m) : splice (cur ++ List.replicate m 0) cur.length (p.take q) = (cur ++ p) ++ List.replicate (m - s) 0 := by
  have hq' : q = s := by rw [hq, hp]; exact Nat.min_eq_left hs
  rw [hq', List.take_of_length_le (by omega)]
  unfold splice
  rw [List.take_left, List.drop_append, hp]
  have : cur.length + s - cur.length = s := by omega
  rw [this, List.drop_eq_nil_of_le (by omega)]
  simp
/-- The rooms of a row: what is laid, noughts behind. -/
def LaySt (w wr : World) (g N : Nat) (v : Value) (cur : List Int) : Prop := ∃ m A, v = .slice A m m ∧ cur.length + m = N ∧ (0 < m → A = some ⟨g, cur.length, none⟩) ∧ Row64 wr g (cur ++ List.replicate m 0) ∧ w.grownBy wr (some g)
end Go.Proofs.YtbanegjmapgkdaaDoor.Sh
-- MoCopy0
namespace Go.Proofs.YtbanegjmapgkdaaDoor.Sh
open Go.RowKit
set_option linter.unusedVariables false

theorem prod_split (D : List Int) (a : Nat) (h : a < D.length) : prod D = prod (D.take a) * (D.getD a 0 * prod (D.drop (a + 1))) := by
  conv => lhs; rw [split_at D a h]
  rw [prod_append, prod_cons]
theorem withL_at (D : List Int) (a : Nat) (h : a < D.length) (x : Int) : withL D (a : Int) x = D.take a ++ x :: D.drop (a + 1) := by
  unfold withL
  rw [if_pos (by omega), Int.toNat_natCast, List.set_eq_take_append_cons_drop, if_pos h]
theorem prod_with (D : List Int) (a : Nat) (h : a < D.length) (x : Int) : prod (withL D (a : Int) x) = prod (D.take a) * (x * prod (D.drop (a + 1))) := by
  rw [withL_at D a h, prod_append, prod_cons]
theorem tk_mod (T : List Int) (A j : Nat) : tk T (A * T.length + j) = tk T j := by
  unfold tk; rw [Nat.mul_comm, Nat.mul_add_mod]
theorem tot_add (T : List Int) (A j : Nat) : tot T (A * T.length + j) = tot T (A * T.length) + tot T j := by
  induction j with
  | zero => simp [tot]
  | succ j ih => rw [← Nat.add_assoc, tot, ih, tk_mod, tot, Nat.add_assoc]
theorem tot_mul (T : List Int) (A : Nat) : tot T (A * T.length) = A * tot T T.length := by
  induction A with
  | zero => simp [tot]
  | succ A ih => rw [Nat.add_mul, Nat.one_mul, tot_add, ih, Nat.add_mul, Nat.one_mul]
theorem tot_sum {T : List Int} (h : SmallT T) (k : Nat) (hk : k ≤ T.length) : (tot T k : Int) = sumL (T.take k) := by
  induction k with
  | zero => simp [tot, sumL]
  | succ k ih =>
    have h1 := h k (by omega)
    rw [tot, sumL_take (by omega), ← ih (by omega)]
    unfold tk
    rw [Nat.mod_eq_of_lt (by omega)]
    omega
theorem listed_len (e : List Int) : 0 < (listedL e).length := by
  unfold listedL; split
  · simp
  · omega
theorem listed_right {e : List Int} (h : rightB e = true) : rightB (listedL e) = true := by
  unfold listedL; split
  · decide
  · exact h
theorem listed_size {e : List Int} (h : rightB e = true) : sizeI (listedL e) = sizeI e := by
  unfold listedL; split
  · rename_i h0
    rw [List.eq_nil_of_length_eq_zero h0]; decide
  · rfl
theorem times_len {d v : List Int} {P : Nat} (h1 : d.length = 0 ∨ v.length = P) : (timesL d v P).length = P := by
  unfold timesL; split
  · simp
  · rcases h1 with h | h
    · omega
    · simpa [lensL] using h
theorem times_small {d v : List Int} {P : Nat} (h1 : d.length = 0 → v.length = 1) (hn : negB v = false) : SmallT (timesL d v P) := by
  intro i hi
  unfold timesL at hi ⊢
  split
  · rename_i h
    rw [if_pos h] at hi
    simp at hi
    have := negB_no hn 0 (by rw [h1 h]; omega)
    simp [List.getD, hi]
    unfold len65
    simp [List.getD] at this
    omega
  · rename_i h
    rw [if_neg h] at hi
    simp [lensL] at hi
    have := negB_no hn i hi
    simp [List.getD, hi] at this
    simp [lensL, List.getD, hi, len65]
    omega
def copV (u : List Int) (s : Nat) (T : List Int) : List Int := if s = 0 then [] else cpL u s T (u.length / s)
/-- What is known of a Copy that goes well. -/
structure CopyOk (d v e u : List Int) (a P s N : Nat) (D T : List Int) : Prop where
  right : cellB d v.length = true
  right2 : cellB e u.length = true
  rank : d.length ≤ 1
  hD : listedL e = D
  ha : a < D.length
  hP : D.getD a 0 = (P : Int)
  hlen : d.length = 0 ∨ d = [(P : Int)]
  neg : negB v = false
  hT : timesL d v P = T
  hR : rightB (withL D (a : Int) (sumL T)) = true
  hN : sizeI (withL D (a : Int) (sumL T)) = N
  hs : prod (D.drop (a + 1)) = (s : Int)
section
variable {d v e u : List Int} {a P s N : Nat} {D T : List Int}
theorem CopyOk.vlen (h : CopyOk d v e u a P s N D T) : (d.length = 0 → v.length = 1) ∧ (d.length = 0 ∨ v.length = P) := by
  obtain ⟨h1, h2⟩ := cellB_parts h.right
  refine ⟨fun h0 => ?_, ?_⟩
  · rw [List.eq_nil_of_length_eq_zero h0] at h2
    have : sizeI [] = 1 := by decide
    omega
  · rcases h.hlen with h0 | h0
    · exact .inl h0
    · right
      obtain ⟨h3, ha, h64⟩ := rightB_all h1
      rw [sizeI_mk h3 ha h64, h0] at h2
      simp [prod] at h2
      omega
theorem CopyOk.small (h : CopyOk d v e u a P s N D T) : T.length = P ∧ SmallT T ∧ P ≤ 64 ∧ rightB D = true ∧ D.length ≤ 3 ∧ u.length ≤ 64 ∧ v.length ≤ 64 ∧ N ≤ 64 ∧ 0 ≤ sumL T := by
  have hT := h.hT
  have hsm : SmallT T := hT ▸ times_small h.vlen.1 h.neg
  have hDr : rightB D = true := h.hD ▸ listed_right (cellB_parts h.right2).1
  obtain ⟨h3, hall, h64⟩ := rightB_all hDr
  have hPb := okAx_at hall a h.ha
  rw [h.hP] at hPb
  obtain ⟨n, hn, hn64⟩ := sizeI_nat _ h.hR
  have hsum := (sumL_bd hsm T.length (Nat.le_refl _)).1
  rw [List.take_length] at hsum
  exact ⟨hT ▸ times_len h.vlen.2, hsm, by omega, hDr, h3, (cellB_small h.right2).2, (cellB_small h.right).2, by have := h.hN; omega, hsum⟩
theorem CopyOk.room (h : CopyOk d v e u a P s N D T) : u.length = u.length / s * s ∧ tot T (u.length / s) * s = N ∧ (0 < u.length / s → 0 < T.length) ∨ s = 0 ∧ N = 0 := by
  obtain ⟨hTl, hsm, hP, hDr, hD3, hu, hv, hN64, hS0⟩ := h.small
  obtain ⟨h3, hall, h64⟩ := rightB_all hDr
  obtain ⟨h3', hall', h64'⟩ := rightB_all h.hR
  have hu2 := (cellB_parts h.right2).2
  have eD : (u.length : Int) = prod (D.take a) * ((P : Int) * (s : Int)) := by
    rw [hu2, ← listed_size (cellB_parts h.right2).1, h.hD, sizeI_mk h3 hall h64, prod_split D a h.ha, h.hP, h.hs]
  have eN : (N : Int) = prod (D.take a) * (sumL T * (s : Int)) := by
    rw [← h.hN, sizeI_mk h3' hall' h64', prod_with D a h.ha, h.hs]
  have hA0 : 0 ≤ prod (D.take a) := (prod_bd (D.take a) (by
    rw [List.all_eq_true] at hall ⊢
    exact fun x hx => hall x (List.mem_of_mem_take hx))).1
  obtain ⟨A, hA⟩ : ∃ A : Nat, prod (D.take a) = A := ⟨(prod (D.take a)).toNat, by omega⟩
  rcases Nat.eq_zero_or_pos s with hs | hs
  · right
    subst hs
    refine ⟨rfl, ?_⟩
    have : (N : Int) = 0 := by rw [eN]; simp
    omega
  · left
    rw [hA] at eD eN
    have eD' : u.length = A * P * s := by
      have : (u.length : Int) = ((A * P * s : Nat) : Int) := by rw [eD]; simp [Int.mul_assoc]
      exact_mod_cast this
    have hK : u.length / s = A * P := by rw [eD', Nat.mul_div_cancel _ hs]
    have hts := tot_sum hsm T.length (Nat.le_refl _)
    rw [List.take_length] at hts
    refine ⟨by rw [hK]; exact eD', ?_, fun hk => ?_⟩
    · rw [hK, ← hTl, tot_mul]
      have : ((A * tot T T.length * s : Nat) : Int) = (N : Int) := by rw [eN, ← hts]; simp [Int.mul_assoc]
      exact_mod_cast this
    · rw [hK] at hk
      rw [hTl]
      rcases Nat.eq_zero_or_pos P with h0 | h0
      · rw [h0] at hk; simp at hk
      · exact h0
end
end Go.Proofs.YtbanegjmapgkdaaDoor.Sh
