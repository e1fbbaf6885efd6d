/-
  The product of numbers put behind one another. No condition. What mold.lay and mold.cut do: a piece is copied to the beginning of a row known whole. Conditions: as told in each. What mold.below, mold.lengths, mold.filled and slices.ContainsFunc of mold.below answer; nothing that was there is written. Conditions: at most 1000 numbers; the axes may be. What math/bits.Mul64 and math/bits.Mul answer of 1 and a small number, and what slices.Repeat answers of one number. Condition: the number is at most 64.
-/
import Derived.Test.YtakoehgjgdcmmaaPkS
import Derived.Test.YtakoehgjgdcmmaaPkC
import Derived.Laws.BitsAllLaws
import Derived.Laws.BitsLemmas
import Derived.IntWalk
import Derived.Deep.RegionHeld3
set_option maxRecDepth 100000
-- MoPr
namespace Go.Proofs.Ytakoehgjgdcmmaa.Sh
open Go.RowKit
set_option linter.unusedVariables false

theorem prod_append (a b : List Int) : prod (a ++ b) = prod a * prod b := by
  induction a with
  | nil => rw [List.nil_append, prod_nil, Int.one_mul]
  | cons x t ih => rw [List.cons_append, prod_cons, prod_cons, ih, Int.mul_assoc]
theorem split_at (D : List Int) (a : Nat) (h : a < D.length) : D = D.take a ++ D.getD a 0 :: D.drop (a + 1) := by
  rw [← drop_at D a h, List.take_append_drop]
end Go.Proofs.Ytakoehgjgdcmmaa.Sh
-- MoLay
namespace Go.Proofs.Ytakoehgjgdcmmaa.Sh
open Go.RowKit
set_option linter.unusedVariables false

theorem run_copyM {ty : TypeId} {w : World} {g off : Nat} {cur ys : List Int} {dp A : Option Addr} {s c c' q : Nat} (hg : Row64 w g cur) (hq : q = Nat.min ys.length s) (hdp : 0 < s → dp = some ⟨g, off, none⟩) (hy : Ints w A ys) (hf : off + s ≤ cur.length) :
    ∃ w', (Builtin.copy_ #[42, 42] ty #[.slice dp s c, .slice A ys.length c']).run Try.prog w = .ok (goInt q) w' ∧ Row64 w' g (splice cur off (ys.take q)) ∧ w.grownBy w' (some g) := by
  have hsz : (Try.prog.info? 2).map (·.size) = some 1 := by kernel_rfl
  have hq1 : q ≤ ys.length := by rw [hq]; exact Nat.min_le_left _ _
  have hq2 : q ≤ s := by rw [hq]; exact Nat.min_le_right _ _
  rcases Nat.eq_zero_or_pos q with h0 | h0
  · have hr := run_copy_none (P := Try.prog) w 42 42 ty 2 dp A s c ys.length c' Try.underlying42 hsz (by rw [← hq]; exact h0)
    subst h0
    exact ⟨w, hr, by simpa [splice] using hg, World.grownBy.refl w _⟩
  · obtain ⟨b, o, rfl, hb, hcs⟩ := hy (by omega)
    have hd := hdp (by omega)
    subst hd
    have hlen : ((ys.take q).map (Value.int .i64)).length = q := by simp; omega
    have hrun := run_copy_row (P := Try.prog) w 42 42 ty 2 g off s c ⟨b, o, none⟩ ys.length c' (cellsI cur) 2 ((ys.take q).map (Value.int .i64)) Try.underlying42 hsz hg (by rw [hlen, hq])
      (fun j v hj => by
        have hjl : j < q := by
          have := (List.getElem?_eq_some_iff.1 hj).1
          rw [hlen] at this; exact this
        rw [Go.WideShapes.add_plain, hcs j (by omega)]
        rw [List.getElem?_map, List.getElem?_take_of_lt hjl, List.getElem?_eq_getElem (by omega)] at hj
        simp at hj
        simp [List.getD, show j < ys.length by omega, hj]) (by rw [hlen]; simp only [cellsI]; simp; omega) (fun v hv => by obtain ⟨y, _, rfl⟩ := List.mem_map.1 hv; rfl)
    rw [hlen] at hrun
    refine ⟨_, hrun, ?_, ?_⟩
    · unfold Row64
      rw [setRow_heap w g _ _ 2 _ hg]
      have hq3 : min q ys.length = q := by omega
      simp [cellsI, splice, hq3]
    · exact ⟨rfl, rfl, rfl, by simp [World.setRow], fun i hi hne => setRow_other w g i _ (fun e => hne (by rw [e]))⟩
theorem wpList_copyM {w : World} {ops : Array Oper} {rest : List Oper} {o : Oper} {a : Act} {Q : Exit → Act → World → Prop} (hgd : o.guard = none) (d x : Operand)
    (ho : o.op = .call { callee := .builtin .copy, args := #[d, x], argTypes := #[42, 42] })
    (g off : Nat) (cur ys : List Int) (dp A : Option Addr) (s c c' q : Nat) (hd : a.eval d = .slice dp s c) (hx : a.eval x = .slice A ys.length c') (hg : Row64 w g cur) (hq : q = Nat.min ys.length s) (hdp : 0 < s → dp = some ⟨g, off, none⟩) (hy : Ints w A ys) (hf : off + s ≤ cur.length)
    (h : ∀ w', Row64 w' g (splice cur off (ys.take q)) → w.grownBy w' (some g) → wpList Try.prog ops Q rest (a.put o.dst (goInt q)) w') : wpList Try.prog ops Q (o :: rest) a w := by
  refine wpList_plain hgd fun K hK => ?_
  obtain ⟨w', hrun, h1, h2⟩ := run_copyM (ty := o.type) (c := c) (c' := c') hg hq hdp hy hf
  unfold Oper.wp execOp
  simp only [ho, resolve, invoke, builtin, Sem.run_bind, Sem.run_pure, Result.andThen_ok, List.map_toArray, List.map_cons, List.map_nil, hd, hx, hrun]
  exact hK _ _ (h w' h1 h2)

/-- What is left of a row behind what was copied. -/
def RetLay (g p m q : Nat) (cur : List Int) (w : World) (e : Ending) (w' : World) : Prop := ∃ A, e = .returned (.slice A (m - q) (m - q)) ∧ (0 < m - q → A = some ⟨g, p + q, none⟩) ∧ Row64 w' g cur ∧ w.grownBy w' (some g)
end Go.Proofs.Ytakoehgjgdcmmaa.Sh
-- MoFill
namespace Go.Proofs.Ytakoehgjgdcmmaa.Sh
open Go.RowKit
set_option linter.unusedVariables false

/-- Is one below nought? -/
def negB (v : List Int) : Bool := v.any fun x => decide (x < 0)
theorem negB_no {v : List Int} (h : negB v = false) (i : Nat) (hi : i < v.length) : 0 ≤ v.getD i 0 := by
  unfold negB at h
  rw [List.any_eq_false] at h
  have := h v[i] (List.getElem_mem hi)
  simp at this
  simpa [List.getD, hi] using this
theorem negB_take {v : List Int} {k : Nat} (hk : k < v.length) : negB (v.take (k + 1)) = (negB (v.take k) || decide (v.getD k 0 < 0)) := by
  unfold negB; rw [take_snoc v k hk]; simp
theorem negB_yes {v : List Int} {k : Nat} (hk : k < v.length) (h : v.getD k 0 < 0) : negB v = true := by
  unfold negB
  rw [List.any_eq_true]
  exact ⟨v[k], List.getElem_mem hk, by simpa [List.getD, hk] using h⟩
/-- Is there an index? -/
def RetIx (b : Bool) (w : World) (e : Ending) (w' : World) : Prop := ∃ n : Int, e = .returned (.int .i64 n) ∧ decide (0 ≤ n) = b ∧ w = w'
/-- A number as a length: no greater than 65. -/
def len65 (x : Int) : Int := min x 65
def lensL (v : List Int) : List Int := v.map len65
theorem lensL_eq (v : List Int) : lensL v = (List.range v.length).map (fun i => len65 (v.getD i 0)) := by
  apply List.ext_getElem
  · simp [lensL]
  · intro i h1 h2
    simp [lensL] at h1
    simp [lensL, List.getD, h1]
theorem Own.lens {w : World} {g : Nat} {xs : List Int} (h : Own w g xs) {base : Nat} (hb : base ≤ g) (hl : xs.length ≤ maxLen) : MineT 3 w base (.slice (some ⟨g, 0, none⟩) xs.length xs.length) xs :=
  ⟨by simp, .inr ⟨g, xs.length, cellsI xs, rfl, hb, h, Nat.le_refl _, hl, by simp [cellsI], by simp [cellsI, ← List.map_take]⟩⟩
/-- Numbers over and over. -/
def cyc (v : List Int) (i : Nat) : Int := v.getD (i % v.length) 0
theorem cyc_step {v : List Int} {n p q : Nat} (hp : p % v.length = 0) (hq : q ≤ v.length) (hn : p + q ≤ n) : splice (fillK (cyc v) n p) p (v.take q) = fillK (cyc v) n (p + q) := by
  apply List.ext_getElem
  · rw [length_splice _ _ _ (by rw [fillK_length]; simp; omega), fillK_length, fillK_length]
  · intro i h1 h2
    rw [fillK_length] at h2
    have hlen : (v.take q).length = q := by simp; omega
    have e0 : (fillK (cyc v) n (p + q))[i]? = some (if i < p + q then cyc v i else 0) := by simp [fillK, h2]
    have e1 : (splice (fillK (cyc v) n p) p (v.take q))[i]? = some (if i < p + q then cyc v i else 0) := by
      unfold splice
      by_cases c1 : i < p
      · rw [List.getElem?_append_left (by simp [fillK]; omega), List.getElem?_take_of_lt c1]
        simp [fillK, h2, c1, show i < p + q by omega]
      · have lt1 : (List.take p (fillK (cyc v) n p)).length = p := by simp [fillK]; omega
        rw [List.getElem?_append_right (by rw [lt1]; omega), lt1]
        by_cases c2 : i < p + q
        · have hm : i % v.length = i - p := by
            have : i = (i - p) + p := by omega
            rw [this, Nat.add_mod, hp, Nat.add_zero, Nat.mod_mod]
            rw [Nat.mod_eq_of_lt (by omega)]
            omega
          rw [List.getElem?_append_left (by rw [hlen]; omega), List.getElem?_take_of_lt (by omega), if_pos c2]
          unfold cyc
          rw [hm]
          simp [List.getD, show i - p < v.length by omega]
        · rw [List.getElem?_append_right (by rw [hlen]; omega), hlen, List.getElem?_drop]
          have : p + q + (i - p - q) = i := by omega
          rw [this, if_neg c2]
          simp [fillK, h2, c1]
    have := e1.trans e0.symm
    rw [List.getElem?_eq_getElem h1, List.getElem?_eq_getElem (by rw [fillK_length]; exact h2)] at this
    exact Option.some.inj this
end Go.Proofs.Ytakoehgjgdcmmaa.Sh
-- MoRep
namespace Go.Proofs.Ytakoehgjgdcmmaa.Sh
open Go.RowKit
set_option linter.unusedVariables false

def mulHi (p : Int) : Int := IntKind.u64.wrap (IntKind.u64.wrap (IntKind.u64.wrap (IntKind.u64.wrap (bits .and .u64 1 4294967295 * bits .and .u64 p 4294967295) / 4294967296) / 4294967296) + IntKind.u64.wrap (bits .and .u64 (IntKind.u64.wrap (IntKind.u64.wrap (bits .and .u64 1 4294967295 * bits .and .u64 p 4294967295) / 4294967296)) 4294967295 + IntKind.u64.wrap (bits .and .u64 1 4294967295 * (p / 4294967296))) / 4294967296)
theorem mulHi_0 : ∀ p : Fin 65, mulHi ((p.val : Nat) : Int) = 0 := by decide +kernel
/-- Block g is just these numbers, of this type. -/
def RowT (t : TypeId) (w : World) (g : Nat) (xs : List Int) : Prop := w.heap[g]? = some (.cells (cellsI xs) t (0, 0))
theorem run_copyT {sl el ty : TypeId} (hinf : NumT el) (ht : Try.prog.underlying sl = some (.slice el)) {w : World} {g off : Nat} {cur ys : List Int} {dp A : Option Addr} {s c c' q : Nat} (hg : RowT el w g cur) (hq : q = Nat.min ys.length s) (hdp : 0 < s → dp = some ⟨g, off, none⟩) (hy : Ints w A ys) (hf : off + s ≤ cur.length) :
    ∃ w', (Builtin.copy_ #[sl, sl] ty #[.slice dp s c, .slice A ys.length c']).run Try.prog w = .ok (goInt q) w' ∧ RowT el w' g (splice cur off (ys.take q)) ∧ w.grownBy w' (some g) := by
  have hsz : (Try.prog.info? el).map (·.size) = some 1 := by
    unfold NumT at hinf
    obtain ⟨i, hi, hz⟩ := Option.map_eq_some_iff.1 hinf
    simp only [Prod.mk.injEq] at hz
    rw [hi]; simp [hz.2.1]
  have hq1 : q ≤ ys.length := by rw [hq]; exact Nat.min_le_left _ _
  have hq2 : q ≤ s := by rw [hq]; exact Nat.min_le_right _ _
  rcases Nat.eq_zero_or_pos q with h0 | h0
  · have hr := run_copy_none (P := Try.prog) w sl sl ty el dp A s c ys.length c' ht hsz (by rw [← hq]; exact h0)
    subst h0
    exact ⟨w, hr, by simpa [splice] using hg, World.grownBy.refl w _⟩
  · obtain ⟨b, o, rfl, hb, hcs⟩ := hy (by omega)
    have hd := hdp (by omega)
    subst hd
    have hlen : ((ys.take q).map (Value.int .i64)).length = q := by simp; omega
    have hrun := run_copy_row (P := Try.prog) w sl sl ty el g off s c ⟨b, o, none⟩ ys.length c' (cellsI cur) el ((ys.take q).map (Value.int .i64)) ht hsz hg (by rw [hlen, hq])
      (fun j v hj => by
        have hjl : j < q := by
          have := (List.getElem?_eq_some_iff.1 hj).1
          rw [hlen] at this; exact this
        rw [Go.WideShapes.add_plain, hcs j (by omega)]
        rw [List.getElem?_map, List.getElem?_take_of_lt hjl, List.getElem?_eq_getElem (by omega)] at hj
        simp at hj
        simp [List.getD, show j < ys.length by omega, hj]) (by rw [hlen]; simp only [cellsI]; simp; omega) (fun v hv => by obtain ⟨y, _, rfl⟩ := List.mem_map.1 hv; rfl)
    rw [hlen] at hrun
    refine ⟨_, hrun, ?_, ?_⟩
    · unfold RowT
      rw [setRow_heap w g _ _ el _ hg]
      have hq3 : min q ys.length = q := by omega
      simp [cellsI, splice, hq3]
    · exact ⟨rfl, rfl, rfl, by simp [World.setRow], fun i hi hne => setRow_other w g i _ (fun e => hne (by rw [e]))⟩
theorem wpList_copyT {sl el : TypeId} (hinf : NumT el) (ht : Try.prog.underlying sl = some (.slice el)) {w : World} {ops : Array Oper} {rest : List Oper} {o : Oper} {a : Act} {Q : Exit → Act → World → Prop} (hgd : o.guard = none) (d x : Operand)
    (ho : o.op = .call { callee := .builtin .copy, args := #[d, x], argTypes := #[sl, sl] })
    (g off : Nat) (cur ys : List Int) (dp A : Option Addr) (s c c' q : Nat) (hd : a.eval d = .slice dp s c) (hx : a.eval x = .slice A ys.length c') (hg : RowT el w g cur) (hq : q = Nat.min ys.length s) (hdp : 0 < s → dp = some ⟨g, off, none⟩) (hy : Ints w A ys) (hf : off + s ≤ cur.length)
    (h : ∀ w', RowT el w' g (splice cur off (ys.take q)) → w.grownBy w' (some g) → wpList Try.prog ops Q rest (a.put o.dst (goInt q)) w') : wpList Try.prog ops Q (o :: rest) a w := by
  refine wpList_plain hgd fun K hK => ?_
  obtain ⟨w', hrun, h1, h2⟩ := run_copyT (ty := o.type) (c := c) (c' := c') hinf ht hg hq hdp hy hf
  unfold Oper.wp execOp
  simp only [ho, resolve, invoke, builtin, Sem.run_bind, Sem.run_pure, Result.andThen_ok, List.map_toArray, List.map_cons, List.map_nil, hd, hx, hrun]
  exact hK _ _ (h w' h1 h2)
theorem step_copyT {sl el : TypeId} (hinf : NumT el) (ht : Try.prog.underlying sl = some (.slice el)) {w : World} {ops : Array Oper} {o : Oper} {a : Act} {K : Act → World → Prop} {Q : Exit → Act → World → Prop} {E : Prop} (hgd : o.guard = none) (d x : Operand)
    (ho : o.op = .call { callee := .builtin .copy, args := #[d, x], argTypes := #[sl, sl] })
    (g off : Nat) (cur ys : List Int) (dp A : Option Addr) (s c c' q : Nat) (hd : a.eval d = .slice dp s c) (hx : a.eval x = .slice A ys.length c') (hg : RowT el w g cur) (hq : q = Nat.min ys.length s) (hdp : 0 < s → dp = some ⟨g, off, none⟩) (hy : Ints w A ys) (hf : off + s ≤ cur.length)
    (h : ∀ w', RowT el w' g (splice cur off (ys.take q)) → w.grownBy w' (some g) → K (a.put o.dst (goInt q)) w') :
    if Region.wanted o (yielded ops a.tmps) = true then Oper.wp Try.prog o a w K Q else E := by
  have hw : Region.wanted o (yielded ops a.tmps) = true := by simp [Region.wanted, hgd]
  rw [if_pos hw]
  obtain ⟨w', hrun, h1, h2⟩ := run_copyT (ty := o.type) (c := c) (c' := c') hinf ht hg hq hdp hy hf
  unfold Oper.wp execOp
  simp only [ho, resolve, invoke, builtin, Sem.run_bind, Sem.run_pure, Result.andThen_ok, List.map_toArray, List.map_cons, List.map_nil, hd, hx, hrun]
  exact h w' h1 h2
theorem const_step {t : Int} {p m q : Nat} (h : m + q ≤ p) (ys : List Int) (hy : ys = List.replicate q t) : splice (fillK (fun _ => t) p m) m ys = fillK (fun _ => t) p (m + q) := by
  subst hy
  apply List.ext_getElem
  · rw [length_splice _ _ _ (by rw [fillK_length]; simp; omega), fillK_length, fillK_length]
  · intro i h1 h2
    rw [fillK_length] at h2
    have e0 : (fillK (fun _ => t) p (m + q))[i]? = some (if i < m + q then t else 0) := by simp [fillK, h2]
    have e1 : (splice (fillK (fun _ => t) p m) m (List.replicate q t))[i]? = some (if i < m + q then t else 0) := by
      unfold splice
      by_cases c1 : i < m
      · rw [List.getElem?_append_left (by simp [fillK]; omega), List.getElem?_take_of_lt c1]
        simp [fillK, h2, c1, show i < m + q by omega]
      · have lt1 : (List.take m (fillK (fun _ => t) p m)).length = m := by simp [fillK]; omega
        rw [List.getElem?_append_right (by rw [lt1]; omega), lt1]
        by_cases c2 : i < m + q
        · rw [List.getElem?_append_left (by simp; omega), if_pos c2]
          simp [show i - m < q by omega]
        · rw [List.getElem?_append_right (by simp; omega), List.length_replicate, List.getElem?_drop]
          have : m + q + (i - m - q) = i := by omega
          rw [this, if_neg c2]
          simp [fillK, h2, c1]
    have := e1.trans e0.symm
    rw [List.getElem?_eq_getElem h1, List.getElem?_eq_getElem (by rw [fillK_length]; exact h2)] at this
    exact Option.some.inj this
theorem const_take {t : Int} {p m q : Nat} (hq : q ≤ m) (hm : m ≤ p) : ((fillK (fun _ => t) p m).take m).take q = List.replicate q t := by
  apply List.ext_getElem
  · simp [fillK]; omega
  · intro i h1 h2
    simp at h2
    simp [fillK, show i < m by omega]
theorem RowT.ints {t : TypeId} {w : World} {g : Nat} {xs : List Int} (h : RowT t w g xs) (hlt : g < w.heap.size) (m : Nat) (hm : m ≤ xs.length) : Ints w (some ⟨g, 0, none⟩) (xs.take m) := fun _ => ⟨g, 0, rfl, hlt, fun i hi => by
  rw [Nat.zero_add, cell_of_row w g i _ _ _ h]
  simp at hi
  simp [cellsI, List.getD, hi, show i < xs.length by omega]⟩
theorem RowT.lt {t : TypeId} {w : World} {g : Nat} {xs : List Int} (h : RowT t w g xs) : g < w.heap.size := by
  rcases Nat.lt_or_ge g w.heap.size with hlt | hge
  · exact hlt
  · unfold RowT at h; rw [Array.getElem?_eq_none hge] at h; cases h
end Go.Proofs.Ytakoehgjgdcmmaa.Sh
