/-
  What math/bits.Mul64 and math/bits.Mul answer of 1 and a small number, and what slices.Repeat answers of one number. Condition: the number is at most 64.
-/
import Derived.Test.YthabimjmdnhomaaMoResh
import Derived.Laws.BitsAllLaws
import Derived.Laws.BitsLemmas
import Derived.IntWalk
import Derived.Deep.RegionHeld3
namespace Go.Proofs.Ythabimjmdnhomaa.Sh
open Go.RowKit
set_option linter.unusedVariables false

def mulHi (p : Int) : Int := IntKind.u64.wrap (IntKind.u64.wrap (IntKind.u64.wrap (IntKind.u64.wrap (bits .and .u64 1 4294967295 * bits .and .u64 p 4294967295) / 4294967296) / 4294967296) + IntKind.u64.wrap (bits .and .u64 (IntKind.u64.wrap (IntKind.u64.wrap (bits .and .u64 1 4294967295 * bits .and .u64 p 4294967295) / 4294967296)) 4294967295 + IntKind.u64.wrap (bits .and .u64 1 4294967295 * (p / 4294967296))) / 4294967296)
theorem mulHi_0 : ∀ p : Fin 65, mulHi ((p.val : Nat) : Int) = 0 := by decide +kernel
set_option maxHeartbeats 1000000 in
theorem mul64_one (p : Nat) (w : World) (hp : p ≤ 64) : Calls Try.prog 67 #[.int .u64 1, .int .u64 (p : Int)] w fun e w' => e = .returned (.tuple #[.int .u64 0, .int .u64 (p : Int)]) ∧ w = w' := by
  go_enter Try.func67, Try.ntmps67
  go_wp2
  go_ret2
  refine ⟨?_, rfl⟩
  show Ending.returned (.tuple #[.int .u64 (mulHi (p : Int)), .int .u64 (p : Int)]) = _
  rw [mulHi_0 ⟨p, by omega⟩]
set_option maxHeartbeats 1000000 in
theorem mul_one (p : Nat) (w : World) (hp : p ≤ 64) : Calls Try.prog 64 #[.int .u64 1, .int .u64 (p : Int)] w fun e w' => e = .returned (.tuple #[.int .u64 0, .int .u64 (p : Int)]) ∧ w = w' := by
  go_enter Try.func64, Try.ntmps64
  go_wp2_with fail
  refine (mul64_one p _ hp).mono ?_
  rintro r w1 ⟨rfl, rfl⟩
  go_wp2
  go_ret2
  exact ⟨rfl, rfl⟩

/-- Block g is just these numbers, of this type. -/
def RowT (t : TypeId) (w : World) (g : Nat) (xs : List Int) : Prop := w.heap[g]? = some (.cells (cellsI xs) t (0, 0))
theorem run_copyT {sl el ty : TypeId} (hinf : NumT el) (ht : Try.prog.underlying sl = some (.slice el)) {w : World} {g off : Nat} {cur ys : List Int} {dp A : Option Addr} {s c c' q : Nat} (hg : RowT el w g cur) (hq : q = Nat.min ys.length s) (hdp : 0 < s → dp = some ⟨g, off, none⟩) (hy : Ints w A ys) (hf : off + s ≤ cur.length) :
    ∃ w', (Builtin.copy_ #[sl, sl] ty #[.slice dp s c, .slice A ys.length c']).run Try.prog w = .ok (goInt q) w' ∧ RowT el w' g (splice cur off (ys.take q)) ∧ w.grownBy w' (some g) := by
  have hsz : (Try.prog.info? el).map (·.size) = some 1 := by
    unfold NumT at hinf
    obtain ⟨i, hi, hz⟩ := Option.map_eq_some_iff.1 hinf
    simp only [Prod.mk.injEq] at hz
    rw [hi]; simp [hz.2.1]
  have hq1 : q ≤ ys.length := by rw [hq]; exact Nat.min_le_left _ _
  have hq2 : q ≤ s := by rw [hq]; exact Nat.min_le_right _ _
  rcases Nat.eq_zero_or_pos q with h0 | h0
  · have hr := run_copy_none (P := Try.prog) w sl sl ty el dp A s c ys.length c' ht hsz (by rw [← hq]; exact h0)
    subst h0
    exact ⟨w, hr, by simpa [splice] using hg, World.grownBy.refl w _⟩
  · obtain ⟨b, o, rfl, hb, hcs⟩ := hy (by omega)
    have hd := hdp (by omega)
    subst hd
    have hlen : ((ys.take q).map (Value.int .i64)).length = q := by simp; omega
    have hrun := run_copy_row (P := Try.prog) w sl sl ty el g off s c ⟨b, o, none⟩ ys.length c' (cellsI cur) el ((ys.take q).map (Value.int .i64)) ht hsz hg (by rw [hlen, hq])
      (fun j v hj => by
        have hjl : j < q := by
          have := (List.getElem?_eq_some_iff.1 hj).1
          rw [hlen] at this; exact this
        rw [Go.WideShapes.add_plain, hcs j (by omega)]
        rw [List.getElem?_map, List.getElem?_take_of_lt hjl, List.getElem?_eq_getElem (by omega)] at hj
        simp at hj
        simp [List.getD, show j < ys.length by omega, hj]) (by rw [hlen]; simp only [cellsI]; simp; omega) (fun v hv => by obtain ⟨y, _, rfl⟩ := List.mem_map.1 hv; rfl)
    rw [hlen] at hrun
    refine ⟨_, hrun, ?_, ?_⟩
    · unfold RowT
      rw [setRow_heap w g _ _ el _ hg]
      have hq3 : min q ys.length = q := by omega
      simp [cellsI, splice, hq3]
    · exact ⟨rfl, rfl, rfl, by simp [World.setRow], fun i hi hne => setRow_other w g i _ (fun e => hne (by rw [e]))⟩
theorem wpList_copyT {sl el : TypeId} (hinf : NumT el) (ht : Try.prog.underlying sl = some (.slice el)) {w : World} {ops : Array Oper} {rest : List Oper} {o : Oper} {a : Act} {Q : Exit → Act → World → Prop} (hgd : o.guard = none) (d x : Operand)
    (ho : o.op = .call { callee := .builtin .copy, args := #[d, x], argTypes := #[sl, sl] })
    (g off : Nat) (cur ys : List Int) (dp A : Option Addr) (s c c' q : Nat) (hd : a.eval d = .slice dp s c) (hx : a.eval x = .slice A ys.length c') (hg : RowT el w g cur) (hq : q = Nat.min ys.length s) (hdp : 0 < s → dp = some ⟨g, off, none⟩) (hy : Ints w A ys) (hf : off + s ≤ cur.length)
    (h : ∀ w', RowT el w' g (splice cur off (ys.take q)) → w.grownBy w' (some g) → wpList Try.prog ops Q rest (a.put o.dst (goInt q)) w') : wpList Try.prog ops Q (o :: rest) a w := by
  refine wpList_plain hgd fun K hK => ?_
  obtain ⟨w', hrun, h1, h2⟩ := run_copyT (ty := o.type) (c := c) (c' := c') hinf ht hg hq hdp hy hf
  unfold Oper.wp execOp
  simp only [ho, resolve, invoke, builtin, Sem.run_bind, Sem.run_pure, Result.andThen_ok, List.map_toArray, List.map_cons, List.map_nil, hd, hx, hrun]
  exact hK _ _ (h w' h1 h2)
theorem step_copyT {sl el : TypeId} (hinf : NumT el) (ht : Try.prog.underlying sl = some (.slice el)) {w : World} {ops : Array Oper} {o : Oper} {a : Act} {K : Act → World → Prop} {Q : Exit → Act → World → Prop} {E : Prop} (hgd : o.guard = none) (d x : Operand)
    (ho : o.op = .call { callee := .builtin .copy, args := #[d, x], argTypes := #[sl, sl] })
    (g off : Nat) (cur ys : List Int) (dp A : Option Addr) (s c c' q : Nat) (hd : a.eval d = .slice dp s c) (hx : a.eval x = .slice A ys.length c') (hg : RowT el w g cur) (hq : q = Nat.min ys.length s) (hdp : 0 < s → dp = some ⟨g, off, none⟩) (hy : Ints w A ys) (hf : off + s ≤ cur.length)
    (h : ∀ w', RowT el w' g (splice cur off (ys.take q)) → w.grownBy w' (some g) → K (a.put o.dst (goInt q)) w') :
    if Region.wanted o (yielded ops a.tmps) = true then Oper.wp Try.prog o a w K Q else E := by
  have hw : Region.wanted o (yielded ops a.tmps) = true := by simp [Region.wanted, hgd]
  rw [if_pos hw]
  obtain ⟨w', hrun, h1, h2⟩ := run_copyT (ty := o.type) (c := c) (c' := c') hinf ht hg hq hdp hy hf
  unfold Oper.wp execOp
  simp only [ho, resolve, invoke, builtin, Sem.run_bind, Sem.run_pure, Result.andThen_ok, List.map_toArray, List.map_cons, List.map_nil, hd, hx, hrun]
  exact h w' h1 h2
theorem const_step {t : Int} {p m q : Nat} (h : m + q ≤ p) (ys : List Int) (hy : ys = List.replicate q t) : splice (fillK (fun _ => t) p m) m ys = fillK (fun _ => t) p (m + q) := by
  subst hy
  apply List.ext_getElem
  · rw [length_splice _ _ _ (by rw [fillK_length]; simp; omega), fillK_length, fillK_length]
  · intro i h1 h2
    rw [fillK_length] at h2
    have e0 : (fillK (fun _ => t) p (m + q))[i]? = some (if i < m + q then t else 0) := by simp [fillK, h2]
    have e1 : (splice (fillK (fun _ => t) p m) m (List.replicate q t))[i]? = some (if i < m + q then t else 0) := by
      unfold splice
      by_cases c1 : i < m
      · rw [List.getElem?_append_left (by simp [fillK]; omega), List.getElem?_take_of_lt c1]
        simp [fillK, h2, c1, show i < m + q by omega]
      · have lt1 : (List.take m (fillK (fun _ => t) p m)).length = m := by simp [fillK]; omega
        rw [List.getElem?_append_right (by rw [lt1]; omega), lt1]
        by_cases c2 : i < m + q
        · rw [List.getElem?_append_left (by simp; omega), if_pos c2]
          simp [show i - m < q by omega]
        · rw [List.getElem?_append_right (by simp; omega), List.length_replicate, List.getElem?_drop]
          have : m + q + (i - m - q) = i := by omega
          rw [this, if_neg c2]
          simp [fillK, h2, c1]
    have := e1.trans e0.symm
    rw [List.getElem?_eq_getElem h1, List.getElem?_eq_getElem (by rw [fillK_length]; exact h2)] at this
    exact Option.some.inj this
theorem const_take {t : Int} {p m q : Nat} (hq : q ≤ m) (hm : m ≤ p) : ((fillK (fun _ => t) p m).take m).take q = List.replicate q t := by
  apply List.ext_getElem
  · simp [fillK]; omega
  · intro i h1 h2
    simp at h2
    simp [fillK, show i < m by omega]
theorem RowT.ints {t : TypeId} {w : World} {g : Nat} {xs : List Int} (h : RowT t w g xs) (hlt : g < w.heap.size) (m : Nat) (hm : m ≤ xs.length) : Ints w (some ⟨g, 0, none⟩) (xs.take m) := fun _ => ⟨g, 0, rfl, hlt, fun i hi => by
  rw [Nat.zero_add, cell_of_row w g i _ _ _ h]
  simp at hi
  simp [cellsI, List.getD, hi, show i < xs.length by omega]⟩
theorem RowT.lt {t : TypeId} {w : World} {g : Nat} {xs : List Int} (h : RowT t w g xs) : g < w.heap.size := by
  rcases Nat.lt_or_ge g w.heap.size with hlt | hge
  · exact hlt
  · unfold RowT at h; rw [Array.getElem?_eq_none hge] at h; cases h
set_option maxHeartbeats 2000000 in
theorem repeat_one (A : Option Addr) (c : Nat) (t : Int) (p : Nat) (w : World) (hp : p ≤ 64) (iv : Ints w A [t]) :
    Calls Try.prog 59 #[.slice A 1 c, .int .i64 (p : Int)] w (RetT 3 w (List.replicate p t)) := by
  have hmk := fun W => run_make_row' (P := Try.prog) 22 3 (.int .i64 0) 8 Try.underlying22 infoInt rfl .i64 .i64 p (by omega) (by omega) W
  have hL := Lib.hid (show Below w.heap.size w (w.alloc (.cells (madeCells #[Value.int .i64 0] p) 3)) from below_new _ _)
  have hO := Lib.hid (show RowT 3 (w.alloc (.cells (madeCells #[Value.int .i64 0] p) 3)) w.heap.size (fillK (fun _ => t) p 0) from by rw [fillK_0]; exact Own.made w p)
  have IV := Lib.hid (iv.below hL.out)
  obtain ⟨m0, hm0⟩ : ∃ m0, m0 = Nat.min 1 p := ⟨_, rfl⟩
  have hm1 : m0 ≤ 1 := by rw [hm0]; exact Nat.min_le_left _ _
  have hm2 : m0 ≤ p := by rw [hm0]; exact Nat.min_le_right _ _
  have hm3 : 0 < p → 0 < m0 := fun h => by rw [hm0]; exact Nat.lt_min.2 ⟨by omega, h⟩
  have HM0 := Lib.hid (show m0 = Nat.min ([t] : List Int).length p from hm0)
  have HM3 := Lib.hid hm3
  have HTK := Lib.hid (show ([t] : List Int).take m0 = List.replicate m0 t by rcases Nat.le_one_iff_eq_zero_or_eq_one.1 hm1 with h | h <;> subst h <;> rfl)
  clear iv hm0 hm3
  go_enter Try.func59, Try.ntmps59
  go_wp2_with fail
  refine (mul_one p _ hp).mono ?_
  rintro r w1 ⟨rfl, rfl⟩
  go_wp2_with (with_reducible refine wpList_copyT numI Try.underlying22 rfl (.tmp 31) (.tmp 32) rfl w.heap.size 0 (fillK (fun _ => t) p 0) [t] (some ⟨w.heap.size, 0, none⟩) A p p c m0 rfl (by simp [Act.eval]) hO.out HM0.out (fun _ => rfl) IV.out (by rw [fillK_length]; omega) ?_; intro w2 hr2 hg2)
  have R2 := Lib.hid (show RowT 3 w2 w.heap.size (fillK (fun _ => t) p m0) from by have h := hr2; rw [const_step (q := m0) (by omega) _ HTK.out, Nat.zero_add] at h; exact h)
  have L2 := Lib.hid (below_turned hL.out hg2 (Nat.le_refl _))
  clear hr2 hg2 hmk
  go_loopw [8] (fun j wr => ∃ m : Nat, m ≤ p ∧ (0 < p → 0 < m) ∧ j = .int .i64 (m : Int) ∧ RowT 3 wr w.heap.size (fillK (fun _ => t) p m) ∧ Below w.heap.size w wr) (fun j _ => p - (intOf j).toNat)
  case atStart => exact ⟨m0, hm2, HM3.out, rfl, R2.out, L2.out⟩
  case round =>
    obtain ⟨m, hm, hpos, rfl, hR, hB⟩ := hrel
    have RW := Lib.hid hR
    have LB := Lib.hid hB
    have HPOS := Lib.hid hpos
    clear hR hB hpos
    by_cases hlt : m < p
    · have hmp : 0 < m := HPOS.out (by omega)
      obtain ⟨q, hq⟩ : ∃ q, q = Nat.min m (p - m) := ⟨_, rfl⟩
      have hq1 : q ≤ m := by rw [hq]; exact Nat.min_le_left _ _
      have hq2 : q ≤ p - m := by rw [hq]; exact Nat.min_le_right _ _
      have hq3 : 0 < q := by rw [hq]; exact Nat.lt_min.2 ⟨hmp, by omega⟩
      have hlm : ((fillK (fun _ => t) p m).take m).length = m := by simp [fillK]; omega
      have HLM := Lib.hid hlm
      have HQ := Lib.hid (show q = Nat.min ((fillK (fun _ => t) p m).take m).length (p - m) by rw [hlm]; exact hq)
      have HC := Lib.hid (const_step (t := t) (show m + q ≤ p by omega) _ (const_take (t := t) hq1 hm))
      have IW := Lib.hid (RW.out.ints RW.out.lt m (by rw [fillK_length]; exact hm))
      have hff : m + (p - m) ≤ (fillK (fun _ => t) p m).length := by rw [fillK_length]; omega
      have HFF := Lib.hid hff
      have i0 : (0 : Int) ≤ (m : Int) := by omega
      have i1 : (m : Int) ≤ (p : Int) := by omega
      have i2 : (0 : Int) ≤ (q : Int) := by omega
      have i4 : ¬ p = m := by omega
      have RWd := Lib.hid (show RowT 3 wr.drew w.heap.size (fillK (fun _ => t) p m) from RW.out)
      have IWd := Lib.hid (show Ints wr.drew (some ⟨w.heap.size, 0, none⟩) ((fillK (fun _ => t) p m).take m) from IW.out)
      have hsum : (m : Int) + (q : Int) ≤ 64 := by omega
      clear hq hlm hff
      generalize (fillK (fun _ => t) p m).take m = ys at *
      have i3 : IntKind.i64.wrap ((m : Int) + (q : Int)) = (m : Int) + (q : Int) := IntWalk.i64_in _ (by omega)
      go_wp2_with fail
      go_region_held3 (fun w' => True)
        (trivial)
        (first
          | ((with_reducible refine step_copyT numI Try.underlying22 rfl (.tmp 41) (.tmp 44) rfl w.heap.size m (fillK (fun _ => t) p m) ys (some ⟨w.heap.size, m, none⟩) (some ⟨w.heap.size, 0, none⟩) (p - m) (p - m) p q (by simp [Act.eval]) (by simp [Act.eval, HLM.out]) RWd.out HQ.out (fun _ => rfl) IWd.out HFF.out ?_); intro w3 hr3 hg3))
      clear i3
      have R3 := Lib.hid (show RowT 3 w3 w.heap.size (fillK (fun _ => t) p (m + q)) from by rw [← HC.out]; exact hr3)
      have L3 := Lib.hid (below_turned LB.out.drew hg3 (Nat.le_refl _))
      clear hr3 hg3
      go_wp2
      go_roundw
      case rel => exact ⟨m + q, by omega, fun _ => by omega, by go_num, R3.out, L3.out⟩
      case measure => simp [intOf]; omega
    · obtain rfl : m = p := by omega
      go_wp2
      go_ret
      have hr := RW.out
      rw [fillK_n] at hr
      have hc : (List.range m).map (fun _ => t) = List.replicate m t := by
        apply List.ext_getElem
        · rw [List.length_map, List.length_range, List.length_replicate]
        · intro i h1 h2
          rw [List.getElem_map, List.getElem_replicate]
      rw [hc] at hr
      have hmm := Own.lens (w := wr) (g := w.heap.size) (xs := List.replicate m t) hr (base := w.heap.size) (Nat.le_refl _) (by simp; unfold maxLen; omega)
      rw [List.length_replicate] at hmm
      exact ⟨some ⟨w.heap.size, 0, none⟩, m, by rw [List.length_replicate]; rfl, by rw [List.length_replicate]; exact hmm, LB.out⟩
end Go.Proofs.Ythabimjmdnhomaa.Sh
