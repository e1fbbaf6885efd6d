/-
  What mold.lay and mold.cut do: a piece is copied to the beginning of a row known whole. Conditions: as told in each. What mold.below, mold.lengths, mold.filled and slices.ContainsFunc of mold.below answer; nothing that was there is written. Conditions: at most 1000 numbers; the axes may be. What mold.Reshape and the document's Reshape answer for any two cells; nothing that was there is written. Condition: at most 100 axes and 1000 numbers. What the document's Reshape answers for any two cells; nothing that was there is written. Condition: at most 100 axes and 1000 numbers. What math/bits.Mul64 and math/bits.Mul answer of 1 and a small number, and what slices.Repeat answers of one number. Condition: the number is at most 64. What mold.listed, mold.often, mold.total, mold.cut and mold.layParts do. Conditions: as told in each. What mold.layParts does: each part of a list is copied as often as told, one behind the other, into a row known whole that has just that room. Conditions: as told. What mold.Copy answers where it answers a cell; nothing that was there is written. Conditions: as told; at most 100 axes and 1000 numbers. Plain facts on places: the number of a place one of whose axes has another number, and the numbers of places of axes put behind one another. No condition; nothing of the program stands here.
-/
import Derived.Test.YtfnpdflapmbnjaaPkC
import Derived.Deep.QuietTactic
import Derived.BigQuiet
import Derived.IntWalk
import Derived.Laws.BitsAllLaws
import Derived.Laws.BitsLemmas
import Derived.Deep.RegionHeld3
import Derived.Test.YtfnpdflapmbnjaaPkS
-- MoLay
namespace Go.Proofs.Ytfnpdflapmbnjaa.Sh
open Go.RowKit
set_option linter.unusedVariables false

theorem run_copyM {ty : TypeId} {w : World} {g off : Nat} {cur ys : List Int} {dp A : Option Addr} {s c c' q : Nat} (hg : Row64 w g cur) (hq : q = Nat.min ys.length s) (hdp : 0 < s → dp = some ⟨g, off, none⟩) (hy : Ints w A ys) (hf : off + s ≤ cur.length) :
    ∃ w', (Builtin.copy_ #[23, 23] ty #[.slice dp s c, .slice A ys.length c']).run Try.prog w = .ok (goInt q) w' ∧ Row64 w' g (splice cur off (ys.take q)) ∧ w.grownBy w' (some g) := by
  have hsz : (Try.prog.info? 2).map (·.size) = some 1 := by kernel_rfl
  have hq1 : q ≤ ys.length := by rw [hq]; exact Nat.min_le_left _ _
  have hq2 : q ≤ s := by rw [hq]; exact Nat.min_le_right _ _
  rcases Nat.eq_zero_or_pos q with h0 | h0
  · have hr := run_copy_none (P := Try.prog) w 23 23 ty 2 dp A s c ys.length c' Try.underlying23 hsz (by rw [← hq]; exact h0)
    subst h0
    exact ⟨w, hr, by simpa [splice] using hg, World.grownBy.refl w _⟩
  · obtain ⟨b, o, rfl, hb, hcs⟩ := hy (by omega)
    have hd := hdp (by omega)
    subst hd
    have hlen : ((ys.take q).map (Value.int .i64)).length = q := by simp; omega
    have hrun := run_copy_row (P := Try.prog) w 23 23 ty 2 g off s c ⟨b, o, none⟩ ys.length c' (cellsI cur) 2 ((ys.take q).map (Value.int .i64)) Try.underlying23 hsz hg (by rw [hlen, hq])
      (fun j v hj => by
        have hjl : j < q := by
          have := (List.getElem?_eq_some_iff.1 hj).1
          rw [hlen] at this; exact this
        rw [Go.WideShapes.add_plain, hcs j (by omega)]
        rw [List.getElem?_map, List.getElem?_take_of_lt hjl, List.getElem?_eq_getElem (by omega)] at hj
        simp at hj
        simp [List.getD, show j < ys.length by omega, hj]) (by rw [hlen]; simp only [cellsI]; simp; omega) (fun v hv => by obtain ⟨y, _, rfl⟩ := List.mem_map.1 hv; rfl)
    rw [hlen] at hrun
    refine ⟨_, hrun, ?_, ?_⟩
    · unfold Row64
      rw [setRow_heap w g _ _ 2 _ hg]
      have hq3 : min q ys.length = q := by omega
      simp [cellsI, splice, hq3]
    · exact ⟨rfl, rfl, rfl, by simp [World.setRow], fun i hi hne => setRow_other w g i _ (fun e => hne (by rw [e]))⟩
theorem wpList_copyM {w : World} {ops : Array Oper} {rest : List Oper} {o : Oper} {a : Act} {Q : Exit → Act → World → Prop} (hgd : o.guard = none) (d x : Operand)
    (ho : o.op = .call { callee := .builtin .copy, args := #[d, x], argTypes := #[23, 23] })
    (g off : Nat) (cur ys : List Int) (dp A : Option Addr) (s c c' q : Nat) (hd : a.eval d = .slice dp s c) (hx : a.eval x = .slice A ys.length c') (hg : Row64 w g cur) (hq : q = Nat.min ys.length s) (hdp : 0 < s → dp = some ⟨g, off, none⟩) (hy : Ints w A ys) (hf : off + s ≤ cur.length)
    (h : ∀ w', Row64 w' g (splice cur off (ys.take q)) → w.grownBy w' (some g) → wpList Try.prog ops Q rest (a.put o.dst (goInt q)) w') : wpList Try.prog ops Q (o :: rest) a w := by
  refine wpList_plain hgd fun K hK => ?_
  obtain ⟨w', hrun, h1, h2⟩ := run_copyM (ty := o.type) (c := c) (c' := c') hg hq hdp hy hf
  unfold Oper.wp execOp
  simp only [ho, resolve, invoke, builtin, Sem.run_bind, Sem.run_pure, Result.andThen_ok, List.map_toArray, List.map_cons, List.map_nil, hd, hx, hrun]
  exact hK _ _ (h w' h1 h2)

/-- What is left of a row behind what was copied. -/
def RetLay (g p m q : Nat) (cur : List Int) (w : World) (e : Ending) (w' : World) : Prop := ∃ A, e = .returned (.slice A (m - q) (m - q)) ∧ (0 < m - q → A = some ⟨g, p + q, none⟩) ∧ Row64 w' g cur ∧ w.grownBy w' (some g)
set_option maxHeartbeats 1000000 in
theorem lay_any (g p m q : Nat) (A : Option Addr) (cur : List Int) (B : Option Addr) (c2 : Nat) (ys : List Int) (w : World) (hR : Row64 w g cur) (hq : q = Nat.min ys.length m) (hA : 0 < m → A = some ⟨g, p, none⟩) (iy : Ints w B ys) (hp : p + m ≤ cur.length) (hm : m ≤ 1000) (hy : ys.length ≤ 1000) :
    Calls Try.prog 59 #[.slice A m m, .slice B ys.length c2] w (RetLay g p m q (splice cur p (ys.take q)) w) := by
  have hq2 : q ≤ m := by rw [hq]; exact Nat.min_le_right _ _
  have hqi : (q : Int) ≤ (m : Int) := by omega
  have hq0 : (0 : Int) ≤ (q : Int) := by omega
  have HR := Lib.hid hR
  have HQ := Lib.hid hq
  have HA := Lib.hid hA
  have IY := Lib.hid iy
  clear hR hq iy
  by_cases hqm : q = m
  · clear hA
    have hmq : ¬ q < m := by omega
    have hmm : m ≤ q := by omega
    subst hqm
    go_enter Try.func59, Try.ntmps59
    go_wp2_with (with_reducible refine wpList_copyM rfl (.tmp 6) (.tmp 7) rfl g p cur ys A B q q c2 q rfl rfl HR.out HQ.out HA.out IY.out hp ?_; intro w1 h1 h2)
    go_ret
    exact ⟨A, by simp, fun h => absurd h (by omega), h1, h2⟩
  · obtain rfl := hA (by omega)
    have hlt : q < m := by omega
    go_enter Try.func59, Try.ntmps59
    go_wp2_with (with_reducible refine wpList_copyM rfl (.tmp 6) (.tmp 7) rfl g p cur ys _ B m m c2 q rfl rfl HR.out HQ.out HA.out IY.out hp ?_; intro w1 h1 h2)
    go_ret
    exact ⟨_, rfl, fun _ => rfl, h1, h2⟩
end Go.Proofs.Ytfnpdflapmbnjaa.Sh
-- MoFill
namespace Go.Proofs.Ytfnpdflapmbnjaa.Sh
open Go.RowKit
set_option linter.unusedVariables false

theorem below_yes (n : Int) (w : World) (h : n < 0) : Calls Try.prog 38 #[.int .i64 n] w fun e w' => e = .returned (.bool true) ∧ w = w' := by
  go_enter Try.func38, Try.ntmps38
  go_wp2
  go_ret
  exact ⟨ret_bool (by simp), rfl⟩
theorem below_no (n : Int) (w : World) (h : 0 ≤ n) : Calls Try.prog 38 #[.int .i64 n] w fun e w' => e = .returned (.bool false) ∧ w = w' := by
  go_enter Try.func38, Try.ntmps38
  go_wp2
  go_ret
  exact ⟨ret_bool (by simpa using h), rfl⟩
/-- Is one below nought? -/
def negB (v : List Int) : Bool := v.any fun x => decide (x < 0)
theorem negB_no {v : List Int} (h : negB v = false) (i : Nat) (hi : i < v.length) : 0 ≤ v.getD i 0 := by
  unfold negB at h
  rw [List.any_eq_false] at h
  have := h v[i] (List.getElem_mem hi)
  simp at this
  simpa [List.getD, hi] using this
theorem negB_take {v : List Int} {k : Nat} (hk : k < v.length) : negB (v.take (k + 1)) = (negB (v.take k) || decide (v.getD k 0 < 0)) := by
  unfold negB; rw [take_snoc v k hk]; simp
theorem negB_yes {v : List Int} {k : Nat} (hk : k < v.length) (h : v.getD k 0 < 0) : negB v = true := by
  unfold negB
  rw [List.any_eq_true]
  exact ⟨v[k], List.getElem_mem hk, by simpa [List.getD, hk] using h⟩
/-- Is there an index? -/
def RetIx (b : Bool) (w : World) (e : Ending) (w' : World) : Prop := ∃ n : Int, e = .returned (.int .i64 n) ∧ decide (0 ≤ n) = b ∧ w = w'
set_option maxHeartbeats 1000000 in
theorem index_below (A : Option Addr) (c : Nat) (v : List Int) (w : World) (hv : v.length ≤ 1000) (iv : Ints w A v) :
    Calls Try.prog 79 #[.slice A v.length c, .func (.func 38) #[] #[]] w (RetIx (negB v) w) := by
  have IV := Lib.hid iv
  clear iv
  go_enter Try.func79, Try.ntmps79
  go_wp2
  go_loop [8] (fun j => ∃ k : Nat, k ≤ v.length ∧ j = .int .i64 (k : Int) ∧ negB (v.take k) = false) (fun j => v.length - (intOf j).toNat)
  case atStart => exact ⟨0, Nat.zero_le _, rfl, by simp [negB]⟩
  case round =>
    obtain ⟨k, hk, rfl, hN⟩ := hrel
    have HN := Lib.hid hN
    clear hN
    by_cases hlt : k < v.length
    · obtain ⟨b, off, rfl, hb, hcs⟩ := IV.out (by omega)
      have hck := hcs k hlt
      have i0 : (0 : Int) ≤ (k : Int) := by omega
      have i1 : (k : Int) < (v.length : Int) := by omega
      have HT := Lib.hid (negB_take hlt)
      clear hcs
      by_cases hneg : v.getD k 0 < 0
      · have HY := Lib.hid (negB_yes hlt hneg)
        generalize v.getD k 0 = y at *
        go_wp2_with fail
        refine (below_yes y _ hneg).mono ?_
        rintro r w1 ⟨rfl, rfl⟩
        go_wp2
        go_ret
        exact ⟨_, rfl, by rw [HY.out]; simp, rfl⟩
      · have HS := Lib.hid (show negB (v.take (k + 1)) = false by rw [HT.out, HN.out]; simpa using hneg)
        generalize v.getD k 0 = y at *
        go_wp2_with fail
        refine (below_no y _ (by omega)).mono ?_
        rintro r w1 ⟨rfl, rfl⟩
        go_wp2
        go_round
        case rel => exact ⟨k + 1, by omega, by go_num, HS.out⟩
        case measure => simp [intOf]; omega
    · obtain rfl : k = v.length := by omega
      have hv2 := HN.out
      rw [List.take_length] at hv2
      have HV := Lib.hid hv2
      clear hv2
      go_wp2
      go_ret
      exact ⟨_, rfl, by rw [HV.out]; decide, rfl⟩
set_option maxHeartbeats 1000000 in
theorem contains_b (A : Option Addr) (c : Nat) (v : List Int) (b : Bool) (w : World) (hb : negB v = b) (hv : v.length ≤ 1000) (iv : Ints w A v) :
    Calls Try.prog 37 #[.slice A v.length c, .func (.func 38) #[] #[]] w fun e w' => e = .returned (.bool b) ∧ Below w.heap.size w w' := by
  have IV := Lib.hid iv
  have HB := Lib.hid hb
  clear iv hb
  go_enter Try.func37, Try.ntmps37
  go_wp2_with fail
  refine (index_below _ _ v _ hv IV.out).mono ?_
  rintro r w1 ⟨n, rfl, hn, rfl⟩
  rw [HB.out] at hn
  have HN := Lib.hid hn
  clear hn
  go_wp2
  go_ret
  exact ⟨ret_bool HN.out, Below.refl _ _⟩

/-- A number as a length: no greater than 65. -/
def len65 (x : Int) : Int := min x 65
def lensL (v : List Int) : List Int := v.map len65
theorem lensL_eq (v : List Int) : lensL v = (List.range v.length).map (fun i => len65 (v.getD i 0)) := by
  apply List.ext_getElem
  · simp [lensL]
  · intro i h1 h2
    simp [lensL] at h1
    simp [lensL, List.getD, h1]
theorem Own.lens {w : World} {g : Nat} {xs : List Int} (h : Own w g xs) {base : Nat} (hb : base ≤ g) (hl : xs.length ≤ maxLen) : MineT 3 w base (.slice (some ⟨g, 0, none⟩) xs.length xs.length) xs :=
  ⟨by simp, .inr ⟨g, xs.length, cellsI xs, rfl, hb, h, Nat.le_refl _, hl, by simp [cellsI], by simp [cellsI, ← List.map_take]⟩⟩
set_option maxHeartbeats 1000000 in
theorem lengths_any (A : Option Addr) (c : Nat) (v : List Int) (w : World) (hv : v.length ≤ 1000) (iv : Ints w A v) :
    Calls Try.prog 55 #[.slice A v.length c] w (RetT 3 w (lensL v)) := by
  rw [lensL_eq]
  have hmk := fun W => run_make_row' (P := Try.prog) 22 3 (.int .i64 0) 8 Try.underlying22 infoInt rfl .i64 .i64 v.length (by omega) (by omega) W
  have hL := Lib.hid (show Below w.heap.size w (w.alloc (.cells (madeCells #[Value.int .i64 0] v.length) 3)) from below_new _ _)
  have hO := Lib.hid (Own.made w v.length)
  have IV := Lib.hid iv
  clear iv
  obtain ⟨f, hf⟩ : ∃ f : Nat → Int, (fun i => len65 (v.getD i 0)) = f := ⟨_, rfl⟩
  rw [hf]
  have HF := Lib.hid hf
  clear hf
  go_enter Try.func55, Try.ntmps55
  go_wp2
  go_loopw [11] (fun j wr => ∃ k : Nat, k ≤ v.length ∧ j = .int .i64 (k : Int) ∧ Own wr w.heap.size (fillK f v.length k) ∧ Below w.heap.size w wr) (fun j _ => v.length - (intOf j).toNat)
  case atStart => exact ⟨0, Nat.zero_le _, rfl, by rw [fillK_0]; exact hO.out, hL.out⟩
  case round =>
    obtain ⟨k, hk, rfl, hOw, hB⟩ := hrel
    have OW := Lib.hid hOw
    have LB := Lib.hid hB
    clear hOw hB
    by_cases hlt : k < v.length
    · obtain ⟨b, off, rfl, hb, hcs⟩ := IV.out.below LB.out (by omega)
      have hck := hcs k hlt
      have i0 : (0 : Int) ≤ (k : Int) := by omega
      have i1 : (k : Int) < (v.length : Int) := by omega
      have q0 := OW.out.cell (i := k) (by rw [fillK_length]; exact hlt)
      have q1 := OW.out.frozen k
      have HK := Lib.hid (show f k = len65 (v.getD k 0) by rw [← HF.out])
      clear hcs hmk
      generalize v.getD k 0 = y at *
      have HS := Lib.hid (show (fillK f v.length k).set k (min y 65) = fillK f v.length (k + 1) by rw [← fillK_succ f _ k hlt, HK.out]; rfl)
      go_wp2
      go_roundw
      case rel => exact ⟨k + 1, by omega, by go_num, by rw [← HS.out]; exact OW.out.set_ k _, LB.out.setCell (Nat.le_refl _) _⟩
      case measure => simp [intOf]; omega
    · obtain rfl : k = v.length := by omega
      have hw := OW.out
      rw [fillK_n] at hw
      have HW := Lib.hid hw
      have hl : ((List.range v.length).map f).length = v.length := by simp
      have HL := Lib.hid hl
      clear hw hl hmk
      go_wp2
      go_ret
      have hm := HW.out.lens (Nat.le_refl _) (by rw [HL.out]; unfold maxLen; omega)
      rw [HL.out] at hm
      exact ⟨some ⟨w.heap.size, 0, none⟩, v.length, by rw [HL.out]; rfl, by rw [HL.out]; exact hm, LB.out⟩

/-- Numbers over and over. -/
def cyc (v : List Int) (i : Nat) : Int := v.getD (i % v.length) 0
theorem cyc_step {v : List Int} {n p q : Nat} (hp : p % v.length = 0) (hq : q ≤ v.length) (hn : p + q ≤ n) : splice (fillK (cyc v) n p) p (v.take q) = fillK (cyc v) n (p + q) := by
  apply List.ext_getElem
  · rw [length_splice _ _ _ (by rw [fillK_length]; simp; omega), fillK_length, fillK_length]
  · intro i h1 h2
    rw [fillK_length] at h2
    have hlen : (v.take q).length = q := by simp; omega
    have e0 : (fillK (cyc v) n (p + q))[i]? = some (if i < p + q then cyc v i else 0) := by simp [fillK, h2]
    have e1 : (splice (fillK (cyc v) n p) p (v.take q))[i]? = some (if i < p + q then cyc v i else 0) := by
      unfold splice
      by_cases c1 : i < p
      · rw [List.getElem?_append_left (by simp [fillK]; omega), List.getElem?_take_of_lt c1]
        simp [fillK, h2, c1, show i < p + q by omega]
      · have lt1 : (List.take p (fillK (cyc v) n p)).length = p := by simp [fillK]; omega
        rw [List.getElem?_append_right (by rw [lt1]; omega), lt1]
        by_cases c2 : i < p + q
        · have hm : i % v.length = i - p := by
            have : i = (i - p) + p := by omega
            rw [this, Nat.add_mod, hp, Nat.add_zero, Nat.mod_mod]
            rw [Nat.mod_eq_of_lt (by omega)]
            omega
          rw [List.getElem?_append_left (by rw [hlen]; omega), List.getElem?_take_of_lt (by omega), if_pos c2]
          unfold cyc
          rw [hm]
          simp [List.getD, show i - p < v.length by omega]
        · rw [List.getElem?_append_right (by rw [hlen]; omega), hlen, List.getElem?_drop]
          have : p + q + (i - p - q) = i := by omega
          rw [this, if_neg c2]
          simp [fillK, h2, c1]
    have := e1.trans e0.symm
    rw [List.getElem?_eq_getElem h1, List.getElem?_eq_getElem (by rw [fillK_length]; exact h2)] at this
    exact Option.some.inj this
set_option maxHeartbeats 2000000 in
theorem filled_any (A : Option Addr) (c : Nat) (d : List Int) (B : Option Addr) (c2 : Nat) (v : List Int) (n : Nat) (w : World) (hd : d.length ≤ 100) (hv : v.length ≤ 1000) (id : Ints w A d) (iv : Ints w B v) (hR : rightB d = true) (hn : sizeI d = n) :
    Calls Try.prog 56 #[.slice A d.length c, .slice B v.length c2] w (RetC1 w d ((List.range n).map (cyc v))) := by
  obtain ⟨h3, hall, h64⟩ := rightB_all hR
  have hn64 : n ≤ 64 := by have : sizeI d = prod d := sizeI_mk h3 hall h64; omega
  have hz := fun W iW => zero_m A c d W hd iW hR
  rw [hn, Int.toNat_natCast] at hz
  have HZ := Lib.hid hz
  have B0 := Lib.hid (Box.new w (.slice none 0 0) (.slice none 0 0))
  have L0 := Lib.hid (show Below w.heap.size w (w.alloc (.cells #[.slice none 0 0, .slice none 0 0] 25)) from below_box (Below.refl _ _))
  have I0 := Lib.hid (id.below L0.out)
  have IV := Lib.hid iv
  clear hz hR hall h64 h3 hn id iv
  go_enter Try.func56, Try.ntmps56
  go_wp2_with fail
  refine (HZ.out _ I0.out).mono ?_
  rintro r w1 ⟨A1, c1, g, rfl, hm1, hr1, hg1, hb1⟩
  have L1 := Lib.hid (below_next L0.out hb1)
  have B1 := Lib.hid (B0.out.next hb1)
  have M1 := Lib.hid hm1
  have R1 := Lib.hid (show Row64 w1 g (List.replicate n 0) from hr1)
  have hgs : w.heap.size < g := by have : w.heap.size + 1 ≤ g := by simpa using hg1
                                   omega
  have hg1' : g < w1.heap.size := R1.out.lt
  clear hm1 hr1 hg1 hb1
  have B2 := Lib.hid (Box.new w1 (.slice A1 d.length c1) (.slice (some ⟨g, 0, none⟩) n n))
  have K2 := Lib.hid (show Below w1.heap.size w1 (w1.alloc (.cells #[.slice A1 d.length c1, .slice (some ⟨g, 0, none⟩) n n] 25)) from below_box (Below.refl _ _))
  go_wp2
  go_loopw [6] (fun j wr => ∃ (p m : Nat) (Ar : Option Addr), p + m = n ∧ j = .slice Ar m m ∧ (0 < m → Ar = some ⟨g, p, none⟩ ∧ p % v.length = 0) ∧ (w1.alloc (.cells #[.slice A1 d.length c1, .slice (some ⟨g, 0, none⟩) n n] 25)).grownBy wr (some g) ∧ Row64 wr g (fillK (cyc v) n p)) (fun j _ => match j with | .slice _ m _ => m | _ => 0)
  case atStart => exact ⟨0, n, _, by omega, rfl, fun _ => ⟨rfl, by simp⟩, turned_refl _ _, by rw [fillK_0]; exact R1.out.alloc _⟩
  case round =>
    obtain ⟨p, m, Ar, hpm, rfl, hA, hgr, hrw⟩ := hrel
    have GR := Lib.hid hgr
    have RW := Lib.hid hrw
    have BB := Lib.hid (B2.out.grown hgr (fun e => by injection e with e; omega))
    have LB := Lib.hid (below_turned (below_next L1.out K2.out) hgr (Nat.le_of_lt hgs))
    have HA := Lib.hid hA
    have HPM := Lib.hid hpm
    have hm64 : m ≤ 64 := by omega
    clear hgr hrw hA hpm
    by_cases hlt : 0 < v.length ∧ 0 < m
    · obtain ⟨hv0, hm0⟩ := hlt
      obtain ⟨q, hq⟩ : ∃ q, q = Nat.min v.length m := ⟨_, rfl⟩
      have hq1 : q ≤ v.length := by rw [hq]; exact Nat.min_le_left _ _
      have hq2 : q ≤ m := by rw [hq]; exact Nat.min_le_right _ _
      have hq3 : 0 < q := by rw [hq]; exact Nat.lt_min.2 ⟨hv0, hm0⟩
      have hq4 : q = v.length ∨ m - q = 0 := by
        rcases Nat.le_total v.length m with h | h
        · left; rw [hq]; exact Nat.min_eq_left h
        · right; have : q = m := by rw [hq]; exact Nat.min_eq_right h
          omega
      have HQ := Lib.hid hq
      have HC := Lib.hid (cyc_step (n := n) (HA.out hm0).2 hq1 (by have := HPM.out; omega))
      clear hq
      go_wp2_with fail
      refine (lay_any g p m q _ _ _ _ v _ RW.out HQ.out (fun h => (HA.out h).1) (IV.out.below LB.out) (by rw [fillK_length]; have := HPM.out; omega) (by omega) hv).mono ?_
      rintro r w2 ⟨A2, rfl, hA2, hr2, hg2⟩
      rw [HC.out] at hr2
      have R2 := Lib.hid hr2
      have G2 := Lib.hid (World.grownBy.trans GR.out hg2)
      have HA2 := Lib.hid hA2
      clear hr2 hg2 hA2
      go_wp2
      go_roundw
      case rel => exact ⟨p + q, m - q, A2, by have := HPM.out; omega, rfl, fun h => ⟨HA2.out h, by rcases hq4 with e | e; (rw [e, Nat.add_mod_right]; exact (HA.out hm0).2); omega⟩, G2.out, R2.out⟩
      case measure => simp; omega
    · have hrn : Row64 wr g ((List.range n).map (cyc v)) := by
        have h := RW.out
        rcases Nat.eq_zero_or_pos m with h0 | h0
        · have : p = n := by have := HPM.out; omega
          rw [this, fillK_n] at h; exact h
        · have hv0 : v.length = 0 := by omega
          have hf : ∀ k, fillK (cyc v) n k = (List.range n).map (cyc v) := fun k => by
            apply List.map_congr_left
            intro i _
            have : cyc v i = 0 := by unfold cyc; rw [List.eq_nil_of_length_eq_zero hv0]; rfl
            rw [this]; split <;> rfl
          rw [hf] at h; exact h
      have HRN := Lib.hid hrn
      have B3 := Lib.hid ((B1.out.alloc (.cells #[.slice A1 d.length c1, .slice (some ⟨g, 0, none⟩) n n] 25)).grown GR.out (fun e => by injection e with e; omega))
      obtain ⟨s0, s1, _, _⟩ := BB.out.all
      obtain ⟨y0, y1, y2, y3⟩ := B3.out.all
      have hl : ((List.range n).map (cyc v)).length = n := by simp
      have HL := Lib.hid hl
      clear hrn hl
      by_cases hv0 : 0 < v.length
      · have hm0 : ¬ 0 < m := fun h => hlt ⟨hv0, h⟩
        obtain rfl : m = 0 := by omega
        clear hlt hm0
        go_wp2
        have T := (B3.out.set0 (.slice A1 d.length c1)).set1 (.slice (some ⟨g, 0, none⟩) n n)
        obtain ⟨t0, t1, _, _⟩ := T.all
        refine bodyPost_ret (v := .agg #[.slice A1 d.length c1, .slice (some ⟨g, 0, none⟩) n n]) (by simp [results, Try.results56, go_sem, t0, t1]) rfl ?_
        have m1 := mine_turned (M1.out.alloc (.cells #[.slice A1 d.length c1, .slice (some ⟨g, 0, none⟩) n n] 25)) (R1.out.alloc _) (by decide) GR.out
        have m2 := mine_block (base := g) HRN.out (Nat.le_refl _) (by rw [HL.out]; unfold maxLen; omega)
        have hic := isCell_of (base := w.heap.size) (m1.box (by simp) (.slice A1 d.length c1) (.slice (some ⟨g, 0, none⟩) n n)) (m2.box hgs (.slice A1 d.length c1) (.slice (some ⟨g, 0, none⟩) n n)) (by simp) (Nat.le_of_lt hgs)
        rw [HL.out] at hic
        exact ⟨_, rfl, hic, (LB.out.setCell (Nat.le_refl _) _).setCell (Nat.le_refl _) _⟩
      · have hv1 : v.length = 0 := by omega
        have hv2 : decide (0 < v.length) = false := by simp [hv1]
        clear hlt hv1
        go_wp2
        have T := (B3.out.set0 (.slice A1 d.length c1)).set1 (.slice (some ⟨g, 0, none⟩) n n)
        obtain ⟨t0, t1, _, _⟩ := T.all
        refine bodyPost_ret (v := .agg #[.slice A1 d.length c1, .slice (some ⟨g, 0, none⟩) n n]) (by simp [results, Try.results56, go_sem, t0, t1]) rfl ?_
        have m1 := mine_turned (M1.out.alloc (.cells #[.slice A1 d.length c1, .slice (some ⟨g, 0, none⟩) n n] 25)) (R1.out.alloc _) (by decide) GR.out
        have m2 := mine_block (base := g) HRN.out (Nat.le_refl _) (by rw [HL.out]; unfold maxLen; omega)
        have hic := isCell_of (base := w.heap.size) (m1.box (by simp) (.slice A1 d.length c1) (.slice (some ⟨g, 0, none⟩) n n)) (m2.box hgs (.slice A1 d.length c1) (.slice (some ⟨g, 0, none⟩) n n)) (by simp) (Nat.le_of_lt hgs)
        rw [HL.out] at hic
        exact ⟨_, rfl, hic, (LB.out.setCell (Nat.le_refl _) _).setCell (Nat.le_refl _) _⟩
end Go.Proofs.Ytfnpdflapmbnjaa.Sh
-- MoResh
namespace Go.Proofs.Ytfnpdflapmbnjaa.Sh
open Go.RowKit
set_option linter.unusedVariables false

set_option maxHeartbeats 1000000 in
theorem rzero_m (A : Option Addr) (c : Nat) (d : List Int) (w : World) (hd : d.length ≤ 100) (id : Ints w A d) (hR : rightB d = true) :
    Calls Try.prog 84 #[.slice A d.length c] w (RetZ w d (sizeI d).toNat) := by
  have ID := Lib.hid (id.below (w' := w.alloc (.cells #[.slice none 0 0, .slice none 0 0] 25)) (below_box (Below.refl _ _)))
  have ID0 := Lib.hid id
  have HS := Lib.hid (Box.new w (.slice none 0 0) (.slice none 0 0))
  clear id
  · have HR := Lib.hid hR
    obtain ⟨h3, hall, h64⟩ := rightB_all hR
    have hp0 := (prod_bd d hall).1
    obtain ⟨n, hn⟩ : ∃ n : Nat, sizeI d = n := ⟨(prod d).toNat, by rw [sizeI_mk h3 hall h64]; omega⟩
    have hn64 : n ≤ 64 := by have : sizeI d = prod d := sizeI_mk h3 hall h64; omega
    rw [hn, Int.toNat_natCast]
    have HN := Lib.hid hn
    clear hR hall hn hp0 h64 h3
    have hmk := fun W => run_make_row' (P := Try.prog) 23 2 (.int .i64 0) 8 Try.underlying23 numL rfl .i64 .i64 n (by omega) (by omega) W
    go_enter Try.func84, Try.ntmps84
    go_wp2_with fail
    refine (refRightB_yes _ _ d _ HR.out (by unfold maxLen; omega) ID.out).mono ?_
    rintro r w1 ⟨rfl, hb1⟩
    have S1 := Lib.hid (HS.out.next hb1)
    have H1 := Lib.hid (below_box hb1)
    have I1 := Lib.hid (ID0.out.below H1.out)
    clear hb1
    go_wp2_with (at_builtin; refine wpList_copyI numI Try.underlying22 rfl (.tmp 7) (.tmp 8) rfl rfl _ _ d rfl I1.out (by omega) ?_; intro A2 c2 w2 hm2 hb2)
    have S2 := Lib.hid (S1.out.next hb2)
    have H2 := Lib.hid (below_next H1.out hb2)
    have I2 := Lib.hid (ID0.out.below H2.out)
    have M2 := Lib.hid hm2
    clear hb2 hm2
    go_wp2_with fail
    refine (refSizeB _ _ d _ (by unfold maxLen; omega) I2.out).mono ?_
    rintro r w3 ⟨rfl, hb3⟩
    have S3 := Lib.hid (S2.out.next hb3)
    have H3 := Lib.hid (below_next H2.out hb3)
    have M3 := Lib.hid (M2.out.below hb3 (Nat.le_refl _))
    clear hb3
    rw [HN.out]
    have S4 := Lib.hid (S3.out.alloc (.cells (madeCells #[Value.int .i64 0] n) 2))
    obtain ⟨s0, s1, s2, s3⟩ := S4.out.all
    go_wp2
    have T := (S4.out.set0 (.slice A2 d.length c2)).set1 (.slice (some ⟨w3.heap.size, 0, none⟩) n n)
    obtain ⟨t0, t1, _, _⟩ := T.all
    refine bodyPost_ret (v := .agg #[.slice A2 d.length c2, .slice (some ⟨w3.heap.size, 0, none⟩) n n]) (by simp [results, Try.results84, go_sem, t0, t1]) rfl ?_
    have m3 := (M3.out.alloc (.cells (madeCells #[Value.int .i64 0] n) 2)).box S1.out.lt (.slice A2 d.length c2) (.slice (some ⟨w3.heap.size, 0, none⟩) n n)
    have hrow : (((w3.alloc (.cells (madeCells #[Value.int .i64 0] n) 2)).setCell ⟨w.heap.size, 0, none⟩ (.slice A2 d.length c2)).setCell ⟨w.heap.size, 1, none⟩ (.slice (some ⟨w3.heap.size, 0, none⟩) n n)).heap[w3.heap.size]? = some (.cells (cellsI (List.replicate n 0)) 2 (0, 0)) := by
      have hne : ¬ w3.heap.size = w.heap.size := by have := S3.out.lt; omega
      rw [Below.heap_setCell _ ⟨w.heap.size, 1, none⟩ _ _ hne, Below.heap_setCell _ ⟨w.heap.size, 0, none⟩ _ _ hne, ← cells_made]
      exact heap_alloc_new w3 _
    exact ⟨A2, c2, w3.heap.size, rfl, m3.mono H1.out.size, hrow, H3.out.size, (((H3.out.alloc H3.out.size _).setCell (Nat.le_refl _) _).setCell (Nat.le_refl _) _)⟩

/-- The boxes of two cells and of the answer. -/
theorem w2_all (w : World) (x y z t : Value) :
    Box (((w.alloc (.cells #[x, y] 25)).alloc (.cells #[z, t] 25)).alloc (.cells #[.slice none 0 0, .slice none 0 0] 25)) w.heap.size x y ∧
    Box (((w.alloc (.cells #[x, y] 25)).alloc (.cells #[z, t] 25)).alloc (.cells #[.slice none 0 0, .slice none 0 0] 25)) (w.heap.size + 1) z t ∧
    Box (((w.alloc (.cells #[x, y] 25)).alloc (.cells #[z, t] 25)).alloc (.cells #[.slice none 0 0, .slice none 0 0] 25)) (w.heap.size + 1 + 1) (.slice none 0 0) (.slice none 0 0) ∧
    Below w.heap.size w (((w.alloc (.cells #[x, y] 25)).alloc (.cells #[z, t] 25)).alloc (.cells #[.slice none 0 0, .slice none 0 0] 25)) := by
  have e1 : (w.alloc (.cells #[x, y] 25)).heap.size = w.heap.size + 1 := by simp
  have e2 : ((w.alloc (.cells #[x, y] 25)).alloc (.cells #[z, t] 25)).heap.size = w.heap.size + 1 + 1 := by simp
  refine ⟨((Box.new w x y).alloc _).alloc _, ?_, ?_, below_next (below_new w _) (below_next (below_new _ _) (below_new _ _))⟩
  · have := (Box.new (w.alloc (.cells #[x, y] 25)) z t).alloc (.cells #[.slice none 0 0, .slice none 0 0] 25)
    rw [e1] at this; exact this
  · have := Box.new ((w.alloc (.cells #[x, y] 25)).alloc (.cells #[z, t] 25)) (.slice none 0 0) (.slice none 0 0)
    rw [e2] at this; exact this
theorem sizeI_nat (d : List Int) (h : rightB d = true) : ∃ n : Nat, sizeI d = n ∧ n ≤ 64 := by
  obtain ⟨h3, hall, h64⟩ := rightB_all h
  have hp := (prod_bd d hall).1
  exact ⟨(prod d).toNat, by rw [sizeI_mk h3 hall h64]; omega, by omega⟩
/-- What Reshape answers. -/
def rsE (d v e u : List Int) : Int := if cellB d v.length = true ∧ cellB e u.length = true then (if d.length ≤ 1 then (if negB v = true then 5 else if rightB (lensL v) = true then 0 else 4) else 2) else 1
def rsD (d v e u : List Int) : List Int := if rsE d v e u = 0 then lensL v else []
def rsV (d v e u : List Int) : List Int := if rsE d v e u = 0 then (List.range (sizeI (lensL v)).toNat).map (cyc u) else []
section
variable {d v e u : List Int}
theorem rs_1 (h : cellB d v.length = false) : rsE d v e u = 1 ∧ rsD d v e u = [] ∧ rsV d v e u = [] := by simp [rsD, rsV, rsE, h]
theorem rs_2 (h : cellB e u.length = false) : rsE d v e u = 1 ∧ rsD d v e u = [] ∧ rsV d v e u = [] := by simp [rsD, rsV, rsE, h]
theorem rs_3 (h1 : cellB d v.length = true) (h2 : cellB e u.length = true) (h : ¬ d.length ≤ 1) : rsE d v e u = 2 ∧ rsD d v e u = [] ∧ rsV d v e u = [] := by simp [rsD, rsV, rsE, h, h1, h2]
theorem rs_4 (h1 : cellB d v.length = true) (h2 : cellB e u.length = true) (h3 : d.length ≤ 1) (h : negB v = true) : rsE d v e u = 5 ∧ rsD d v e u = [] ∧ rsV d v e u = [] := by simp [rsD, rsV, rsE, h, h1, h2, h3]
theorem rs_5 (h1 : cellB d v.length = true) (h2 : cellB e u.length = true) (h3 : d.length ≤ 1) (h4 : negB v = false) (h : rightB (lensL v) = false) : rsE d v e u = 4 ∧ rsD d v e u = [] ∧ rsV d v e u = [] := by simp [rsD, rsV, rsE, h, h1, h2, h3, h4]
theorem rs_6 (h1 : cellB d v.length = true) (h2 : cellB e u.length = true) (h3 : d.length ≤ 1) (h4 : negB v = false) (h : rightB (lensL v) = true) {n : Nat} (hn : sizeI (lensL v) = n) : rsE d v e u = 0 ∧ rsD d v e u = lensL v ∧ rsV d v e u = (List.range n).map (cyc u) := by simp [rsD, rsV, rsE, h, h1, h2, h3, h4, hn]
end
theorem cellB_small {d : List Int} {n : Nat} (h : cellB d n = true) : d.length ≤ 3 ∧ n ≤ 64 := by
  obtain ⟨h1, h2⟩ := cellB_parts h
  obtain ⟨m, hm, h64⟩ := sizeI_nat d h1
  exact ⟨(rightB_all h1).1, by omega⟩

set_option maxHeartbeats 8000000 in
set_option maxRecDepth 100000 in
theorem reshape_any (A : Option Addr) (c : Nat) (d : List Int) (B : Option Addr) (c2 : Nat) (v : List Int) (A' : Option Addr) (c' : Nat) (e : List Int) (B' : Option Addr) (c2' : Nat) (u : List Int) (w : World) (id : Ints w A d) (iv : Ints w B v) (ie : Ints w A' e) (iu : Ints w B' u) (hd : d.length ≤ 100) (hv : v.length ≤ 1000) (he : e.length ≤ 100) (hu : u.length ≤ 1000) :
    Calls Try.prog 18 #[.agg #[.slice A d.length c, .slice B v.length c2], .agg #[.slice A' e.length c', .slice B' u.length c2']] w (RetC w (rsD d v e u) (rsV d v e u) (.int .i64 (rsE d v e u))) := by
  by_cases h1 : cellB d v.length = true
  · by_cases h2 : cellB e u.length = true
    · by_cases h3 : d.length ≤ 1
      · by_cases h4 : negB v = true
        · obtain ⟨e1, e2, e3⟩ := rs_4 h1 h2 h3 h4
          rw [e1, e2, e3]
          have H1 := Lib.hid h1
          have H2 := Lib.hid h2
          have H4 := Lib.hid h4
          clear h1 h2 h4 e1 e2 e3
          obtain ⟨ba0, bb0, br0, hb0⟩ := w2_all w (.slice A d.length c) (.slice B v.length c2) (.slice A' e.length c') (.slice B' u.length c2')
          have BA := Lib.hid (ba0)
          have BB := Lib.hid (bb0)
          have BR := Lib.hid (br0)
          have L := Lib.hid (hb0)
          have ID := Lib.hid (id.below hb0)
          have IV := Lib.hid (iv.below hb0)
          have IE := Lib.hid (ie.below hb0)
          have IU := Lib.hid (iu.below hb0)
          clear ba0 bb0 br0 hb0 id iv ie iu
          go_enter Try.func18, Try.ntmps18
          go_wp2_with fail
          refine (cright_yes _ _ d _ _ _ _ (by unfold maxLen; omega) ID.out H1.out).mono ?_
          rintro r w1 ⟨rfl, hb⟩
          replace BA := Lib.hid (BA.out.next hb)
          replace BB := Lib.hid (BB.out.next hb)
          replace BR := Lib.hid (BR.out.next hb)
          replace L := Lib.hid (below_next L.out hb)
          replace ID := Lib.hid (ID.out.below hb)
          replace IV := Lib.hid (IV.out.below hb)
          replace IE := Lib.hid (IE.out.below hb)
          replace IU := Lib.hid (IU.out.below hb)
          clear hb
          obtain ⟨qBB0, qBB1, -, -⟩ := BB.out.all
          go_wp2_with fail
          refine (cright_yes _ _ e _ _ _ _ (by unfold maxLen; omega) IE.out H2.out).mono ?_
          rintro r w2 ⟨rfl, hb⟩
          clear qBB0 qBB1
          replace BA := Lib.hid (BA.out.next hb)
          replace BB := Lib.hid (BB.out.next hb)
          replace BR := Lib.hid (BR.out.next hb)
          replace L := Lib.hid (below_next L.out hb)
          replace ID := Lib.hid (ID.out.below hb)
          replace IV := Lib.hid (IV.out.below hb)
          replace IE := Lib.hid (IE.out.below hb)
          replace IU := Lib.hid (IU.out.below hb)
          clear hb
          obtain ⟨qBA0, qBA1, -, -⟩ := BA.out.all
          go_wp2_with fail
          refine (contains_b _ _ v true _ H4.out hv IV.out).mono ?_
          rintro r w3 ⟨rfl, hb⟩
          clear qBA0 qBA1
          replace BA := Lib.hid (BA.out.next hb)
          replace BB := Lib.hid (BB.out.next hb)
          replace BR := Lib.hid (BR.out.next hb)
          replace L := Lib.hid (below_next L.out hb)
          replace ID := Lib.hid (ID.out.below hb)
          replace IV := Lib.hid (IV.out.below hb)
          replace IE := Lib.hid (IE.out.below hb)
          replace IU := Lib.hid (IU.out.below hb)
          clear hb
          obtain ⟨qBR0, qBR1, fBR0, fBR1⟩ := BR.out.all
          go_wp2
          have T9 := (BR.out.set0 (.slice none 0 0)).set1 (.slice none 0 0)
          obtain ⟨t0, t1, _, _⟩ := T9.all
          refine bodyPost_ret (v := .tuple #[.agg #[.slice none 0 0, .slice none 0 0], .int .i64 5]) (by simp [results, Try.results18, go_sem, t0, t1]) rfl ?_
          exact ⟨_, rfl, IsCell.none _ _, (L.out.setCell (by simp; omega) _).setCell (by simp; omega) _⟩
        · have H4 := Lib.hid (show negB v = false by simpa using h4)
          by_cases h5 : rightB (lensL v) = true
          · obtain ⟨n, hn, hn64⟩ := sizeI_nat _ h5
            obtain ⟨e1, e2, e3⟩ := rs_6 h1 h2 h3 H4.out h5 hn
            rw [e1, e2, e3]
            have H1 := Lib.hid h1
            have H2 := Lib.hid h2
            have H5 := Lib.hid h5
            have H6 := Lib.hid hn
            have HLL := Lib.hid (show (lensL v).length = v.length by simp [lensL])
            clear h1 h2 h4 h5 hn e1 e2 e3
            obtain ⟨ba0, bb0, br0, hb0⟩ := w2_all w (.slice A d.length c) (.slice B v.length c2) (.slice A' e.length c') (.slice B' u.length c2')
            have BA := Lib.hid (ba0)
            have BB := Lib.hid (bb0)
            have BR := Lib.hid (br0)
            have L := Lib.hid (hb0)
            have ID := Lib.hid (id.below hb0)
            have IV := Lib.hid (iv.below hb0)
            have IE := Lib.hid (ie.below hb0)
            have IU := Lib.hid (iu.below hb0)
            clear ba0 bb0 br0 hb0 id iv ie iu
            go_enter Try.func18, Try.ntmps18
            go_wp2_with fail
            refine (cright_yes _ _ d _ _ _ _ (by unfold maxLen; omega) ID.out H1.out).mono ?_
            rintro r w1 ⟨rfl, hb⟩
            replace BA := Lib.hid (BA.out.next hb)
            replace BB := Lib.hid (BB.out.next hb)
            replace BR := Lib.hid (BR.out.next hb)
            replace L := Lib.hid (below_next L.out hb)
            replace ID := Lib.hid (ID.out.below hb)
            replace IV := Lib.hid (IV.out.below hb)
            replace IE := Lib.hid (IE.out.below hb)
            replace IU := Lib.hid (IU.out.below hb)
            clear hb
            obtain ⟨qBB0, qBB1, -, -⟩ := BB.out.all
            go_wp2_with fail
            refine (cright_yes _ _ e _ _ _ _ (by unfold maxLen; omega) IE.out H2.out).mono ?_
            rintro r w2 ⟨rfl, hb⟩
            clear qBB0 qBB1
            replace BA := Lib.hid (BA.out.next hb)
            replace BB := Lib.hid (BB.out.next hb)
            replace BR := Lib.hid (BR.out.next hb)
            replace L := Lib.hid (below_next L.out hb)
            replace ID := Lib.hid (ID.out.below hb)
            replace IV := Lib.hid (IV.out.below hb)
            replace IE := Lib.hid (IE.out.below hb)
            replace IU := Lib.hid (IU.out.below hb)
            clear hb
            obtain ⟨qBA0, qBA1, -, -⟩ := BA.out.all
            go_wp2_with fail
            refine (contains_b _ _ v false _ H4.out hv IV.out).mono ?_
            rintro r w3 ⟨rfl, hb⟩
            clear qBA0 qBA1
            replace BA := Lib.hid (BA.out.next hb)
            replace BB := Lib.hid (BB.out.next hb)
            replace BR := Lib.hid (BR.out.next hb)
            replace L := Lib.hid (below_next L.out hb)
            replace ID := Lib.hid (ID.out.below hb)
            replace IV := Lib.hid (IV.out.below hb)
            replace IE := Lib.hid (IE.out.below hb)
            replace IU := Lib.hid (IU.out.below hb)
            clear hb
            obtain ⟨qBA0, qBA1, -, -⟩ := BA.out.all
            go_wp2_with fail
            refine (lengths_any _ _ v _ hv IV.out).mono ?_
            rintro r w4 ⟨A4, c4, rfl, hm, hb⟩
            clear qBA0 qBA1
            replace BA := Lib.hid (BA.out.next hb)
            replace BB := Lib.hid (BB.out.next hb)
            replace BR := Lib.hid (BR.out.next hb)
            replace L := Lib.hid (below_next L.out hb)
            replace ID := Lib.hid (ID.out.below hb)
            replace IV := Lib.hid (IV.out.below hb)
            replace IE := Lib.hid (IE.out.below hb)
            replace IU := Lib.hid (IU.out.below hb)
            clear hb
            have M4 := Lib.hid (hm)
            clear hm
            generalize hLV : lensL v = ll at *
            have hll : ll.length ≤ 1000 := by rw [HLL.out]; exact hv
            clear hLV
            go_wp2_with fail
            refine (right_yes _ _ ll _ H5.out (by unfold maxLen; omega) M4.out.ints').mono ?_
            rintro r w5 ⟨rfl, hb⟩
            replace BA := Lib.hid (BA.out.next hb)
            replace BB := Lib.hid (BB.out.next hb)
            replace BR := Lib.hid (BR.out.next hb)
            replace L := Lib.hid (below_next L.out hb)
            replace ID := Lib.hid (ID.out.below hb)
            replace IV := Lib.hid (IV.out.below hb)
            replace IE := Lib.hid (IE.out.below hb)
            replace IU := Lib.hid (IU.out.below hb)
            replace M4 := Lib.hid (M4.out.below hb (Nat.le_refl _))
            clear hb
            obtain ⟨qBB0, qBB1, -, -⟩ := BB.out.all
            have HG := Lib.hid BR.out.lt
            have HL := Lib.hid L.out.size
            have hl3 : ll.length ≤ 3 := (rightB_all H5.out).1
            go_wp2_with fail
            refine (filled_any _ _ ll _ _ u n _ (by omega) hu M4.out.ints' IU.out H5.out H6.out).mono ?_
            rintro r w6 ⟨x, rfl, ⟨A6, c6, B6, e6, rfl, j1, j2, j3⟩, hb⟩
            clear qBB0 qBB1
            replace BA := Lib.hid (BA.out.next hb)
            replace BB := Lib.hid (BB.out.next hb)
            replace BR := Lib.hid (BR.out.next hb)
            replace L := Lib.hid (below_next L.out hb)
            replace ID := Lib.hid (ID.out.below hb)
            replace IV := Lib.hid (IV.out.below hb)
            replace IE := Lib.hid (IE.out.below hb)
            replace IU := Lib.hid (IU.out.below hb)
            replace M4 := Lib.hid (M4.out.below hb (Nat.le_refl _))
            clear hb
            have J := Lib.hid (show IsCell w6 w5.heap.size ll ((List.range n).map (cyc u)) (.agg #[.slice A6 ll.length c6, .slice B6 ((List.range n).map (cyc u)).length e6]) from ⟨A6, c6, B6, e6, rfl, j1, j2, j3⟩)
            clear j1 j2 j3
            generalize (List.range n).map (cyc u) = V at *
            obtain ⟨qBR0, qBR1, fBR0, fBR1⟩ := BR.out.all
            go_wp2
            have T9 := (BR.out.set0 (.slice A6 ll.length c6)).set1 (.slice B6 V.length e6)
            obtain ⟨t0, t1, _, _⟩ := T9.all
            refine bodyPost_ret (v := .tuple #[.agg #[.slice A6 ll.length c6, .slice B6 V.length e6], .int .i64 0]) (by simp [results, Try.results18, go_sem, t0, t1]) rfl ?_
            exact ⟨_, rfl, (J.out.set2 HG.out _ _).mono HL.out, (L.out.setCell (by simp; omega) _).setCell (by simp; omega) _⟩
          · have H5 := Lib.hid (show rightB (lensL v) = false by simpa using h5)
            obtain ⟨e1, e2, e3⟩ := rs_5 h1 h2 h3 H4.out H5.out
            rw [e1, e2, e3]
            have H1 := Lib.hid h1
            have H2 := Lib.hid h2
            have HLL := Lib.hid (show (lensL v).length = v.length by simp [lensL])
            clear h1 h2 h4 h5 e1 e2 e3
            obtain ⟨ba0, bb0, br0, hb0⟩ := w2_all w (.slice A d.length c) (.slice B v.length c2) (.slice A' e.length c') (.slice B' u.length c2')
            have BA := Lib.hid (ba0)
            have BB := Lib.hid (bb0)
            have BR := Lib.hid (br0)
            have L := Lib.hid (hb0)
            have ID := Lib.hid (id.below hb0)
            have IV := Lib.hid (iv.below hb0)
            have IE := Lib.hid (ie.below hb0)
            have IU := Lib.hid (iu.below hb0)
            clear ba0 bb0 br0 hb0 id iv ie iu
            go_enter Try.func18, Try.ntmps18
            go_wp2_with fail
            refine (cright_yes _ _ d _ _ _ _ (by unfold maxLen; omega) ID.out H1.out).mono ?_
            rintro r w1 ⟨rfl, hb⟩
            replace BA := Lib.hid (BA.out.next hb)
            replace BB := Lib.hid (BB.out.next hb)
            replace BR := Lib.hid (BR.out.next hb)
            replace L := Lib.hid (below_next L.out hb)
            replace ID := Lib.hid (ID.out.below hb)
            replace IV := Lib.hid (IV.out.below hb)
            replace IE := Lib.hid (IE.out.below hb)
            replace IU := Lib.hid (IU.out.below hb)
            clear hb
            obtain ⟨qBB0, qBB1, -, -⟩ := BB.out.all
            go_wp2_with fail
            refine (cright_yes _ _ e _ _ _ _ (by unfold maxLen; omega) IE.out H2.out).mono ?_
            rintro r w2 ⟨rfl, hb⟩
            clear qBB0 qBB1
            replace BA := Lib.hid (BA.out.next hb)
            replace BB := Lib.hid (BB.out.next hb)
            replace BR := Lib.hid (BR.out.next hb)
            replace L := Lib.hid (below_next L.out hb)
            replace ID := Lib.hid (ID.out.below hb)
            replace IV := Lib.hid (IV.out.below hb)
            replace IE := Lib.hid (IE.out.below hb)
            replace IU := Lib.hid (IU.out.below hb)
            clear hb
            obtain ⟨qBA0, qBA1, -, -⟩ := BA.out.all
            go_wp2_with fail
            refine (contains_b _ _ v false _ H4.out hv IV.out).mono ?_
            rintro r w3 ⟨rfl, hb⟩
            clear qBA0 qBA1
            replace BA := Lib.hid (BA.out.next hb)
            replace BB := Lib.hid (BB.out.next hb)
            replace BR := Lib.hid (BR.out.next hb)
            replace L := Lib.hid (below_next L.out hb)
            replace ID := Lib.hid (ID.out.below hb)
            replace IV := Lib.hid (IV.out.below hb)
            replace IE := Lib.hid (IE.out.below hb)
            replace IU := Lib.hid (IU.out.below hb)
            clear hb
            obtain ⟨qBA0, qBA1, -, -⟩ := BA.out.all
            go_wp2_with fail
            refine (lengths_any _ _ v _ hv IV.out).mono ?_
            rintro r w4 ⟨A4, c4, rfl, hm, hb⟩
            clear qBA0 qBA1
            replace BA := Lib.hid (BA.out.next hb)
            replace BB := Lib.hid (BB.out.next hb)
            replace BR := Lib.hid (BR.out.next hb)
            replace L := Lib.hid (below_next L.out hb)
            replace ID := Lib.hid (ID.out.below hb)
            replace IV := Lib.hid (IV.out.below hb)
            replace IE := Lib.hid (IE.out.below hb)
            replace IU := Lib.hid (IU.out.below hb)
            clear hb
            have M4 := Lib.hid (hm)
            clear hm
            generalize hLV : lensL v = ll at *
            have hll : ll.length ≤ 1000 := by rw [HLL.out]; exact hv
            clear hLV
            go_wp2_with fail
            refine (right_no _ _ ll _ H5.out (by unfold maxLen; omega) M4.out.ints').mono ?_
            rintro r w5 ⟨rfl, hb⟩
            replace BA := Lib.hid (BA.out.next hb)
            replace BB := Lib.hid (BB.out.next hb)
            replace BR := Lib.hid (BR.out.next hb)
            replace L := Lib.hid (below_next L.out hb)
            replace ID := Lib.hid (ID.out.below hb)
            replace IV := Lib.hid (IV.out.below hb)
            replace IE := Lib.hid (IE.out.below hb)
            replace IU := Lib.hid (IU.out.below hb)
            replace M4 := Lib.hid (M4.out.below hb (Nat.le_refl _))
            clear hb
            obtain ⟨qBR0, qBR1, fBR0, fBR1⟩ := BR.out.all
            go_wp2
            have T9 := (BR.out.set0 (.slice none 0 0)).set1 (.slice none 0 0)
            obtain ⟨t0, t1, _, _⟩ := T9.all
            refine bodyPost_ret (v := .tuple #[.agg #[.slice none 0 0, .slice none 0 0], .int .i64 4]) (by simp [results, Try.results18, go_sem, t0, t1]) rfl ?_
            exact ⟨_, rfl, IsCell.none _ _, (L.out.setCell (by simp; omega) _).setCell (by simp; omega) _⟩
      · obtain ⟨e1, e2, e3⟩ := rs_3 h1 h2 h3
        rw [e1, e2, e3]
        have h3' : 1 < d.length := by omega
        have H1 := Lib.hid h1
        have H2 := Lib.hid h2
        clear h1 h2 h3 e1 e2 e3
        obtain ⟨ba0, bb0, br0, hb0⟩ := w2_all w (.slice A d.length c) (.slice B v.length c2) (.slice A' e.length c') (.slice B' u.length c2')
        have BA := Lib.hid (ba0)
        have BB := Lib.hid (bb0)
        have BR := Lib.hid (br0)
        have L := Lib.hid (hb0)
        have ID := Lib.hid (id.below hb0)
        have IV := Lib.hid (iv.below hb0)
        have IE := Lib.hid (ie.below hb0)
        have IU := Lib.hid (iu.below hb0)
        clear ba0 bb0 br0 hb0 id iv ie iu
        go_enter Try.func18, Try.ntmps18
        go_wp2_with fail
        refine (cright_yes _ _ d _ _ _ _ (by unfold maxLen; omega) ID.out H1.out).mono ?_
        rintro r w1 ⟨rfl, hb⟩
        replace BA := Lib.hid (BA.out.next hb)
        replace BB := Lib.hid (BB.out.next hb)
        replace BR := Lib.hid (BR.out.next hb)
        replace L := Lib.hid (below_next L.out hb)
        replace ID := Lib.hid (ID.out.below hb)
        replace IV := Lib.hid (IV.out.below hb)
        replace IE := Lib.hid (IE.out.below hb)
        replace IU := Lib.hid (IU.out.below hb)
        clear hb
        obtain ⟨qBB0, qBB1, -, -⟩ := BB.out.all
        go_wp2_with fail
        refine (cright_yes _ _ e _ _ _ _ (by unfold maxLen; omega) IE.out H2.out).mono ?_
        rintro r w2 ⟨rfl, hb⟩
        clear qBB0 qBB1
        replace BA := Lib.hid (BA.out.next hb)
        replace BB := Lib.hid (BB.out.next hb)
        replace BR := Lib.hid (BR.out.next hb)
        replace L := Lib.hid (below_next L.out hb)
        replace ID := Lib.hid (ID.out.below hb)
        replace IV := Lib.hid (IV.out.below hb)
        replace IE := Lib.hid (IE.out.below hb)
        replace IU := Lib.hid (IU.out.below hb)
        clear hb
        obtain ⟨qBA0, qBA1, -, -⟩ := BA.out.all
        clear qBA0 qBA1
        obtain ⟨qBA0, qBA1, fBA0, fBA1⟩ := BA.out.all
        obtain ⟨qBR0, qBR1, fBR0, fBR1⟩ := BR.out.all
        go_wp2
        have T9 := (BR.out.set0 (.slice none 0 0)).set1 (.slice none 0 0)
        obtain ⟨t0, t1, _, _⟩ := T9.all
        refine bodyPost_ret (v := .tuple #[.agg #[.slice none 0 0, .slice none 0 0], .int .i64 2]) (by simp [results, Try.results18, go_sem, t0, t1]) rfl ?_
        exact ⟨_, rfl, IsCell.none _ _, (L.out.setCell (by simp; omega) _).setCell (by simp; omega) _⟩
    · have H2 := Lib.hid (show cellB e u.length = false by simpa using h2)
      obtain ⟨e1, e2, e3⟩ := rs_2 (d := d) (v := v) H2.out
      rw [e1, e2, e3]
      have H1 := Lib.hid h1
      clear h1 h2 e1 e2 e3
      obtain ⟨ba0, bb0, br0, hb0⟩ := w2_all w (.slice A d.length c) (.slice B v.length c2) (.slice A' e.length c') (.slice B' u.length c2')
      have BA := Lib.hid (ba0)
      have BB := Lib.hid (bb0)
      have BR := Lib.hid (br0)
      have L := Lib.hid (hb0)
      have ID := Lib.hid (id.below hb0)
      have IV := Lib.hid (iv.below hb0)
      have IE := Lib.hid (ie.below hb0)
      have IU := Lib.hid (iu.below hb0)
      clear ba0 bb0 br0 hb0 id iv ie iu
      go_enter Try.func18, Try.ntmps18
      go_wp2_with fail
      refine (cright_yes _ _ d _ _ _ _ (by unfold maxLen; omega) ID.out H1.out).mono ?_
      rintro r w1 ⟨rfl, hb⟩
      replace BA := Lib.hid (BA.out.next hb)
      replace BB := Lib.hid (BB.out.next hb)
      replace BR := Lib.hid (BR.out.next hb)
      replace L := Lib.hid (below_next L.out hb)
      replace ID := Lib.hid (ID.out.below hb)
      replace IV := Lib.hid (IV.out.below hb)
      replace IE := Lib.hid (IE.out.below hb)
      replace IU := Lib.hid (IU.out.below hb)
      clear hb
      obtain ⟨qBB0, qBB1, -, -⟩ := BB.out.all
      go_wp2_with fail
      refine (cright_no _ _ e _ _ _ _ (by unfold maxLen; omega) IE.out H2.out).mono ?_
      rintro r w2 ⟨rfl, hb⟩
      clear qBB0 qBB1
      replace BA := Lib.hid (BA.out.next hb)
      replace BB := Lib.hid (BB.out.next hb)
      replace BR := Lib.hid (BR.out.next hb)
      replace L := Lib.hid (below_next L.out hb)
      replace ID := Lib.hid (ID.out.below hb)
      replace IV := Lib.hid (IV.out.below hb)
      replace IE := Lib.hid (IE.out.below hb)
      replace IU := Lib.hid (IU.out.below hb)
      clear hb
      obtain ⟨qBR0, qBR1, fBR0, fBR1⟩ := BR.out.all
      go_wp2
      have T9 := (BR.out.set0 (.slice none 0 0)).set1 (.slice none 0 0)
      obtain ⟨t0, t1, _, _⟩ := T9.all
      refine bodyPost_ret (v := .tuple #[.agg #[.slice none 0 0, .slice none 0 0], .int .i64 1]) (by simp [results, Try.results18, go_sem, t0, t1]) rfl ?_
      exact ⟨_, rfl, IsCell.none _ _, (L.out.setCell (by simp; omega) _).setCell (by simp; omega) _⟩
  · have H1 := Lib.hid (show cellB d v.length = false by simpa using h1)
    obtain ⟨e1, e2, e3⟩ := rs_1 (e := e) (u := u) H1.out
    rw [e1, e2, e3]
    clear h1 e1 e2 e3
    obtain ⟨ba0, bb0, br0, hb0⟩ := w2_all w (.slice A d.length c) (.slice B v.length c2) (.slice A' e.length c') (.slice B' u.length c2')
    have BA := Lib.hid (ba0)
    have BB := Lib.hid (bb0)
    have BR := Lib.hid (br0)
    have L := Lib.hid (hb0)
    have ID := Lib.hid (id.below hb0)
    have IV := Lib.hid (iv.below hb0)
    have IE := Lib.hid (ie.below hb0)
    have IU := Lib.hid (iu.below hb0)
    clear ba0 bb0 br0 hb0 id iv ie iu
    go_enter Try.func18, Try.ntmps18
    go_wp2_with fail
    refine (cright_no _ _ d _ _ _ _ (by unfold maxLen; omega) ID.out H1.out).mono ?_
    rintro r w1 ⟨rfl, hb⟩
    replace BA := Lib.hid (BA.out.next hb)
    replace BB := Lib.hid (BB.out.next hb)
    replace BR := Lib.hid (BR.out.next hb)
    replace L := Lib.hid (below_next L.out hb)
    replace ID := Lib.hid (ID.out.below hb)
    replace IV := Lib.hid (IV.out.below hb)
    replace IE := Lib.hid (IE.out.below hb)
    replace IU := Lib.hid (IU.out.below hb)
    clear hb
    obtain ⟨qBR0, qBR1, fBR0, fBR1⟩ := BR.out.all
    go_wp2
    have T9 := (BR.out.set0 (.slice none 0 0)).set1 (.slice none 0 0)
    obtain ⟨t0, t1, _, _⟩ := T9.all
    refine bodyPost_ret (v := .tuple #[.agg #[.slice none 0 0, .slice none 0 0], .int .i64 1]) (by simp [results, Try.results18, go_sem, t0, t1]) rfl ?_
    exact ⟨_, rfl, IsCell.none _ _, (L.out.setCell (by simp; omega) _).setCell (by simp; omega) _⟩
end Go.Proofs.Ytfnpdflapmbnjaa.Sh
-- MoRResh
namespace Go.Proofs.Ytfnpdflapmbnjaa.Sh
open Go.RowKit
set_option linter.unusedVariables false

theorem lens_take {v : List Int} {k : Nat} (hk : k < v.length) : lensL (v.take (k + 1)) = lensL (v.take k) ++ [len65 (v.getD k 0)] := by unfold lensL; rw [take_snoc v k hk]; simp
theorem one_newI (w : World) (x : Int) : Ints (w.alloc (.cells #[.int .i64 x] 3)) (some ⟨w.heap.size, 0, none⟩) [x] := (MineT.new 3 w [x] 0 (Nat.zero_le _) (by unfold maxLen; simp)).ints'
theorem below_grown {a b c : World} {r : Option Nat} (h : Below a.heap.size a b) (k : b.grownBy c r) (hr : ∀ g, r = some g → a.heap.size ≤ g) : Below a.heap.size a c := h.grown k h.size hr
theorem keep_set {W : World} {g k b o : Nat} {x y : Value} (h : W.cell? ⟨b, o, none⟩ = some y) (hne : b ≠ g) : (W.setCell ⟨g, k, none⟩ x).drew.cell? ⟨b, o, none⟩ = some y :=
  (World.cell?_setCell_other W ⟨g, k, none⟩ ⟨b, o, none⟩ x (fun e => by injection e with e1; omega)).trans h
theorem emod_nat {k n : Nat} (hn : 0 < n) : ((k : Int) % (n : Int)) = ((k % n : Nat) : Int) := (Int.natCast_emod k n).symm

end Go.Proofs.Ytfnpdflapmbnjaa.Sh
-- MoRep
namespace Go.Proofs.Ytfnpdflapmbnjaa.Sh
open Go.RowKit
set_option linter.unusedVariables false

def mulHi (p : Int) : Int := IntKind.u64.wrap (IntKind.u64.wrap (IntKind.u64.wrap (IntKind.u64.wrap (bits .and .u64 1 4294967295 * bits .and .u64 p 4294967295) / 4294967296) / 4294967296) + IntKind.u64.wrap (bits .and .u64 (IntKind.u64.wrap (IntKind.u64.wrap (bits .and .u64 1 4294967295 * bits .and .u64 p 4294967295) / 4294967296)) 4294967295 + IntKind.u64.wrap (bits .and .u64 1 4294967295 * (p / 4294967296))) / 4294967296)
theorem mulHi_0 : ∀ p : Fin 65, mulHi ((p.val : Nat) : Int) = 0 := by decide +kernel
set_option maxHeartbeats 1000000 in
theorem mul64_one (p : Nat) (w : World) (hp : p ≤ 64) : Calls Try.prog 101 #[.int .u64 1, .int .u64 (p : Int)] w fun e w' => e = .returned (.tuple #[.int .u64 0, .int .u64 (p : Int)]) ∧ w = w' := by
  go_enter Try.func101, Try.ntmps101
  go_wp2
  go_ret2
  refine ⟨?_, rfl⟩
  show Ending.returned (.tuple #[.int .u64 (mulHi (p : Int)), .int .u64 (p : Int)]) = _
  rw [mulHi_0 ⟨p, by omega⟩]
set_option maxHeartbeats 1000000 in
theorem mul_one (p : Nat) (w : World) (hp : p ≤ 64) : Calls Try.prog 93 #[.int .u64 1, .int .u64 (p : Int)] w fun e w' => e = .returned (.tuple #[.int .u64 0, .int .u64 (p : Int)]) ∧ w = w' := by
  go_enter Try.func93, Try.ntmps93
  go_wp2_with fail
  refine (mul64_one p _ hp).mono ?_
  rintro r w1 ⟨rfl, rfl⟩
  go_wp2
  go_ret2
  exact ⟨rfl, rfl⟩

/-- Block g is just these numbers, of this type. -/
def RowT (t : TypeId) (w : World) (g : Nat) (xs : List Int) : Prop := w.heap[g]? = some (.cells (cellsI xs) t (0, 0))
theorem run_copyT {sl el ty : TypeId} (hinf : NumT el) (ht : Try.prog.underlying sl = some (.slice el)) {w : World} {g off : Nat} {cur ys : List Int} {dp A : Option Addr} {s c c' q : Nat} (hg : RowT el w g cur) (hq : q = Nat.min ys.length s) (hdp : 0 < s → dp = some ⟨g, off, none⟩) (hy : Ints w A ys) (hf : off + s ≤ cur.length) :
    ∃ w', (Builtin.copy_ #[sl, sl] ty #[.slice dp s c, .slice A ys.length c']).run Try.prog w = .ok (goInt q) w' ∧ RowT el w' g (splice cur off (ys.take q)) ∧ w.grownBy w' (some g) := by
  have hsz : (Try.prog.info? el).map (·.size) = some 1 := by
    unfold NumT at hinf
    obtain ⟨i, hi, hz⟩ := Option.map_eq_some_iff.1 hinf
    simp only [Prod.mk.injEq] at hz
    rw [hi]; simp [hz.2.1]
  have hq1 : q ≤ ys.length := by rw [hq]; exact Nat.min_le_left _ _
  have hq2 : q ≤ s := by rw [hq]; exact Nat.min_le_right _ _
  rcases Nat.eq_zero_or_pos q with h0 | h0
  · have hr := run_copy_none (P := Try.prog) w sl sl ty el dp A s c ys.length c' ht hsz (by rw [← hq]; exact h0)
    subst h0
    exact ⟨w, hr, by simpa [splice] using hg, World.grownBy.refl w _⟩
  · obtain ⟨b, o, rfl, hb, hcs⟩ := hy (by omega)
    have hd := hdp (by omega)
    subst hd
    have hlen : ((ys.take q).map (Value.int .i64)).length = q := by simp; omega
    have hrun := run_copy_row (P := Try.prog) w sl sl ty el g off s c ⟨b, o, none⟩ ys.length c' (cellsI cur) el ((ys.take q).map (Value.int .i64)) ht hsz hg (by rw [hlen, hq])
      (fun j v hj => by
        have hjl : j < q := by
          have := (List.getElem?_eq_some_iff.1 hj).1
          rw [hlen] at this; exact this
        rw [Go.WideShapes.add_plain, hcs j (by omega)]
        rw [List.getElem?_map, List.getElem?_take_of_lt hjl, List.getElem?_eq_getElem (by omega)] at hj
        simp at hj
        simp [List.getD, show j < ys.length by omega, hj]) (by rw [hlen]; simp only [cellsI]; simp; omega) (fun v hv => by obtain ⟨y, _, rfl⟩ := List.mem_map.1 hv; rfl)
    rw [hlen] at hrun
    refine ⟨_, hrun, ?_, ?_⟩
    · unfold RowT
      rw [setRow_heap w g _ _ el _ hg]
      have hq3 : min q ys.length = q := by omega
      simp [cellsI, splice, hq3]
    · exact ⟨rfl, rfl, rfl, by simp [World.setRow], fun i hi hne => setRow_other w g i _ (fun e => hne (by rw [e]))⟩
theorem wpList_copyT {sl el : TypeId} (hinf : NumT el) (ht : Try.prog.underlying sl = some (.slice el)) {w : World} {ops : Array Oper} {rest : List Oper} {o : Oper} {a : Act} {Q : Exit → Act → World → Prop} (hgd : o.guard = none) (d x : Operand)
    (ho : o.op = .call { callee := .builtin .copy, args := #[d, x], argTypes := #[sl, sl] })
    (g off : Nat) (cur ys : List Int) (dp A : Option Addr) (s c c' q : Nat) (hd : a.eval d = .slice dp s c) (hx : a.eval x = .slice A ys.length c') (hg : RowT el w g cur) (hq : q = Nat.min ys.length s) (hdp : 0 < s → dp = some ⟨g, off, none⟩) (hy : Ints w A ys) (hf : off + s ≤ cur.length)
    (h : ∀ w', RowT el w' g (splice cur off (ys.take q)) → w.grownBy w' (some g) → wpList Try.prog ops Q rest (a.put o.dst (goInt q)) w') : wpList Try.prog ops Q (o :: rest) a w := by
  refine wpList_plain hgd fun K hK => ?_
  obtain ⟨w', hrun, h1, h2⟩ := run_copyT (ty := o.type) (c := c) (c' := c') hinf ht hg hq hdp hy hf
  unfold Oper.wp execOp
  simp only [ho, resolve, invoke, builtin, Sem.run_bind, Sem.run_pure, Result.andThen_ok, List.map_toArray, List.map_cons, List.map_nil, hd, hx, hrun]
  exact hK _ _ (h w' h1 h2)
theorem step_copyT {sl el : TypeId} (hinf : NumT el) (ht : Try.prog.underlying sl = some (.slice el)) {w : World} {ops : Array Oper} {o : Oper} {a : Act} {K : Act → World → Prop} {Q : Exit → Act → World → Prop} {E : Prop} (hgd : o.guard = none) (d x : Operand)
    (ho : o.op = .call { callee := .builtin .copy, args := #[d, x], argTypes := #[sl, sl] })
    (g off : Nat) (cur ys : List Int) (dp A : Option Addr) (s c c' q : Nat) (hd : a.eval d = .slice dp s c) (hx : a.eval x = .slice A ys.length c') (hg : RowT el w g cur) (hq : q = Nat.min ys.length s) (hdp : 0 < s → dp = some ⟨g, off, none⟩) (hy : Ints w A ys) (hf : off + s ≤ cur.length)
    (h : ∀ w', RowT el w' g (splice cur off (ys.take q)) → w.grownBy w' (some g) → K (a.put o.dst (goInt q)) w') :
    if Region.wanted o (yielded ops a.tmps) = true then Oper.wp Try.prog o a w K Q else E := by
  have hw : Region.wanted o (yielded ops a.tmps) = true := by simp [Region.wanted, hgd]
  rw [if_pos hw]
  obtain ⟨w', hrun, h1, h2⟩ := run_copyT (ty := o.type) (c := c) (c' := c') hinf ht hg hq hdp hy hf
  unfold Oper.wp execOp
  simp only [ho, resolve, invoke, builtin, Sem.run_bind, Sem.run_pure, Result.andThen_ok, List.map_toArray, List.map_cons, List.map_nil, hd, hx, hrun]
  exact h w' h1 h2
theorem const_step {t : Int} {p m q : Nat} (h : m + q ≤ p) (ys : List Int) (hy : ys = List.replicate q t) : splice (fillK (fun _ => t) p m) m ys = fillK (fun _ => t) p (m + q) := by
  subst hy
  apply List.ext_getElem
  · rw [length_splice _ _ _ (by rw [fillK_length]; simp; omega), fillK_length, fillK_length]
  · intro i h1 h2
    rw [fillK_length] at h2
    have e0 : (fillK (fun _ => t) p (m + q))[i]? = some (if i < m + q then t else 0) := by simp [fillK, h2]
    have e1 : (splice (fillK (fun _ => t) p m) m (List.replicate q t))[i]? = some (if i < m + q then t else 0) := by
      unfold splice
      by_cases c1 : i < m
      · rw [List.getElem?_append_left (by simp [fillK]; omega), List.getElem?_take_of_lt c1]
        simp [fillK, h2, c1, show i < m + q by omega]
      · have lt1 : (List.take m (fillK (fun _ => t) p m)).length = m := by simp [fillK]; omega
        rw [List.getElem?_append_right (by rw [lt1]; omega), lt1]
        by_cases c2 : i < m + q
        · rw [List.getElem?_append_left (by simp; omega), if_pos c2]
          simp [show i - m < q by omega]
        · rw [List.getElem?_append_right (by simp; omega), List.length_replicate, List.getElem?_drop]
          have : m + q + (i - m - q) = i := by omega
          rw [this, if_neg c2]
          simp [fillK, h2, c1]
    have := e1.trans e0.symm
    rw [List.getElem?_eq_getElem h1, List.getElem?_eq_getElem (by rw [fillK_length]; exact h2)] at this
    exact Option.some.inj this
theorem const_take {t : Int} {p m q : Nat} (hq : q ≤ m) (hm : m ≤ p) : ((fillK (fun _ => t) p m).take m).take q = List.replicate q t := by
  apply List.ext_getElem
  · simp [fillK]; omega
  · intro i h1 h2
    simp at h2
    simp [fillK, show i < m by omega]
theorem RowT.ints {t : TypeId} {w : World} {g : Nat} {xs : List Int} (h : RowT t w g xs) (hlt : g < w.heap.size) (m : Nat) (hm : m ≤ xs.length) : Ints w (some ⟨g, 0, none⟩) (xs.take m) := fun _ => ⟨g, 0, rfl, hlt, fun i hi => by
  rw [Nat.zero_add, cell_of_row w g i _ _ _ h]
  simp at hi
  simp [cellsI, List.getD, hi, show i < xs.length by omega]⟩
theorem RowT.lt {t : TypeId} {w : World} {g : Nat} {xs : List Int} (h : RowT t w g xs) : g < w.heap.size := by
  rcases Nat.lt_or_ge g w.heap.size with hlt | hge
  · exact hlt
  · unfold RowT at h; rw [Array.getElem?_eq_none hge] at h; cases h
set_option maxHeartbeats 2000000 in
theorem repeat_one (A : Option Addr) (c : Nat) (t : Int) (p : Nat) (w : World) (hp : p ≤ 64) (iv : Ints w A [t]) :
    Calls Try.prog 80 #[.slice A 1 c, .int .i64 (p : Int)] w (RetT 3 w (List.replicate p t)) := by
  have hmk := fun W => run_make_row' (P := Try.prog) 22 3 (.int .i64 0) 8 Try.underlying22 infoInt rfl .i64 .i64 p (by omega) (by omega) W
  have hL := Lib.hid (show Below w.heap.size w (w.alloc (.cells (madeCells #[Value.int .i64 0] p) 3)) from below_new _ _)
  have hO := Lib.hid (show RowT 3 (w.alloc (.cells (madeCells #[Value.int .i64 0] p) 3)) w.heap.size (fillK (fun _ => t) p 0) from by rw [fillK_0]; exact Own.made w p)
  have IV := Lib.hid (iv.below hL.out)
  obtain ⟨m0, hm0⟩ : ∃ m0, m0 = Nat.min 1 p := ⟨_, rfl⟩
  have hm1 : m0 ≤ 1 := by rw [hm0]; exact Nat.min_le_left _ _
  have hm2 : m0 ≤ p := by rw [hm0]; exact Nat.min_le_right _ _
  have hm3 : 0 < p → 0 < m0 := fun h => by rw [hm0]; exact Nat.lt_min.2 ⟨by omega, h⟩
  have HM0 := Lib.hid (show m0 = Nat.min ([t] : List Int).length p from hm0)
  have HM3 := Lib.hid hm3
  have HTK := Lib.hid (show ([t] : List Int).take m0 = List.replicate m0 t by rcases Nat.le_one_iff_eq_zero_or_eq_one.1 hm1 with h | h <;> subst h <;> rfl)
  clear iv hm0 hm3
  go_enter Try.func80, Try.ntmps80
  go_wp2_with fail
  refine (mul_one p _ hp).mono ?_
  rintro r w1 ⟨rfl, rfl⟩
  go_wp2_with (with_reducible refine wpList_copyT numI Try.underlying22 rfl (.tmp 31) (.tmp 32) rfl w.heap.size 0 (fillK (fun _ => t) p 0) [t] (some ⟨w.heap.size, 0, none⟩) A p p c m0 rfl (by simp [Act.eval]) hO.out HM0.out (fun _ => rfl) IV.out (by rw [fillK_length]; omega) ?_; intro w2 hr2 hg2)
  have R2 := Lib.hid (show RowT 3 w2 w.heap.size (fillK (fun _ => t) p m0) from by have h := hr2; rw [const_step (q := m0) (by omega) _ HTK.out, Nat.zero_add] at h; exact h)
  have L2 := Lib.hid (below_turned hL.out hg2 (Nat.le_refl _))
  clear hr2 hg2 hmk
  go_loopw [8] (fun j wr => ∃ m : Nat, m ≤ p ∧ (0 < p → 0 < m) ∧ j = .int .i64 (m : Int) ∧ RowT 3 wr w.heap.size (fillK (fun _ => t) p m) ∧ Below w.heap.size w wr) (fun j _ => p - (intOf j).toNat)
  case atStart => exact ⟨m0, hm2, HM3.out, rfl, R2.out, L2.out⟩
  case round =>
    obtain ⟨m, hm, hpos, rfl, hR, hB⟩ := hrel
    have RW := Lib.hid hR
    have LB := Lib.hid hB
    have HPOS := Lib.hid hpos
    clear hR hB hpos
    by_cases hlt : m < p
    · have hmp : 0 < m := HPOS.out (by omega)
      obtain ⟨q, hq⟩ : ∃ q, q = Nat.min m (p - m) := ⟨_, rfl⟩
      have hq1 : q ≤ m := by rw [hq]; exact Nat.min_le_left _ _
      have hq2 : q ≤ p - m := by rw [hq]; exact Nat.min_le_right _ _
      have hq3 : 0 < q := by rw [hq]; exact Nat.lt_min.2 ⟨hmp, by omega⟩
      have hlm : ((fillK (fun _ => t) p m).take m).length = m := by simp [fillK]; omega
      have HLM := Lib.hid hlm
      have HQ := Lib.hid (show q = Nat.min ((fillK (fun _ => t) p m).take m).length (p - m) by rw [hlm]; exact hq)
      have HC := Lib.hid (const_step (t := t) (show m + q ≤ p by omega) _ (const_take (t := t) hq1 hm))
      have IW := Lib.hid (RW.out.ints RW.out.lt m (by rw [fillK_length]; exact hm))
      have hff : m + (p - m) ≤ (fillK (fun _ => t) p m).length := by rw [fillK_length]; omega
      have HFF := Lib.hid hff
      have i0 : (0 : Int) ≤ (m : Int) := by omega
      have i1 : (m : Int) ≤ (p : Int) := by omega
      have i2 : (0 : Int) ≤ (q : Int) := by omega
      have i4 : ¬ p = m := by omega
      have RWd := Lib.hid (show RowT 3 wr.drew w.heap.size (fillK (fun _ => t) p m) from RW.out)
      have IWd := Lib.hid (show Ints wr.drew (some ⟨w.heap.size, 0, none⟩) ((fillK (fun _ => t) p m).take m) from IW.out)
      have hsum : (m : Int) + (q : Int) ≤ 64 := by omega
      clear hq hlm hff
      generalize (fillK (fun _ => t) p m).take m = ys at *
      have i3 : IntKind.i64.wrap ((m : Int) + (q : Int)) = (m : Int) + (q : Int) := IntWalk.i64_in _ (by omega)
      go_wp2_with fail
      go_region_held3 (fun w' => True)
        (trivial)
        (first
          | ((with_reducible refine step_copyT numI Try.underlying22 rfl (.tmp 41) (.tmp 44) rfl w.heap.size m (fillK (fun _ => t) p m) ys (some ⟨w.heap.size, m, none⟩) (some ⟨w.heap.size, 0, none⟩) (p - m) (p - m) p q (by simp [Act.eval]) (by simp [Act.eval, HLM.out]) RWd.out HQ.out (fun _ => rfl) IWd.out HFF.out ?_); intro w3 hr3 hg3))
      clear i3
      have R3 := Lib.hid (show RowT 3 w3 w.heap.size (fillK (fun _ => t) p (m + q)) from by rw [← HC.out]; exact hr3)
      have L3 := Lib.hid (below_turned LB.out.drew hg3 (Nat.le_refl _))
      clear hr3 hg3
      go_wp2
      go_roundw
      case rel => exact ⟨m + q, by omega, fun _ => by omega, by go_num, R3.out, L3.out⟩
      case measure => simp [intOf]; omega
    · obtain rfl : m = p := by omega
      go_wp2
      go_ret
      have hr := RW.out
      rw [fillK_n] at hr
      have hc : (List.range m).map (fun _ => t) = List.replicate m t := by
        apply List.ext_getElem
        · rw [List.length_map, List.length_range, List.length_replicate]
        · intro i h1 h2
          rw [List.getElem_map, List.getElem_replicate]
      rw [hc] at hr
      have hmm := Own.lens (w := wr) (g := w.heap.size) (xs := List.replicate m t) hr (base := w.heap.size) (Nat.le_refl _) (by simp; unfold maxLen; omega)
      rw [List.length_replicate] at hmm
      exact ⟨some ⟨w.heap.size, 0, none⟩, m, by rw [List.length_replicate]; rfl, by rw [List.length_replicate]; exact hmm, LB.out⟩
end Go.Proofs.Ytfnpdflapmbnjaa.Sh
-- MoParts
namespace Go.Proofs.Ytfnpdflapmbnjaa.Sh
open Go.RowKit
set_option linter.unusedVariables false

def listedL (e : List Int) : List Int := if e.length = 0 then [1] else e
theorem listed_any (A : Option Addr) (c : Nat) (e : List Int) (w : World) (he : e.length ≤ 1000) (ie : Ints w A e) :
    Calls Try.prog 36 #[.slice A e.length c] w (RetInts w (listedL e)) := by
  by_cases h : e.length = 0
  · have hl : listedL e = [1] := by simp [listedL, h]
    rw [hl]
    have X := Lib.hid (MineT.new 3 w [1] 0 (Nat.zero_le _) (by unfold maxLen; simp)).ints'
    have h0 : ((e.length : Int) == 0) = true := by simp [h]
    clear ie hl h
    go_enter Try.func36, Try.ntmps36
    go_wp2
    go_ret
    exact ⟨some ⟨w.heap.size, 0, none⟩, 1, rfl, X.out, below_new _ _⟩
  · have hl : listedL e = e := by simp only [listedL]; rw [if_neg h]
    rw [hl]
    have h0 : ((e.length : Int) == 0) = false := by simpa using h
    have X := Lib.hid ie
    clear ie hl h
    go_enter Try.func36, Try.ntmps36
    go_wp2
    go_ret
    exact ⟨A, c, rfl, X.out, Below.refl _ _⟩
/-- How often each part is copied. -/
def timesL (d v : List Int) (P : Nat) : List Int := if d.length = 0 then List.replicate P (len65 (v.getD 0 0)) else lensL v
set_option maxHeartbeats 1000000 in
theorem often_any (A : Option Addr) (c : Nat) (d : List Int) (B : Option Addr) (c2 : Nat) (v : List Int) (P : Nat) (w : World) (hd : d.length ≤ 100) (hv : v.length ≤ 1000) (iv : Ints w B v) (hP : P ≤ 64) (h1 : d.length = 0 → v.length = 1) :
    Calls Try.prog 39 #[.agg #[.slice A d.length c, .slice B v.length c2], .int .i64 (P : Int)] w (RetInts w (timesL d v P)) := by
  have hB : Below w.heap.size w (w.alloc (.cells #[.slice A d.length c, .slice B v.length c2] 25)) := below_new _ _
  have BA := Lib.hid (Box.new w (.slice A d.length c) (.slice B v.length c2))
  have IV := Lib.hid (iv.below hB)
  have L := Lib.hid hB
  clear iv hB
  by_cases h : d.length = 0
  · have hl : timesL d v P = List.replicate P (len65 (v.getD 0 0)) := by simp [timesL, h]
    have hv1 : lensL v = [len65 (v.getD 0 0)] := by
      have := h1 h
      match v, this with
      | [x], _ => rfl
    rw [hl]
    have h0 : ((d.length : Int) == 0) = true := by simp [h]
    have HV := Lib.hid hv1
    clear hl h h1 hv1
    generalize len65 (v.getD 0 0) = t at *
    go_enter Try.func39, Try.ntmps39
    go_wp2_with fail
    refine (lengths_any _ _ v _ hv IV.out).mono ?_
    rintro r w1 ⟨A1, c1, rfl, hm, hb⟩
    rw [HV.out] at hm
    have M1 := Lib.hid hm
    obtain ⟨q0, q1, -, -⟩ := (BA.out.next hb).all
    have L1 := Lib.hid (below_next L.out hb)
    clear hm hb
    rw [HV.out]
    go_wp2_with fail
    refine (repeat_one _ _ t P _ hP M1.out.ints').mono ?_
    rintro r w2 ⟨A2, c2', rfl, hm, hb⟩
    have M2 := Lib.hid hm.ints'
    have L2 := Lib.hid (below_next L1.out hb)
    clear hm hb
    go_wp2
    go_ret
    exact ⟨A2, c2', by rw [List.length_replicate]; rfl, M2.out, L2.out⟩
  · have hl : timesL d v P = lensL v := by simp only [timesL]; rw [if_neg h]
    rw [hl]
    have h0 : ((d.length : Int) == 0) = false := by simpa using h
    clear hl h h1
    go_enter Try.func39, Try.ntmps39
    go_wp2_with fail
    refine (lengths_any _ _ v _ hv IV.out).mono ?_
    rintro r w1 ⟨A1, c1, rfl, hm, hb⟩
    have M1 := Lib.hid hm.ints'
    obtain ⟨q0, q1, -, -⟩ := (BA.out.next hb).all
    have L1 := Lib.hid (below_next L.out hb)
    clear hm hb
    go_wp2
    go_ret
    exact ⟨A1, c1, rfl, M1.out, L1.out⟩

def sumL (l : List Int) : Int := l.foldl (· + ·) 0
theorem sumL_take {l : List Int} {k : Nat} (hk : k < l.length) : sumL (l.take (k + 1)) = sumL (l.take k) + l.getD k 0 := by unfold sumL; rw [take_snoc l k hk]; simp
/-- Numbers from 0 to 65. -/
def SmallT (l : List Int) : Prop := ∀ i, i < l.length → 0 ≤ l.getD i 0 ∧ l.getD i 0 ≤ 65
theorem sumL_bd {l : List Int} (h : SmallT l) (k : Nat) (hk : k ≤ l.length) : 0 ≤ sumL (l.take k) ∧ sumL (l.take k) ≤ 65 * k := by
  induction k with
  | zero => simp [sumL]
  | succ k ih =>
    have h1 := ih (by omega)
    have h2 := h k (by omega)
    rw [sumL_take (by omega)]
    omega
set_option maxHeartbeats 1000000 in
theorem total_any (A : Option Addr) (c : Nat) (l : List Int) (w : World) (hl : l.length ≤ 1000) (il : Ints w A l) (hs : SmallT l) :
    Calls Try.prog 42 #[.slice A l.length c] w fun e w' => e = .returned (.int .i64 (sumL l)) ∧ w = w' := by
  have IL := Lib.hid il
  have HS := Lib.hid hs
  clear il hs
  go_enter Try.func42, Try.ntmps42
  go_wp2
  go_loop [3, 8] (fun s j => ∃ k : Nat, k ≤ l.length ∧ j = .int .i64 (k : Int) ∧ s = .int .i64 (sumL (l.take k))) (fun _ j => l.length - (intOf j).toNat)
  case atStart => exact ⟨0, Nat.zero_le _, rfl, rfl⟩
  case round =>
    obtain ⟨k, hk, rfl, rfl⟩ := hrel
    have hbd := sumL_bd HS.out k hk
    by_cases hlt : k < l.length
    · obtain ⟨b, off, rfl, hb, hcs⟩ := IL.out (by omega)
      have hck := hcs k hlt
      have hxb := HS.out k hlt
      have i0 : (0 : Int) ≤ (k : Int) := by omega
      have i1 : (k : Int) < (l.length : Int) := by omega
      have HT := Lib.hid (sumL_take hlt)
      clear hcs
      generalize l.getD k 0 = y at *
      generalize sumL (l.take k) = s at *
      go_wp2
      go_round
      case rel => exact ⟨k + 1, by omega, by go_num, by rw [HT.out]⟩
      case measure => simp [intOf]; omega
    · obtain rfl : k = l.length := by omega
      rw [List.take_length]
      go_wp2
      go_ret
      exact ⟨rfl, rfl⟩
/-- A piece of a list, wherever it lies. -/
def RetPc (B : Option Addr) (u xs : List Int) (s : Nat) (w : World) (e : Ending) (w' : World) : Prop := ∃ A, e = .returned (.slice A s s) ∧ (∀ W, Ints W B u → Ints W A xs) ∧ w = w'
set_option maxHeartbeats 1000000 in
theorem mcut_any (B : Option Addr) (u : List Int) (c i s : Nat) (w : World) (hc : u.length ≤ c) (hcm : c ≤ 9223372036854775807) (hu : u.length ≤ 1000) (iu : Ints w B u) (h : (i + 1) * s ≤ u.length) (hs : 0 < s) :
    Calls Try.prog 60 #[.slice B u.length c, .int .i64 (i : Int), .int .i64 (s : Int)] w (RetPc B u (piece u i s) s w) := by
  have hin : i * s + s ≤ u.length := by rw [Nat.add_mul, Nat.one_mul] at h; exact h
  obtain ⟨b, off, rfl, hb, hcs⟩ := iu (by omega)
  have hi1 : i ≤ 1000 := by
    have : i * 1 ≤ i * s := Nat.mul_le_mul_left i hs
    omega
  have hs2 : s ≤ 1000 := by omega
  have hpl : (piece u i s).length = s := piece_length h
  have HI := Lib.hid (show ∀ W, Ints W (some ⟨b, off, none⟩) u → Ints W (some ⟨b, off + i * s, none⟩) (piece u i s) from fun W hW hp => by
    obtain ⟨b', o', e', hb', hc'⟩ := hW (by omega)
    injection e' with e'
    injection e' with e1 e2
    subst e1 e2
    refine ⟨b, off + i * s, rfl, hb', fun j hj => ?_⟩
    rw [hpl] at hj
    rw [Nat.add_assoc, hc' (i * s + j) (by omega)]
    simp [piece, List.getD, hj])
  have hne : ¬ (i + 1) * s = i * s := by rw [Nat.add_mul, Nat.one_mul]; omega
  have HQ := Lib.hid (show (i + 1) * s - i * s = s by rw [Nat.add_mul, Nat.one_mul]; omega)
  have g0 : (0 : Int) ≤ (i : Int) * (s : Int) := Int.mul_nonneg (by omega) (by omega)
  have g1 : (i : Int) * (s : Int) ≤ ((i : Int) + 1) * (s : Int) := Int.mul_le_mul_of_nonneg_right (by omega) (by omega)
  have g2 : ((i : Int) + 1) * (s : Int) ≤ c := by
    have : (((i + 1) * s : Nat) : Int) ≤ c := by omega
    simpa using this
  have g3 : ((i : Int) + 1) * (s : Int) ≤ 1000 := by
    have : (((i + 1) * s : Nat) : Int) ≤ 1000 := by omega
    simpa using this
  have hci : (i + 1) * s ≤ c := by omega
  clear h hin hcs iu hpl
  go_enter Try.func60, Try.ntmps60
  go_wp2
  go_ret
  exact ⟨some ⟨b, off + i * s, none⟩, ret_slice HQ.out rfl, HI.out, rfl⟩
end Go.Proofs.Ytfnpdflapmbnjaa.Sh
-- MoLayP
namespace Go.Proofs.Ytfnpdflapmbnjaa.Sh
open Go.RowKit
set_option linter.unusedVariables false

/-- How often the k-th part is copied. -/
def tk (T : List Int) (k : Nat) : Nat := (T.getD (k % T.length) 0).toNat
def tot (T : List Int) : Nat → Nat
  | 0 => 0
  | k + 1 => tot T k + tk T k
def cpL (u : List Int) (s : Nat) (T : List Int) : Nat → List Int
  | 0 => []
  | k + 1 => cpL u s T k ++ (List.replicate (tk T k) (piece u k s)).flatten
theorem tot_mono (T : List Int) {j k : Nat} (h : j ≤ k) : tot T j ≤ tot T k := by
  induction k with
  | zero => obtain rfl : j = 0 := by omega
            exact Nat.le_refl _
  | succ k ih =>
    rcases Nat.lt_or_ge j (k + 1) with h1 | h1
    · exact Nat.le_trans (ih (by omega)) (by simp [tot])
    · obtain rfl : j = k + 1 := by omega
      exact Nat.le_refl _
theorem flat_len (i : Nat) (p : List Int) : (List.replicate i p).flatten.length = i * p.length := by
  induction i with
  | zero => simp
  | succ i ih => rw [List.replicate_succ, List.flatten_cons, List.length_append, ih, Nat.add_mul, Nat.one_mul, Nat.add_comm]
theorem cpL_len {u : List Int} {s : Nat} (T : List Int) {k : Nat} (h : k * s ≤ u.length) : (cpL u s T k).length = tot T k * s := by
  induction k with
  | zero => simp [cpL, tot]
  | succ k ih =>
    have h1 : k * s ≤ u.length := by rw [Nat.add_mul, Nat.one_mul] at h; omega
    rw [cpL, List.length_append, ih h1, flat_len, piece_length h, tot, Nat.add_mul]
theorem flat_succ (i : Nat) (p : List Int) : (List.replicate (i + 1) p).flatten = (List.replicate i p).flatten ++ p := by
  rw [List.replicate_succ', List.flatten_append]; simp
theorem splice_tail {cur p : List Int} {m s q : Nat} (hp : p.length = s) (hs : s ≤ m) (hq : q = Nat.min p.length m) : splice (cur ++ List.replicate m 0) cur.length (p.take q) = (cur ++ p) ++ List.replicate (m - s) 0 := by
  have hq' : q = s := by rw [hq, hp]; exact Nat.min_eq_left hs
  rw [hq', List.take_of_length_le (by omega)]
  unfold splice
  rw [List.take_left, List.drop_append, hp]
  have : cur.length + s - cur.length = s := by omega
  rw [this, List.drop_eq_nil_of_le (by omega)]
  simp
/-- The rooms of a row: what is laid, noughts behind. -/
def LaySt (w wr : World) (g N : Nat) (v : Value) (cur : List Int) : Prop := ∃ m A, v = .slice A m m ∧ cur.length + m = N ∧ (0 < m → A = some ⟨g, cur.length, none⟩) ∧ Row64 wr g (cur ++ List.replicate m 0) ∧ w.grownBy wr (some g)
set_option maxHeartbeats 4000000 in
theorem layParts_any (g N K s : Nat) (B : Option Addr) (c2 : Nat) (u : List Int) (C : Option Addr) (c3 : Nat) (T : List Int) (w : World) (hs : 0 < s) (hK : u.length = K * s) (hu : u.length ≤ 64) (hc : u.length ≤ c2) (hcm : c2 ≤ maxLen) (hT : T.length ≤ 64) (hTs : SmallT T) (hT0 : 0 < K → 0 < T.length) (hN : tot T K * s = N) (hN64 : N ≤ 64)
    (hR : Row64 w g (List.replicate N 0)) (iu : ∀ wr, w.grownBy wr (some g) → Ints wr B u) (iT : ∀ wr, w.grownBy wr (some g) → Ints wr C T) :
    Calls Try.prog 43 #[.slice (some ⟨g, 0, none⟩) N N, .slice B u.length c2, .slice C T.length c3, .int .i64 (s : Int)] w fun e w' => e = .returned (.tuple #[]) ∧ Row64 w' g (cpL u s T K) ∧ w.grownBy w' (some g) := by
  have hKs : K ≤ 64 := by
    have : K * 1 ≤ K * s := Nat.mul_le_mul_left K hs
    omega
  have hs64 : s ≤ 64 ∨ K = 0 := by
    rcases Nat.eq_zero_or_pos K with h | h
    · right; exact h
    · left
      have : 1 * s ≤ K * s := Nat.mul_le_mul_right s h
      omega
  have HIU := Lib.hid iu
  have HIT := Lib.hid iT
  have HTS := Lib.hid hTs
  have HT0 := Lib.hid hT0
  have HN := Lib.hid hN
  have HR := Lib.hid hR
  have HK := Lib.hid hK
  have hcm' : c2 ≤ 9223372036854775807 := by unfold maxLen at hcm; omega
  have hq : (u.length : Int) / (s : Int) = (K : Int) := by
    rw [hK]
    rw [Int.natCast_mul, Int.mul_ediv_cancel _ (by omega)]
  have hz : ((s : Int) == 0) = false := by simp; omega
  have hz2 : ¬ s = 0 := by omega
  have i0 : (0 : Int) ≤ (s : Int) := by omega
  clear iu iT hTs hT0 hN hR hK hcm
  go_enter Try.func43, Try.ntmps43
  go_wp2
  clear hq
  go_loopw [0, 16] (fun v j wr => ∃ k : Nat, k ≤ K ∧ j = .int .i64 (k : Int) ∧ LaySt w wr g N v (cpL u s T k)) (fun _ j _ => K - (intOf j).toNat)
  case atStart => exact ⟨0, Nat.zero_le _, rfl, N, _, rfl, by simp [cpL], fun _ => rfl, by simpa [cpL] using HR.out, turned_refl _ _⟩
  case round =>
    obtain ⟨k, hk, rfl, m, Ar, rfl, hm, hA, hrw, hgr⟩ := hrel
    have HM := Lib.hid hm
    have HA := Lib.hid hA
    have RW := Lib.hid hrw
    have GR := Lib.hid hgr
    clear hm hA hrw hgr
    by_cases hlt : k < K
    · have hks : (k + 1) * s ≤ u.length := by rw [HK.out]; exact Nat.mul_le_mul_right s hlt
      have hks2 : k * s ≤ u.length := by rw [Nat.add_mul, Nat.one_mul] at hks; omega
      have hT1 : 0 < T.length := HT0.out (by omega)
      have hmod : k % T.length < T.length := Nat.mod_lt _ hT1
      have htb := HTS.out (k % T.length) hmod
      have HCL := Lib.hid (cpL_len T hks2)
      have HPL := Lib.hid (piece_length hks)
      have HTM := Lib.hid (show tot T k + tk T k ≤ tot T K from tot_mono T (j := k + 1) (by omega))
      obtain ⟨n, hn⟩ : ∃ n, tk T k = n := ⟨_, rfl⟩
      have htn : T.getD (k % T.length) 0 = (n : Int) := by unfold tk at hn; omega
      have HSU := Lib.hid (show cpL u s T (k + 1) = cpL u s T k ++ (List.replicate n (piece u k s)).flatten by rw [cpL, hn])
      have hn65 : n ≤ 65 := by omega
      rw [hn] at HTM
      obtain ⟨b, off, rfl, hb, hcs⟩ := HIT.out wr GR.out hT1
      have hck := hcs (k % T.length) hmod
      rw [htn] at hck
      have j0 : (0 : Int) ≤ (k : Int) := by omega
      have j1 : (k : Int) % (T.length : Int) = ((k % T.length : Nat) : Int) := (Int.natCast_emod k T.length).symm
      have j2 : (0 : Int) ≤ ((k % T.length : Nat) : Int) := by omega
      have j3 : ((k % T.length : Nat) : Int) < (T.length : Int) := by omega
      have j4 : ¬ T = [] := fun h => by rw [h] at hT1; simp at hT1
      have j5 : ¬ T.length = 0 := by omega
      clear hcs hn htn htb
      generalize k % T.length = km at *
      go_wp2_with fail
      refine (mcut_any _ u _ k s _ hc hcm' (by omega) (HIU.out wr GR.out) hks hs).mono ?_
      rintro r w1 ⟨A1, rfl, hi1, rfl⟩
      have I1 := Lib.hid hi1
      clear hi1
      go_wp2
      clear j1
      go_loopw [0, 30] (fun v j wz => ∃ i : Nat, i ≤ n ∧ j = .int .i64 (i : Int) ∧ LaySt w wz g N v (cpL u s T k ++ (List.replicate i (piece u k s)).flatten)) (fun _ j _ => n - (intOf j).toNat)
      case atStart => exact ⟨0, Nat.zero_le _, rfl, m, Ar, rfl, by simpa using HM.out, by simpa using HA.out, by simpa using RW.out, GR.out⟩
      case round =>
        obtain ⟨i, hi, rfl, m2, Ar2, rfl, hm2, hA2, hrw2, hgr2⟩ := hrel
        have HM2 := Lib.hid hm2
        have HA2 := Lib.hid hA2
        have RW2 := Lib.hid hrw2
        have GR2 := Lib.hid hgr2
        clear hm2 hA2 hrw2 hgr2
        by_cases hlt2 : i < n
        · have hCl : (cpL u s T k ++ (List.replicate i (piece u k s)).flatten).length = (tot T k + i) * s := by rw [List.length_append, HCL.out, flat_len, HPL.out, Nat.add_mul]
          have hle : (tot T k + i + 1) * s ≤ N := by rw [← HN.out]; exact Nat.mul_le_mul_right s (by have := HTM.out; omega)
          have hsm : s ≤ m2 := by have := HM2.out; rw [hCl] at this; rw [Nat.add_mul, Nat.one_mul] at hle; omega
          have hm64 : m2 ≤ 64 := by have := HM2.out; omega
          have HQS := Lib.hid (show s = Nat.min (piece u k s).length m2 by rw [HPL.out]; exact (Nat.min_eq_left hsm).symm)
          have HSP := Lib.hid (splice_tail (cur := cpL u s T k ++ (List.replicate i (piece u k s)).flatten) HPL.out hsm HQS.out)
          have HFS := Lib.hid (show cpL u s T k ++ (List.replicate (i + 1) (piece u k s)).flatten = (cpL u s T k ++ (List.replicate i (piece u k s)).flatten) ++ piece u k s by rw [flat_succ, List.append_assoc])
          have hlen : (cpL u s T k ++ (List.replicate i (piece u k s)).flatten).length + m2 ≤ ((cpL u s T k ++ (List.replicate i (piece u k s)).flatten) ++ List.replicate m2 0).length := by rw [List.length_append (bs := List.replicate m2 0), List.length_replicate]; exact Nat.le_refl _
          have HLEN := Lib.hid hlen
          have IP := Lib.hid (I1.out wr (HIU.out wr GR2.out))
          clear hCl hle hlen
          generalize cpL u s T k ++ (List.replicate i (piece u k s)).flatten = C at *
          have hpu : (piece u k s).length ≤ 1000 := by rw [HPL.out]; omega
          have hps : s = (piece u k s).length := HPL.out.symm
          have HPS := Lib.hid hps
          clear hps
          generalize piece u k s = pc at *
          go_wp2_with fail
          have hcall := lay_any g C.length m2 s Ar2 (C ++ List.replicate m2 0) A1 s pc wr RW2.out HQS.out HA2.out IP.out HLEN.out (by omega) hpu
          rw [HSP.out, ← HPS.out] at hcall
          refine hcall.mono ?_
          rintro r w2 ⟨A3, rfl, hA3, hr3, hg3⟩
          have R3 := Lib.hid hr3
          have G3 := Lib.hid (World.grownBy.trans GR2.out hg3)
          have HA3 := Lib.hid hA3
          clear hr3 hg3 hA3 hcall
          go_wp2
          go_roundw
          case rel => exact ⟨i + 1, by omega, by go_num, m2 - s, A3, rfl, by rw [HFS.out, List.length_append]; have := HM2.out; have := HPL.out; omega, fun h => by rw [HFS.out, List.length_append, HPL.out]; exact HA3.out h, by rw [HFS.out]; exact R3.out, G3.out⟩
          case measure => simp [intOf]; omega
        · obtain rfl : i = n := by omega
          go_wp2
          go_roundw
          case rel => exact ⟨k + 1, by omega, by go_num, m2, Ar2, rfl, by rw [HSU.out]; exact HM2.out, by rw [HSU.out]; exact HA2.out, by rw [HSU.out]; exact RW2.out, GR2.out⟩
          case measure => simp [intOf]; omega
    · obtain rfl : k = K := by omega
      have HCL := Lib.hid (cpL_len T (show k * s ≤ u.length by rw [HK.out]; exact Nat.le_refl _))
      have hm0 : m = 0 := by have := HM.out; rw [HCL.out, HN.out] at this; omega
      have hr := RW.out
      rw [hm0] at hr
      have HR9 := Lib.hid (show Row64 wr g (cpL u s T k) by simpa using hr)
      clear hr hm0
      go_wp2
      go_end0
      exact ⟨rfl, HR9.out, GR.out⟩
end Go.Proofs.Ytfnpdflapmbnjaa.Sh
-- MoCopy0
namespace Go.Proofs.Ytfnpdflapmbnjaa.Sh
open Go.RowKit
set_option linter.unusedVariables false

theorem prod_append (a b : List Int) : prod (a ++ b) = prod a * prod b := by
  induction a with
  | nil => rw [List.nil_append, prod_nil, Int.one_mul]
  | cons x t ih => rw [List.cons_append, prod_cons, prod_cons, ih, Int.mul_assoc]
theorem split_at (D : List Int) (a : Nat) (h : a < D.length) : D = D.take a ++ D.getD a 0 :: D.drop (a + 1) := by
  rw [← drop_at D a h, List.take_append_drop]
theorem prod_split (D : List Int) (a : Nat) (h : a < D.length) : prod D = prod (D.take a) * (D.getD a 0 * prod (D.drop (a + 1))) := by
  conv => lhs; rw [split_at D a h]
  rw [prod_append, prod_cons]
theorem withL_at (D : List Int) (a : Nat) (h : a < D.length) (x : Int) : withL D (a : Int) x = D.take a ++ x :: D.drop (a + 1) := by
  unfold withL
  rw [if_pos (by omega), Int.toNat_natCast, List.set_eq_take_append_cons_drop, if_pos h]
theorem prod_with (D : List Int) (a : Nat) (h : a < D.length) (x : Int) : prod (withL D (a : Int) x) = prod (D.take a) * (x * prod (D.drop (a + 1))) := by
  rw [withL_at D a h, prod_append, prod_cons]
theorem tk_mod (T : List Int) (A j : Nat) : tk T (A * T.length + j) = tk T j := by
  unfold tk; rw [Nat.mul_comm, Nat.mul_add_mod]
theorem tot_add (T : List Int) (A j : Nat) : tot T (A * T.length + j) = tot T (A * T.length) + tot T j := by
  induction j with
  | zero => simp [tot]
  | succ j ih => rw [← Nat.add_assoc, tot, ih, tk_mod, tot, Nat.add_assoc]
theorem tot_mul (T : List Int) (A : Nat) : tot T (A * T.length) = A * tot T T.length := by
  induction A with
  | zero => simp [tot]
  | succ A ih => rw [Nat.add_mul, Nat.one_mul, tot_add, ih, Nat.add_mul, Nat.one_mul]
theorem tot_sum {T : List Int} (h : SmallT T) (k : Nat) (hk : k ≤ T.length) : (tot T k : Int) = sumL (T.take k) := by
  induction k with
  | zero => simp [tot, sumL]
  | succ k ih =>
    have h1 := h k (by omega)
    rw [tot, sumL_take (by omega), ← ih (by omega)]
    unfold tk
    rw [Nat.mod_eq_of_lt (by omega)]
    omega
theorem listed_len (e : List Int) : 0 < (listedL e).length := by
  unfold listedL; split
  · simp
  · omega
theorem listed_right {e : List Int} (h : rightB e = true) : rightB (listedL e) = true := by
  unfold listedL; split
  · decide
  · exact h
theorem listed_size {e : List Int} (h : rightB e = true) : sizeI (listedL e) = sizeI e := by
  unfold listedL; split
  · rename_i h0
    rw [List.eq_nil_of_length_eq_zero h0]; decide
  · rfl
theorem times_len {d v : List Int} {P : Nat} (h1 : d.length = 0 ∨ v.length = P) : (timesL d v P).length = P := by
  unfold timesL; split
  · simp
  · rcases h1 with h | h
    · omega
    · simpa [lensL] using h
theorem times_small {d v : List Int} {P : Nat} (h1 : d.length = 0 → v.length = 1) (hn : negB v = false) : SmallT (timesL d v P) := by
  intro i hi
  unfold timesL at hi ⊢
  split
  · rename_i h
    rw [if_pos h] at hi
    simp at hi
    have := negB_no hn 0 (by rw [h1 h]; omega)
    simp [List.getD, hi]
    unfold len65
    simp [List.getD] at this
    omega
  · rename_i h
    rw [if_neg h] at hi
    simp [lensL] at hi
    have := negB_no hn i hi
    simp [List.getD, hi] at this
    simp [lensL, List.getD, hi, len65]
    omega
def copV (u : List Int) (s : Nat) (T : List Int) : List Int := if s = 0 then [] else cpL u s T (u.length / s)
/-- What is known of a Copy that goes well. -/
structure CopyOk (d v e u : List Int) (a P s N : Nat) (D T : List Int) : Prop where
  right : cellB d v.length = true
  right2 : cellB e u.length = true
  rank : d.length ≤ 1
  hD : listedL e = D
  ha : a < D.length
  hP : D.getD a 0 = (P : Int)
  hlen : d.length = 0 ∨ d = [(P : Int)]
  neg : negB v = false
  hT : timesL d v P = T
  hR : rightB (withL D (a : Int) (sumL T)) = true
  hN : sizeI (withL D (a : Int) (sumL T)) = N
  hs : prod (D.drop (a + 1)) = (s : Int)
section
variable {d v e u : List Int} {a P s N : Nat} {D T : List Int}
theorem CopyOk.vlen (h : CopyOk d v e u a P s N D T) : (d.length = 0 → v.length = 1) ∧ (d.length = 0 ∨ v.length = P) := by
  obtain ⟨h1, h2⟩ := cellB_parts h.right
  refine ⟨fun h0 => ?_, ?_⟩
  · rw [List.eq_nil_of_length_eq_zero h0] at h2
    have : sizeI [] = 1 := by decide
    omega
  · rcases h.hlen with h0 | h0
    · exact .inl h0
    · right
      obtain ⟨h3, ha, h64⟩ := rightB_all h1
      rw [sizeI_mk h3 ha h64, h0] at h2
      simp [prod] at h2
      omega
theorem CopyOk.small (h : CopyOk d v e u a P s N D T) : T.length = P ∧ SmallT T ∧ P ≤ 64 ∧ rightB D = true ∧ D.length ≤ 3 ∧ u.length ≤ 64 ∧ v.length ≤ 64 ∧ N ≤ 64 ∧ 0 ≤ sumL T := by
  have hT := h.hT
  have hsm : SmallT T := hT ▸ times_small h.vlen.1 h.neg
  have hDr : rightB D = true := h.hD ▸ listed_right (cellB_parts h.right2).1
  obtain ⟨h3, hall, h64⟩ := rightB_all hDr
  have hPb := okAx_at hall a h.ha
  rw [h.hP] at hPb
  obtain ⟨n, hn, hn64⟩ := sizeI_nat _ h.hR
  have hsum := (sumL_bd hsm T.length (Nat.le_refl _)).1
  rw [List.take_length] at hsum
  exact ⟨hT ▸ times_len h.vlen.2, hsm, by omega, hDr, h3, (cellB_small h.right2).2, (cellB_small h.right).2, by have := h.hN; omega, hsum⟩
theorem CopyOk.room (h : CopyOk d v e u a P s N D T) : u.length = u.length / s * s ∧ tot T (u.length / s) * s = N ∧ (0 < u.length / s → 0 < T.length) ∨ s = 0 ∧ N = 0 := by
  obtain ⟨hTl, hsm, hP, hDr, hD3, hu, hv, hN64, hS0⟩ := h.small
  obtain ⟨h3, hall, h64⟩ := rightB_all hDr
  obtain ⟨h3', hall', h64'⟩ := rightB_all h.hR
  have hu2 := (cellB_parts h.right2).2
  have eD : (u.length : Int) = prod (D.take a) * ((P : Int) * (s : Int)) := by
    rw [hu2, ← listed_size (cellB_parts h.right2).1, h.hD, sizeI_mk h3 hall h64, prod_split D a h.ha, h.hP, h.hs]
  have eN : (N : Int) = prod (D.take a) * (sumL T * (s : Int)) := by
    rw [← h.hN, sizeI_mk h3' hall' h64', prod_with D a h.ha, h.hs]
  have hA0 : 0 ≤ prod (D.take a) := (prod_bd (D.take a) (by
    rw [List.all_eq_true] at hall ⊢
    exact fun x hx => hall x (List.mem_of_mem_take hx))).1
  obtain ⟨A, hA⟩ : ∃ A : Nat, prod (D.take a) = A := ⟨(prod (D.take a)).toNat, by omega⟩
  rcases Nat.eq_zero_or_pos s with hs | hs
  · right
    subst hs
    refine ⟨rfl, ?_⟩
    have : (N : Int) = 0 := by rw [eN]; simp
    omega
  · left
    rw [hA] at eD eN
    have eD' : u.length = A * P * s := by
      have : (u.length : Int) = ((A * P * s : Nat) : Int) := by rw [eD]; simp [Int.mul_assoc]
      exact_mod_cast this
    have hK : u.length / s = A * P := by rw [eD', Nat.mul_div_cancel _ hs]
    have hts := tot_sum hsm T.length (Nat.le_refl _)
    rw [List.take_length] at hts
    refine ⟨by rw [hK]; exact eD', ?_, fun hk => ?_⟩
    · rw [hK, ← hTl, tot_mul]
      have : ((A * tot T T.length * s : Nat) : Int) = (N : Int) := by rw [eN, ← hts]; simp [Int.mul_assoc]
      exact_mod_cast this
    · rw [hK] at hk
      rw [hTl]
      rcases Nat.eq_zero_or_pos P with h0 | h0
      · rw [h0] at hk; simp at hk
      · exact h0
end
theorem layParts_all (g N s : Nat) (B : Option Addr) (c2 : Nat) (u : List Int) (C : Option Addr) (c3 : Nat) (T : List Int) (w : World) (hr : u.length = u.length / s * s ∧ tot T (u.length / s) * s = N ∧ (0 < u.length / s → 0 < T.length) ∨ s = 0 ∧ N = 0) (hu : u.length ≤ 64) (hc : u.length ≤ c2) (hcm : c2 ≤ maxLen) (hT : T.length ≤ 64) (hTs : SmallT T) (hN64 : N ≤ 64)
    (hR : Row64 w g (List.replicate N 0)) (iu : ∀ wr, w.grownBy wr (some g) → Ints wr B u) (iT : ∀ wr, w.grownBy wr (some g) → Ints wr C T) :
    Calls Try.prog 43 #[.slice (some ⟨g, 0, none⟩) N N, .slice B u.length c2, .slice C T.length c3, .int .i64 (s : Int)] w fun e w' => e = .returned (.tuple #[]) ∧ Row64 w' g (copV u s T) ∧ w.grownBy w' (some g) := by
  by_cases hs : s = 0
  · subst hs
    have hN : N = 0 := by
      rcases hr with ⟨_, h, _⟩ | h
      · simpa using h.symm
      · exact h.2
    subst hN
    have HR := Lib.hid (show Row64 w g (copV u 0 T) by simpa [copV] using hR)
    clear hr iu iT hR
    go_enter Try.func43, Try.ntmps43
    go_wp2
    first | go_end0 | refine bodyPost_ret (results_none rfl _ _ _) rfl ?_
    exact ⟨rfl, HR.out, turned_refl _ _⟩
  · have e : copV u s T = cpL u s T (u.length / s) := by unfold copV; rw [if_neg hs]
    rw [e]
    rcases hr with ⟨h1, h2, h3⟩ | h
    · exact layParts_any g N (u.length / s) s B c2 u C c3 T w (by omega) h1 hu hc hcm hT hTs h3 h2 hN64 hR iu iT
    · exact absurd h.1 hs
end Go.Proofs.Ytfnpdflapmbnjaa.Sh
-- MoPlc
namespace Go.Proofs.Ytfnpdflapmbnjaa.Sh
open Go.RowKit
set_option linter.unusedVariables false

theorem dg_append (X Z : List Int) (h : 0 ≤ prod Z) (i : Int) : dg (X ++ Z) i = dg X (i / prod Z) ++ dg Z i := by
  induction X with
  | nil => rfl
  | cons x X ih =>
    have e : i / prod (X ++ Z) = i / prod Z / prod X := by rw [prod_append, Int.mul_comm, ← Int.ediv_ediv_of_nonneg h]
    simp only [List.cons_append, dg, e, ih]
theorem hor_append (X Z p q : List Int) (a : Int) (h : p.length = X.length) : hor (X ++ Z) (p ++ q) a = hor Z q (hor X p a) := by
  induction X generalizing p a with
  | nil => obtain rfl := List.eq_nil_of_length_eq_zero (l := p) (by simpa using h); simp [hor]
  | cons x X ih =>
    match p, h with
    | y :: p, h => simp only [List.cons_append, hor]; exact ih p _ (by simpa using h)
theorem inB_append (X Z p q : List Int) (h : p.length = X.length) : inB (X ++ Z) (p ++ q) = (inB X p && inB Z q) := by
  induction X generalizing p with
  | nil => obtain rfl := List.eq_nil_of_length_eq_zero (l := p) (by simpa using h); simp [inB]
  | cons x X ih =>
    match p, h with
    | y :: p, h => simp only [List.cons_append, inB, ih p (by simpa using h), Bool.and_assoc]
theorem posL_append {X Z : List Int} (h : posL (X ++ Z)) : posL X ∧ posL Z := ⟨fun x hx => h x (by simp [hx]), fun x hx => h x (by simp [hx])⟩
/-- A place's number where one axis, of another length, has another number. -/
theorem hor_one {X Y : List Int} {S P i j : Int} (hX : posL X) (hY : posL Y) (hS : 1 ≤ S) (h0 : 0 ≤ i) (h1 : i < prod (X ++ S :: Y)) :
    hor (X ++ P :: Y) (dg X (i / (S * prod Y)) ++ j :: dg Y i) 0 = ((i / (S * prod Y)) * P + j) * prod Y + i % prod Y := by
  have pY := prod_pos hY
  have hp : 0 < S * prod Y := Int.mul_pos (by omega) (by omega)
  rw [hor_append _ _ _ _ _ (dg_length X _)]
  simp only [hor]
  rw [hor_dg hY, hor_dg hX, Int.zero_mul, Int.zero_add]
  have : i / (S * prod Y) % prod X = i / (S * prod Y) := by
    rw [prod_append, prod_cons] at h1
    refine Int.emod_eq_of_lt (Int.ediv_nonneg h0 (by omega)) ?_
    rw [Int.ediv_lt_iff_lt_mul hp]; exact h1
  rw [this]
/-- The place of a number of a cell, one of whose axes has the length S. -/
theorem dg_one {X Y : List Int} {S i : Int} (hY : 0 ≤ prod Y) : dg (X ++ S :: Y) i = dg X (i / (S * prod Y)) ++ (i / prod Y % S) :: dg Y i ∨ S * prod Y < 0 := by
  by_cases h : 0 ≤ prod (S :: Y)
  · left; rw [dg_append X (S :: Y) h]; rw [prod_cons]; rfl
  · right; rw [prod_cons] at h; omega
theorem dg_one' {X Y : List Int} {S i : Int} (hY : 0 ≤ prod Y) (hS : 0 ≤ S) : dg (X ++ S :: Y) i = dg X (i / (S * prod Y)) ++ (i / prod Y % S) :: dg Y i := by
  rcases dg_one (X := X) (Y := Y) (S := S) (i := i) hY with h | h
  · exact h
  · exact absurd (Int.mul_nonneg hS hY) (by omega)
theorem set_mid (p q : List Int) (x y : Int) {a : Nat} (h : p.length = a) : (p ++ x :: q).set a y = p ++ y :: q := by subst h; simp
theorem get_mid (p q : List Int) (x : Int) {a : Nat} (h : p.length = a) : (p ++ x :: q).getD a 0 = x := by subst h; simp [List.getD]
end Go.Proofs.Ytfnpdflapmbnjaa.Sh
