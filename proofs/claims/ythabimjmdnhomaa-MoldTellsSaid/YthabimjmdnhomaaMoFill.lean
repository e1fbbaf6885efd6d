/-
  What mold.below, mold.lengths, mold.filled and slices.ContainsFunc of mold.below answer; nothing that was there is written. Conditions: at most 1000 numbers; the axes may be.
-/
import Derived.Test.YthabimjmdnhomaaMoLay
namespace Go.Proofs.Ythabimjmdnhomaa.Sh
open Go.RowKit
set_option linter.unusedVariables false

theorem below_yes (n : Int) (w : World) (h : n < 0) : Calls Try.prog 31 #[.int .i64 n] w fun e w' => e = .returned (.bool true) ∧ w = w' := by
  go_enter Try.func31, Try.ntmps31
  go_wp2
  go_ret
  exact ⟨ret_bool (by simp), rfl⟩
theorem below_no (n : Int) (w : World) (h : 0 ≤ n) : Calls Try.prog 31 #[.int .i64 n] w fun e w' => e = .returned (.bool false) ∧ w = w' := by
  go_enter Try.func31, Try.ntmps31
  go_wp2
  go_ret
  exact ⟨ret_bool (by simpa using h), rfl⟩
/-- Is one below nought? -/
def negB (v : List Int) : Bool := v.any fun x => decide (x < 0)
theorem negB_no {v : List Int} (h : negB v = false) (i : Nat) (hi : i < v.length) : 0 ≤ v.getD i 0 := by
  unfold negB at h
  rw [List.any_eq_false] at h
  have := h v[i] (List.getElem_mem hi)
  simp at this
  simpa [List.getD, hi] using this
theorem negB_take {v : List Int} {k : Nat} (hk : k < v.length) : negB (v.take (k + 1)) = (negB (v.take k) || decide (v.getD k 0 < 0)) := by
  unfold negB; rw [take_snoc v k hk]; simp
theorem negB_yes {v : List Int} {k : Nat} (hk : k < v.length) (h : v.getD k 0 < 0) : negB v = true := by
  unfold negB
  rw [List.any_eq_true]
  exact ⟨v[k], List.getElem_mem hk, by simpa [List.getD, hk] using h⟩
/-- Is there an index? -/
def RetIx (b : Bool) (w : World) (e : Ending) (w' : World) : Prop := ∃ n : Int, e = .returned (.int .i64 n) ∧ decide (0 ≤ n) = b ∧ w = w'
set_option maxHeartbeats 1000000 in
theorem index_below (A : Option Addr) (c : Nat) (v : List Int) (w : World) (hv : v.length ≤ 1000) (iv : Ints w A v) :
    Calls Try.prog 57 #[.slice A v.length c, .func (.func 31) #[] #[]] w (RetIx (negB v) w) := by
  have IV := Lib.hid iv
  clear iv
  go_enter Try.func57, Try.ntmps57
  go_wp2
  go_loop [8] (fun j => ∃ k : Nat, k ≤ v.length ∧ j = .int .i64 (k : Int) ∧ negB (v.take k) = false) (fun j => v.length - (intOf j).toNat)
  case atStart => exact ⟨0, Nat.zero_le _, rfl, by simp [negB]⟩
  case round =>
    obtain ⟨k, hk, rfl, hN⟩ := hrel
    have HN := Lib.hid hN
    clear hN
    by_cases hlt : k < v.length
    · obtain ⟨b, off, rfl, hb, hcs⟩ := IV.out (by omega)
      have hck := hcs k hlt
      have i0 : (0 : Int) ≤ (k : Int) := by omega
      have i1 : (k : Int) < (v.length : Int) := by omega
      have HT := Lib.hid (negB_take hlt)
      clear hcs
      by_cases hneg : v.getD k 0 < 0
      · have HY := Lib.hid (negB_yes hlt hneg)
        generalize v.getD k 0 = y at *
        go_wp2_with fail
        refine (below_yes y _ hneg).mono ?_
        rintro r w1 ⟨rfl, rfl⟩
        go_wp2
        go_ret
        exact ⟨_, rfl, by rw [HY.out]; simp, rfl⟩
      · have HS := Lib.hid (show negB (v.take (k + 1)) = false by rw [HT.out, HN.out]; simpa using hneg)
        generalize v.getD k 0 = y at *
        go_wp2_with fail
        refine (below_no y _ (by omega)).mono ?_
        rintro r w1 ⟨rfl, rfl⟩
        go_wp2
        go_round
        case rel => exact ⟨k + 1, by omega, by go_num, HS.out⟩
        case measure => simp [intOf]; omega
    · obtain rfl : k = v.length := by omega
      have hv2 := HN.out
      rw [List.take_length] at hv2
      have HV := Lib.hid hv2
      clear hv2
      go_wp2
      go_ret
      exact ⟨_, rfl, by rw [HV.out]; decide, rfl⟩
set_option maxHeartbeats 1000000 in
theorem contains_b (A : Option Addr) (c : Nat) (v : List Int) (b : Bool) (w : World) (hb : negB v = b) (hv : v.length ≤ 1000) (iv : Ints w A v) :
    Calls Try.prog 35 #[.slice A v.length c, .func (.func 31) #[] #[]] w fun e w' => e = .returned (.bool b) ∧ Below w.heap.size w w' := by
  have IV := Lib.hid iv
  have HB := Lib.hid hb
  clear iv hb
  go_enter Try.func35, Try.ntmps35
  go_wp2_with fail
  refine (index_below _ _ v _ hv IV.out).mono ?_
  rintro r w1 ⟨n, rfl, hn, rfl⟩
  rw [HB.out] at hn
  have HN := Lib.hid hn
  clear hn
  go_wp2
  go_ret
  exact ⟨ret_bool HN.out, Below.refl _ _⟩

/-- A number as a length: no greater than 65. -/
def len65 (x : Int) : Int := min x 65
def lensL (v : List Int) : List Int := v.map len65
theorem lensL_eq (v : List Int) : lensL v = (List.range v.length).map (fun i => len65 (v.getD i 0)) := by
  apply List.ext_getElem
  · simp [lensL]
  · intro i h1 h2
    simp [lensL] at h1
    simp [lensL, List.getD, h1]
theorem Own.lens {w : World} {g : Nat} {xs : List Int} (h : Own w g xs) {base : Nat} (hb : base ≤ g) (hl : xs.length ≤ maxLen) : MineT 3 w base (.slice (some ⟨g, 0, none⟩) xs.length xs.length) xs :=
  ⟨by simp, .inr ⟨g, xs.length, cellsI xs, rfl, hb, h, Nat.le_refl _, hl, by simp [cellsI], by simp [cellsI, ← List.map_take]⟩⟩
set_option maxHeartbeats 1000000 in
theorem lengths_any (A : Option Addr) (c : Nat) (v : List Int) (w : World) (hv : v.length ≤ 1000) (iv : Ints w A v) :
    Calls Try.prog 33 #[.slice A v.length c] w (RetT 3 w (lensL v)) := by
  rw [lensL_eq]
  have hmk := fun W => run_make_row' (P := Try.prog) 22 3 (.int .i64 0) 8 Try.underlying22 infoInt rfl .i64 .i64 v.length (by omega) (by omega) W
  have hL := Lib.hid (show Below w.heap.size w (w.alloc (.cells (madeCells #[Value.int .i64 0] v.length) 3)) from below_new _ _)
  have hO := Lib.hid (Own.made w v.length)
  have IV := Lib.hid iv
  clear iv
  obtain ⟨f, hf⟩ : ∃ f : Nat → Int, (fun i => len65 (v.getD i 0)) = f := ⟨_, rfl⟩
  rw [hf]
  have HF := Lib.hid hf
  clear hf
  go_enter Try.func33, Try.ntmps33
  go_wp2
  go_loopw [11] (fun j wr => ∃ k : Nat, k ≤ v.length ∧ j = .int .i64 (k : Int) ∧ Own wr w.heap.size (fillK f v.length k) ∧ Below w.heap.size w wr) (fun j _ => v.length - (intOf j).toNat)
  case atStart => exact ⟨0, Nat.zero_le _, rfl, by rw [fillK_0]; exact hO.out, hL.out⟩
  case round =>
    obtain ⟨k, hk, rfl, hOw, hB⟩ := hrel
    have OW := Lib.hid hOw
    have LB := Lib.hid hB
    clear hOw hB
    by_cases hlt : k < v.length
    · obtain ⟨b, off, rfl, hb, hcs⟩ := IV.out.below LB.out (by omega)
      have hck := hcs k hlt
      have i0 : (0 : Int) ≤ (k : Int) := by omega
      have i1 : (k : Int) < (v.length : Int) := by omega
      have q0 := OW.out.cell (i := k) (by rw [fillK_length]; exact hlt)
      have q1 := OW.out.frozen k
      have HK := Lib.hid (show f k = len65 (v.getD k 0) by rw [← HF.out])
      clear hcs hmk
      generalize v.getD k 0 = y at *
      have HS := Lib.hid (show (fillK f v.length k).set k (min y 65) = fillK f v.length (k + 1) by rw [← fillK_succ f _ k hlt, HK.out]; rfl)
      go_wp2
      go_roundw
      case rel => exact ⟨k + 1, by omega, by go_num, by rw [← HS.out]; exact OW.out.set_ k _, LB.out.setCell (Nat.le_refl _) _⟩
      case measure => simp [intOf]; omega
    · obtain rfl : k = v.length := by omega
      have hw := OW.out
      rw [fillK_n] at hw
      have HW := Lib.hid hw
      have hl : ((List.range v.length).map f).length = v.length := by simp
      have HL := Lib.hid hl
      clear hw hl hmk
      go_wp2
      go_ret
      have hm := HW.out.lens (Nat.le_refl _) (by rw [HL.out]; unfold maxLen; omega)
      rw [HL.out] at hm
      exact ⟨some ⟨w.heap.size, 0, none⟩, v.length, by rw [HL.out]; rfl, by rw [HL.out]; exact hm, LB.out⟩

/-- Numbers over and over. -/
def cyc (v : List Int) (i : Nat) : Int := v.getD (i % v.length) 0
theorem cyc_step {v : List Int} {n p q : Nat} (hp : p % v.length = 0) (hq : q ≤ v.length) (hn : p + q ≤ n) : splice (fillK (cyc v) n p) p (v.take q) = fillK (cyc v) n (p + q) := by
  apply List.ext_getElem
  · rw [length_splice _ _ _ (by rw [fillK_length]; simp; omega), fillK_length, fillK_length]
  · intro i h1 h2
    rw [fillK_length] at h2
    have hlen : (v.take q).length = q := by simp; omega
    have e0 : (fillK (cyc v) n (p + q))[i]? = some (if i < p + q then cyc v i else 0) := by simp [fillK, h2]
    have e1 : (splice (fillK (cyc v) n p) p (v.take q))[i]? = some (if i < p + q then cyc v i else 0) := by
      unfold splice
      by_cases c1 : i < p
      · rw [List.getElem?_append_left (by simp [fillK]; omega), List.getElem?_take_of_lt c1]
        simp [fillK, h2, c1, show i < p + q by omega]
      · have lt1 : (List.take p (fillK (cyc v) n p)).length = p := by simp [fillK]; omega
        rw [List.getElem?_append_right (by rw [lt1]; omega), lt1]
        by_cases c2 : i < p + q
        · have hm : i % v.length = i - p := by
            have : i = (i - p) + p := by omega
            rw [this, Nat.add_mod, hp, Nat.add_zero, Nat.mod_mod]
            rw [Nat.mod_eq_of_lt (by omega)]
            omega
          rw [List.getElem?_append_left (by rw [hlen]; omega), List.getElem?_take_of_lt (by omega), if_pos c2]
          unfold cyc
          rw [hm]
          simp [List.getD, show i - p < v.length by omega]
        · rw [List.getElem?_append_right (by rw [hlen]; omega), hlen, List.getElem?_drop]
          have : p + q + (i - p - q) = i := by omega
          rw [this, if_neg c2]
          simp [fillK, h2, c1]
    have := e1.trans e0.symm
    rw [List.getElem?_eq_getElem h1, List.getElem?_eq_getElem (by rw [fillK_length]; exact h2)] at this
    exact Option.some.inj this
set_option maxHeartbeats 2000000 in
theorem filled_any (A : Option Addr) (c : Nat) (d : List Int) (B : Option Addr) (c2 : Nat) (v : List Int) (n : Nat) (w : World) (hd : d.length ≤ 100) (hv : v.length ≤ 1000) (id : Ints w A d) (iv : Ints w B v) (hR : rightB d = true) (hn : sizeI d = n) :
    Calls Try.prog 37 #[.slice A d.length c, .slice B v.length c2] w (RetC1 w d ((List.range n).map (cyc v))) := by
  obtain ⟨h3, hall, h64⟩ := rightB_all hR
  have hn64 : n ≤ 64 := by have : sizeI d = prod d := sizeI_mk h3 hall h64; omega
  have hz := fun W iW => zero_m A c d W hd iW hR
  rw [hn, Int.toNat_natCast] at hz
  have HZ := Lib.hid hz
  have B0 := Lib.hid (Box.new w (.slice none 0 0) (.slice none 0 0))
  have L0 := Lib.hid (show Below w.heap.size w (w.alloc (.cells #[.slice none 0 0, .slice none 0 0] 25)) from below_box (Below.refl _ _))
  have I0 := Lib.hid (id.below L0.out)
  have IV := Lib.hid iv
  clear hz hR hall h64 h3 hn id iv
  go_enter Try.func37, Try.ntmps37
  go_wp2_with fail
  refine (HZ.out _ I0.out).mono ?_
  rintro r w1 ⟨A1, c1, g, rfl, hm1, hr1, hg1, hb1⟩
  have L1 := Lib.hid (below_next L0.out hb1)
  have B1 := Lib.hid (B0.out.next hb1)
  have M1 := Lib.hid hm1
  have R1 := Lib.hid (show Row64 w1 g (List.replicate n 0) from hr1)
  have hgs : w.heap.size < g := by have : w.heap.size + 1 ≤ g := by simpa using hg1
                                   omega
  have hg1' : g < w1.heap.size := R1.out.lt
  clear hm1 hr1 hg1 hb1
  have B2 := Lib.hid (Box.new w1 (.slice A1 d.length c1) (.slice (some ⟨g, 0, none⟩) n n))
  have K2 := Lib.hid (show Below w1.heap.size w1 (w1.alloc (.cells #[.slice A1 d.length c1, .slice (some ⟨g, 0, none⟩) n n] 25)) from below_box (Below.refl _ _))
  go_wp2
  go_loopw [6] (fun j wr => ∃ (p m : Nat) (Ar : Option Addr), p + m = n ∧ j = .slice Ar m m ∧ (0 < m → Ar = some ⟨g, p, none⟩ ∧ p % v.length = 0) ∧ (w1.alloc (.cells #[.slice A1 d.length c1, .slice (some ⟨g, 0, none⟩) n n] 25)).grownBy wr (some g) ∧ Row64 wr g (fillK (cyc v) n p)) (fun j _ => match j with | .slice _ m _ => m | _ => 0)
  case atStart => exact ⟨0, n, _, by omega, rfl, fun _ => ⟨rfl, by simp⟩, turned_refl _ _, by rw [fillK_0]; exact R1.out.alloc _⟩
  case round =>
    obtain ⟨p, m, Ar, hpm, rfl, hA, hgr, hrw⟩ := hrel
    have GR := Lib.hid hgr
    have RW := Lib.hid hrw
    have BB := Lib.hid (B2.out.grown hgr (fun e => by injection e with e; omega))
    have LB := Lib.hid (below_turned (below_next L1.out K2.out) hgr (Nat.le_of_lt hgs))
    have HA := Lib.hid hA
    have HPM := Lib.hid hpm
    have hm64 : m ≤ 64 := by omega
    clear hgr hrw hA hpm
    by_cases hlt : 0 < v.length ∧ 0 < m
    · obtain ⟨hv0, hm0⟩ := hlt
      obtain ⟨q, hq⟩ : ∃ q, q = Nat.min v.length m := ⟨_, rfl⟩
      have hq1 : q ≤ v.length := by rw [hq]; exact Nat.min_le_left _ _
      have hq2 : q ≤ m := by rw [hq]; exact Nat.min_le_right _ _
      have hq3 : 0 < q := by rw [hq]; exact Nat.lt_min.2 ⟨hv0, hm0⟩
      have hq4 : q = v.length ∨ m - q = 0 := by
        rcases Nat.le_total v.length m with h | h
        · left; rw [hq]; exact Nat.min_eq_left h
        · right; have : q = m := by rw [hq]; exact Nat.min_eq_right h
          omega
      have HQ := Lib.hid hq
      have HC := Lib.hid (cyc_step (n := n) (HA.out hm0).2 hq1 (by have := HPM.out; omega))
      clear hq
      go_wp2_with fail
      refine (lay_any g p m q _ _ _ _ v _ RW.out HQ.out (fun h => (HA.out h).1) (IV.out.below LB.out) (by rw [fillK_length]; have := HPM.out; omega) (by omega) hv).mono ?_
      rintro r w2 ⟨A2, rfl, hA2, hr2, hg2⟩
      rw [HC.out] at hr2
      have R2 := Lib.hid hr2
      have G2 := Lib.hid (World.grownBy.trans GR.out hg2)
      have HA2 := Lib.hid hA2
      clear hr2 hg2 hA2
      go_wp2
      go_roundw
      case rel => exact ⟨p + q, m - q, A2, by have := HPM.out; omega, rfl, fun h => ⟨HA2.out h, by rcases hq4 with e | e; (rw [e, Nat.add_mod_right]; exact (HA.out hm0).2); omega⟩, G2.out, R2.out⟩
      case measure => simp; omega
    · have hrn : Row64 wr g ((List.range n).map (cyc v)) := by
        have h := RW.out
        rcases Nat.eq_zero_or_pos m with h0 | h0
        · have : p = n := by have := HPM.out; omega
          rw [this, fillK_n] at h; exact h
        · have hv0 : v.length = 0 := by omega
          have hf : ∀ k, fillK (cyc v) n k = (List.range n).map (cyc v) := fun k => by
            apply List.map_congr_left
            intro i _
            have : cyc v i = 0 := by unfold cyc; rw [List.eq_nil_of_length_eq_zero hv0]; rfl
            rw [this]; split <;> rfl
          rw [hf] at h; exact h
      have HRN := Lib.hid hrn
      have B3 := Lib.hid ((B1.out.alloc (.cells #[.slice A1 d.length c1, .slice (some ⟨g, 0, none⟩) n n] 25)).grown GR.out (fun e => by injection e with e; omega))
      obtain ⟨s0, s1, _, _⟩ := BB.out.all
      obtain ⟨y0, y1, y2, y3⟩ := B3.out.all
      have hl : ((List.range n).map (cyc v)).length = n := by simp
      have HL := Lib.hid hl
      clear hrn hl
      by_cases hv0 : 0 < v.length
      · have hm0 : ¬ 0 < m := fun h => hlt ⟨hv0, h⟩
        obtain rfl : m = 0 := by omega
        clear hlt hm0
        go_wp2
        have T := (B3.out.set0 (.slice A1 d.length c1)).set1 (.slice (some ⟨g, 0, none⟩) n n)
        obtain ⟨t0, t1, _, _⟩ := T.all
        refine bodyPost_ret (v := .agg #[.slice A1 d.length c1, .slice (some ⟨g, 0, none⟩) n n]) (by simp [results, Try.results37, go_sem, t0, t1]) rfl ?_
        have m1 := mine_turned (M1.out.alloc (.cells #[.slice A1 d.length c1, .slice (some ⟨g, 0, none⟩) n n] 25)) (R1.out.alloc _) (by decide) GR.out
        have m2 := mine_block (base := g) HRN.out (Nat.le_refl _) (by rw [HL.out]; unfold maxLen; omega)
        have hic := isCell_of (base := w.heap.size) (m1.box (by simp) (.slice A1 d.length c1) (.slice (some ⟨g, 0, none⟩) n n)) (m2.box hgs (.slice A1 d.length c1) (.slice (some ⟨g, 0, none⟩) n n)) (by simp) (Nat.le_of_lt hgs)
        rw [HL.out] at hic
        exact ⟨_, rfl, hic, (LB.out.setCell (Nat.le_refl _) _).setCell (Nat.le_refl _) _⟩
      · have hv1 : v.length = 0 := by omega
        have hv2 : decide (0 < v.length) = false := by simp [hv1]
        clear hlt hv1
        go_wp2
        have T := (B3.out.set0 (.slice A1 d.length c1)).set1 (.slice (some ⟨g, 0, none⟩) n n)
        obtain ⟨t0, t1, _, _⟩ := T.all
        refine bodyPost_ret (v := .agg #[.slice A1 d.length c1, .slice (some ⟨g, 0, none⟩) n n]) (by simp [results, Try.results37, go_sem, t0, t1]) rfl ?_
        have m1 := mine_turned (M1.out.alloc (.cells #[.slice A1 d.length c1, .slice (some ⟨g, 0, none⟩) n n] 25)) (R1.out.alloc _) (by decide) GR.out
        have m2 := mine_block (base := g) HRN.out (Nat.le_refl _) (by rw [HL.out]; unfold maxLen; omega)
        have hic := isCell_of (base := w.heap.size) (m1.box (by simp) (.slice A1 d.length c1) (.slice (some ⟨g, 0, none⟩) n n)) (m2.box hgs (.slice A1 d.length c1) (.slice (some ⟨g, 0, none⟩) n n)) (by simp) (Nat.le_of_lt hgs)
        rw [HL.out] at hic
        exact ⟨_, rfl, hic, (LB.out.setCell (Nat.le_refl _) _).setCell (Nat.le_refl _) _⟩
end Go.Proofs.Ythabimjmdnhomaa.Sh
