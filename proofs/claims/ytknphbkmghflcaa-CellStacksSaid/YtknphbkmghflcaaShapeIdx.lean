/-
  What shape.within and shape.Index answer for any axes and any place; nothing that was there is written. Condition: the slices are no longer than an int can say.
-/
import Derived.Test.YtknphbkmghflcaaProg
import Derived.Test.YtknphbkmghflcaaShapeProd
import Derived.Deep.QuietTactic
import Derived.BigQuiet
namespace Go.Proofs.Ytknphbkmghflcaa.Sh
open Go.RowKit
set_option linter.unusedVariables false

/-- Is it a place of these axes? -/
def inB : List Int → List Int → Bool
  | [], [] => true
  | x :: d, i :: p => decide (0 ≤ i) && decide (i < x) && inB d p
  | _, _ => false
/-- How many places stand ahead, from a start. -/
def hor : List Int → List Int → Int → Int
  | x :: d, i :: p, a => hor d p (a * x + i)
  | _, _, a => a
def idxI (d p : List Int) : Int := if rightB d = true ∧ inB d p = true then hor d p 0 else -1

theorem inB_length {d p : List Int} (h : inB d p = true) : p.length = d.length := by
  induction d generalizing p with
  | nil => cases p with | nil => rfl | cons _ _ => simp [inB] at h
  | cons x d ih => cases p with
    | nil => simp [inB] at h
    | cons i p => simp only [inB, Bool.and_eq_true] at h; simp [ih h.2]
theorem inB_snoc (d p : List Int) (x i : Int) (h : p.length = d.length) : inB (d ++ [x]) (p ++ [i]) = (inB d p && (decide (0 ≤ i) && decide (i < x))) := by
  induction d generalizing p with
  | nil => cases p with | nil => simp [inB] | cons _ _ => simp at h
  | cons y d ih => cases p with
    | nil => simp at h
    | cons j p => simp only [List.cons_append, inB, ih p (by simpa using h), Bool.and_assoc]
theorem hor_snoc (d p : List Int) (x i a : Int) (h : p.length = d.length) : hor (d ++ [x]) (p ++ [i]) a = hor d p a * x + i := by
  induction d generalizing p a with
  | nil => cases p with | nil => simp [hor] | cons _ _ => simp at h
  | cons y d ih => cases p with
    | nil => simp at h
    | cons j p => simp only [List.cons_append, hor, ih p _ (by simpa using h)]
theorem inB_take_false {d p : List Int} {k : Nat} (h : inB (d.take k) (p.take k) = false) (hl : p.length = d.length) : inB d p = false := by
  induction k generalizing d p with
  | zero => simp [inB] at h
  | succ k ih => cases d with
    | nil => cases p with | nil => simp [inB] at h | cons _ _ => simp at hl
    | cons x d => cases p with
      | nil => simp at hl
      | cons i p =>
        simp only [List.take_succ_cons, inB, Bool.and_eq_false_iff] at h ⊢
        rcases h with h | h
        · exact .inl h
        · exact .inr (ih h (by simpa using hl))
theorem hor_bd (d p : List Int) (h : inB d p = true) : 0 ≤ hor d p 0 ∧ hor d p 0 < prod d := by
  have key : ∀ (d p : List Int) (a q : Int), 0 ≤ a → a < q → inB d p = true → 0 ≤ hor d p a ∧ hor d p a < d.foldl (· * ·) q := by
    intro d
    induction d with
    | nil => intro p a q h0 h1 h; cases p with | nil => exact ⟨h0, h1⟩ | cons _ _ => simp [inB] at h
    | cons x d ih =>
      intro p a q h0 h1 h
      cases p with
      | nil => simp [inB] at h
      | cons i p =>
        simp only [inB, Bool.and_eq_true, decide_eq_true_eq] at h
        obtain ⟨⟨hi0, hi1⟩, h⟩ := h
        have hx : 0 ≤ x := by omega
        have h2 : 0 ≤ a * x := Int.mul_nonneg h0 hx
        have h3 : (a + 1) * x ≤ q * x := Int.mul_le_mul_of_nonneg_right (by omega) hx
        rw [Int.add_mul, Int.one_mul] at h3
        exact ih p (a * x + i) (q * x) (by omega) (by omega) h
  exact key d p 0 1 (by omega) (by omega) h
theorem inB_take (d p : List Int) (k : Nat) (hl : p.length = d.length) (hk : k < d.length) : inB (d.take (k + 1)) (p.take (k + 1)) = (inB (d.take k) (p.take k) && (decide (0 ≤ p.getD k 0) && decide (p.getD k 0 < d.getD k 0))) := by
  rw [take_snoc d k hk, take_snoc p k (by omega), inB_snoc _ _ _ _ (by simp [hl])]
theorem hor_take (d p : List Int) (k : Nat) (hl : p.length = d.length) (hk : k < d.length) : hor (d.take (k + 1)) (p.take (k + 1)) 0 = hor (d.take k) (p.take k) 0 * d.getD k 0 + p.getD k 0 := by
  rw [take_snoc d k hk, take_snoc p k (by omega), hor_snoc _ _ _ _ _ (by simp [hl])]
theorem idxI_not {d p : List Int} (h : ¬ rightB d = true) : idxI d p = -1 := by simp [idxI, h]
theorem idxI_len {d p : List Int} (h : ¬ p.length = d.length) : idxI d p = -1 := by
  have : ¬ inB d p = true := fun e => h (inB_length e)
  simp [idxI, this]
theorem idxI_bad {d p : List Int} {k : Nat} (hl : p.length = d.length) (hk : k < d.length) (h : ¬ (0 ≤ p.getD k 0 ∧ p.getD k 0 < d.getD k 0)) : idxI d p = -1 := by
  have : inB d p = false := by
    apply inB_take_false (k := k + 1) _ hl
    rw [inB_take d p k hl hk]
    simp only [Bool.and_eq_false_iff, decide_eq_false_iff_not]
    right; omega
  simp [idxI, this]

def withinB (i n : Int) : Bool := decide (0 ≤ i) && decide (i < n)
set_option maxHeartbeats 400000 in
theorem within_any (i n : Int) (w : World) : Calls Try.prog 41 #[.int .i64 i, .int .i64 n] w fun e w' => e = .returned (.bool (withinB i n)) ∧ w' = w := by
  by_cases h : 0 ≤ i
  · go_enter Try.func41, Try.ntmps41
    go_wp2
    go_ret
    exact ⟨ret_bool (by simp [withinB, h]), rfl⟩
  · go_enter Try.func41, Try.ntmps41
    go_wp2
    go_ret
    exact ⟨ret_bool (by simp [withinB]; omega), rfl⟩
theorem within_yes (i n : Int) (w : World) (h : withinB i n = true) : Calls Try.prog 41 #[.int .i64 i, .int .i64 n] w fun e w' => e = .returned (.bool true) ∧ w' = w := by
  have := within_any i n w; rwa [h] at this
theorem within_no (i n : Int) (w : World) (h : withinB i n = false) : Calls Try.prog 41 #[.int .i64 i, .int .i64 n] w fun e w' => e = .returned (.bool false) ∧ w' = w := by
  have := within_any i n w; rwa [h] at this

set_option maxHeartbeats 1000000 in
theorem index_any (A : Option Addr) (c : Nat) (d : List Int) (B : Option Addr) (c2 : Nat) (p : List Int) (w : World) (hl : d.length ≤ maxLen) (hl2 : p.length ≤ maxLen) (ha : Ints w A d) (hb : Ints w B p) :
    Calls Try.prog 27 #[.slice A d.length c, .slice B p.length c2] w fun e w' => e = .returned (.int .i64 (idxI d p)) ∧ Below w.heap.size w w' := by
  have hR0 := right_any A c d w hl ha
  unfold maxLen at hl hl2
  by_cases hR : rightB d = true
  · rw [hR] at hR0
    have HR := Lib.hid hR0
    have HQ := Lib.hid hR
    clear hR0 hR
    obtain ⟨h3, hall, h64⟩ := rightB_all HQ.out
    have HA := Lib.hid hall
    clear hall
    by_cases he : p.length = d.length
    · have hev : ((p.length : Int) != (d.length : Int)) = false := by simp [he]
      have HE := Lib.hid he
      have hle : d.length ≤ p.length := by omega
      have hle2 : p.length ≤ d.length := by omega
      clear he
      go_enter Try.func27, Try.ntmps27
      go_wp2_with (go_at_call 33; refine HR.out.mono ?_; rintro e w1 ⟨rfl, hb1⟩)
      go_loopw [5, 19] (fun s i wr => ∃ k n : Nat, k ≤ d.length ∧ i = .int .i64 k ∧ inB (d.take k) (p.take k) = true ∧ s = .int .i64 (hor (d.take k) (p.take k) 0) ∧ wr = w1.drewN n)
        (fun _ i _ => d.length - (intOf i).toNat)
      case atStart => exact ⟨0, 0, Nat.zero_le _, rfl, rfl, rfl, rfl⟩
      case round =>
        obtain ⟨k, n, hk, rfl, hin, rfl, rfl⟩ := hrel
        have HI := Lib.hid hin
        clear hin
        by_cases hlt : k < d.length
        · obtain ⟨b1, o1, rfl, hbb1, hc1⟩ := (ha.below hb1) (by omega)
          obtain ⟨b2, o2, rfl, hbb2, hc2⟩ := (hb.below hb1) (by omega)
          have h1 : (w1.drewN n).cell? ⟨b1, o1 + k, none⟩ = some (.int .i64 (d.getD k 0)) := hc1 k hlt
          have h2 : (w1.drewN n).cell? ⟨b2, o2 + k, none⟩ = some (.int .i64 (p.getD k 0)) := hc2 k (by omega)
          have hti := Lib.hid (inB_take d p k HE.out hlt)
          have hth := Lib.hid (hor_take d p k HE.out hlt)
          have hbad := fun h => Lib.hid (idxI_bad (k := k) HE.out hlt h)
          have hh := hor_bd _ _ HI.out
          have hpb := prod_bd (d.take k) (by rw [List.all_eq_true]; intro x hx; exact List.all_eq_true.1 HA.out x (List.mem_of_mem_take hx))
          have hlk : (d.take k).length ≤ k := List.length_take_le _ _
          have hp1 : prod (d.take k) ≤ 4096 := hpb.2.2.1 (by omega)
          have hd := okAx_at HA.out k hlt
          have i0 : (0 : Int) ≤ (k : Int) := by omega
          have i1 : (k : Int) < (d.length : Int) := by omega
          have i2 : (k : Int) < (p.length : Int) := by omega
          have hs0 := hh.1
          have hs1 : hor (d.take k) (p.take k) 0 ≤ 4096 := by omega
          clear hc1 hc2 ha hb hpb hlk hh hp1
          generalize hx : d.getD k 0 = x at *
          generalize hy : p.getD k 0 = y at *
          generalize hq : hor (d.take k) (p.take k) 0 = q at *
          have HX := Lib.hid hx
          have HY := Lib.hid hy
          clear hx hy hq
          generalize hw1 : w1.drewN n = w2 at *
          have HW := Lib.hid hw1
          clear hw1
          have hm := mul_bd hs0 hs1 hd.1 hd.2
          by_cases hok : 0 ≤ y ∧ y < x
          · have hwi : withinB y x = true := by simp [withinB, hok]
            have HWI := Lib.hid hwi
            obtain ⟨hy0, hy1⟩ := hok
            clear hwi hbad
            go_wp2_with fail
            go_quiet ((go_at_call 41; exact Calls.quiet_of_same (within_yes _ _ _ HWI.out)))
            revert nq
            intro nq0
            go_wp2_with fail
            go_quiet (fail)
            go_wp2
            go_roundw
            case rel => exact ⟨k + 1, n + (nq0 + nq), by omega, by go_num, by rw [hti.out, HI.out]; simp [hy0, hy1], by rw [hth.out], by rw [← HW.out, World.drewN_drewN]⟩
            case measure => simp [intOf]; omega
          · have hwi : withinB y x = false := by simp only [withinB]; rw [Bool.eq_false_iff]; simpa using hok
            have HWI := Lib.hid hwi
            have HB := hbad hok
            clear hwi hbad hok
            go_wp2_with fail
            go_quiet ((go_at_call 41; exact Calls.quiet_of_same (within_no _ _ _ HWI.out)))
            go_wp2
            go_ret
            exact ⟨ret_int HB.out.symm, by rw [← HW.out, World.drewN_drewN]; exact below_drewN hb1 _⟩
        · obtain rfl : k = d.length := by omega
          have hin := HI.out
          rw [List.take_length, List.take_of_length_le (by omega)] at *
          have hix : idxI d p = hor d p 0 := by simp [idxI, HQ.out, hin]
          have HX := Lib.hid hix
          clear hin hix
          go_wp2
          go_ret
          exact ⟨ret_int HX.out.symm, below_drewN hb1 _⟩
    · have hev : ((p.length : Int) != (d.length : Int)) = true := by simp; omega
      have HX := Lib.hid (idxI_len (d := d) he)
      clear he
      go_enter Try.func27, Try.ntmps27
      go_wp2_with (go_at_call 33; refine HR.out.mono ?_; rintro e w1 ⟨rfl, hb1⟩)
      go_ret
      exact ⟨ret_int HX.out.symm, hb1⟩
  · have HX := Lib.hid (idxI_not (p := p) hR)
    have hR' : rightB d = false := by simpa using hR
    rw [hR'] at hR0
    have HR := Lib.hid hR0
    clear hR0 hR hR'
    go_enter Try.func27, Try.ntmps27
    go_wp2_with (go_at_call 33; refine HR.out.mono ?_; rintro e w1 ⟨rfl, hb1⟩)
    go_ret
    exact ⟨ret_int HX.out.symm, hb1⟩
end Go.Proofs.Ytknphbkmghflcaa.Sh
