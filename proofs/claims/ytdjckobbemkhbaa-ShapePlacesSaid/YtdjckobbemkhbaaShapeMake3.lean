/-
  What shape.Perm, shape.Picked, riffleref01.Perm and riffleref01.Picked answer for any lists; nothing that was there is written. Condition: at most 100 numbers each.
-/
import Derived.Test.YtdjckobbemkhbaaShapePick
import Derived.Test.YtdjckobbemkhbaaShapeMake2
import Derived.RegionTactic
namespace Go.Proofs.Ytdjckobbemkhbaa.Sh
open Go.RowKit
set_option linter.unusedVariables false

/-- The first k numbers are in their range, and none stands twice. -/
def Fine (p : List Int) (k : Nat) : Prop := (∀ x ∈ p.take k, 0 ≤ x ∧ x < p.length) ∧ ∀ x : Int, (p.take k).count x ≤ 1
theorem Fine.next {p : List Int} {k : Nat} (h : Fine p k) (hk : k < p.length) (h0 : 0 ≤ p.getD k 0) (h1 : p.getD k 0 < p.length) (hn : ¬ p.getD k 0 ∈ p.take k) : Fine p (k + 1) := by
  refine ⟨fun x hx => ?_, fun x => ?_⟩
  · rw [take_snoc p k hk, List.mem_append] at hx
    rcases hx with hx | hx
    · exact h.1 x hx
    · rw [List.mem_singleton] at hx; subst hx; exact ⟨h0, h1⟩
  · rw [count_take p k hk]
    have := h.2 x
    split
    · rename_i e
      subst e
      have : (p.take k).count (p.getD k 0) = 0 := List.count_eq_zero.2 hn
      omega
    · omega
theorem Fine.zero (p : List Int) : Fine p 0 := ⟨by simp, by simp⟩
theorem Fine.all {p : List Int} (h : Fine p p.length) : permB p = true := by
  unfold Fine at h
  rw [List.take_length] at h
  exact permB_of h.1 h.2
/-- Which numbers stand among the first k. -/
def metF (p : List Int) (k : Nat) (j : Nat) : Bool := decide ((j : Int) ∈ p.take k)
theorem metF_next (p : List Int) (k : Nat) (hk : k < p.length) (h0 : 0 ≤ p.getD k 0) (j : Nat) : (if (p.getD k 0).toNat = j then true else metF p k j) = metF p (k + 1) j := by
  unfold metF
  rw [take_snoc p k hk]
  by_cases h : (p.getD k 0).toNat = j
  · rw [if_pos h]
    have : (j : Int) = p.getD k 0 := by omega
    simp [this]
  · rw [if_neg h]
    have : ¬ (j : Int) = p.getD k 0 := by omega
    simp only [List.mem_append, List.mem_singleton, this, or_false]

set_option maxHeartbeats 1000000 in
theorem perm_any (A : Option Addr) (c : Nat) (p : List Int) (w : World) (hl : p.length ≤ 100) (hi : Ints w A p) :
    Calls Try.prog 26 #[.slice A p.length c] w fun e w' => e = .returned (.bool (permB p)) ∧ Below w.heap.size w w' := by
  have hmk := fun W => run_make_row' (P := Try.prog) 40 4 (.bool false) 1 Try.underlying40 infoBool rfl .i64 .i64 p.length (by omega) (by omega) W
  go_enter Try.func26, Try.ntmps26
  go_wp2
  go_loopw [10] (fun i wr => ∃ k : Nat, k ≤ p.length ∧ i = .int .i64 k ∧ Fine p k ∧ OwnB wr w.heap.size p.length (metF p k) ∧ Below w.heap.size w wr)
    (fun i _ => p.length - (intOf i).toNat)
  case atStart => exact ⟨0, Nat.zero_le _, rfl, Fine.zero p, (OwnB.made w p.length).congr (fun j _ => by simp [metF]), (Below.refl _ _).alloc (Nat.le_refl _) _⟩
  case round =>
    obtain ⟨k, hk, rfl, hfine, hown, hbel⟩ := hrel
    have HF := Lib.hid hfine
    clear hfine
    by_cases hlt : k < p.length
    · obtain ⟨b, off, rfl, hb, hcs⟩ := hi (by omega)
      have hck : wr.cell? ⟨b, off + k, none⟩ = some (.int .i64 (p.getD k 0)) := (hbel.cell (p := ⟨b, off + k, none⟩) hb).trans (hcs k hlt)
      clear hcs hi
      by_cases hx : 0 ≤ p.getD k 0 ∧ p.getD k 0 < p.length
      · have hwi := (withinB_iff (p.getD k 0) p.length).2 hx
        have HWI := Lib.hid hwi
        obtain ⟨hx0, hx1⟩ := hx
        have hmc := hown.cell (i := (p.getD k 0).toNat) (by omega)
        have hmf := hown.frozen (p.getD k 0).toNat
        by_cases hm : p.getD k 0 ∈ p.take k
        · have hmet : metF p k (p.getD k 0).toNat = true := by unfold metF; rw [show (((p.getD k 0).toNat : Nat) : Int) = p.getD k 0 from by omega]; simpa using hm
          rw [hmet] at hmc
          have HP := Lib.hid (permB_twice hlt hm)
          clear hown hwi hm hmet
          generalize p.getD k 0 = x at *
          go_wp2_with (go_at_call 33; refine (within_yesL _ _ _ HWI.out).mono ?_; rintro e w' ⟨rfl, rfl⟩)
          go_ret
          exact ⟨ret_bool HP.out.symm, hbel⟩
        · have hmet : metF p k (p.getD k 0).toNat = false := by unfold metF; rw [show (((p.getD k 0).toNat : Nat) : Int) = p.getD k 0 from by omega]; simpa using hm
          rw [hmet] at hmc
          have HN := Lib.hid (HF.out.next hlt hx0 hx1 hm)
          have HO := Lib.hid ((hown.set_ (p.getD k 0).toNat true).congr (fun j _ => metF_next p k hlt hx0 j))
          have HB := Lib.hid (hbel.setCell (p := ⟨w.heap.size, (p.getD k 0).toNat, none⟩) (Nat.le_refl _) (.bool true))
          clear hown hwi hm hmet hbel
          generalize p.getD k 0 = x at *
          go_wp2_with (go_at_call 33; refine (within_yesL _ _ _ HWI.out).mono ?_; rintro e w' ⟨rfl, rfl⟩)
          go_roundw
          case rel => exact ⟨k + 1, by omega, by go_num, HN.out, HO.out, HB.out⟩
          case measure => simp [intOf]; omega
      · have hwi : withinB (p.getD k 0) p.length = false := by rw [Bool.eq_false_iff]; intro h; exact hx ((withinB_iff _ p.length).1 h)
        have HWI := Lib.hid hwi
        have HP := Lib.hid (permB_out hlt hx)
        clear hown hwi hx
        generalize p.getD k 0 = x at *
        go_wp2_with (go_at_call 33; refine (within_noL _ _ _ HWI.out).mono ?_; rintro e w' ⟨rfl, rfl⟩)
        go_ret
        exact ⟨ret_bool HP.out.symm, hbel⟩
    · obtain rfl : k = p.length := by omega
      have HP := Lib.hid HF.out.all
      clear hown
      go_wp2
      go_ret
      exact ⟨ret_bool HP.out.symm, hbel⟩

theorem all_succ (p : List Int) (n : Nat) : (List.range (n + 1)).all (fun j => p.count (j : Int) == 1) = ((List.range n).all (fun j => p.count (j : Int) == 1) && (p.count (n : Int) == 1)) := by
  rw [List.range_succ, List.all_append]; simp
theorem permB_stop {p : List Int} {n : Nat} (hn : n < p.length) (h : ¬ p.count (n : Int) = 1) : permB p = false := by
  rw [Bool.eq_false_iff]; intro hp; exact h ((permB_iff p).1 hp n hn)

set_option maxHeartbeats 1000000 in
theorem refPerm_any (A : Option Addr) (c : Nat) (p : List Int) (w : World) (hl : p.length ≤ 100) (hi : Ints w A p) :
    Calls Try.prog 27 #[.slice A p.length c] w fun e w' => e = .returned (.bool (permB p)) ∧ w = w' := by
  go_enter Try.func27, Try.ntmps27
  go_wp2
  go_loop [3] (fun i => ∃ n : Nat, n ≤ p.length ∧ i = .int .i64 n ∧ (List.range n).all (fun j => p.count (j : Int) == 1) = true)
    (fun i => p.length - (intOf i).toNat)
  case atStart => exact ⟨0, Nat.zero_le _, rfl, rfl⟩
  case round =>
    obtain ⟨n, hn, rfl, hall⟩ := hrel
    have HA := Lib.hid hall
    clear hall
    by_cases hlt : n < p.length
    · go_wp2
      go_loop [4, 5] (fun q i => ∃ k : Nat, k ≤ p.length ∧ i = .int .i64 k ∧ q = .int .i64 ((p.take k).count (n : Int)))
        (fun _ i => p.length - (intOf i).toNat)
      case atStart => exact ⟨0, Nat.zero_le _, rfl, by simp⟩
      case round =>
        obtain ⟨k, hk, rfl, rfl⟩ := hrel
        by_cases hkt : k < p.length
        · obtain ⟨b, off, rfl, hb, hcs⟩ := hi (by omega)
          have hck : w.cell? ⟨b, off + k, none⟩ = some (.int .i64 (p.getD k 0)) := hcs k hkt
          have hct := Lib.hid (count_take p k hkt (n : Int))
          have hcl : (p.take k).count (n : Int) ≤ k := Nat.le_trans (List.count_le_length) (List.length_take_le _ _)
          clear hcs hi
          generalize p.getD k 0 = x at *
          generalize (p.take k).count (n : Int) = q at *
          by_cases hx : x = (n : Int)
          · have hq : (x == (n : Int)) = true := by simpa using hx
            have HX := Lib.hid hx
            clear hx
            go_wp2
            go_round
            case rel => exact ⟨k + 1, by omega, by go_num, by rw [hct.out, if_pos HX.out]; go_num⟩
            case measure => simp [intOf]; omega
          · have hq : (x == (n : Int)) = false := by simpa using hx
            have HX := Lib.hid hx
            clear hx
            go_wp2
            go_round
            case rel => exact ⟨k + 1, by omega, by go_num, by rw [hct.out, if_neg HX.out]; go_num⟩
            case measure => simp [intOf]; omega
        · obtain rfl : k = p.length := by omega
          rw [List.take_length]
          have hst := fun h => Lib.hid (permB_stop (p := p) hlt h)
          have hsu := Lib.hid (all_succ p n)
          generalize p.count (n : Int) = q at *
          by_cases hq1 : q = 1
          · subst hq1
            clear hst
            go_wp2
            go_round
            case rel => exact ⟨n + 1, by omega, by go_num, by rw [hsu.out, HA.out]; rfl⟩
            case measure => simp [intOf]; omega
          · have hne : ((q : Int) != 1) = true := by simp; omega
            have HS := hst hq1
            clear hst hq1
            go_wp2
            go_ret
            exact ⟨ret_bool HS.out.symm, rfl⟩
    · obtain rfl : n = p.length := by omega
      have HP : Hid (permB p = true) := Lib.hid HA.out
      go_wp2
      go_ret
      exact ⟨ret_bool HP.out.symm, rfl⟩
end Go.Proofs.Ytdjckobbemkhbaa.Sh
