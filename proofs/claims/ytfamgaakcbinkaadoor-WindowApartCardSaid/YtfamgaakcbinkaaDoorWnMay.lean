/-
  Why there is no such window: what riffleref15.May answers, and that New refuses for the same reason; riffleref15.Way. Conditions: the table of traits holds what its text lays; the numbers have 64 bits.
-/
import Derived.Test.YtfamgaakcbinkaaDoorWnNew
namespace Go.Proofs.YtfamgaakcbinkaaDoor.Wn
open Go.Proofs.YtfamgaakcbinkaaDoor.Sh Go.Proofs.YtfamgaakcbinkaaDoor.St
open Go.RowKit
set_option linter.unusedVariables false

/-- Why there is no such window; 0, if there is one. -/
def whyW (c bk lk wd : Int) : Int := if wd < 0 ∨ wd > 64 then 1 else if Sc.hasB c 2 = false then 13 else if bk < 0 ∨ lk < 0 ∨ bk > 31 ∨ lk > 31 ∨ bk + lk > 31 then 16 else 0
theorem why_yes {c bk lk wd : Int} (h : whyW c bk lk wd = 0) : 0 ≤ wd ∧ wd ≤ 64 ∧ Sc.hasB c 2 = true ∧ 0 ≤ bk ∧ 0 ≤ lk ∧ bk + lk ≤ 31 := by
  unfold whyW at h
  split at h
  · cases h
  · split at h
    · cases h
    · split at h
      · cases h
      · next h1 h2 h3 => exact ⟨by omega, by omega, by simpa using h2, by omega, by omega, by omega⟩
theorem why_1 {c bk lk wd : Int} (h : wd < 0 ∨ wd > 64) : whyW c bk lk wd = 1 := by unfold whyW; rw [if_pos h]
theorem why_13 {c bk lk wd : Int} (h : ¬ (wd < 0 ∨ wd > 64)) (hh : Sc.hasB c 2 = false) : whyW c bk lk wd = 13 := by unfold whyW; rw [if_neg h, if_pos hh]
theorem why_16 {c bk lk wd : Int} (h : ¬ (wd < 0 ∨ wd > 64)) (hh : Sc.hasB c 2 = true) (hb : bk < 0 ∨ lk < 0 ∨ bk > 31 ∨ lk > 31 ∨ bk + lk > 31) : whyW c bk lk wd = 16 := by unfold whyW; rw [if_neg h, if_neg (by simp [hh]), if_pos hb]
theorem why_0 {c bk lk wd : Int} (h : ¬ (wd < 0 ∨ wd > 64)) (hh : Sc.hasB c 2 = true) (hb : ¬ (bk < 0 ∨ lk < 0 ∨ bk > 31 ∨ lk > 31 ∨ bk + lk > 31)) : whyW c bk lk wd = 0 := by unfold whyW; rw [if_neg h, if_neg (by simp [hh]), if_neg hb]
set_option maxHeartbeats 1000000 in
theorem rway_any (c : Int) (s : Bool) (w : World) : Calls Tryd.prog 26 #[.agg #[.int .i64 c, .bool s]] w fun e w' => e = .returned (.int .i64 (wayN c : Nat)) ∧ Below w.heap.size w w' := by
  have L0 := Lib.hid (below_new w (.cells #[.int .i64 c, .bool s] 23))
  by_cases h7 : c = 7
  · subst h7
    rw [way_3 (show (Sc.trOf 7).picks = true by decide)]
    go_enter Tryd.func26, Tryd.ntmps26
    go_wp2
    go_ret
    exact ⟨rfl, L0.out⟩
  · have t7 : (c == 7) = false := by simpa using h7
    by_cases h8 : c = 8
    · subst h8
      rw [way_3 (show (Sc.trOf 8).picks = true by decide)]
      go_enter Tryd.func26, Tryd.ntmps26
      go_wp2
      go_ret
      exact ⟨rfl, L0.out⟩
    · have t8 : (c == 8) = false := by simpa using h8
      have hp := Sc.picks_not h7 h8
      have HJ := Lib.hid (fun W => Sc.rjoins_any c W)
      clear h7 h8
      cases hj : (Sc.trOf c).joins with
      | true =>
        rw [hj] at HJ
        rw [way_2 hp hj]
        clear hp hj
        go_enter Tryd.func26, Tryd.ntmps26
        go_wp2_with fail
        refine (HJ.out _).mono ?_
        rintro r w2 ⟨rfl, hb⟩
        have L2 := Lib.hid (below_next L0.out hb)
        clear hb
        go_wp2
        go_ret
        exact ⟨rfl, L2.out⟩
      | false =>
        rw [hj] at HJ
        rw [way_1 hp hj]
        clear hp hj
        go_enter Tryd.func26, Tryd.ntmps26
        go_wp2_with fail
        refine (HJ.out _).mono ?_
        rintro r w2 ⟨rfl, hb⟩
        have L2 := Lib.hid (below_next L0.out hb)
        clear hb
        go_wp2
        go_ret
        exact ⟨rfl, L2.out⟩
set_option maxHeartbeats 2000000 in
theorem rmay_any (c : Int) (s : Bool) (bk lk wd : Int) (w : World) : Calls Tryd.prog 23 #[.agg #[.int .i64 c, .bool s], .int .i64 bk, .int .i64 lk, .int .i64 wd] w fun e w' => e = .returned (.int .i64 (whyW c bk lk wd)) ∧ Below w.heap.size w w' := by
  have b0 := below_new w (.cells #[.int .i64 c, .bool s] 23)
  have L0 := Lib.hid b0
  have BX := Lib.hid (Bk.new 23 w [.int .i64 c, .bool s])
  clear b0
  by_cases w1 : wd < 0
  · have tw1 : decide (wd < 0) = true := decide_eq_true w1
    rw [why_1 (show wd < 0 ∨ wd > 64 by omega)]
    go_enter Tryd.func23, Tryd.ntmps23
    go_wp2
    go_ret
    exact ⟨rfl, L0.out⟩
  · have tw1 : decide (wd < 0) = false := decide_eq_false w1
    by_cases w2 : wd > 64
    · have tw2 : decide (wd > 64) = true := decide_eq_true w2
      rw [why_1 (show wd < 0 ∨ wd > 64 by omega)]
      go_enter Tryd.func23, Tryd.ntmps23
      go_wp2
      go_ret
      exact ⟨rfl, L0.out⟩
    · have tw2 : decide (wd > 64) = false := decide_eq_false w2
      have hn : ¬ (wd < 0 ∨ wd > 64) := by omega
      cases hh : Sc.hasB c 2 with
      | false =>
        rw [why_13 hn hh]
        go_enter Tryd.func23, Tryd.ntmps23
        go_wp2_with fail
        refine (Sc.rhas_b c 2 false _ hh).mono ?_
        rintro r w3 ⟨rfl, rfl⟩
        have L1 := L0
        go_wp2
        go_ret
        exact ⟨rfl, L1.out⟩
      | true =>
        by_cases b1 : bk < 0
        · have tb1 : decide (bk < 0) = true := decide_eq_true b1
          rw [why_16 hn hh (show bk < 0 ∨ lk < 0 ∨ bk > 31 ∨ lk > 31 ∨ bk + lk > 31 by omega)]
          go_enter Tryd.func23, Tryd.ntmps23
          go_wp2_with fail
          refine (Sc.rhas_b c 2 true _ hh).mono ?_
          rintro r w3 ⟨rfl, rfl⟩
          have L1 := L0
          go_wp2
          go_ret
          exact ⟨rfl, L1.out⟩
        · have tb1 : decide (bk < 0) = false := decide_eq_false b1
          by_cases b2 : lk < 0
          · have tb2 : decide (lk < 0) = true := decide_eq_true b2
            rw [why_16 hn hh (show bk < 0 ∨ lk < 0 ∨ bk > 31 ∨ lk > 31 ∨ bk + lk > 31 by omega)]
            go_enter Tryd.func23, Tryd.ntmps23
            go_wp2_with fail
            refine (Sc.rhas_b c 2 true _ hh).mono ?_
            rintro r w3 ⟨rfl, rfl⟩
            have L1 := L0
            go_wp2
            go_ret
            exact ⟨rfl, L1.out⟩
          · have tb2 : decide (lk < 0) = false := decide_eq_false b2
            by_cases b3 : bk > 31
            · have tb3 : decide (bk > 31) = true := decide_eq_true b3
              rw [why_16 hn hh (show bk < 0 ∨ lk < 0 ∨ bk > 31 ∨ lk > 31 ∨ bk + lk > 31 by omega)]
              go_enter Tryd.func23, Tryd.ntmps23
              go_wp2_with fail
              refine (Sc.rhas_b c 2 true _ hh).mono ?_
              rintro r w3 ⟨rfl, rfl⟩
              have L1 := L0
              go_wp2
              go_ret
              exact ⟨rfl, L1.out⟩
            · have tb3 : decide (bk > 31) = false := decide_eq_false b3
              by_cases b4 : lk > 31
              · have tb4 : decide (lk > 31) = true := decide_eq_true b4
                rw [why_16 hn hh (show bk < 0 ∨ lk < 0 ∨ bk > 31 ∨ lk > 31 ∨ bk + lk > 31 by omega)]
                go_enter Tryd.func23, Tryd.ntmps23
                go_wp2_with fail
                refine (Sc.rhas_b c 2 true _ hh).mono ?_
                rintro r w3 ⟨rfl, rfl⟩
                have L1 := L0
                go_wp2
                go_ret
                exact ⟨rfl, L1.out⟩
              · have tb4 : decide (lk > 31) = false := decide_eq_false b4
                by_cases b5 : bk + lk > 31
                · have tb5 : decide (bk + lk > 31) = true := decide_eq_true b5
                  rw [why_16 hn hh (show bk < 0 ∨ lk < 0 ∨ bk > 31 ∨ lk > 31 ∨ bk + lk > 31 by omega)]
                  go_enter Tryd.func23, Tryd.ntmps23
                  go_wp2_with fail
                  refine (Sc.rhas_b c 2 true _ hh).mono ?_
                  rintro r w3 ⟨rfl, rfl⟩
                  have L1 := L0
                  go_wp2
                  go_ret
                  exact ⟨rfl, L1.out⟩
                · have tb5 : decide (bk + lk > 31) = false := decide_eq_false b5
                  rw [why_0 hn hh (show ¬ (bk < 0 ∨ lk < 0 ∨ bk > 31 ∨ lk > 31 ∨ bk + lk > 31) by omega)]
                  go_enter Tryd.func23, Tryd.ntmps23
                  go_wp2_with fail
                  refine (Sc.rhas_b c 2 true _ hh).mono ?_
                  rintro r w3 ⟨rfl, rfl⟩
                  have L1 := L0
                  go_wp2
                  go_ret
                  exact ⟨rfl, L1.out⟩
set_option maxHeartbeats 2000000 in
theorem new_no (c : Int) (s : Bool) (bk lk wd : Int) (w : World) (hT : Sc.Tab w) (hbR : Sc.InR bk) (hw : whyW c bk lk wd ≠ 0) : Calls Tryd.prog 22 #[.agg #[.int .i64 c, .bool s], .int .i64 bk, .int .i64 lk, .int .i64 wd] w fun e w' => e = .returned (.tuple #[.pointer none, .int .i64 (whyW c bk lk wd)]) ∧ Below w.heap.size w w' := by
  have b0 := below_new w (.cells #[.int .i64 c, .bool s] 23)
  have L0 := Lib.hid b0
  have BX := Lib.hid (Bk.new 23 w [.int .i64 c, .bool s])
  have HW := Lib.hid hw
  clear hw
  have T0 := Lib.hid (hT.below b0)
  clear hT
  clear b0
  by_cases w1 : wd < 0
  · have tw1 : decide (wd < 0) = true := decide_eq_true w1
    rw [why_1 (show wd < 0 ∨ wd > 64 by omega)]
    go_enter Tryd.func22, Tryd.ntmps22
    go_wp2
    go_ret2
    exact ⟨rfl, L0.out⟩
  · have tw1 : decide (wd < 0) = false := decide_eq_false w1
    by_cases w2 : wd > 64
    · have tw2 : decide (wd > 64) = true := decide_eq_true w2
      rw [why_1 (show wd < 0 ∨ wd > 64 by omega)]
      go_enter Tryd.func22, Tryd.ntmps22
      go_wp2
      go_ret2
      exact ⟨rfl, L0.out⟩
    · have tw2 : decide (wd > 64) = false := decide_eq_false w2
      have hn : ¬ (wd < 0 ∨ wd > 64) := by omega
      cases hh : Sc.hasB c 2 with
      | false =>
        rw [why_13 hn hh]
        go_enter Tryd.func22, Tryd.ntmps22
        go_wp2_with fail
        refine (Sc.has_b c 2 false _ hh T0.out).mono ?_
        rintro r w3 ⟨rfl, hb⟩
        have L1 := Lib.hid (below_next L0.out hb)
        clear hb
        go_wp2
        go_ret2
        exact ⟨rfl, L1.out⟩
      | true =>
        by_cases b1 : bk < 0
        · have tb1 : decide (bk < 0) = true := decide_eq_true b1
          rw [why_16 hn hh (show bk < 0 ∨ lk < 0 ∨ bk > 31 ∨ lk > 31 ∨ bk + lk > 31 by omega)]
          go_enter Tryd.func22, Tryd.ntmps22
          go_wp2_with fail
          refine (Sc.has_b c 2 true _ hh T0.out).mono ?_
          rintro r w3 ⟨rfl, hb⟩
          have L1 := Lib.hid (below_next L0.out hb)
          clear hb
          go_wp2
          go_ret2
          exact ⟨rfl, L1.out⟩
        · have tb1 : decide (bk < 0) = false := decide_eq_false b1
          by_cases b2 : lk < 0
          · have tb2 : decide (lk < 0) = true := decide_eq_true b2
            rw [why_16 hn hh (show bk < 0 ∨ lk < 0 ∨ bk > 31 ∨ lk > 31 ∨ bk + lk > 31 by omega)]
            go_enter Tryd.func22, Tryd.ntmps22
            go_wp2_with fail
            refine (Sc.has_b c 2 true _ hh T0.out).mono ?_
            rintro r w3 ⟨rfl, hb⟩
            have L1 := Lib.hid (below_next L0.out hb)
            clear hb
            go_wp2
            go_ret2
            exact ⟨rfl, L1.out⟩
          · have tb2 : decide (lk < 0) = false := decide_eq_false b2
            by_cases b3 : lk > 31 - bk
            · have tb3 : decide (lk > 31 - bk) = true := decide_eq_true b3
              rw [why_16 hn hh (show bk < 0 ∨ lk < 0 ∨ bk > 31 ∨ lk > 31 ∨ bk + lk > 31 by omega)]
              have e1 : IntKind.i64.wrap (31 - bk) = 31 - bk := IntWalk.i64_in _ (by unfold Sc.InR at hbR; omega)
              go_enter Tryd.func22, Tryd.ntmps22
              go_wp2_with fail
              refine (Sc.has_b c 2 true _ hh T0.out).mono ?_
              rintro r w3 ⟨rfl, hb⟩
              have L1 := Lib.hid (below_next L0.out hb)
              clear hb
              go_wp2
              go_ret2
              exact ⟨rfl, L1.out⟩
            · have tb3 : decide (lk > 31 - bk) = false := decide_eq_false b3
              exact absurd (why_0 hn hh (show ¬ (bk < 0 ∨ lk < 0 ∨ bk > 31 ∨ lk > 31 ∨ bk + lk > 31) by omega)) HW.out
end Go.Proofs.YtfamgaakcbinkaaDoor.Wn
