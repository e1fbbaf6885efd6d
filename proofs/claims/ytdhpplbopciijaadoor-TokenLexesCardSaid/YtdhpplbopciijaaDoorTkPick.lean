/-
  Layer 17, token: (*reader).picked. Conditions: as told in it.
-/
import Derived.Test.YtdhpplbopciijaaDoorTkNumber
set_option maxRecDepth 100000
namespace Go.Proofs.YtdhpplbopciijaaDoor.Tk
open Go.Proofs.YtdhpplbopciijaaDoor.Sh Go.Proofs.YtdhpplbopciijaaDoor.St
open Go.RowKit
set_option linter.unusedVariables false

def fnV (f : Nat) : Value := .func (.func f) #[] #[]
def pickF (k : Nat) : Nat := if k = 0 then 29 else if k = 1 then 30 else if k = 2 then 32 else if k = 3 then 33 else if k = 4 then 34 else 35
def RetP (k : Nat) (w : World) (e : Ending) (w' : World) : Prop := e = .returned (fnV (pickF k)) ∧ Below w.heap.size w w'
theorem sign_two (l : List UInt8) : (0 < Dg.signL l) ↔ (Lib.hasPrefix l [194, 175] || Lib.hasPrefix l [95]) = true := by
  unfold Dg.signL
  cases h1 : Lib.hasPrefix l [194, 175] <;> cases h2 : Lib.hasPrefix l [95] <;> simp
theorem begins_two (x y : List UInt8) (r : ByteArray) (W : World) (b : Bool) (hb : (Lib.hasPrefix r.data.toList x || Lib.hasPrefix r.data.toList y) = b) :
    Calls Tryd.prog 31 #[.string r, .slice (some ⟨W.heap.size, 0, none⟩) 2 2] (W.alloc (.cells #[.string ⟨x.toArray⟩, .string ⟨y.toArray⟩] 9)) (RetB b (W.alloc (.cells #[.string ⟨x.toArray⟩, .string ⟨y.toArray⟩] 9))) := by
  have B := Bk.new 9 W [.string ⟨x.toArray⟩, .string ⟨y.toArray⟩]
  rw [← hb]
  exact begins_any W.heap.size r ⟨x.toArray⟩ ⟨y.toArray⟩ _ _ _ B.lt (B.c 0) (B.c 1) (by simp) (by simp)
set_option maxHeartbeats 2000000 in
theorem picked_any (w : World) (g : Nat) (s : ByteArray) (a : Nat) (V : Value) (qs : List Qt) (d : Rd w g s a V qs) (ha : a < s.size) (hs : s.size ≤ maxLen) :
    Calls Tryd.prog 21 #[.pointer (some ⟨g, 0, none⟩)] w (RetP (clsN (s.data.toList.drop a)) w) := by
  have HR := Lib.hid (rest_any w g s a V qs d (by omega) hs)
  have h0 : 0 < (restB s a).size := by rw [rest_size]; omega
  have hat := Gl.at_list (restB s a) 0 h0
  have hrl := rest_list s a
  generalize restB s a = r at *
  have HM := fun W b hb => begins_two [194, 175] [95] r W b hb
  have HK := fun W b hb => begins_two [226, 141, 157] [35] r W b hb
  rw [hrl] at hat HM HK
  generalize s.data.toList.drop a = rl at *
  have HMH := Lib.hid HM
  have HKH := Lib.hid HK
  obtain ⟨c, hc⟩ : ∃ c, r[0] = c := ⟨_, rfl⟩
  have HCC := Lib.hid hc
  have hcl : clsN rl = if c = 32 ∨ c = 9 then 0 else if c = 10 then 1 else if diB c = true ∨ 0 < Dg.signL rl then 2 else if leB c = true then 3 else if Lib.hasPrefix rl [226, 141, 157] = true ∨ Lib.hasPrefix rl [35] = true then 4 else 5 := by
    cases rl with
    | nil => simp at hat
    | cons x t =>
      obtain rfl : x = c := by simpa [hc] using hat
      rfl
  have b32 : ((c.toNat : Int) == 32) = decide (c = 32) := by
    by_cases h : c = 32
    · subst h; rfl
    · have : c.toNat ≠ 32 := fun e => h (UInt8.toNat_inj.1 e)
      simp [h]; omega
  have b9 : ((c.toNat : Int) == 9) = decide (c = 9) := by
    by_cases h : c = 9
    · subst h; rfl
    · have : c.toNat ≠ 9 := fun e => h (UInt8.toNat_inj.1 e)
      simp [h]; omega
  have b10 : ((c.toNat : Int) == 10) = decide (c = 10) := by
    by_cases h : c = 10
    · subst h; rfl
    · have : c.toNat ≠ 10 := fun e => h (UInt8.toNat_inj.1 e)
      simp [h]; omega
  clear HM HK hat hrl d
  generalize hk : clsN rl = k at *
  by_cases h32 : c = 32
  · rw [if_pos (.inl h32)] at hcl
    subst hcl
    rw [decide_eq_true h32] at b32
    clear h32 b9 b10 hk
    go_enter Tryd.func21, Tryd.ntmps21
    go_wp2_with fail
    refine (HR.out).mono ?_
    rintro e w1 ⟨rfl, hb1⟩
    have L1 := Lib.hid hb1
    clear hb1
    go_wp2_with fail
    go_wp2
    go_ret
    exact ⟨rfl, L1.out⟩
  by_cases h9 : c = 9
  · rw [if_pos (.inr h9)] at hcl
    subst hcl
    rw [decide_eq_false h32] at b32
    rw [decide_eq_true h9] at b9
    clear h32 h9 b10 hk
    go_enter Tryd.func21, Tryd.ntmps21
    go_wp2_with fail
    refine (HR.out).mono ?_
    rintro e w1 ⟨rfl, hb1⟩
    have L1 := Lib.hid hb1
    clear hb1
    go_wp2_with fail
    go_wp2
    go_ret
    exact ⟨rfl, L1.out⟩
  rw [if_neg (by rintro (h | h); exact h32 h; exact h9 h)] at hcl
  rw [decide_eq_false h32] at b32
  rw [decide_eq_false h9] at b9
  by_cases h10 : c = 10
  · rw [if_pos h10] at hcl
    subst hcl
    rw [decide_eq_true h10] at b10
    clear h32 h9 h10 hk
    go_enter Tryd.func21, Tryd.ntmps21
    go_wp2_with fail
    refine (HR.out).mono ?_
    rintro e w1 ⟨rfl, hb1⟩
    have L1 := Lib.hid hb1
    clear hb1
    go_wp2_with fail
    go_wp2
    go_ret
    exact ⟨rfl, L1.out⟩
  rw [if_neg h10] at hcl
  rw [decide_eq_false h10] at b10
  cases hd : diB c with
  | true =>
    rw [if_pos (.inl hd)] at hcl
    subst hcl
    have HD := Lib.hid (fun W => digit_b c true W hd)
    clear h32 h9 h10 hd hk
    go_enter Tryd.func21, Tryd.ntmps21
    go_wp2_with fail
    refine (HR.out).mono ?_
    rintro e w1 ⟨rfl, hb1⟩
    have L1 := Lib.hid hb1
    clear hb1
    go_wp2_with fail
    refine (HD.out _).mono ?_
    rintro e w2 ⟨rfl, rfl⟩
    go_wp2
    go_ret
    exact ⟨rfl, L1.out⟩
  | false =>
    have HD := Lib.hid (fun W => digit_b c false W hd)
    cases hm : (Lib.hasPrefix rl [194, 175] || Lib.hasPrefix rl [95]) with
    | true =>
      rw [if_pos (.inr ((sign_two rl).2 hm))] at hcl
      subst hcl
      have HM := Lib.hid (fun W => HMH.out W true hm)
      clear h32 h9 h10 hd hm hk
      go_enter Tryd.func21, Tryd.ntmps21
      go_wp2_with fail
      refine (HR.out).mono ?_
      rintro e w1 ⟨rfl, hb1⟩
      have L1 := Lib.hid hb1
      clear hb1
      go_wp2_with fail
      refine (HD.out _).mono ?_
      rintro e w2 ⟨rfl, rfl⟩
      go_wp2_with fail
      refine (HM.out _).mono ?_
      rintro e w6 ⟨rfl, hb2⟩
      have B1 := Lib.hid (Gl.below_next (Gl.below_next L1.out (below_new _ _)) hb2)
      clear hb2
      go_wp2
      go_ret
      exact ⟨rfl, B1.out⟩
    | false =>
      rw [if_neg (by rintro (h | h); rw [hd] at h; cases h; rw [sign_two, hm] at h; cases h)] at hcl
      have HM := Lib.hid (fun W => HMH.out W false hm)
      cases hl : leB c with
      | true =>
        rw [if_pos hl] at hcl
        subst hcl
        have HL := Lib.hid (fun W => letter_b c true W hl)
        clear h32 h9 h10 hd hm hl hk
        go_enter Tryd.func21, Tryd.ntmps21
        go_wp2_with fail
        refine (HR.out).mono ?_
        rintro e w1 ⟨rfl, hb1⟩
        have L1 := Lib.hid hb1
        clear hb1
        go_wp2_with fail
        refine (HD.out _).mono ?_
        rintro e w2 ⟨rfl, rfl⟩
        go_wp2_with fail
        refine (HM.out _).mono ?_
        rintro e w6 ⟨rfl, hb2⟩
        have B1 := Lib.hid (Gl.below_next (Gl.below_next L1.out (below_new _ _)) hb2)
        clear hb2
        go_wp2_with fail
        refine (HL.out _).mono ?_
        rintro e w4 ⟨rfl, rfl⟩
        go_wp2
        go_ret
        exact ⟨rfl, B1.out⟩
      | false =>
        rw [if_neg (by rw [hl]; simp)] at hcl
        have HL := Lib.hid (fun W => letter_b c false W hl)
        cases hr : (Lib.hasPrefix rl [226, 141, 157] || Lib.hasPrefix rl [35]) with
        | true =>
          rw [if_pos (by simpa using hr)] at hcl
          subst hcl
          have HK := Lib.hid (fun W => HKH.out W true hr)
          clear h32 h9 h10 hd hm hl hr hk
          go_enter Tryd.func21, Tryd.ntmps21
          go_wp2_with fail
          refine (HR.out).mono ?_
          rintro e w1 ⟨rfl, hb1⟩
          have L1 := Lib.hid hb1
          clear hb1
          go_wp2_with fail
          refine (HD.out _).mono ?_
          rintro e w2 ⟨rfl, rfl⟩
          go_wp2_with fail
          refine (HM.out _).mono ?_
          rintro e w6 ⟨rfl, hb2⟩
          have B1 := Lib.hid (Gl.below_next (Gl.below_next L1.out (below_new _ _)) hb2)
          clear hb2
          go_wp2_with fail
          refine (HL.out _).mono ?_
          rintro e w4 ⟨rfl, rfl⟩
          go_wp2_with fail
          refine (HK.out _).mono ?_
          rintro e w10 ⟨rfl, hb2⟩
          have B2 := Lib.hid (Gl.below_next (Gl.below_next B1.out (below_new _ _)) hb2)
          clear hb2
          go_wp2
          go_ret
          exact ⟨rfl, B2.out⟩
        | false =>
          rw [if_neg (by intro h; rw [Bool.or_eq_false_iff] at hr; rw [hr.1, hr.2] at h; simp at h)] at hcl
          subst hcl
          have HK := Lib.hid (fun W => HKH.out W false hr)
          clear h32 h9 h10 hd hm hl hr hk
          go_enter Tryd.func21, Tryd.ntmps21
          go_wp2_with fail
          refine (HR.out).mono ?_
          rintro e w1 ⟨rfl, hb1⟩
          have L1 := Lib.hid hb1
          clear hb1
          go_wp2_with fail
          refine (HD.out _).mono ?_
          rintro e w2 ⟨rfl, rfl⟩
          go_wp2_with fail
          refine (HM.out _).mono ?_
          rintro e w6 ⟨rfl, hb2⟩
          have B1 := Lib.hid (Gl.below_next (Gl.below_next L1.out (below_new _ _)) hb2)
          clear hb2
          go_wp2_with fail
          refine (HL.out _).mono ?_
          rintro e w4 ⟨rfl, rfl⟩
          go_wp2_with fail
          refine (HK.out _).mono ?_
          rintro e w10 ⟨rfl, hb2⟩
          have B2 := Lib.hid (Gl.below_next (Gl.below_next B1.out (below_new _ _)) hb2)
          clear hb2
          go_wp2
          go_ret
          exact ⟨rfl, B2.out⟩
end Go.Proofs.YtdhpplbopciijaaDoor.Tk
