/-
  Layer 17, token: riffleref17.begins, blanks and counts: what they answer. No condition but that a text lies in memory.
-/
import Derived.Test.YtdhpplbopciijaaDoorTkRefN
import Derived.Test.YtdhpplbopciijaaDoorTkBlank
set_option maxRecDepth 100000
namespace Go.Proofs.YtdhpplbopciijaaDoor.Tk
open Go.RowKit
set_option linter.unusedVariables false

theorem take_has (l q : List UInt8) (h : q.length ≤ l.length) : (l.take q.length == q) = Lib.hasPrefix l q := by
  rw [Bool.eq_iff_iff, has_iff, beq_iff_eq, List.prefix_iff_eq_take]
  exact ⟨fun h => h.symm, fun h => h.symm⟩
set_option maxHeartbeats 1000000 in
theorem rbegins_any (s p : ByteArray) (b : Bool) (w : World) (hs : s.size ≤ maxLen) (hp : p.size ≤ maxLen) (hb : Lib.hasPrefix s.data.toList p.data.toList = b) : Calls Tryd.prog 13 #[.string s, .string p] w fun e w' => e = .returned (.bool b) ∧ w = w' := by
  have h1 : s.data.toList.length = s.size := by simp
  have h2 : p.data.toList.length = p.size := by simp
  unfold maxLen at hs hp
  by_cases h : p.size ≤ s.size
  · have t1 : decide (p.size ≤ s.size) = true := by simp [h]
    have i1 : (p.size : Int) ≤ (s.size : Int) := by omega
    have e1 : ((s.extract 0 p.size).toList == p.toList) = b := by
      rw [Gl.toList_data, Gl.toList_data, Dg.ext_list, List.drop_zero, Nat.sub_zero, ← h2, take_has _ _ (by omega), hb]
    clear h1 h2 hb
    go_enter Tryd.func13, Tryd.ntmps13
    go_wp2
    go_ret
    exact ⟨rfl, rfl⟩
  · have t1 : decide (p.size ≤ s.size) = false := by simp; omega
    have i1 : ¬ (p.size : Int) ≤ (s.size : Int) := by omega
    have HB := Lib.hid (show b = false by
      rw [← hb]
      cases hh : Lib.hasPrefix s.data.toList p.data.toList with
      | false => rfl
      | true =>
        have := ((has_iff _ _).1 hh).length_le
        omega)
    clear h1 h2 hb h
    go_enter Tryd.func13, Tryd.ntmps13
    go_wp2
    go_ret
    exact ⟨by rw [HB.out]; rfl, rfl⟩
def blB (c : UInt8) : Bool := decide (c = 32) || decide (c = 9)
/-- With how many blanks a text begins. -/
def blanksN (l : List UInt8) : Nat := (l.takeWhile blB).length
theorem blanks_le (l : List UInt8) : blanksN l ≤ l.length := (List.takeWhile_prefix blB).length_le
theorem blanks_hit {l : List UInt8} {k : Nat} {c : UInt8} (h : (l.take k).all blB = true) (hc : l[k]? = some c) (hd : blB c = false) : blanksN l = k := by
  have hk : k < l.length := (List.getElem?_eq_some_iff.1 hc).1
  have e := Gl.takeWhile_take (p := blB) l k h (.inr ⟨c, hc, hd⟩)
  unfold blanksN
  rw [e, List.length_take]
  omega
theorem blanks_all' {l : List UInt8} (h : l.all blB = true) : blanksN l = l.length := by
  unfold blanksN
  rw [Gl.takeWhile_take (p := blB) l l.length (by rw [List.take_length]; exact h) (.inl (Nat.le_refl _)), List.take_length]
theorem all_snocB {l : List UInt8} {k : Nat} {c : UInt8} (h : (l.take k).all blB = true) (hc : l[k]? = some c) (hd : blB c = true) : (l.take (k + 1)).all blB = true := by
  rw [List.take_add_one, hc, List.all_append, h]
  simp [hd]
theorem eq_dec (c : UInt8) (n : Nat) (hn : n < 256) : ((c.toNat : Int) == (n : Int)) = decide (c = UInt8.ofNat n) := by
  by_cases h : c = UInt8.ofNat n
  · subst h
    simp
    omega
  · have : c.toNat ≠ n := fun e => h (by rw [← e]; simp)
    simp [h]
    omega
set_option maxHeartbeats 1000000 in
theorem rblanks_any (s : ByteArray) (w : World) (hs : s.size ≤ maxLen) : Calls Tryd.prog 12 #[.string s] w fun e w' => e = .returned (.int .i64 (blanksN s.data.toList : Nat)) ∧ w = w' := by
  unfold maxLen at hs
  go_enter Tryd.func12, Tryd.ntmps12
  go_wp2
  go_loop [3] (fun i => ∃ k : Nat, k ≤ s.size ∧ i = .int .i64 (k : Int) ∧ (s.data.toList.take k).all blB = true) (fun i => s.size - (intOf i).toNat)
  case atStart => exact ⟨0, Nat.zero_le _, rfl, by simp⟩
  case round =>
    obtain ⟨k, hk, rfl, hal⟩ := hrel
    have HA := Lib.hid hal
    clear hal
    by_cases hlt : k < s.size
    · have HB := Lib.hid (Gl.at_list s k hlt)
      have tl : decide (k < s.size) = true := by simp [hlt]
      obtain ⟨c, hc⟩ : ∃ c, s[k] = c := ⟨_, rfl⟩
      have b1 : ((s[k].toNat : Int) == 32) = decide (c = 32) := by rw [hc]; exact eq_dec c 32 (by omega)
      have b2 : ((s[k].toNat : Int) == 9) = decide (c = 9) := by rw [hc]; exact eq_dec c 9 (by omega)
      rw [hc] at HB
      by_cases h32 : c = 32
      · have HN := Lib.hid (show blB c = true by unfold blB; simp [h32])
        rw [decide_eq_true h32] at b1
        clear b2 hc h32
        go_wp2
        go_round
        case rel => exact ⟨k + 1, by omega, by go_num, all_snocB HA.out HB.out HN.out⟩
        case measure => simp [intOf]; omega
      · rw [decide_eq_false h32] at b1
        by_cases h9 : c = 9
        · have HN := Lib.hid (show blB c = true by unfold blB; simp [h9])
          rw [decide_eq_true h9] at b2
          clear hc h32 h9
          go_wp2
          go_round
          case rel => exact ⟨k + 1, by omega, by go_num, all_snocB HA.out HB.out HN.out⟩
          case measure => simp [intOf]; omega
        · have HN := Lib.hid (show blanksN s.data.toList = k from blanks_hit HA.out HB.out (by unfold blB; simp [h32, h9]))
          rw [decide_eq_false h9] at b2
          clear hc h32 h9
          go_wp2
          go_ret
          exact ⟨by rw [HN.out]; rfl, rfl⟩
    · have tl : decide (k < s.size) = false := by simp; omega
      have HN := Lib.hid (show blanksN s.data.toList = k by
        have e : s.data.toList.length = s.size := by simp
        rw [blanks_all' (by have := HA.out; rwa [List.take_of_length_le (by omega)] at this), e]; omega)
      go_wp2
      go_ret
      exact ⟨by rw [HN.out]; rfl, rfl⟩
/-- Does a number begin a text? -/
def cntB (l : List UInt8) : Bool := Lib.hasPrefix l [95] || (Lib.hasPrefix l [194, 175] || match l with
  | [] => false
  | c :: _ => diB c)
theorem letN_3 (c : UInt8) : ((letN c : Int) == 3) = diB c := by
  have h1 : smB c = true → diB c = false := fun h => by
    unfold smB at h; unfold diB
    simp at h ⊢; omega
  have h2 : grB c = true → diB c = false := fun h => by
    unfold grB at h; unfold diB
    simp at h ⊢; omega
  unfold letN
  cases hs : smB c <;> cases hg : grB c <;> cases hd : diB c <;> simp_all
set_option maxHeartbeats 1000000 in
theorem rcounts_any (s : ByteArray) (b : Bool) (w : World) (hs : s.size ≤ maxLen) (hb : cntB s.data.toList = b) : Calls Tryd.prog 22 #[.string s] w fun e w' => e = .returned (.bool b) ∧ w = w' := by
  have B1 := Lib.hid (fun b hb W => rbegins_any s ⟨#[95]⟩ b W hs (by decide) hb)
  have B2 := Lib.hid (fun b hb W => rbegins_any s ⟨#[194, 175]⟩ b W hs (by decide) hb)
  unfold maxLen at hs
  unfold cntB at hb
  cases h1 : Lib.hasPrefix s.data.toList [95] with
  | true =>
    have C1 := Lib.hid (B1.out true h1)
    have HB := Lib.hid (show b = true by rw [← hb, h1]; rfl)
    clear B1 B2 hb h1
    go_enter Tryd.func22, Tryd.ntmps22
    go_wp2_with fail
    refine (C1.out _).mono ?_
    rintro e w' ⟨rfl, rfl⟩
    go_wp2
    go_ret
    exact ⟨by rw [HB.out]; rfl, rfl⟩
  | false =>
    have C1 := Lib.hid (B1.out false h1)
    rw [h1, Bool.false_or] at hb
    cases h2 : Lib.hasPrefix s.data.toList [194, 175] with
    | true =>
      have C2 := Lib.hid (B2.out true h2)
      have HB := Lib.hid (show b = true by rw [← hb, h2]; rfl)
      clear B1 B2 hb h1 h2
      go_enter Tryd.func22, Tryd.ntmps22
      go_wp2_with fail
      refine (C1.out _).mono ?_
      rintro e w' ⟨rfl, rfl⟩
      go_wp2_with fail
      refine (C2.out _).mono ?_
      rintro e w' ⟨rfl, rfl⟩
      go_wp2
      go_ret
      exact ⟨by rw [HB.out]; rfl, rfl⟩
    | false =>
      have C2 := Lib.hid (B2.out false h2)
      rw [h2, Bool.false_or] at hb
      by_cases hz : s.size = 0
      · obtain rfl := Gl.empty_of_size hz
        have HB := Lib.hid (show b = false from hb.symm)
        clear B1 B2 hb h1 h2 hz
        go_enter Tryd.func22, Tryd.ntmps22
        go_wp2_with fail
        refine (C1.out _).mono ?_
        rintro e w' ⟨rfl, rfl⟩
        go_wp2_with fail
        refine (C2.out _).mono ?_
        rintro e w' ⟨rfl, rfl⟩
        go_wp2
        go_ret
        exact ⟨by rw [HB.out]; rfl, rfl⟩
      · obtain ⟨e1, e2, e3⟩ := Gl.nonempty_facts hz
        have h0 : 0 < s.size := by omega
        have HA := Gl.at_list s 0 h0
        have HD := Lib.hid (show ((letN s[0] : Int) == 3) = b by
          rw [letN_3, ← hb]
          cases hl : s.data.toList with
          | nil => rw [hl] at HA; simp at HA
          | cons c t => rw [hl] at HA; simp at HA; rw [HA])
        have hd := HD.out
        have HLN := Lib.hid (fun W => rletter_any s[0] W)
        generalize letN s[0] = v at *
        clear B1 B2 hb h1 h2 HA e3 hz
        go_enter Tryd.func22, Tryd.ntmps22
        go_wp2_with fail
        refine (C1.out _).mono ?_
        rintro e w' ⟨rfl, rfl⟩
        go_wp2_with fail
        refine (C2.out _).mono ?_
        rintro e w' ⟨rfl, rfl⟩
        go_wp2_with fail
        refine (HLN.out _).mono ?_
        rintro e w' ⟨rfl, rfl⟩
        go_wp2
        go_ret
        exact ⟨rfl, rfl⟩
end Go.Proofs.YtdhpplbopciijaaDoor.Tk
