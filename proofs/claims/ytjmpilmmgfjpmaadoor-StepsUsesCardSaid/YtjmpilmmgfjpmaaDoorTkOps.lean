/-
  token.small, great, letter, digit, run, Named and begins: what they answer. No condition but that a text lies in memory.
-/
import Derived.Test.YtjmpilmmgfjpmaaDoorDgBase
import Derived.Test.YtjmpilmmgfjpmaaDoorGlyphRead
set_option maxRecDepth 100000
namespace Go.Proofs.YtjmpilmmgfjpmaaDoor.Tk
open Go.RowKit
set_option linter.unusedVariables false

def smB (c : UInt8) : Bool := decide (97 ≤ c.toNat) && decide (c.toNat ≤ 122)
def grB (c : UInt8) : Bool := decide (65 ≤ c.toNat) && decide (c.toNat ≤ 90)
def leB (c : UInt8) : Bool := smB c || grB c
def diB (c : UInt8) : Bool := decide (48 ≤ c.toNat) && decide (c.toNat ≤ 57)
def anB (c : UInt8) : Bool := leB c || diB c
theorem same_w {a b : World} (h : a = b) : b = a := h.symm
theorem small_any (c : UInt8) (w : World) : Calls Tryd.prog 60 #[.int .u8 (c.toNat : Int)] w fun e w' => e = .returned (.bool (smB c)) ∧ w = w' := by
  by_cases h1 : 97 ≤ c.toNat
  · have t1 : decide ((97 : Int) ≤ (c.toNat : Int)) = true := by simp; omega
    by_cases h2 : c.toNat ≤ 122
    · have t2 : decide ((c.toNat : Int) ≤ 122) = true := by simp; omega
      have HS := Lib.hid (show smB c = true by simp [smB, h1, h2])
      clear h1 h2
      go_enter Tryd.func60, Tryd.ntmps60
      go_wp2
      go_ret
      exact ⟨by rw [HS.out]; rfl, rfl⟩
    · have t2 : decide ((c.toNat : Int) ≤ 122) = false := by simp; omega
      have HS := Lib.hid (show smB c = false by simp [smB, h2])
      clear h1 h2
      go_enter Tryd.func60, Tryd.ntmps60
      go_wp2
      go_ret
      exact ⟨by rw [HS.out]; rfl, rfl⟩
  · have t1 : decide ((97 : Int) ≤ (c.toNat : Int)) = false := by simp; omega
    have HS := Lib.hid (show smB c = false by simp [smB, h1])
    clear h1
    go_enter Tryd.func60, Tryd.ntmps60
    go_wp2
    go_ret
    exact ⟨by rw [HS.out]; rfl, rfl⟩
theorem great_any (c : UInt8) (w : World) : Calls Tryd.prog 61 #[.int .u8 (c.toNat : Int)] w fun e w' => e = .returned (.bool (grB c)) ∧ w = w' := by
  by_cases h1 : 65 ≤ c.toNat
  · have t1 : decide ((65 : Int) ≤ (c.toNat : Int)) = true := by simp; omega
    by_cases h2 : c.toNat ≤ 90
    · have t2 : decide ((c.toNat : Int) ≤ 90) = true := by simp; omega
      have HS := Lib.hid (show grB c = true by simp [grB, h1, h2])
      clear h1 h2
      go_enter Tryd.func61, Tryd.ntmps61
      go_wp2
      go_ret
      exact ⟨by rw [HS.out]; rfl, rfl⟩
    · have t2 : decide ((c.toNat : Int) ≤ 90) = false := by simp; omega
      have HS := Lib.hid (show grB c = false by simp [grB, h2])
      clear h1 h2
      go_enter Tryd.func61, Tryd.ntmps61
      go_wp2
      go_ret
      exact ⟨by rw [HS.out]; rfl, rfl⟩
  · have t1 : decide ((65 : Int) ≤ (c.toNat : Int)) = false := by simp; omega
    have HS := Lib.hid (show grB c = false by simp [grB, h1])
    clear h1
    go_enter Tryd.func61, Tryd.ntmps61
    go_wp2
    go_ret
    exact ⟨by rw [HS.out]; rfl, rfl⟩
theorem digit_any (c : UInt8) (w : World) : Calls Tryd.prog 73 #[.int .u8 (c.toNat : Int)] w fun e w' => e = .returned (.bool (diB c)) ∧ w = w' := by
  by_cases h1 : 48 ≤ c.toNat
  · have t1 : decide ((48 : Int) ≤ (c.toNat : Int)) = true := by simp; omega
    by_cases h2 : c.toNat ≤ 57
    · have t2 : decide ((c.toNat : Int) ≤ 57) = true := by simp; omega
      have HS := Lib.hid (show diB c = true by simp [diB, h1, h2])
      clear h1 h2
      go_enter Tryd.func73, Tryd.ntmps73
      go_wp2
      go_ret
      exact ⟨by rw [HS.out]; rfl, rfl⟩
    · have t2 : decide ((c.toNat : Int) ≤ 57) = false := by simp; omega
      have HS := Lib.hid (show diB c = false by simp [diB, h2])
      clear h1 h2
      go_enter Tryd.func73, Tryd.ntmps73
      go_wp2
      go_ret
      exact ⟨by rw [HS.out]; rfl, rfl⟩
  · have t1 : decide ((48 : Int) ≤ (c.toNat : Int)) = false := by simp; omega
    have HS := Lib.hid (show diB c = false by simp [diB, h1])
    clear h1
    go_enter Tryd.func73, Tryd.ntmps73
    go_wp2
    go_ret
    exact ⟨by rw [HS.out]; rfl, rfl⟩
theorem small_b (c : UInt8) (b : Bool) (w : World) (h : smB c = b) : Calls Tryd.prog 60 #[.int .u8 (c.toNat : Int)] w fun e w' => e = .returned (.bool b) ∧ w = w' := h ▸ small_any c w
theorem great_b (c : UInt8) (b : Bool) (w : World) (h : grB c = b) : Calls Tryd.prog 61 #[.int .u8 (c.toNat : Int)] w fun e w' => e = .returned (.bool b) ∧ w = w' := h ▸ great_any c w
theorem letter_any (c : UInt8) (w : World) : Calls Tryd.prog 72 #[.int .u8 (c.toNat : Int)] w fun e w' => e = .returned (.bool (leB c)) ∧ w = w' := by
  cases hs : smB c with
  | true =>
    have HS := Lib.hid (show leB c = true by simp [leB, hs])
    have HC := Lib.hid (small_b c true w hs)
    clear hs
    go_enter Tryd.func72, Tryd.ntmps72
    go_wp2_with fail
    refine (HC.out).mono ?_
    rintro e w' ⟨rfl, rfl⟩
    go_wp2
    go_ret
    exact ⟨by rw [HS.out]; rfl, rfl⟩
  | false =>
    cases hg : grB c with
    | true =>
      have HS := Lib.hid (show leB c = true by simp [leB, hg])
      have HC := Lib.hid (small_b c false w hs)
      have HG := Lib.hid (great_b c true w hg)
      clear hs hg
      go_enter Tryd.func72, Tryd.ntmps72
      go_wp2_with fail
      refine (HC.out).mono ?_
      rintro e w' ⟨rfl, rfl⟩
      go_wp2_with fail
      refine (HG.out).mono ?_
      rintro e w' ⟨rfl, rfl⟩
      go_wp2
      go_ret
      exact ⟨by rw [HS.out]; rfl, rfl⟩
    | false =>
      have HS := Lib.hid (show leB c = false by simp [leB, hs, hg])
      have HC := Lib.hid (small_b c false w hs)
      have HG := Lib.hid (great_b c false w hg)
      clear hs hg
      go_enter Tryd.func72, Tryd.ntmps72
      go_wp2_with fail
      refine (HC.out).mono ?_
      rintro e w' ⟨rfl, rfl⟩
      go_wp2_with fail
      refine (HG.out).mono ?_
      rintro e w' ⟨rfl, rfl⟩
      go_wp2
      go_ret
      exact ⟨by rw [HS.out]; rfl, rfl⟩
theorem letter_b (c : UInt8) (b : Bool) (w : World) (h : leB c = b) : Calls Tryd.prog 72 #[.int .u8 (c.toNat : Int)] w fun e w' => e = .returned (.bool b) ∧ w = w' := h ▸ letter_any c w
theorem digit_b (c : UInt8) (b : Bool) (w : World) (h : diB c = b) : Calls Tryd.prog 73 #[.int .u8 (c.toNat : Int)] w fun e w' => e = .returned (.bool b) ∧ w = w' := h ▸ digit_any c w
/-- With how many letters and digits a text begins. -/
def runA (l : List UInt8) : Nat := (l.takeWhile anB).length
theorem runA_le (l : List UInt8) : runA l ≤ l.length := (List.takeWhile_prefix anB).length_le
theorem runA_hit {l : List UInt8} {k : Nat} {c : UInt8} (h : (l.take k).all anB = true) (hc : l[k]? = some c) (hd : anB c = false) : runA l = k := by
  have hk : k < l.length := (List.getElem?_eq_some_iff.1 hc).1
  have e := Gl.takeWhile_take (p := anB) l k h (.inr ⟨c, hc, hd⟩)
  unfold runA
  rw [e, List.length_take]
  omega
theorem runA_all {l : List UInt8} (h : l.all anB = true) : runA l = l.length := by
  unfold runA
  rw [Gl.takeWhile_take (p := anB) l l.length (by rw [List.take_length]; exact h) (.inl (Nat.le_refl _)), List.take_length]
theorem all_snocA {l : List UInt8} {k : Nat} {c : UInt8} (h : (l.take k).all anB = true) (hc : l[k]? = some c) (hd : anB c = true) : (l.take (k + 1)).all anB = true := by
  rw [List.take_add_one, hc, List.all_append, h]
  simp [hd]
set_option maxHeartbeats 1000000 in
theorem run_any (s : ByteArray) (w : World) (hs : s.size ≤ maxLen) : Calls Tryd.prog 59 #[.string s] w fun e w' => e = .returned (.int .i64 (runA s.data.toList : Nat)) ∧ w = w' := by
  unfold maxLen at hs
  go_enter Tryd.func59, Tryd.ntmps59
  go_wp2
  go_loop [3] (fun i => ∃ k : Nat, k ≤ s.size ∧ i = .int .i64 (k : Int) ∧ (s.data.toList.take k).all anB = true) (fun i => s.size - (intOf i).toNat)
  case atStart => exact ⟨0, Nat.zero_le _, rfl, by simp⟩
  case round =>
    obtain ⟨k, hk, rfl, hal⟩ := hrel
    have HA := Lib.hid hal
    clear hal
    by_cases hlt : k < s.size
    · have HB := Lib.hid (Gl.at_list s k hlt)
      cases hl : leB s[k] with
      | true =>
        have HN := Lib.hid (show anB s[k] = true by simp [anB, hl])
        have HC := Lib.hid (letter_b s[k] true w hl)
        clear hl
        go_wp2_with fail
        refine (HC.out).mono ?_
        rintro e w' ⟨rfl, rfl⟩
        go_wp2
        go_round
        case rel => exact ⟨k + 1, by omega, by go_num, all_snocA HA.out HB.out HN.out⟩
        case measure => simp [intOf]; omega
      | false =>
        have HC := Lib.hid (letter_b s[k] false w hl)
        cases hd : diB s[k] with
        | true =>
          have HN := Lib.hid (show anB s[k] = true by simp [anB, hd])
          have HD := Lib.hid (digit_b s[k] true w hd)
          clear hl hd
          go_wp2_with fail
          refine (HC.out).mono ?_
          rintro e w' ⟨rfl, rfl⟩
          go_wp2_with fail
          refine (HD.out).mono ?_
          rintro e w' ⟨rfl, rfl⟩
          go_wp2
          go_round
          case rel => exact ⟨k + 1, by omega, by go_num, all_snocA HA.out HB.out HN.out⟩
          case measure => simp [intOf]; omega
        | false =>
          have HN := Lib.hid (show runA s.data.toList = k from runA_hit HA.out HB.out (by simp [anB, hl, hd]))
          have HD := Lib.hid (digit_b s[k] false w hd)
          clear hl hd
          go_wp2_with fail
          refine (HC.out).mono ?_
          rintro e w' ⟨rfl, rfl⟩
          go_wp2_with fail
          refine (HD.out).mono ?_
          rintro e w' ⟨rfl, rfl⟩
          go_wp2
          go_ret
          exact ⟨by rw [HN.out]; rfl, rfl⟩
    · have HN := Lib.hid (show runA s.data.toList = k by
        have e : s.data.toList.length = s.size := by simp
        rw [runA_all (by have := HA.out; rwa [List.take_of_length_le (by omega)] at this), e]; omega)
      go_wp2
      go_ret
      exact ⟨by rw [HN.out]; rfl, rfl⟩
theorem run_n (s : ByteArray) (n : Nat) (w : World) (hs : s.size ≤ maxLen) (hn : runA s.data.toList = n) : Calls Tryd.prog 59 #[.string s] w fun e w' => e = .returned (.int .i64 (n : Int)) ∧ w = w' := hn ▸ run_any s w hs
/-- Which kind of name a text is. -/
def namedN (l : List UInt8) : Nat := if l.length = 0 ∨ 20 < l.length ∨ runA l < l.length then 0 else match l with
  | [] => 0
  | c :: _ => if smB c = true then 2 else if grB c = true then 3 else 0
set_option maxHeartbeats 1000000 in
theorem named_any (s : ByteArray) (w : World) (hs : s.size ≤ maxLen) : Calls Tryd.prog 44 #[.string s] w fun e w' => e = .returned (.int .i64 (namedN s.data.toList : Nat)) ∧ w = w' := by
  have hs0 := hs
  unfold maxLen at hs
  have hlen : s.data.toList.length = s.size := by simp
  by_cases hz : s.size = 0
  · obtain rfl := Gl.empty_of_size hz
    clear hz hlen hs hs0
    go_enter Tryd.func44, Tryd.ntmps44
    go_wp2
    go_ret
    exact ⟨rfl, rfl⟩
  obtain ⟨e1, e2, e3⟩ := Gl.nonempty_facts hz
  have h0 : 0 < s.size := by omega
  have HB := Lib.hid (Gl.at_list s 0 h0)
  clear hz e3
  by_cases h20 : 20 < s.size
  · have t20 : decide ((20 : Int) < (s.size : Int)) = true := by simp; omega
    have HN := Lib.hid (show namedN s.data.toList = 0 by unfold namedN; rw [if_pos (.inr (.inl (by omega)))])
    clear hlen h20
    go_enter Tryd.func44, Tryd.ntmps44
    go_wp2
    go_ret
    exact ⟨by rw [HN.out]; rfl, rfl⟩
  have t20 : decide ((20 : Int) < (s.size : Int)) = false := by simp; omega
  obtain ⟨n, hn⟩ : ∃ n, runA s.data.toList = n := ⟨_, rfl⟩
  have HR := Lib.hid (run_n s n w hs0 hn)
  have hle := runA_le s.data.toList
  rw [hn, hlen] at hle
  by_cases hlt : n < s.size
  · have hlt' : (n : Int) < (s.size : Int) := by omega
    have HN := Lib.hid (show namedN s.data.toList = 0 by unfold namedN; rw [if_pos (.inr (.inr (by omega)))])
    clear hlen hn
    go_enter Tryd.func44, Tryd.ntmps44
    go_wp2_with fail
    refine (HR.out).mono ?_
    rintro e w' ⟨rfl, rfl⟩
    go_wp2
    go_ret
    exact ⟨by rw [HN.out]; rfl, rfl⟩
  have hlt' : ¬ (n : Int) < (s.size : Int) := by omega
  have HM := Lib.hid (show namedN s.data.toList = if smB s[0] = true then 2 else if grB s[0] = true then 3 else 0 by
    unfold namedN
    rw [if_neg (by omega)]
    have := HB.out
    cases hl : s.data.toList with
    | nil => rw [hl] at this; simp at this
    | cons c t => rw [hl] at this; simp at this; rw [this])
  clear hlen hn
  cases hsm : smB s[0] with
  | true =>
    have HN := Lib.hid (show namedN s.data.toList = 2 by rw [HM.out, hsm]; rfl)
    have HC := Lib.hid (small_b s[0] true w hsm)
    clear hsm
    go_enter Tryd.func44, Tryd.ntmps44
    go_wp2_with fail
    refine (HR.out).mono ?_
    rintro e w' ⟨rfl, rfl⟩
    go_wp2_with fail
    refine (HC.out).mono ?_
    rintro e w' ⟨rfl, rfl⟩
    go_wp2
    go_ret
    exact ⟨by rw [HN.out]; rfl, rfl⟩
  | false =>
    have HC := Lib.hid (small_b s[0] false w hsm)
    cases hgr : grB s[0] with
    | true =>
      have HN := Lib.hid (show namedN s.data.toList = 3 by rw [HM.out, hsm, hgr]; rfl)
      have HG := Lib.hid (great_b s[0] true w hgr)
      clear hsm hgr
      go_enter Tryd.func44, Tryd.ntmps44
      go_wp2_with fail
      refine (HR.out).mono ?_
      rintro e w' ⟨rfl, rfl⟩
      go_wp2_with fail
      refine (HC.out).mono ?_
      rintro e w' ⟨rfl, rfl⟩
      go_wp2_with fail
      refine (HG.out).mono ?_
      rintro e w' ⟨rfl, rfl⟩
      go_wp2
      go_ret
      exact ⟨by rw [HN.out]; rfl, rfl⟩
    | false =>
      have HN := Lib.hid (show namedN s.data.toList = 0 by rw [HM.out, hsm, hgr]; rfl)
      have HG := Lib.hid (great_b s[0] false w hgr)
      clear hsm hgr
      go_enter Tryd.func44, Tryd.ntmps44
      go_wp2_with fail
      refine (HR.out).mono ?_
      rintro e w' ⟨rfl, rfl⟩
      go_wp2_with fail
      refine (HC.out).mono ?_
      rintro e w' ⟨rfl, rfl⟩
      go_wp2_with fail
      refine (HG.out).mono ?_
      rintro e w' ⟨rfl, rfl⟩
      go_wp2
      go_ret
      exact ⟨by rw [HN.out]; rfl, rfl⟩
theorem named_n (s : ByteArray) (n : Nat) (w : World) (hs : s.size ≤ maxLen) (hn : namedN s.data.toList = n) : Calls Tryd.prog 44 #[.string s] w fun e w' => e = .returned (.int .i64 (n : Int)) ∧ w = w' := hn ▸ named_any s w hs
end Go.Proofs.YtjmpilmmgfjpmaaDoor.Tk
