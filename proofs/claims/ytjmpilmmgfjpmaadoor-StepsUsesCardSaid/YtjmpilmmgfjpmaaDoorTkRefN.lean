/-
  Layer 17, token: riffleref17.letter and Named: what they answer. No condition but that a text lies in memory.
-/
import Derived.Test.YtjmpilmmgfjpmaaDoorTkOps
import Derived.IntWalk
set_option maxRecDepth 100000
namespace Go.Proofs.YtjmpilmmgfjpmaaDoor.Tk
open Go.RowKit
set_option linter.unusedVariables false

def letN (c : UInt8) : Nat := if smB c = true then 1 else if grB c = true then 2 else if diB c = true then 3 else 0
set_option maxHeartbeats 1000000 in
theorem rletter_any (c : UInt8) (w : World) : Calls Tryd.prog 56 #[.int .u8 (c.toNat : Int)] w fun e w' => e = .returned (.int .i64 (letN c : Nat)) ∧ w = w' := by
  rcases (show c.toNat ≤ 47 ∨ (48 ≤ c.toNat ∧ c.toNat ≤ 57) ∨ (58 ≤ c.toNat ∧ c.toNat ≤ 64) ∨ (65 ≤ c.toNat ∧ c.toNat ≤ 90) ∨ (91 ≤ c.toNat ∧ c.toNat ≤ 96) ∨ (97 ≤ c.toNat ∧ c.toNat ≤ 122) ∨ 123 ≤ c.toNat by omega) with h | h | h | h | h | h | h
  · have HS := Lib.hid (show letN c = 0 by
      have a1 : smB c = false := by unfold smB; simp <;> omega
      have a2 : grB c = false := by unfold grB; simp <;> omega
      have a3 : diB c = false := by unfold diB; simp <;> omega
      unfold letN; rw [a1, a2, a3]; rfl)
    have t97 : decide ((97 : Int) ≤ (c.toNat : Int)) = false := by simp <;> omega
    have t122 : decide ((c.toNat : Int) ≤ 122) = true := by simp <;> omega
    have t65 : decide ((65 : Int) ≤ (c.toNat : Int)) = false := by simp <;> omega
    have t90 : decide ((c.toNat : Int) ≤ 90) = true := by simp <;> omega
    have t48 : decide ((48 : Int) ≤ (c.toNat : Int)) = false := by simp <;> omega
    have t57 : decide ((c.toNat : Int) ≤ 57) = true := by simp <;> omega
    clear h
    go_enter Tryd.func56, Tryd.ntmps56
    go_wp2
    go_ret
    exact ⟨by rw [HS.out]; rfl, rfl⟩
  · have HS := Lib.hid (show letN c = 3 by
      have a1 : smB c = false := by unfold smB; simp <;> omega
      have a2 : grB c = false := by unfold grB; simp <;> omega
      have a3 : diB c = true := by unfold diB; simp <;> omega
      unfold letN; rw [a1, a2, a3]; rfl)
    have t97 : decide ((97 : Int) ≤ (c.toNat : Int)) = false := by simp <;> omega
    have t122 : decide ((c.toNat : Int) ≤ 122) = true := by simp <;> omega
    have t65 : decide ((65 : Int) ≤ (c.toNat : Int)) = false := by simp <;> omega
    have t90 : decide ((c.toNat : Int) ≤ 90) = true := by simp <;> omega
    have t48 : decide ((48 : Int) ≤ (c.toNat : Int)) = true := by simp <;> omega
    have t57 : decide ((c.toNat : Int) ≤ 57) = true := by simp <;> omega
    clear h
    go_enter Tryd.func56, Tryd.ntmps56
    go_wp2
    go_ret
    exact ⟨by rw [HS.out]; rfl, rfl⟩
  · have HS := Lib.hid (show letN c = 0 by
      have a1 : smB c = false := by unfold smB; simp <;> omega
      have a2 : grB c = false := by unfold grB; simp <;> omega
      have a3 : diB c = false := by unfold diB; simp <;> omega
      unfold letN; rw [a1, a2, a3]; rfl)
    have t97 : decide ((97 : Int) ≤ (c.toNat : Int)) = false := by simp <;> omega
    have t122 : decide ((c.toNat : Int) ≤ 122) = true := by simp <;> omega
    have t65 : decide ((65 : Int) ≤ (c.toNat : Int)) = false := by simp <;> omega
    have t90 : decide ((c.toNat : Int) ≤ 90) = true := by simp <;> omega
    have t48 : decide ((48 : Int) ≤ (c.toNat : Int)) = true := by simp <;> omega
    have t57 : decide ((c.toNat : Int) ≤ 57) = false := by simp <;> omega
    clear h
    go_enter Tryd.func56, Tryd.ntmps56
    go_wp2
    go_ret
    exact ⟨by rw [HS.out]; rfl, rfl⟩
  · have HS := Lib.hid (show letN c = 2 by
      have a1 : smB c = false := by unfold smB; simp <;> omega
      have a2 : grB c = true := by unfold grB; simp <;> omega
      have a3 : diB c = false := by unfold diB; simp <;> omega
      unfold letN; rw [a1, a2, a3]; rfl)
    have t97 : decide ((97 : Int) ≤ (c.toNat : Int)) = false := by simp <;> omega
    have t122 : decide ((c.toNat : Int) ≤ 122) = true := by simp <;> omega
    have t65 : decide ((65 : Int) ≤ (c.toNat : Int)) = true := by simp <;> omega
    have t90 : decide ((c.toNat : Int) ≤ 90) = true := by simp <;> omega
    have t48 : decide ((48 : Int) ≤ (c.toNat : Int)) = true := by simp <;> omega
    have t57 : decide ((c.toNat : Int) ≤ 57) = false := by simp <;> omega
    clear h
    go_enter Tryd.func56, Tryd.ntmps56
    go_wp2
    go_ret
    exact ⟨by rw [HS.out]; rfl, rfl⟩
  · have HS := Lib.hid (show letN c = 0 by
      have a1 : smB c = false := by unfold smB; simp <;> omega
      have a2 : grB c = false := by unfold grB; simp <;> omega
      have a3 : diB c = false := by unfold diB; simp <;> omega
      unfold letN; rw [a1, a2, a3]; rfl)
    have t97 : decide ((97 : Int) ≤ (c.toNat : Int)) = false := by simp <;> omega
    have t122 : decide ((c.toNat : Int) ≤ 122) = true := by simp <;> omega
    have t65 : decide ((65 : Int) ≤ (c.toNat : Int)) = true := by simp <;> omega
    have t90 : decide ((c.toNat : Int) ≤ 90) = false := by simp <;> omega
    have t48 : decide ((48 : Int) ≤ (c.toNat : Int)) = true := by simp <;> omega
    have t57 : decide ((c.toNat : Int) ≤ 57) = false := by simp <;> omega
    clear h
    go_enter Tryd.func56, Tryd.ntmps56
    go_wp2
    go_ret
    exact ⟨by rw [HS.out]; rfl, rfl⟩
  · have HS := Lib.hid (show letN c = 1 by
      have a1 : smB c = true := by unfold smB; simp <;> omega
      have a2 : grB c = false := by unfold grB; simp <;> omega
      have a3 : diB c = false := by unfold diB; simp <;> omega
      unfold letN; rw [a1, a2, a3]; rfl)
    have t97 : decide ((97 : Int) ≤ (c.toNat : Int)) = true := by simp <;> omega
    have t122 : decide ((c.toNat : Int) ≤ 122) = true := by simp <;> omega
    have t65 : decide ((65 : Int) ≤ (c.toNat : Int)) = true := by simp <;> omega
    have t90 : decide ((c.toNat : Int) ≤ 90) = false := by simp <;> omega
    have t48 : decide ((48 : Int) ≤ (c.toNat : Int)) = true := by simp <;> omega
    have t57 : decide ((c.toNat : Int) ≤ 57) = false := by simp <;> omega
    clear h
    go_enter Tryd.func56, Tryd.ntmps56
    go_wp2
    go_ret
    exact ⟨by rw [HS.out]; rfl, rfl⟩
  · have HS := Lib.hid (show letN c = 0 by
      have a1 : smB c = false := by unfold smB; simp <;> omega
      have a2 : grB c = false := by unfold grB; simp <;> omega
      have a3 : diB c = false := by unfold diB; simp <;> omega
      unfold letN; rw [a1, a2, a3]; rfl)
    have t97 : decide ((97 : Int) ≤ (c.toNat : Int)) = true := by simp <;> omega
    have t122 : decide ((c.toNat : Int) ≤ 122) = false := by simp <;> omega
    have t65 : decide ((65 : Int) ≤ (c.toNat : Int)) = true := by simp <;> omega
    have t90 : decide ((c.toNat : Int) ≤ 90) = false := by simp <;> omega
    have t48 : decide ((48 : Int) ≤ (c.toNat : Int)) = true := by simp <;> omega
    have t57 : decide ((c.toNat : Int) ≤ 57) = false := by simp <;> omega
    clear h
    go_enter Tryd.func56, Tryd.ntmps56
    go_wp2
    go_ret
    exact ⟨by rw [HS.out]; rfl, rfl⟩
theorem rletter_n (c : UInt8) (n : Nat) (w : World) (h : letN c = n) : Calls Tryd.prog 56 #[.int .u8 (c.toNat : Int)] w fun e w' => e = .returned (.int .i64 (n : Int)) ∧ w = w' := h ▸ rletter_any c w
theorem letN_an (c : UInt8) : (letN c = 0 ↔ anB c = false) ∧ letN c ≤ 3 := by
  unfold letN anB leB
  cases smB c <;> cases grB c <;> cases diB c <;> simp
theorem named_short {l : List UInt8} {c : UInt8} {t : List UInt8} (hl : l = c :: t) (h20 : l.length ≤ 20) : (runA l < l.length → namedN l = 0) ∧ (letN c = 3 → namedN l = 0) ∧ (¬ runA l < l.length → letN c ≠ 3 → letN c ≠ 0 → namedN l = 1 + letN c) := by
  have h0 : l.length ≠ 0 := by rw [hl]; simp
  have e : namedN l = if runA l < l.length then 0 else if smB c = true then 2 else if grB c = true then 3 else 0 := by
    unfold namedN
    by_cases hr : runA l < l.length
    · rw [if_pos (.inr (.inr hr)), if_pos hr]
    · rw [if_neg (by rintro (h | h | h) <;> omega), if_neg hr, hl]
  refine ⟨fun h => by rw [e, if_pos h], fun h => ?_, fun hr h3 h0 => ?_⟩
  · rw [e]
    unfold letN at h
    cases hs : smB c <;> cases hg : grB c <;> simp [hs, hg] at h ⊢
  · rw [e, if_neg hr]
    unfold letN at h3 h0 ⊢
    cases hs : smB c <;> cases hg : grB c <;> cases hd : diB c <;> simp [hs, hg, hd] at h3 h0 ⊢
set_option maxHeartbeats 1000000 in
theorem rnamed_any (s : ByteArray) (w : World) (hs : s.size ≤ maxLen) : Calls Tryd.prog 39 #[.string s] w fun e w' => e = .returned (.int .i64 (namedN s.data.toList : Nat)) ∧ w = w' := by
  have hlen : s.data.toList.length = s.size := by simp
  unfold maxLen at hs
  by_cases hz : s.size = 0
  · obtain rfl := Gl.empty_of_size hz
    clear hz hlen hs
    go_enter Tryd.func39, Tryd.ntmps39
    go_wp2
    go_ret
    exact ⟨rfl, rfl⟩
  have h0 : 0 < s.size := by omega
  have t1 : decide ((s.size : Int) < 1) = false := by simp; omega
  have HB := Gl.at_list s 0 h0
  obtain ⟨t, ht⟩ : ∃ t, s.data.toList = s[0] :: t := by
    cases hl : s.data.toList with
    | nil => rw [hl] at HB; simp at HB
    | cons c t => rw [hl] at HB; simp at HB; rw [HB]; exact ⟨t, rfl⟩
  by_cases h20 : 20 < s.size
  · have t20 : decide ((20 : Int) < (s.size : Int)) = true := by simp; omega
    have HN := Lib.hid (show namedN s.data.toList = 0 by unfold namedN; rw [if_pos (.inr (.inl (by omega)))])
    clear hlen h20 hz HB ht h0
    go_enter Tryd.func39, Tryd.ntmps39
    go_wp2
    go_ret
    exact ⟨by rw [HN.out]; rfl, rfl⟩
  have t20 : decide ((20 : Int) < (s.size : Int)) = false := by simp; omega
  obtain ⟨n1, n2, n3⟩ := named_short ht (by omega)
  obtain ⟨v, hv⟩ : ∃ v, letN s[0] = v := ⟨_, rfl⟩
  have HL := Lib.hid (fun W => rletter_n s[0] v W hv)
  rw [hv] at n2 n3
  have hv3 := (letN_an s[0]).2
  rw [hv] at hv3
  by_cases h3 : v = 3
  · have HN := Lib.hid (n2 h3)
    subst h3
    clear n1 n2 n3 hlen hz HB ht hv hv3 h20
    go_enter Tryd.func39, Tryd.ntmps39
    go_wp2_with fail
    refine (HL.out _).mono ?_
    rintro e w' ⟨rfl, rfl⟩
    go_wp2
    go_ret
    exact ⟨by rw [HN.out]; rfl, rfl⟩
  have b3 : ((v : Int) == 3) = false := by simp; omega
  have N1 := Lib.hid n1
  have N3 := Lib.hid n3
  have HLN := Lib.hid hlen
  have HAV := Lib.hid (letN_an s[0]).1
  rw [hv] at HAV
  have HAT := Lib.hid HB
  have HV3 := Lib.hid h3
  have h20' : s.size ≤ 20 := by omega
  clear n1 n2 n3 hlen hz HB ht hv h20 h3
  go_enter Tryd.func39, Tryd.ntmps39
  go_wp2_with fail
  refine (HL.out _).mono ?_
  rintro e w' ⟨rfl, rfl⟩
  go_wp2_with fail
  go_loop [3] (fun i => ∃ k : Nat, k ≤ s.size ∧ i = .int .i64 (k : Int) ∧ (s.data.toList.take k).all anB = true) (fun i => s.size - (intOf i).toNat)
  case atStart => exact ⟨0, Nat.zero_le _, rfl, by simp⟩
  case round =>
    obtain ⟨k, hk, rfl, hal⟩ := hrel
    have HA := Lib.hid hal
    clear hal
    by_cases hlt : k < s.size
    · have HBK := Lib.hid (Gl.at_list s k hlt)
      obtain ⟨u, hu⟩ : ∃ u, letN s[k] = u := ⟨_, rfl⟩
      have HLK := Lib.hid (fun W => rletter_n s[k] u W hu)
      by_cases hu0 : u = 0
      · have HN := Lib.hid (show namedN s.data.toList = 0 from N1.out (by
          rw [runA_hit HA.out HBK.out ((letN_an s[k]).1.1 (by rw [hu]; exact hu0)), HLN.out]; exact hlt))
        subst hu0
        clear hu
        go_wp2_with fail
        refine (HLK.out _).mono ?_
        rintro e w'' ⟨rfl, rfl⟩
        go_wp2
        go_ret
        exact ⟨by rw [HN.out]; rfl, rfl⟩
      · have HN := Lib.hid (show anB s[k] = true by
          cases h : anB s[k] with
          | true => rfl
          | false => exact absurd ((letN_an s[k]).1.2 h) (by rw [hu]; exact hu0))
        have bu : ((u : Int) == 0) = false := by simp; omega
        clear hu hu0
        go_wp2_with fail
        refine (HLK.out _).mono ?_
        rintro e w'' ⟨rfl, rfl⟩
        go_wp2
        go_round
        case rel => exact ⟨k + 1, by omega, by go_num, all_snocA HA.out HBK.out HN.out⟩
        case measure => simp [intOf]; omega
    · have hal : s.data.toList.all anB = true := by
        have h := HA.out
        rwa [List.take_of_length_le (by rw [HLN.out]; omega)] at h
      have hv0 : v ≠ 0 := fun e => by
        have h1 := HAV.out.1 e
        have h2 := List.all_eq_true.1 hal s[0] (List.mem_of_getElem? HAT.out)
        rw [h1] at h2
        cases h2
      have HN := Lib.hid (N3.out (by rw [runA_all hal]; omega) HV3.out hv0)
      have g : IntKind.i64.wrap (1 + (v : Int)) = 1 + (v : Int) := IntWalk.i64_in _ (by omega)
      clear hal hv0
      go_wp2_with fail
      refine (HL.out _).mono ?_
      rintro e w'' ⟨rfl, rfl⟩
      go_wp2
      go_ret
      exact ⟨by rw [HN.out, Int.natCast_add]; rfl, rfl⟩
end Go.Proofs.YtjmpilmmgfjpmaaDoor.Tk
