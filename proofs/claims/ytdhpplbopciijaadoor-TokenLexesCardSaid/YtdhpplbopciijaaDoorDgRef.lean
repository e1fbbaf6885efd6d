/-
  What the document's side of layer 10 answers: riffleref10.long, digits, Put, High. Condition: a text is no longer than fits into a machine; a number fits into 64 bits.
-/
import Derived.Test.YtdhpplbopciijaaDoorDgRead2
set_option maxRecDepth 100000
namespace Go.Proofs.YtdhpplbopciijaaDoor.Dg
open Go.RowKit Go.Proofs.YtdhpplbopciijaaDoor.Sh
set_option linter.unusedVariables false

set_option maxHeartbeats 1000000 in
theorem rlong_any (s : ByteArray) (w : World) (hs : s.size ≤ maxLen) : Calls Tryd.prog 45 #[.string s] w fun e w' => e = .returned (.int .i64 (runL s.data.toList : Nat)) ∧ w = w' := by
  unfold maxLen at hs
  go_enter Tryd.func45, Tryd.ntmps45
  go_wp2
  go_loop [3] (fun i => ∃ k : Nat, k ≤ s.size ∧ i = .int .i64 k ∧ Hid ((s.data.toList.take k).all isD = true)) (fun i => s.size - (intOf i).toNat)
  case atStart => exact ⟨0, Nat.zero_le _, rfl, Lib.hid rfl⟩
  case round =>
    obtain ⟨k, hk, rfl, HA⟩ := hrel
    by_cases hlt : k < s.size
    · have hc := byte_at s k hlt
      obtain ⟨c, hce⟩ : ∃ c, s[k] = c := ⟨_, rfl⟩
      rw [hce] at hc
      have HC := Lib.hid hc
      have q0 : (0 : Int) ≤ (k : Int) := by omega
      have q1 : (k : Int) < (s.size : Int) := by omega
      have q2 : decide ((k : Int) < (s.size : Int)) = true := decide_eq_true q1
      clear hc
      by_cases h1 : 48 ≤ c.toNat
      · have t1 : decide ((c.toNat : Int) ≥ 48) = true := decide_eq_true (by omega)
        by_cases h2 : c.toNat ≤ 57
        · have t2 : decide ((c.toNat : Int) ≤ 57) = true := decide_eq_true (by omega)
          have hd : isD c = true := by simp [isD, h1, h2]
          have HA2 := Lib.hid (all_snoc HA.out HC.out hd)
          clear hd h1 h2
          go_wp2
          exact ⟨⟨k + 1, by omega, by first | rfl | simp, HA2⟩, by simp [intOf]; omega⟩
        · have t2 : decide ((c.toNat : Int) ≤ 57) = false := decide_eq_false (by omega)
          have hd : isD c = false := by simp [isD]; omega
          have HR := Lib.hid (runL_hit HA.out HC.out hd)
          clear hd h1 h2
          go_wp2
          go_ret
          exact ⟨by rw [HR.out]; rfl, rfl⟩
      · have t1 : decide ((c.toNat : Int) ≥ 48) = false := decide_eq_false (by omega)
        have hd : isD c = false := by simp [isD]; omega
        have HR := Lib.hid (runL_hit HA.out HC.out hd)
        clear hd h1
        go_wp2
        go_ret
        exact ⟨by rw [HR.out]; rfl, rfl⟩
    · obtain rfl : k = s.size := by omega
      have q2 : decide ((s.size : Int) < (s.size : Int)) = false := decide_eq_false (by omega)
      have HR : Hid (runL s.data.toList = s.size) := Lib.hid (by
        have h := HA.out
        rw [List.take_of_length_le (by simp)] at h
        rw [runL_all h]; simp)
      go_wp2
      go_ret
      exact ⟨by rw [HR.out]; rfl, rfl⟩
end Go.Proofs.YtdhpplbopciijaaDoor.Dg
