/-
  What mold.layParts does: each part of a list is copied as often as told, one behind the other, into a row known whole that has just that room. Conditions: as told.
-/
import Derived.Test.YthabimjmdnhomaaMoParts
namespace Go.Proofs.Ythabimjmdnhomaa.Sh
open Go.RowKit
set_option linter.unusedVariables false

/-- How often the k-th part is copied. -/
def tk (T : List Int) (k : Nat) : Nat := (T.getD (k % T.length) 0).toNat
def tot (T : List Int) : Nat → Nat
  | 0 => 0
  | k + 1 => tot T k + tk T k
def cpL (u : List Int) (s : Nat) (T : List Int) : Nat → List Int
  | 0 => []
  | k + 1 => cpL u s T k ++ (List.replicate (tk T k) (piece u k s)).flatten
theorem tot_mono (T : List Int) {j k : Nat} (h : j ≤ k) : tot T j ≤ tot T k := by
  induction k with
  | zero => obtain rfl : j = 0 := by omega
            exact Nat.le_refl _
  | succ k ih =>
    rcases Nat.lt_or_ge j (k + 1) with h1 | h1
    · exact Nat.le_trans (ih (by omega)) (by simp [tot])
    · obtain rfl : j = k + 1 := by omega
      exact Nat.le_refl _
theorem flat_len (i : Nat) (p : List Int) : (List.replicate i p).flatten.length = i * p.length := by
  induction i with
  | zero => simp
  | succ i ih => rw [List.replicate_succ, List.flatten_cons, List.length_append, ih, Nat.add_mul, Nat.one_mul, Nat.add_comm]
theorem cpL_len {u : List Int} {s : Nat} (T : List Int) {k : Nat} (h : k * s ≤ u.length) : (cpL u s T k).length = tot T k * s := by
  induction k with
  | zero => simp [cpL, tot]
  | succ k ih =>
    have h1 : k * s ≤ u.length := by rw [Nat.add_mul, Nat.one_mul] at h; omega
    rw [cpL, List.length_append, ih h1, flat_len, piece_length h, tot, Nat.add_mul]
theorem flat_succ (i : Nat) (p : List Int) : (List.replicate (i + 1) p).flatten = (List.replicate i p).flatten ++ p := by
  rw [List.replicate_succ', List.flatten_append]; simp
theorem splice_tail {cur p : List Int} {m s q : Nat} (hp : p.length = s) (hs : s ≤ m) (hq : q = Nat.min p.length m) : splice (cur ++ List.replicate m 0) cur.length (p.take q) = (cur ++ p) ++ List.replicate (m - s) 0 := by
  have hq' : q = s := by rw [hq, hp]; exact Nat.min_eq_left hs
  rw [hq', List.take_of_length_le (by omega)]
  unfold splice
  rw [List.take_left, List.drop_append, hp]
  have : cur.length + s - cur.length = s := by omega
  rw [this, List.drop_eq_nil_of_le (by omega)]
  simp
/-- The rooms of a row: what is laid, noughts behind. -/
def LaySt (w wr : World) (g N : Nat) (v : Value) (cur : List Int) : Prop := ∃ m A, v = .slice A m m ∧ cur.length + m = N ∧ (0 < m → A = some ⟨g, cur.length, none⟩) ∧ Row64 wr g (cur ++ List.replicate m 0) ∧ w.grownBy wr (some g)
set_option maxHeartbeats 4000000 in
theorem layParts_any (g N K s : Nat) (B : Option Addr) (c2 : Nat) (u : List Int) (C : Option Addr) (c3 : Nat) (T : List Int) (w : World) (hs : 0 < s) (hK : u.length = K * s) (hu : u.length ≤ 64) (hc : u.length ≤ c2) (hcm : c2 ≤ maxLen) (hT : T.length ≤ 64) (hTs : SmallT T) (hT0 : 0 < K → 0 < T.length) (hN : tot T K * s = N) (hN64 : N ≤ 64)
    (hR : Row64 w g (List.replicate N 0)) (iu : ∀ wr, w.grownBy wr (some g) → Ints wr B u) (iT : ∀ wr, w.grownBy wr (some g) → Ints wr C T) :
    Calls Try.prog 43 #[.slice (some ⟨g, 0, none⟩) N N, .slice B u.length c2, .slice C T.length c3, .int .i64 (s : Int)] w fun e w' => e = .returned (.tuple #[]) ∧ Row64 w' g (cpL u s T K) ∧ w.grownBy w' (some g) := by
  have hKs : K ≤ 64 := by
    have : K * 1 ≤ K * s := Nat.mul_le_mul_left K hs
    omega
  have hs64 : s ≤ 64 ∨ K = 0 := by
    rcases Nat.eq_zero_or_pos K with h | h
    · right; exact h
    · left
      have : 1 * s ≤ K * s := Nat.mul_le_mul_right s h
      omega
  have HIU := Lib.hid iu
  have HIT := Lib.hid iT
  have HTS := Lib.hid hTs
  have HT0 := Lib.hid hT0
  have HN := Lib.hid hN
  have HR := Lib.hid hR
  have HK := Lib.hid hK
  have hcm' : c2 ≤ 9223372036854775807 := by unfold maxLen at hcm; omega
  have hq : (u.length : Int) / (s : Int) = (K : Int) := by
    rw [hK]
    rw [Int.natCast_mul, Int.mul_ediv_cancel _ (by omega)]
  have hz : ((s : Int) == 0) = false := by simp; omega
  have hz2 : ¬ s = 0 := by omega
  have i0 : (0 : Int) ≤ (s : Int) := by omega
  clear iu iT hTs hT0 hN hR hK hcm
  go_enter Try.func43, Try.ntmps43
  go_wp2
  clear hq
  go_loopw [0, 16] (fun v j wr => ∃ k : Nat, k ≤ K ∧ j = .int .i64 (k : Int) ∧ LaySt w wr g N v (cpL u s T k)) (fun _ j _ => K - (intOf j).toNat)
  case atStart => exact ⟨0, Nat.zero_le _, rfl, N, _, rfl, by simp [cpL], fun _ => rfl, by simpa [cpL] using HR.out, turned_refl _ _⟩
  case round =>
    obtain ⟨k, hk, rfl, m, Ar, rfl, hm, hA, hrw, hgr⟩ := hrel
    have HM := Lib.hid hm
    have HA := Lib.hid hA
    have RW := Lib.hid hrw
    have GR := Lib.hid hgr
    clear hm hA hrw hgr
    by_cases hlt : k < K
    · have hks : (k + 1) * s ≤ u.length := by rw [HK.out]; exact Nat.mul_le_mul_right s hlt
      have hks2 : k * s ≤ u.length := by rw [Nat.add_mul, Nat.one_mul] at hks; omega
      have hT1 : 0 < T.length := HT0.out (by omega)
      have hmod : k % T.length < T.length := Nat.mod_lt _ hT1
      have htb := HTS.out (k % T.length) hmod
      have HCL := Lib.hid (cpL_len T hks2)
      have HPL := Lib.hid (piece_length hks)
      have HTM := Lib.hid (show tot T k + tk T k ≤ tot T K from tot_mono T (j := k + 1) (by omega))
      obtain ⟨n, hn⟩ : ∃ n, tk T k = n := ⟨_, rfl⟩
      have htn : T.getD (k % T.length) 0 = (n : Int) := by unfold tk at hn; omega
      have HSU := Lib.hid (show cpL u s T (k + 1) = cpL u s T k ++ (List.replicate n (piece u k s)).flatten by rw [cpL, hn])
      have hn65 : n ≤ 65 := by omega
      rw [hn] at HTM
      obtain ⟨b, off, rfl, hb, hcs⟩ := HIT.out wr GR.out hT1
      have hck := hcs (k % T.length) hmod
      rw [htn] at hck
      have j0 : (0 : Int) ≤ (k : Int) := by omega
      have j1 : (k : Int) % (T.length : Int) = ((k % T.length : Nat) : Int) := (Int.natCast_emod k T.length).symm
      have j2 : (0 : Int) ≤ ((k % T.length : Nat) : Int) := by omega
      have j3 : ((k % T.length : Nat) : Int) < (T.length : Int) := by omega
      have j4 : ¬ T = [] := fun h => by rw [h] at hT1; simp at hT1
      have j5 : ¬ T.length = 0 := by omega
      clear hcs hn htn htb
      generalize k % T.length = km at *
      go_wp2_with fail
      refine (mcut_any _ u _ k s _ hc hcm' (by omega) (HIU.out wr GR.out) hks hs).mono ?_
      rintro r w1 ⟨A1, rfl, hi1, rfl⟩
      have I1 := Lib.hid hi1
      clear hi1
      go_wp2
      clear j1
      go_loopw [0, 30] (fun v j wz => ∃ i : Nat, i ≤ n ∧ j = .int .i64 (i : Int) ∧ LaySt w wz g N v (cpL u s T k ++ (List.replicate i (piece u k s)).flatten)) (fun _ j _ => n - (intOf j).toNat)
      case atStart => exact ⟨0, Nat.zero_le _, rfl, m, Ar, rfl, by simpa using HM.out, by simpa using HA.out, by simpa using RW.out, GR.out⟩
      case round =>
        obtain ⟨i, hi, rfl, m2, Ar2, rfl, hm2, hA2, hrw2, hgr2⟩ := hrel
        have HM2 := Lib.hid hm2
        have HA2 := Lib.hid hA2
        have RW2 := Lib.hid hrw2
        have GR2 := Lib.hid hgr2
        clear hm2 hA2 hrw2 hgr2
        by_cases hlt2 : i < n
        · have hCl : (cpL u s T k ++ (List.replicate i (piece u k s)).flatten).length = (tot T k + i) * s := by rw [List.length_append, HCL.out, flat_len, HPL.out, Nat.add_mul]
          have hle : (tot T k + i + 1) * s ≤ N := by rw [← HN.out]; exact Nat.mul_le_mul_right s (by have := HTM.out; omega)
          have hsm : s ≤ m2 := by have := HM2.out; rw [hCl] at this; rw [Nat.add_mul, Nat.one_mul] at hle; omega
          have hm64 : m2 ≤ 64 := by have := HM2.out; omega
          have HQS := Lib.hid (show s = Nat.min (piece u k s).length m2 by rw [HPL.out]; exact (Nat.min_eq_left hsm).symm)
          have HSP := Lib.hid (splice_tail (cur := cpL u s T k ++ (List.replicate i (piece u k s)).flatten) HPL.out hsm HQS.out)
          have HFS := Lib.hid (show cpL u s T k ++ (List.replicate (i + 1) (piece u k s)).flatten = (cpL u s T k ++ (List.replicate i (piece u k s)).flatten) ++ piece u k s by rw [flat_succ, List.append_assoc])
          have hlen : (cpL u s T k ++ (List.replicate i (piece u k s)).flatten).length + m2 ≤ ((cpL u s T k ++ (List.replicate i (piece u k s)).flatten) ++ List.replicate m2 0).length := by rw [List.length_append (bs := List.replicate m2 0), List.length_replicate]; exact Nat.le_refl _
          have HLEN := Lib.hid hlen
          have IP := Lib.hid (I1.out wr (HIU.out wr GR2.out))
          clear hCl hle hlen
          generalize cpL u s T k ++ (List.replicate i (piece u k s)).flatten = C at *
          have hpu : (piece u k s).length ≤ 1000 := by rw [HPL.out]; omega
          have hps : s = (piece u k s).length := HPL.out.symm
          have HPS := Lib.hid hps
          clear hps
          generalize piece u k s = pc at *
          go_wp2_with fail
          have hcall := lay_any g C.length m2 s Ar2 (C ++ List.replicate m2 0) A1 s pc wr RW2.out HQS.out HA2.out IP.out HLEN.out (by omega) hpu
          rw [HSP.out, ← HPS.out] at hcall
          refine hcall.mono ?_
          rintro r w2 ⟨A3, rfl, hA3, hr3, hg3⟩
          have R3 := Lib.hid hr3
          have G3 := Lib.hid (World.grownBy.trans GR2.out hg3)
          have HA3 := Lib.hid hA3
          clear hr3 hg3 hA3 hcall
          go_wp2
          go_roundw
          case rel => exact ⟨i + 1, by omega, by go_num, m2 - s, A3, rfl, by rw [HFS.out, List.length_append]; have := HM2.out; have := HPL.out; omega, fun h => by rw [HFS.out, List.length_append, HPL.out]; exact HA3.out h, by rw [HFS.out]; exact R3.out, G3.out⟩
          case measure => simp [intOf]; omega
        · obtain rfl : i = n := by omega
          go_wp2
          go_roundw
          case rel => exact ⟨k + 1, by omega, by go_num, m2, Ar2, rfl, by rw [HSU.out]; exact HM2.out, by rw [HSU.out]; exact HA2.out, by rw [HSU.out]; exact RW2.out, GR2.out⟩
          case measure => simp [intOf]; omega
    · obtain rfl : k = K := by omega
      have HCL := Lib.hid (cpL_len T (show k * s ≤ u.length by rw [HK.out]; exact Nat.le_refl _))
      have hm0 : m = 0 := by have := HM.out; rw [HCL.out, HN.out] at this; omega
      have hr := RW.out
      rw [hm0] at hr
      have HR9 := Lib.hid (show Row64 wr g (cpL u s T k) by simpa using hr)
      clear hr hm0
      go_wp2
      go_end0
      exact ⟨rfl, HR9.out, GR.out⟩
end Go.Proofs.Ythabimjmdnhomaa.Sh
