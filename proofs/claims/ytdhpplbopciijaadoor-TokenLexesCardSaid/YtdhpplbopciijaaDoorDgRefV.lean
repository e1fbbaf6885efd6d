/-
  What riffleref10.value answers: as the program's value does, of a text of digits. Condition: the text is no longer than fits into a machine.
-/
import Derived.Test.YtdhpplbopciijaaDoorDgRefD
import Derived.Test.YtdhpplbopciijaaDoorDgBackM
set_option maxRecDepth 100000
namespace Go.Proofs.YtdhpplbopciijaaDoor.Dg
open Go.RowKit Go.Proofs.YtdhpplbopciijaaDoor.Sh
set_option linter.unusedVariables false

theorem wrap_InR (x : Int) : InR (IntKind.i64.wrap x) := by
  unfold InR IntKind.wrap
  simp [IntKind.bits, IntKind.signed]
  split <;> omega
/-- Below 0 or not. -/
def sg (b : Bool) (x : Nat) : Int := if b = true then -(x : Int) else (x : Int)
theorem valI_sg {l : List UInt8} {b : Bool} (h : valB l b = true) : valI l b = sg b (natL l) := by unfold valI sg; rw [if_pos h]
theorem valB_len {l : List UInt8} {b : Bool} (hd : l.all isD = true) (h : valB l b = true) : 0 < l.length ∧ l.length ≤ 19 ∧ natL l ≤ top ∧ (b = false → natL l < top) := by
  have hc := (val_canon hd h).1
  have ht : natL l ≤ top ∧ (b = false → natL l < top) := by
    unfold valB at h
    simp only [Bool.and_eq_true] at h
    cases b with
    | false => have := of_decide_eq_true (by simpa using h.2 : decide (natL l < top) = true); exact ⟨by omega, fun _ => this⟩
    | true => have := of_decide_eq_true (by simpa using h.2 : decide (natL l ≤ top) = true); exact ⟨this, fun h => by cases h⟩
  have e := (canon_dec l.length l rfl hc).1
  have h19 := dec_len20 (n := natL l) (by have := ht.1; unfold top at this; exact this)
  rw [e] at h19
  exact ⟨hc.1, h19, ht.1, ht.2⟩
/-- What is no number is told so. -/
theorem not_val {l : List UInt8} {b : Bool} {n : Int} (hn : InR n) (h : valB l b = false) : ¬ (Lib.decDigits n.natAbs = l ∧ b = decide (n < 0)) := by
  rintro ⟨rfl, rfl⟩
  rw [(val_dec hn).1] at h
  cases h
theorem is_val {l : List UInt8} {b : Bool} (hd : l.all isD = true) (h : valB l b = true) : Lib.decDigits (valI l b).natAbs = l ∧ b = decide (valI l b < 0) := by
  obtain ⟨hc, hr, ha, h1, h2⟩ := val_canon hd h
  refine ⟨by rw [ha]; exact (canon_dec l.length l rfl hc).1, ?_⟩
  cases b with
  | true => rw [decide_eq_true (h1 rfl).2]
  | false => rw [decide_eq_false (by have := h2 rfl; omega)]
theorem sg_step {b : Bool} {x d : Nat} : sg b (10 * x + d) = if b = true then 10 * sg b x - (d : Int) else 10 * sg b x + (d : Int) := by
  unfold sg; cases b <;> simp <;> omega

set_option maxHeartbeats 4000000 in
theorem rvalue_yes (s : ByteArray) (b : Bool) (w : World) (hs : s.size ≤ maxLen) (hd : s.data.toList.all isD = true) (hv : valB s.data.toList b = true) : Calls Tryd.prog 46 #[.string s, .bool b] w (RetV (valI s.data.toList b) true w) := by
  obtain ⟨l0, l19, lt, lt2⟩ := valB_len hd hv
  have hi := valI_sg hv
  obtain ⟨e1, e2⟩ := is_val hd hv
  have hR := (val_canon hd hv).2.1
  rw [← size_l] at l0 l19
  have HD := Lib.hid hd
  have RD := Lib.hid (fun W => rdigits_any (valI s.data.toList b).natAbs (valI s.data.toList b) hR rfl W)
  have es : (⟨(Lib.decDigits (valI s.data.toList b).natAbs).toArray⟩ : ByteArray) = s := by rw [e1]
  rw [es] at RD
  have hN : natL (s.data.toList.take s.size) = natL s.data.toList := by rw [List.take_of_length_le (by simp)]
  have LT := Lib.hid (fun k (hk : k ≤ s.size) => show natL (s.data.toList.take k) ≤ natL s.data.toList by rw [← hN]; exact natL_mono _ _ _ hk)
  have hsz : ¬ s = ⟨#[]⟩ := by rintro rfl; exact absurd l0 (by decide)
  have hzl : ¬ s.toList = [] := by
    rw [Lib.toList_data]
    intro e
    have h0 : s.size = 0 := by rw [size_l, e]; rfl
    omega
  have z1 : (s.toList == []) = false := by simpa using hzl
  have z3 : decide ((s.size : Int) > 19) = false := decide_eq_false (by omega)
  obtain ⟨v, hvv⟩ : ∃ v, valI s.data.toList b = v := ⟨_, rfl⟩
  have HI : Hid (sg b (natL (s.data.toList.take s.size)) = v) := Lib.hid (by rw [hN, ← hi, hvv])
  rw [hvv] at RD e2 ⊢
  have z4 : decide (v < 0) = b := e2.symm
  have LT2 := Lib.hid lt
  have LT3 := Lib.hid lt2
  clear hsz hzl hd hv hi e1 e2 hR es hN lt lt2 hvv
  cases b with
  | true =>
    go_enter Tryd.func46, Tryd.ntmps46
    go_wp2_with fail
    go_loop [6, 7] (fun n i => ∃ (k : Nat) (a : Int), k ≤ s.size ∧ i = .int .i64 k ∧ n = .int .i64 a ∧ Hid (sg true (natL (s.data.toList.take k)) = a)) (fun _ i => s.size - (intOf i).toNat)
    case atStart => exact ⟨0, 0, Nat.zero_le _, rfl, rfl, Lib.hid rfl⟩
    case round =>
      obtain ⟨k, a, hk, rfl, rfl, HA⟩ := hrel
      by_cases hlt : k < s.size
      · have hc := byte_at s k hlt
        obtain ⟨c, hce⟩ : ∃ c, s[k] = c := ⟨_, rfl⟩
        rw [hce] at hc
        have hcd := isD_of HD.out (List.mem_of_getElem? hc)
        have hst := natL_take hc
        have hle := LT.out (k + 1) hlt
        have ht := LT2.out
        unfold top at ht
        have HST : Hid (sg true (natL (s.data.toList.take (k + 1))) = 10 * a - ((c.toNat : Int) - 48)) := Lib.hid (by rw [hst, sg_step, if_pos rfl, HA.out]; omega)
        have hb1 : -9223372036854775808 ≤ 10 * a - ((c.toNat : Int) - 48) ∧ 10 * a - ((c.toNat : Int) - 48) ≤ 0 ∧ a ≤ 0 := by
          have h1 := HST.out
          have h2 := HA.out
          unfold sg at h1 h2
          simp only [if_true] at h1 h2
          omega
        have q0 : (0 : Int) ≤ (k : Int) := by omega
        have q1 : (k : Int) < (s.size : Int) := by omega
        have q2 : decide ((k : Int) < (s.size : Int)) = true := decide_eq_true q1
        have w1 : IntKind.u8.wrap ((c.toNat : Int) - 48) = (c.toNat : Int) - 48 := IntWalk.u8_in _ (by omega)
        have w2 : IntKind.i64.wrap ((c.toNat : Int) - 48) = (c.toNat : Int) - 48 := IntWalk.i64_in _ (by omega)
        have w3 : IntKind.i64.wrap (10 * a) = 10 * a := IntWalk.i64_in _ (by omega)
        have w4 : IntKind.i64.wrap (10 * a - ((c.toNat : Int) - 48)) = 10 * a - ((c.toNat : Int) - 48) := IntWalk.i64_in _ (by omega)
        clear hc hst hle ht
        go_wp2_with fail
        exact ⟨⟨k + 1, _, by omega, by first | rfl | simp, rfl, HST⟩, by simp [intOf]; omega⟩
      · obtain rfl : k = s.size := by omega
        have q2 : decide ((s.size : Int) < (s.size : Int)) = false := decide_eq_false (by omega)
        have hav : a = v := by rw [← HA.out, HI.out]
        subst hav
        go_wp2_with fail
        refine (RD.out _).mono ?_
        rintro r w1 ⟨rfl, hb⟩
        have L := Lib.hid hb
        clear hb
        go_wp2
        go_ret2
        exact ⟨rfl, L.out⟩
  | false =>
    go_enter Tryd.func46, Tryd.ntmps46
    go_wp2_with fail
    go_loop [6, 7] (fun n i => ∃ (k : Nat) (a : Int), k ≤ s.size ∧ i = .int .i64 k ∧ n = .int .i64 a ∧ Hid (sg false (natL (s.data.toList.take k)) = a)) (fun _ i => s.size - (intOf i).toNat)
    case atStart => exact ⟨0, 0, Nat.zero_le _, rfl, rfl, Lib.hid rfl⟩
    case round =>
      obtain ⟨k, a, hk, rfl, rfl, HA⟩ := hrel
      by_cases hlt : k < s.size
      · have hc := byte_at s k hlt
        obtain ⟨c, hce⟩ : ∃ c, s[k] = c := ⟨_, rfl⟩
        rw [hce] at hc
        have hcd := isD_of HD.out (List.mem_of_getElem? hc)
        have hst := natL_take hc
        have hle := LT.out (k + 1) hlt
        have ht := LT3.out (by trivial)
        unfold top at ht
        have HST : Hid (sg false (natL (s.data.toList.take (k + 1))) = 10 * a + ((c.toNat : Int) - 48)) := Lib.hid (by rw [hst, sg_step, if_neg (by simp), HA.out]; omega)
        have hb1 : 10 * a + ((c.toNat : Int) - 48) < 9223372036854775808 ∧ 0 ≤ a := by
          have h1 := HST.out
          have h2 := HA.out
          unfold sg at h1 h2
          simp at h1 h2
          omega
        have q0 : (0 : Int) ≤ (k : Int) := by omega
        have q1 : (k : Int) < (s.size : Int) := by omega
        have q2 : decide ((k : Int) < (s.size : Int)) = true := decide_eq_true q1
        have w1 : IntKind.u8.wrap ((c.toNat : Int) - 48) = (c.toNat : Int) - 48 := IntWalk.u8_in _ (by omega)
        have w2 : IntKind.i64.wrap ((c.toNat : Int) - 48) = (c.toNat : Int) - 48 := IntWalk.i64_in _ (by omega)
        have w3 : IntKind.i64.wrap (10 * a) = 10 * a := IntWalk.i64_in _ (by omega)
        have w4 : IntKind.i64.wrap (10 * a + ((c.toNat : Int) - 48)) = 10 * a + ((c.toNat : Int) - 48) := IntWalk.i64_in _ (by omega)
        clear hc hst hle ht
        go_wp2_with fail
        exact ⟨⟨k + 1, _, by omega, by first | rfl | simp, rfl, HST⟩, by simp [intOf]; omega⟩
      · obtain rfl : k = s.size := by omega
        have q2 : decide ((s.size : Int) < (s.size : Int)) = false := decide_eq_false (by omega)
        have hav : a = v := by rw [← HA.out, HI.out]
        subst hav
        go_wp2_with fail
        refine (RD.out _).mono ?_
        rintro r w1 ⟨rfl, hb⟩
        have L := Lib.hid hb
        clear hb
        go_wp2
        go_ret2
        exact ⟨rfl, L.out⟩
set_option maxHeartbeats 4000000 in
theorem rvalue_no (s : ByteArray) (b : Bool) (w : World) (hs : s.size ≤ maxLen) (hd : s.data.toList.all isD = true) (hv : valB s.data.toList b = false) (l0 : 0 < s.size) (l19 : s.size ≤ 19) : Calls Tryd.prog 46 #[.string s, .bool b] w (RetV 0 false w) := by
  have HD := Lib.hid hd
  have RD : Hid (∀ a : Int, InR a → ∃ X : ByteArray, (∀ W : World, Calls Tryd.prog 56 #[.int .i64 a] W fun e w' => e = .returned (.string X) ∧ Below W.heap.size W w') ∧ (X = s → ¬ b = decide (a < 0))) := Lib.hid (fun a ha => ⟨_, fun W => rdigits_any a.natAbs a ha rfl W, fun e hb => not_val ha hv ⟨by rw [← e], hb⟩⟩)
  have hzl : ¬ s.toList = [] := by
    rw [Lib.toList_data]
    intro e
    have h0 : s.size = 0 := by rw [size_l, e]; rfl
    omega
  have z1 : (s.toList == []) = false := by simpa using hzl
  have z3 : decide ((s.size : Int) > 19) = false := decide_eq_false (by omega)
  clear hd hv hzl
  cases b with
  | true =>
    go_enter Tryd.func46, Tryd.ntmps46
    go_wp2_with fail
    go_loop [6, 7] (fun n i => ∃ (k : Nat) (a : Int), k ≤ s.size ∧ i = .int .i64 k ∧ n = .int .i64 a ∧ Hid (InR a)) (fun _ i => s.size - (intOf i).toNat)
    case atStart => exact ⟨0, 0, Nat.zero_le _, rfl, rfl, Lib.hid (by unfold InR; omega)⟩
    case round =>
      obtain ⟨k, a, hk, rfl, rfl, HA⟩ := hrel
      by_cases hlt : k < s.size
      · have hc := byte_at s k hlt
        obtain ⟨c, hce⟩ : ∃ c, s[k] = c := ⟨_, rfl⟩
        rw [hce] at hc
        have hcd := isD_of HD.out (List.mem_of_getElem? hc)
        have q0 : (0 : Int) ≤ (k : Int) := by omega
        have q1 : (k : Int) < (s.size : Int) := by omega
        have q2 : decide ((k : Int) < (s.size : Int)) = true := decide_eq_true q1
        have w1 : IntKind.u8.wrap ((c.toNat : Int) - 48) = (c.toNat : Int) - 48 := IntWalk.u8_in _ (by omega)
        have w2 : IntKind.i64.wrap ((c.toNat : Int) - 48) = (c.toNat : Int) - 48 := IntWalk.i64_in _ (by omega)
        obtain ⟨y, w3⟩ : ∃ y, IntKind.i64.wrap (10 * a) = y := ⟨_, rfl⟩
        obtain ⟨z, w4⟩ : ∃ z, IntKind.i64.wrap (y - ((c.toNat : Int) - 48)) = z := ⟨_, rfl⟩
        have HZ : Hid (InR z) := Lib.hid (by rw [← w4]; exact wrap_InR _)
        clear hc
        go_wp2_with fail
        exact ⟨⟨k + 1, z, by omega, by first | rfl | simp, rfl, HZ⟩, by simp [intOf]; omega⟩
      · obtain rfl : k = s.size := by omega
        have q2 : decide ((s.size : Int) < (s.size : Int)) = false := decide_eq_false (by omega)
        obtain ⟨X, RD, hX⟩ := RD.out a HA.out
        have RD2 := Lib.hid RD
        clear RD
        by_cases hne : X = s
        · subst hne
          have hb' : decide (a < 0) = false := by
            have := hX rfl
            cases hh : decide (a < 0) <;> simp_all
          clear hX
          go_wp2_with fail
          refine (RD2.out _).mono ?_
          rintro r w1 ⟨rfl, hb⟩
          have L := Lib.hid hb
          clear hb
          go_wp2
          go_ret2
          exact ⟨rfl, L.out⟩
        · have hne' : ¬ X.toList = s.toList := fun e => hne (by
            rw [Lib.toList_data, Lib.toList_data] at e
            cases X; cases s
            congr
            exact Array.toList_inj.1 e)
          have u1 : (X.toList != s.toList) = true := by simpa using hne'
          have u2 : (X.toList == s.toList) = false := by simpa using hne'
          clear hX hne hne'
          go_wp2_with fail
          refine (RD2.out _).mono ?_
          rintro r w1 ⟨rfl, hb⟩
          have L := Lib.hid hb
          clear hb
          go_wp2
          go_ret2
          exact ⟨rfl, L.out⟩
  | false =>
    go_enter Tryd.func46, Tryd.ntmps46
    go_wp2_with fail
    go_loop [6, 7] (fun n i => ∃ (k : Nat) (a : Int), k ≤ s.size ∧ i = .int .i64 k ∧ n = .int .i64 a ∧ Hid (InR a)) (fun _ i => s.size - (intOf i).toNat)
    case atStart => exact ⟨0, 0, Nat.zero_le _, rfl, rfl, Lib.hid (by unfold InR; omega)⟩
    case round =>
      obtain ⟨k, a, hk, rfl, rfl, HA⟩ := hrel
      by_cases hlt : k < s.size
      · have hc := byte_at s k hlt
        obtain ⟨c, hce⟩ : ∃ c, s[k] = c := ⟨_, rfl⟩
        rw [hce] at hc
        have hcd := isD_of HD.out (List.mem_of_getElem? hc)
        have q0 : (0 : Int) ≤ (k : Int) := by omega
        have q1 : (k : Int) < (s.size : Int) := by omega
        have q2 : decide ((k : Int) < (s.size : Int)) = true := decide_eq_true q1
        have w1 : IntKind.u8.wrap ((c.toNat : Int) - 48) = (c.toNat : Int) - 48 := IntWalk.u8_in _ (by omega)
        have w2 : IntKind.i64.wrap ((c.toNat : Int) - 48) = (c.toNat : Int) - 48 := IntWalk.i64_in _ (by omega)
        obtain ⟨y, w3⟩ : ∃ y, IntKind.i64.wrap (10 * a) = y := ⟨_, rfl⟩
        obtain ⟨z, w4⟩ : ∃ z, IntKind.i64.wrap (y + ((c.toNat : Int) - 48)) = z := ⟨_, rfl⟩
        have HZ : Hid (InR z) := Lib.hid (by rw [← w4]; exact wrap_InR _)
        clear hc
        go_wp2_with fail
        exact ⟨⟨k + 1, z, by omega, by first | rfl | simp, rfl, HZ⟩, by simp [intOf]; omega⟩
      · obtain rfl : k = s.size := by omega
        have q2 : decide ((s.size : Int) < (s.size : Int)) = false := decide_eq_false (by omega)
        obtain ⟨X, RD, hX⟩ := RD.out a HA.out
        have RD2 := Lib.hid RD
        clear RD
        by_cases hne : X = s
        · subst hne
          have hb' : decide (a < 0) = true := by
            have := hX rfl
            cases hh : decide (a < 0) <;> simp_all
          clear hX
          go_wp2_with fail
          refine (RD2.out _).mono ?_
          rintro r w1 ⟨rfl, hb⟩
          have L := Lib.hid hb
          clear hb
          go_wp2
          go_ret2
          exact ⟨rfl, L.out⟩
        · have hne' : ¬ X.toList = s.toList := fun e => hne (by
            rw [Lib.toList_data, Lib.toList_data] at e
            cases X; cases s
            congr
            exact Array.toList_inj.1 e)
          have u1 : (X.toList != s.toList) = true := by simpa using hne'
          have u2 : (X.toList == s.toList) = false := by simpa using hne'
          clear hX hne hne'
          go_wp2_with fail
          refine (RD2.out _).mono ?_
          rintro r w1 ⟨rfl, hb⟩
          have L := Lib.hid hb
          clear hb
          go_wp2
          go_ret2
          exact ⟨rfl, L.out⟩
set_option maxHeartbeats 1000000 in
theorem rvalue_out (s : ByteArray) (b : Bool) (w : World) (hs : s.size ≤ maxLen) (h : s.size = 0 ∨ 19 < s.size) : Calls Tryd.prog 46 #[.string s, .bool b] w (RetV 0 false w) := by
  by_cases h0 : s.size = 0
  · have hz : s.toList = [] := by
      rw [Lib.toList_data]
      exact List.eq_nil_of_length_eq_zero (by rw [← size_l]; exact h0)
    have z1 : (s.toList == []) = true := by rw [hz]; rfl
    go_enter Tryd.func46, Tryd.ntmps46
    go_wp2
    go_ret2
    exact ⟨rfl, Below.refl _ _⟩
  · have hzl : ¬ s.toList = [] := by
      rw [Lib.toList_data]
      intro e
      exact h0 (by rw [size_l, e]; rfl)
    have z1 : (s.toList == []) = false := by simpa using hzl
    have z3 : decide ((s.size : Int) > 19) = true := decide_eq_true (by omega)
    go_enter Tryd.func46, Tryd.ntmps46
    go_wp2
    go_ret2
    exact ⟨rfl, Below.refl _ _⟩
theorem rvalue_any (s : ByteArray) (b : Bool) (w : World) (hs : s.size ≤ maxLen) (hd : s.data.toList.all isD = true) : Calls Tryd.prog 46 #[.string s, .bool b] w (RetV (valI s.data.toList b) (valB s.data.toList b) w) := by
  by_cases hv : valB s.data.toList b = true
  · rw [hv]
    exact rvalue_yes s b w hs hd hv
  · have hv' : valB s.data.toList b = false := by simpa using hv
    have h0 : valI s.data.toList b = 0 := by unfold valI; rw [if_neg hv]
    rw [hv', h0]
    by_cases h : s.size = 0 ∨ 19 < s.size
    · exact rvalue_out s b w hs h
    · exact rvalue_no s b w hs hd hv' (by omega) (by omega)
end Go.Proofs.YtdhpplbopciijaaDoor.Dg
