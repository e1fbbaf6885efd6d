/-
  rifflelaw12.TwinSums says yes, whatever the numbers and the room.
-/
import Derived.Test.YtogbemdoimhndaaTwiOb2
import Derived.Test.YtogbemdoimhndaaTwLives
set_option maxRecDepth 100000
namespace Go.Proofs.Ytogbemdoimhndaa.Twi
open Go.Proofs.Ytogbemdoimhndaa.Sh Go.Proofs.Ytogbemdoimhndaa.St
open Go.RowKit
set_option linter.unusedVariables false

/-- The numbers from p on, up to q. -/
def win (l : List Int) (p q : Nat) : List Int := (l.take q).drop p
theorem win_len {l : List Int} {p q : Nat} (h : q ≤ l.length) : (win l p q).length = q - p := by
  unfold win
  rw [List.length_drop, List.length_take, Nat.min_eq_left h]
theorem win_push {l : List Int} {p q : Nat} (h : q < l.length) (hp : p ≤ q) : win l p (q + 1) = win l p q ++ [l.getD q 0] := by
  unfold win
  rw [Sh.take_snoc l q h, List.drop_append_of_le_length (by rw [List.length_take, Nat.min_eq_left (Nat.le_of_lt h)]; exact hp)]
theorem win_pop {l : List Int} {p q : Nat} (h : p < q) (hq : q ≤ l.length) : win l p q = l.getD p 0 :: win l (p + 1) q := by
  unfold win
  have hl : p < (l.take q).length := by simp; omega
  rw [List.drop_eq_getElem_cons hl]
  simp [List.getD, show p < l.length by omega]
theorem win_none (l : List Int) (p : Nat) : win l p p = [] := by
  unfold win
  exact List.drop_of_length_le (by simp; omega)
theorem win_sub {l : List Int} {p q : Nat} {x : Int} (h : x ∈ win l p q) : x ∈ l := List.mem_of_mem_take (List.mem_of_mem_drop h)
theorem wsum_0 (l : List Int) : wsum l = 0 := by
  induction l with
  | nil => rfl
  | cons x t ih =>
    rw [wsum_cons, ih]
    rfl
/-- The sum as the law adds it up. -/
def sumW (l : List Int) : Int := l.foldl (fun s x => wrap64 (s + x)) 0
theorem sumW_snoc (l : List Int) (x : Int) : sumW (l ++ [x]) = wrap64 (sumW l + x) := by simp [sumW]
theorem wrap_wf {x : Int} (h : (Lit.int .i64 x).wf = true) : wrap64 x = x := by
  simp [Lit.wf, IntKind.min, IntKind.max, IntKind.signed, IntKind.bits, Bool.and_eq_true, decide_eq_true_eq] at h
  exact IntWalk.wrap64_in x (by omega)
theorem sumW_jl : ∀ (n : Nat) (l : List Int), l.length = n → (∀ x ∈ l, (Lit.int .i64 x).wf = true) → sumW l = jl l
  | 0, l, h, _ => by
    obtain rfl := List.eq_nil_of_length_eq_zero h
    rfl
  | n + 1, l, h, hw => by
    obtain ⟨a, x, rfl⟩ : ∃ a x, l = a ++ [x] := ⟨l.dropLast, l.getLast (by intro e; subst e; simp at h), (List.dropLast_concat_getLast _).symm⟩
    have ha : a.length = n := by simpa using h
    have ih := sumW_jl n a ha (fun y hy => hw y (List.mem_append_left _ hy))
    rw [sumW_snoc]
    rcases Nat.eq_zero_or_pos a.length with h0 | h0
    · obtain rfl := List.eq_nil_of_length_eq_zero h0
      show wrap64 (0 + x) = x
      rw [Int.zero_add, wrap_wf (hw x (by simp))]
    · rw [jl_app (by simp) a h0, ih]
      rfl
/-- At the head of the loop: the window has the numbers from k less its room on, up to k. -/
def SumAt (w0 wr : World) (g R : Nat) (l : List Int) (k : Nat) : Prop := Low w0.heap.size wr g R (win l (k - R) k) ∧ Below w0.heap.size w0 wr
theorem low_below {n₀ g m : Nat} {l : List Int} {w w' : World} (h : Low n₀ w g m l) (hb : Below w.heap.size w w') : Low n₀ w' g m l := h.next hb
set_option maxHeartbeats 16000000 in
theorem sums_any (A : Option Addr) (c : Nat) (l : List Int) (u : Int) (w : World) (hl : l.length ≤ maxLen) (hi : Ints w A l) (hwf : ∀ x ∈ l, (Lit.int .i64 x).wf = true) (hu0 : 0 ≤ u) (hu1 : u < 18446744073709551616) :
    Calls Try.prog 5 #[.slice A l.length c, .int .u64 u] w fun e w' => e = .returned (.bool true) ∧ Below w.heap.size w w' := by
  obtain ⟨m, hm⟩ : ∃ m : Nat, u.tmod 64 = m := ⟨(u.tmod 64).toNat, by rw [Int.tmod_eq_emod_of_nonneg hu0]; omega⟩
  have hm64 : m < 64 := by rw [Int.tmod_eq_emod_of_nonneg hu0] at hm; omega
  have HI := Lib.hid hi
  have HW := Lib.hid hwf
  unfold maxLen at hl
  clear hi hu0 hu1 hwf
  by_cases hg : l.length ≤ 300
  · have t1 : decide ((l.length : Int) > 300) = false := decide_eq_false (by omega)
    have m0 : (0 : Int) ≤ (m : Int) := by omega
    have m1 : (m : Int) ≤ 63 := by omega
    obtain ⟨R, hR⟩ : ∃ R, 1 + m = R := ⟨_, rfl⟩
    have hRi : (1 : Int) + (m : Int) = (R : Int) := by omega
    have hR0 : 1 ≤ R := by omega
    have hR64 : R ≤ 64 := by omega
    have NW := Lib.hid (low_new R w hR0 hR64)
    clear hR
    unfold jv at NW
    go_enter Try.func5, Try.ntmps5
    go_wp2_with fail
    refine NW.out.mono ?_
    rintro r w1 ⟨g, rfl, d1, hb1⟩
    have PA : Hid (SumAt w w1 g R l 0) := Lib.hid ⟨by rw [Nat.zero_sub, win_none]; exact d1, hb1⟩
    clear hb1 d1
    go_wp2
    go_loopw [35] (fun i wr => ∃ k : Nat, k ≤ l.length ∧ i = .int .i64 k ∧ Hid (SumAt w wr g R l k)) (fun i _ => l.length - (intOf i).toNat)
    case atStart => exact ⟨0, Nat.zero_le _, rfl, PA⟩
    case round =>
      obtain ⟨k, hk, rfl, HP⟩ := hrel
      by_cases hlt : k < l.length
      · obtain ⟨q1, q2⟩ := HP.out
        obtain ⟨b, off, rfl, hb, hc⟩ := (HI.out.below q2) (by omega)
        have hx := hc k hlt
        obtain ⟨x, hxe⟩ : ∃ x, l.getD k 0 = x := ⟨_, rfl⟩
        rw [hxe] at hx
        have HX := Lib.hid hxe
        have i1 : (k : Int) < (l.length : Int) := by omega
        have L0 := Lib.hid q2
        clear hc HP hxe
        by_cases hf : R ≤ k
        · have t2 : decide ((k : Int) ≥ (R : Int)) = true := decide_eq_true (by omega)
          have hpop := win_pop (l := l) (p := k - R) (q := k) (by omega) hk
          rw [hpop] at q1
          have hwl := win_len (l := l) (p := k - R + 1) (q := k) hk
          have DR := Lib.hid (low_drop w.heap.size g R (win l (k - R + 1) k) _ wr q1 (by omega) (by rw [wsum_0]; omega))
          have HWP := Lib.hid (win_push (l := l) (p := k - R + 1) (q := k) hlt (by omega))
          have HPQ : Hid (k - R + 1 = k + 1 - R) := Lib.hid (by omega)
          clear q1 q2 hpop
          go_wp2_with fail
          refine DR.out.mono ?_
          rintro r w2 ⟨rfl, d2, hb2⟩
          have L2 := Lib.hid (L0.out.trans hb2)
          have PU := Lib.hid (low_push w.heap.size g R (win l (k - R + 1) k) x w2 d2 (by omega) hR64 (by rw [wsum_0]; omega))
          clear d2 hb2 hwl DR
          go_wp2_with fail
          refine PU.out.mono ?_
          rintro r w3 ⟨rfl, d3, hb3⟩
          have L3 := Lib.hid (L2.out.trans hb3)
          clear hb3 PU
          rw [← HX.out, ← HWP.out, HPQ.out] at d3
          obtain ⟨p, hpe⟩ : ∃ p, k + 1 - R = p := ⟨_, rfl⟩
          rw [hpe] at d3
          have HPE := Lib.hid hpe
          have hp1 : p ≤ k := by omega
          have WL := win_len (l := l) (p := p) (q := k + 1) (by omega)
          have al := low_all w.heap.size g R (win l p (k + 1)) w3 d3 (by omega) (by rw [wsum_0]; omega)
          rw [show decide (0 < (win l p (k + 1)).length) = true from decide_eq_true (by omega)] at al
          have hs := sumW_jl _ (win l p (k + 1)) rfl (fun y hy => HW.out y (win_sub hy))
          have le := fun W (h : Low w.heap.size W g R (win l p (k + 1))) => low_len w.heap.size g R (win l p (k + 1)) W h (by omega)
          obtain ⟨n, hn⟩ : ∃ n, (win l p (k + 1)).length = n := ⟨_, rfl⟩
          rw [hn] at le
          have hnp : n = k + 1 - p := by omega
          obtain ⟨S, hS⟩ : ∃ S, jl (win l p (k + 1)) = S := ⟨_, rfl⟩
          rw [hS] at hs al
          have HS := Lib.hid hs
          have AL := Lib.hid al
          have LE := Lib.hid le
          have I3 := Lib.hid (HI.out.below L3.out)
          have hmax : max 0 ((k : Int) - (R : Int) + 1) = (p : Int) := by omega
          have hmin : min ((k : Int) + 1) (R : Int) = (n : Int) := by omega
          have w5 : IntKind.i64.wrap ((k : Int) - (R : Int)) = (k : Int) - (R : Int) := IntWalk.i64_in _ (by omega)
          have w6 : IntKind.i64.wrap ((k : Int) - (R : Int) + 1) = (k : Int) - (R : Int) + 1 := IntWalk.i64_in _ (by omega)
          have w7 : IntKind.i64.wrap ((k : Int) + 1) = (k : Int) + 1 := IntWalk.i64_in _ (by omega)
          clear d3 hpe WL al hs le hn hS hnp
          go_wp2
          go_loop [10, 11] (fun s j => ∃ q : Nat, p ≤ q ∧ q ≤ k + 1 ∧ j = .int .i64 q ∧ s = .int .i64 (sumW (win l p q))) (fun _ j => k + 1 - (intOf j).toNat)
          case atStart => exact ⟨p, Nat.le_refl _, by omega, by first | rfl | (rw [hmax]) | (simp; omega), by rw [win_none]; rfl⟩
          case round =>
            obtain ⟨q, hq1, hq2, rfl, rfl⟩ := hrel
            by_cases hqk : q < k + 1
            · have hql : q < l.length := by omega
              obtain ⟨b4, o4, hbo, -, hc4⟩ := I3.out (by omega)
              have hz := hc4 q hql
              injection hbo with hbo
              injection hbo with hb1 hb2
              subst hb1 hb2
              have t4 : decide ((q : Int) ≤ (k : Int)) = true := decide_eq_true (by omega)
              have j1 : (q : Int) < (l.length : Int) := by omega
              have HST := Lib.hid (show sumW (win l p (q + 1)) = wrap64 (sumW (win l p q) + l.getD q 0) by rw [win_push hql hq1, sumW_snoc])
              obtain ⟨z, hze⟩ : ∃ z, l.getD q 0 = z := ⟨_, rfl⟩
              obtain ⟨s0, hs0⟩ : ∃ s0, sumW (win l p q) = s0 := ⟨_, rfl⟩
              rw [hze] at hz HST
              rw [hs0] at HST ⊢
              clear hc4 hze hs0
              go_wp2
              go_round
              case rel => exact ⟨q + 1, by omega, by omega, by go_num, by rw [HST.out]⟩
              case measure => simp [intOf]; omega
            · obtain rfl : q = k + 1 := by omega
              rw [HS.out]
              have t4 : decide (((k + 1 : Nat) : Int) ≤ (k : Int)) = false := decide_eq_false (by omega)
              have t5 : decide ((k : Int) + 1 ≤ (k : Int)) = false := decide_eq_false (by omega)
              clear hq1 hq2 hqk
              go_wp2_with fail
              refine AL.out.mono ?_
              rintro r w4 ⟨rfl, h4, hb4⟩
              have D4 := Lib.hid h4
              have L4 := Lib.hid (below_next L3.out hb4)
              have LE4 := Lib.hid (LE.out _ D4.out)
              clear h4 hb4 AL LE
              go_wp2_with fail
              refine LE4.out.mono ?_
              rintro r w5 ⟨rfl, h5, hb5⟩
              have PZ : Hid (SumAt w w5 g R l (k + 1)) := Lib.hid ⟨by rw [HPE.out]; exact h5, below_next L4.out hb5⟩
              clear h5 hb5
              go_wp2
              exact ⟨⟨k + 1, by omega, by go_num, PZ⟩, by simp [intOf]; omega⟩
        · have t2 : decide ((k : Int) ≥ (R : Int)) = false := decide_eq_false (by omega)
          have hp0 : k - R = 0 := by omega
          rw [hp0] at q1
          have PU := Lib.hid (low_push w.heap.size g R (win l 0 k) x wr q1 (by rw [win_len hk]; omega) hR64 (by rw [wsum_0]; omega))
          have HWP := Lib.hid (win_push (l := l) (p := 0) (q := k) hlt (by omega))
          have HPQ : Hid (0 = k + 1 - R) := Lib.hid (by omega)
          clear q1 q2 hp0
          go_wp2_with fail
          refine PU.out.mono ?_
          rintro r w3 ⟨rfl, d3, hb3⟩
          have L3 := Lib.hid (L0.out.trans hb3)
          clear hb3 PU
          rw [← HX.out, ← HWP.out, HPQ.out] at d3
          obtain ⟨p, hpe⟩ : ∃ p, k + 1 - R = p := ⟨_, rfl⟩
          rw [hpe] at d3
          have HPE := Lib.hid hpe
          have hp1 : p ≤ k := by omega
          have WL := win_len (l := l) (p := p) (q := k + 1) (by omega)
          have al := low_all w.heap.size g R (win l p (k + 1)) w3 d3 (by omega) (by rw [wsum_0]; omega)
          rw [show decide (0 < (win l p (k + 1)).length) = true from decide_eq_true (by omega)] at al
          have hs := sumW_jl _ (win l p (k + 1)) rfl (fun y hy => HW.out y (win_sub hy))
          have le := fun W (h : Low w.heap.size W g R (win l p (k + 1))) => low_len w.heap.size g R (win l p (k + 1)) W h (by omega)
          obtain ⟨n, hn⟩ : ∃ n, (win l p (k + 1)).length = n := ⟨_, rfl⟩
          rw [hn] at le
          have hnp : n = k + 1 - p := by omega
          obtain ⟨S, hS⟩ : ∃ S, jl (win l p (k + 1)) = S := ⟨_, rfl⟩
          rw [hS] at hs al
          have HS := Lib.hid hs
          have AL := Lib.hid al
          have LE := Lib.hid le
          have I3 := Lib.hid (HI.out.below L3.out)
          have hmax : max 0 ((k : Int) - (R : Int) + 1) = (p : Int) := by omega
          have hmin : min ((k : Int) + 1) (R : Int) = (n : Int) := by omega
          have w5 : IntKind.i64.wrap ((k : Int) - (R : Int)) = (k : Int) - (R : Int) := IntWalk.i64_in _ (by omega)
          have w6 : IntKind.i64.wrap ((k : Int) - (R : Int) + 1) = (k : Int) - (R : Int) + 1 := IntWalk.i64_in _ (by omega)
          have w7 : IntKind.i64.wrap ((k : Int) + 1) = (k : Int) + 1 := IntWalk.i64_in _ (by omega)
          clear d3 hpe WL al hs le hn hS hnp
          go_wp2
          go_loop [10, 11] (fun s j => ∃ q : Nat, p ≤ q ∧ q ≤ k + 1 ∧ j = .int .i64 q ∧ s = .int .i64 (sumW (win l p q))) (fun _ j => k + 1 - (intOf j).toNat)
          case atStart => exact ⟨p, Nat.le_refl _, by omega, by first | rfl | (rw [hmax]) | (simp; omega), by rw [win_none]; rfl⟩
          case round =>
            obtain ⟨q, hq1, hq2, rfl, rfl⟩ := hrel
            by_cases hqk : q < k + 1
            · have hql : q < l.length := by omega
              obtain ⟨b4, o4, hbo, -, hc4⟩ := I3.out (by omega)
              have hz := hc4 q hql
              injection hbo with hbo
              injection hbo with hb1 hb2
              subst hb1 hb2
              have t4 : decide ((q : Int) ≤ (k : Int)) = true := decide_eq_true (by omega)
              have j1 : (q : Int) < (l.length : Int) := by omega
              have HST := Lib.hid (show sumW (win l p (q + 1)) = wrap64 (sumW (win l p q) + l.getD q 0) by rw [win_push hql hq1, sumW_snoc])
              obtain ⟨z, hze⟩ : ∃ z, l.getD q 0 = z := ⟨_, rfl⟩
              obtain ⟨s0, hs0⟩ : ∃ s0, sumW (win l p q) = s0 := ⟨_, rfl⟩
              rw [hze] at hz HST
              rw [hs0] at HST ⊢
              clear hc4 hze hs0
              go_wp2
              go_round
              case rel => exact ⟨q + 1, by omega, by omega, by go_num, by rw [HST.out]⟩
              case measure => simp [intOf]; omega
            · obtain rfl : q = k + 1 := by omega
              rw [HS.out]
              have t4 : decide (((k + 1 : Nat) : Int) ≤ (k : Int)) = false := decide_eq_false (by omega)
              have t5 : decide ((k : Int) + 1 ≤ (k : Int)) = false := decide_eq_false (by omega)
              clear hq1 hq2 hqk
              go_wp2_with fail
              refine AL.out.mono ?_
              rintro r w4 ⟨rfl, h4, hb4⟩
              have D4 := Lib.hid h4
              have L4 := Lib.hid (below_next L3.out hb4)
              have LE4 := Lib.hid (LE.out _ D4.out)
              clear h4 hb4 AL LE
              go_wp2_with fail
              refine LE4.out.mono ?_
              rintro r w5 ⟨rfl, h5, hb5⟩
              have PZ : Hid (SumAt w w5 g R l (k + 1)) := Lib.hid ⟨by rw [HPE.out]; exact h5, below_next L4.out hb5⟩
              clear h5 hb5
              go_wp2
              exact ⟨⟨k + 1, by omega, by go_num, PZ⟩, by simp [intOf]; omega⟩
      · obtain rfl : k = l.length := by omega
        have L0 := Lib.hid HP.out.2
        clear HP hlt
        go_wp2_with fail
        refine (Tws.lives_any _).mono ?_
        rintro r w2 ⟨rfl, hb⟩
        have L2 := Lib.hid (below_next L0.out hb)
        clear hb
        go_wp2
        go_ret
        exact ⟨rfl, L2.out⟩
  · have t1 : decide ((l.length : Int) > 300) = true := decide_eq_true (by omega)
    go_enter Try.func5, Try.ntmps5
    go_wp2_with fail
    refine (Tws.lives_any _).mono ?_
    rintro r w1 ⟨rfl, hb⟩
    have L := Lib.hid hb
    clear hb
    go_wp2
    go_ret
    exact ⟨rfl, L.out⟩
theorem uint_bd {n : Int} (h : (Lit.int .u64 n).wf = true) : 0 ≤ n ∧ n < 18446744073709551616 := by
  simp [Lit.wf, IntKind.min, IntKind.max, IntKind.signed, IntKind.bits, Bool.and_eq_true, decide_eq_true_eq] at h
  omega
end Go.Proofs.Ytogbemdoimhndaa.Twi
