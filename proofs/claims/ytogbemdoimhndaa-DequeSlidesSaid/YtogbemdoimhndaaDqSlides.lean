/-
  What rifflelaw13.DequeSlides answers: true, whatever the numbers and the room. Condition: no more numbers than fit into a machine.
-/
import Derived.Test.YtogbemdoimhndaaDqPlays
set_option maxRecDepth 100000
namespace Go.Proofs.Ytogbemdoimhndaa.Dq
open Go.Proofs.Ytogbemdoimhndaa.Sh Go.Proofs.Ytogbemdoimhndaa.St
open Go.RowKit
set_option linter.unusedVariables false

/-- The numbers from p on, up to q. -/
def win (l : List Int) (p q : Nat) : List Int := (l.take q).drop p
theorem win_len {l : List Int} {p q : Nat} (h : q ≤ l.length) : (win l p q).length = q - p := by simp [win]; omega
theorem win_push {l : List Int} {p q : Nat} (hq : q < l.length) (hp : p ≤ q) : win l p (q + 1) = win l p q ++ [l.getD q 0] := by
  unfold win
  rw [Sh.take_snoc l q hq, List.drop_append_of_le_length (by simp; omega)]
theorem win_pop {l : List Int} {p q : Nat} (hp : p < q) (hq : q ≤ l.length) : win l p q = l.getD p 0 :: win l (p + 1) q := by
  unfold win
  have hl : p < (l.take q).length := by simp; omega
  rw [List.drop_eq_getElem_cons hl]
  simp [List.getD, show p < l.length by omega]
theorem win_mem {l : List Int} {p q j : Nat} (hq : q ≤ l.length) (h1 : p ≤ j) (h2 : j < q) : l.getD j 0 ∈ win l p q := by
  unfold win
  have hj : j < l.length := by omega
  rw [List.mem_iff_getElem?]
  refine ⟨j - p, ?_⟩
  rw [List.getElem?_drop, show p + (j - p) = j by omega, List.getElem?_take_of_lt h2]
  simp [List.getD, hj]
theorem win_at {l : List Int} {p q : Nat} {x : Int} (hq : q ≤ l.length) (h : x ∈ win l p q) : ∃ j, p ≤ j ∧ j < q ∧ l.getD j 0 = x := by
  obtain ⟨i, hi⟩ := List.mem_iff_getElem?.1 h
  have hil := (List.getElem?_eq_some_iff.1 hi).1
  rw [win_len hq] at hil
  unfold win at hi
  rw [List.getElem?_drop, List.getElem?_take_of_lt (by omega)] at hi
  exact ⟨p + i, by omega, by omega, by simp [List.getD, hi]⟩
/-- Is x among the numbers from p on, up to q? -/
def hitB (l : List Int) (p q : Nat) (x : Int) : Bool := (win l p q).any fun z => z == x
theorem hit_none (l : List Int) (p : Nat) (x : Int) : hitB l p p x = false := by
  have e : win l p p = [] := by unfold win; exact List.drop_of_length_le (by simp; omega)
  unfold hitB; rw [e]; rfl
theorem hit_step {l : List Int} {p q : Nat} {x : Int} (hq : q < l.length) (hp : p ≤ q) : hitB l p (q + 1) x = (hitB l p q x || (l.getD q 0 == x)) := by
  unfold hitB
  rw [win_push hq hp, List.any_append]
  simp
theorem hit_all {l : List Int} {p q : Nat} {x : Int} (h : x ∈ win l p q) : hitB l p q x = true := by
  unfold hitB
  exact List.any_eq_true.2 ⟨x, h, by simp⟩
theorem bett_no {ls : Bool} {l : List Int} {z : Int} (h : 0 < l.length) (hz : z ∈ l) : bettB ls z (bestI ls l) = false := by
  have := (best_good (ls := ls) h).2 z hz
  cases ls <;> simp only [goodB, bettB, if_true, if_false, Bool.false_eq_true, decide_eq_false_iff_not] at this ⊢ <;> omega
/-- At the head of the loop: the window has the numbers from p on, up to k. -/
def SlideAt (w0 wr : World) (g : Nat) (ls : Bool) (R : Nat) (l : List Int) (k : Nat) : Prop := ∃ V, Deq w0.heap.size wr g V ls R (k - R) (win l (k - R) k) ∧ Below w0.heap.size w0 wr
theorem slide_next {w0 w5 w6 : World} {g : Nat} {V : Value} {ls : Bool} {R p k : Nat} {l : List Int} (d : Deq w0.heap.size w5 g V ls R p (win l p (k + 1))) (h : Below w0.heap.size w0 w5) (hb : Below w5.heap.size w5 w6) (hp : k + 1 - R = p) : SlideAt w0 w6 g ls R l (k + 1) := by
  subst hp
  exact ⟨V, d.next hb, below_next h hb⟩
set_option maxHeartbeats 16000000 in
/-- What the loop over the window's numbers, and what is behind it, wants. -/
theorem slides_any (A : Option Addr) (c : Nat) (l : List Int) (u : Int) (ls : Bool) (w : World) (hl : l.length ≤ maxLen) (hi : Ints w A l) (hu0 : 0 ≤ u) (hu1 : u < 18446744073709551616) :
    Calls Try.prog 8 #[.slice A l.length c, .int .u64 u, .bool ls] w fun e w' => e = .returned (.bool true) ∧ Below w.heap.size w w' := by
  obtain ⟨m, hm⟩ : ∃ m : Nat, u.tmod 64 = m := ⟨(u.tmod 64).toNat, by rw [Int.tmod_eq_emod_of_nonneg hu0]; omega⟩
  have hm64 : m < 64 := by rw [Int.tmod_eq_emod_of_nonneg hu0] at hm; omega
  have HI := Lib.hid hi
  unfold maxLen at hl
  clear hi hu0 hu1
  by_cases hg : l.length ≤ 300
  · have t1 : decide ((l.length : Int) > 300) = false := decide_eq_false (by omega)
    have m0 : (0 : Int) ≤ (m : Int) := by omega
    have m1 : (m : Int) ≤ 63 := by omega
    obtain ⟨R, hR⟩ : ∃ R, 1 + m = R := ⟨_, rfl⟩
    have hRi : (1 : Int) + (m : Int) = (R : Int) := by omega
    have hR0 : 1 ≤ R := by omega
    have hR64 : R ≤ 64 := by omega
    have NW := Lib.hid (new_yes ls R w hR0 hR64)
    clear hR
    go_enter Try.func8, Try.ntmps8
    go_wp2_with fail
    refine NW.out.mono ?_
    rintro r w1 ⟨g, rfl, d1, hb1⟩
    have PA : Hid (SlideAt w w1 g ls R l 0) := Lib.hid ⟨_, by rw [Nat.zero_sub]; exact d1, hb1⟩
    clear hb1 d1
    go_wp2
    go_loopw [40] (fun i wr => ∃ k : Nat, k ≤ l.length ∧ i = .int .i64 k ∧ Hid (SlideAt w wr g ls R l k)) (fun i _ => l.length - (intOf i).toNat)
    case atStart => exact ⟨0, Nat.zero_le _, rfl, PA⟩
    case round =>
      obtain ⟨k, hk, rfl, HP⟩ := hrel
      by_cases hlt : k < l.length
      · obtain ⟨V, q1, q2⟩ := HP.out
        obtain ⟨b, off, rfl, hb, hc⟩ := (HI.out.below q2) (by omega)
        have hx := hc k hlt
        obtain ⟨x, hxe⟩ : ∃ x, l.getD k 0 = x := ⟨_, rfl⟩
        rw [hxe] at hx
        have HX := Lib.hid hxe
        have i1 : (k : Int) < (l.length : Int) := by omega
        have L0 := Lib.hid q2
        clear hc HP hxe
        by_cases hf : R ≤ k
        · have t2 : decide ((k : Int) ≥ (R : Int)) = true := decide_eq_true (by omega)
          obtain ⟨y, hye⟩ : ∃ y, l.getD (k - R) 0 = y := ⟨_, rfl⟩
          have hpop := win_pop (l := l) (p := k - R) (q := k) (by omega) hk
          rw [hye] at hpop
          rw [hpop] at q1
          have hwl := win_len (l := l) (p := k - R + 1) (q := k) hk
          have DR := Lib.hid (drop_some w.heap.size g V ls R (k - R) y (win l (k - R + 1) k) wr q1 (by omega))
          have D0 := Lib.hid q1
          have HWP := Lib.hid (win_push (l := l) (p := k - R + 1) (q := k) hlt (by omega))
          have HPQ : Hid (k - R + 1 = k + 1 - R) := Lib.hid (by omega)
          clear q1 q2 hpop hye
          go_wp2_with fail
          refine DR.out.mono ?_
          rintro r w2 ⟨V2, rfl, d2, t2', -⟩
          have L2 := Lib.hid (deq_below L0.out D0.out t2')
          have PU := Lib.hid (push_room w.heap.size g V2 ls R (k - R + 1) (win l (k - R + 1) k) x w2 d2 (by omega) (by omega))
          have D2 := Lib.hid d2
          clear d2 t2'
          go_wp2_with fail
          refine PU.out.mono ?_
          rintro r w3 ⟨V3, rfl, d3, t3', -⟩
          have L3 := Lib.hid (deq_below L2.out D2.out t3')
          rw [← HX.out, ← HWP.out, HPQ.out] at d3
          clear t3' hwl
          obtain ⟨p, hpe⟩ : ∃ p, k + 1 - R = p := ⟨_, rfl⟩
          have HPE := Lib.hid hpe
          rw [hpe] at d3
          have hp1 : p ≤ k := by omega
          have WL := win_len (l := l) (p := p) (q := k + 1) (by omega)
          have hpos : 0 < (win l p (k + 1)).length := by omega
          have hlen : (win l p (k + 1)).length ≤ 64 := by omega
          have be := best_any w.heap.size g V3 ls R p (win l p (k + 1)) w3 d3 (by omega)
          rw [show decide (0 < (win l p (k + 1)).length) = true from decide_eq_true hpos] at be
          have HALL := Lib.hid (fun j (h1 : p ≤ j) (h2 : j < k + 1) => bett_no (ls := ls) hpos (win_mem (l := l) (show k + 1 ≤ l.length by omega) h1 h2))
          have HIT := Lib.hid (hit_all (best_good (ls := ls) hpos).1)
          have hkk := keptV_best (ls := ls) hpos
          have hkl := keptV_last ls (win l p k) x
          rw [← HX.out, ← win_push hlt hp1] at hkl
          have hrise := fun i a b => @keptV_rise ls (win l p (k + 1)) i a b
          have hklen := Nat.le_trans (keptV_len ls (win l p (k + 1))) hlen
          have KE0 := Lib.hid (fun W (hb : Below w3.heap.size w3 W) => kept_any w.heap.size g V3 ls R p (win l p (k + 1)) W (d3.next hb) (by omega))
          generalize keptV ls (win l p (k + 1)) = K at *
          generalize bestI ls (win l p (k + 1)) = B at *
          obtain ⟨n, hn⟩ : ∃ n, K.length = n + 1 := by
            obtain ⟨t, rfl⟩ := hkk
            exact ⟨t.length, rfl⟩
          have HN := Lib.hid hn
          have HK0 : Hid (K.getD 0 0 = B) := Lib.hid (by obtain ⟨t, rfl⟩ := hkk; rfl)
          have HKN : Hid (K.getD n 0 = x) := Lib.hid (by
            obtain ⟨t, e⟩ := hkl
            rw [HX.out] at e
            have ht : t.length = n := by rw [e] at hn; simpa using hn
            rw [e, ← ht]
            simp [List.getD])
          have HRISE := Lib.hid (fun i (h : i + 1 < K.length) => hrise i (K.getD i 0) (K.getD (i + 1) 0) (by simp [List.getD, show i < K.length by omega]) (by simp [List.getD, h]))
          have BEH := Lib.hid be
          have D3 := Lib.hid d3
          clear be d3 hkk hkl hrise hn hpe WL hpos
          go_wp2_with fail
          refine BEH.out.mono ?_
          rintro r w4 ⟨rfl, hb4⟩
          have L4 := Lib.hid (below_next L3.out hb4)
          have D4 := Lib.hid (D3.out.next hb4)
          have KE := Lib.hid (KE0.out w4 hb4)
          have I4 := Lib.hid (HI.out.below L4.out)
          clear hb4 KE0
          have hmax : max 0 ((k : Int) - (R : Int) + 1) = (p : Int) := by have := HPE.out; omega
          go_wp2
          go_loop [14, 15] (fun is j => ∃ q : Nat, p ≤ q ∧ q ≤ k + 1 ∧ j = .int .i64 q ∧ is = .bool (hitB l p q B)) (fun _ j => k + 1 - (intOf j).toNat)
          case atStart => exact ⟨p, Nat.le_refl _, by omega, by first | rfl | (rw [hmax]) | (simp; omega), by rw [hit_none]⟩
          case round =>
            obtain ⟨q, hq1, hq2, rfl, rfl⟩ := hrel
            by_cases hqk : q < k + 1
            · have hql : q < l.length := by omega
              obtain ⟨b4, o4, hbo, -, hc4⟩ := I4.out (by omega)
              have hz := hc4 q hql
              injection hbo with hbo
              injection hbo with hb1 hb2
              subst hb1 hb2
              have t4 : decide ((q : Int) ≤ (k : Int)) = true := decide_eq_true (by omega)
              have j1 : (q : Int) < (l.length : Int) := by omega
              have HNO := Lib.hid (HALL.out q hq1 hqk)
              have hst := hit_step (x := B) hql hq1
              obtain ⟨z, hze⟩ : ∃ z, l.getD q 0 = z := ⟨_, rfl⟩
              rw [hze] at hz HNO hst
              obtain ⟨b0, hb0⟩ : ∃ b0, hitB l p q B = b0 := ⟨_, rfl⟩
              rw [hb0] at hst ⊢
              clear hc4 hze hb0
              cases b0 with
              | true =>
                have HST := Lib.hid (hst.trans (Bool.true_or _))
                clear hst
                cases ls with
                | true =>
                  have t5 : decide (z < B) = false := by have h := HNO.out; simpa [bettB] using h
                  clear HNO
                  go_wp2
                  go_round
                  case rel => exact ⟨q + 1, by omega, by omega, by go_num, by rw [HST.out]⟩
                  case measure => simp [intOf]; omega
                | false =>
                  have t5 : decide (z > B) = false := by have h := HNO.out; simpa [bettB] using h
                  clear HNO
                  go_wp2
                  go_round
                  case rel => exact ⟨q + 1, by omega, by omega, by go_num, by rw [HST.out]⟩
                  case measure => simp [intOf]; omega
              | false =>
                have hst2 := hst.trans (Bool.false_or _)
                clear hst
                cases he : (z == B) with
                | true =>
                  rw [he] at hst2
                  have HST := Lib.hid hst2
                  clear hst2
                  cases ls with
                  | true =>
                    have t5 : decide (z < B) = false := by have h := HNO.out; simpa [bettB] using h
                    have t6 : (z == B) = true := he
                    clear HNO he
                    go_wp2
                    go_round
                    case rel => exact ⟨q + 1, by omega, by omega, by go_num, by rw [HST.out]⟩
                    case measure => simp [intOf]; omega
                  | false =>
                    have t5 : decide (z > B) = false := by have h := HNO.out; simpa [bettB] using h
                    have t6 : (z == B) = true := he
                    clear HNO he
                    go_wp2
                    go_round
                    case rel => exact ⟨q + 1, by omega, by omega, by go_num, by rw [HST.out]⟩
                    case measure => simp [intOf]; omega
                | false =>
                  rw [he] at hst2
                  have HST := Lib.hid hst2
                  clear hst2
                  cases ls with
                  | true =>
                    have t5 : decide (z < B) = false := by have h := HNO.out; simpa [bettB] using h
                    have t6 : (z == B) = false := he
                    clear HNO he
                    go_wp2
                    go_round
                    case rel => exact ⟨q + 1, by omega, by omega, by go_num, by rw [HST.out]⟩
                    case measure => simp [intOf]; omega
                  | false =>
                    have t5 : decide (z > B) = false := by have h := HNO.out; simpa [bettB] using h
                    have t6 : (z == B) = false := he
                    clear HNO he
                    go_wp2
                    go_round
                    case rel => exact ⟨q + 1, by omega, by omega, by go_num, by rw [HST.out]⟩
                    case measure => simp [intOf]; omega
            · obtain rfl : q = k + 1 := by omega
              have t4 : decide (((k + 1 : Nat) : Int) ≤ (k : Int)) = false := decide_eq_false (by omega)
              rw [HIT.out]
              go_wp2_with fail
              refine (KE.out).mono ?_
              rintro r w5 ⟨A5, c5, rfl, h5, -, -, hb5⟩
              have L5 := Lib.hid (below_next L4.out hb5)
              have D5 := Lib.hid (D4.out.next hb5)
              obtain ⟨b5, o5, rfl, hb5l, hc5⟩ := SInts.ints h5 (by rw [HN.out]; omega)
              have HC5 := Lib.hid hc5
              have v0 := hc5 0 (by rw [HN.out]; omega)
              have vn := hc5 n (by rw [HN.out]; omega)
              rw [HK0.out, Nat.add_zero] at v0
              rw [HKN.out] at vn
              rw [HN.out]
              have n0 : (0 : Int) < (n : Int) + 1 := by omega
              have n1 : (0 : Int) ≤ (n : Int) := by omega
              have n2 : (n : Int) < (n : Int) + 1 := by omega
              have n3 : (((n : Int) + 1) == 0) = false := by simp; omega
              have n4 : (n : Int) + 1 - 1 = (n : Int) := by omega
              have nb : (n : Int) ≤ 1000 := by have := HN.out; omega
              clear h5 hb5 hc5
              go_wp2
              clear v0 vn
              go_loopw [17] (fun j wr => ∃ q : Nat, 1 ≤ q ∧ q ≤ n + 1 ∧ j = .int .i64 q ∧ Hid (Below w5.heap.size w5 wr)) (fun j _ => n + 1 - (intOf j).toNat)
              case atStart => exact ⟨1, Nat.le_refl _, by omega, rfl, Lib.hid (Below.refl _ _)⟩
              case round =>
                obtain ⟨q, hq1, hq2, rfl, HB6⟩ := hrel
                by_cases hqn : q < n + 1
                · obtain ⟨j, rfl⟩ : ∃ j, q = j + 1 := ⟨q - 1, by omega⟩
                  have vj := (HB6.out.cell (p := ⟨b5, o5 + j, none⟩) hb5l).trans (HC5.out j (by rw [HN.out]; omega))
                  have vj1 := (HB6.out.cell (p := ⟨b5, o5 + (j + 1), none⟩) hb5l).trans (HC5.out (j + 1) (by rw [HN.out]; omega))
                  have hr := HRISE.out j (by rw [HN.out]; omega)
                  obtain ⟨y, hy⟩ : ∃ y, K.getD j 0 = y := ⟨_, rfl⟩
                  obtain ⟨z, hz⟩ : ∃ z, K.getD (j + 1) 0 = z := ⟨_, rfl⟩
                  rw [hy] at vj hr
                  rw [hz] at vj1 hr
                  have hw1 : IntKind.i64.wrap (((j + 1 : Nat) : Int) - 1) = (j : Int) := by rw [IntWalk.i64_in _ (by omega)]; omega
                  have hw2 : ((j + 1 : Nat) : Int) - 1 = (j : Int) := by omega
                  have j0 : (0 : Int) ≤ (j : Int) := by omega
                  have j1 : (j : Int) + 1 < (n : Int) + 1 := by omega
                  have j2 : (j : Int) < (n : Int) + 1 := by omega
                  have j3 : (j : Int) < (n : Int) := by omega
                  clear hy hz
                  cases ls with
                  | true =>
                    have t7 : decide (z ≤ y) = false := hr
                    clear hr
                    go_wp2_with fail
                    go_quiet (fail)
                    go_wp2
                    refine ⟨⟨j + 1 + 1, by omega, by omega, by first | rfl | go_num, Lib.hid (below_drewN HB6.out _)⟩, by simp [intOf]; omega⟩
                  | false =>
                    have t7 : decide (z ≥ y) = false := hr
                    clear hr
                    go_wp2_with fail
                    go_quiet (fail)
                    go_wp2
                    refine ⟨⟨j + 1 + 1, by omega, by omega, by first | rfl | go_num, Lib.hid (below_drewN HB6.out _)⟩, by simp [intOf]; omega⟩
                · obtain rfl : q = n + 1 := by omega
                  have PA := slide_next D5.out L5.out HB6.out HPE.out
                  have PAH := Lib.hid PA
                  clear PA
                  go_wp2
                  refine ⟨⟨k + 1, by omega, by go_num, PAH⟩, by simp [intOf]; omega⟩

        · have t2 : decide ((k : Int) ≥ (R : Int)) = false := decide_eq_false (by omega)
          have hz0 : k - R = 0 := by omega
          rw [hz0] at q1
          have hwl := win_len (l := l) (p := 0) (q := k) hk
          have PU := Lib.hid (push_room w.heap.size g V ls R 0 (win l 0 k) x wr q1 (by omega) (by omega))
          have D2 := Lib.hid q1
          have HWP := Lib.hid (win_push (l := l) (p := 0) (q := k) hlt (by omega))
          have HPQ : Hid (0 = k + 1 - R) := Lib.hid (by omega)
          clear q1 q2 hz0
          go_wp2_with fail
          refine PU.out.mono ?_
          rintro r w3 ⟨V3, rfl, d3, t3', -⟩
          have L3 := Lib.hid (deq_below L0.out D2.out t3')
          rw [← HX.out, ← HWP.out, HPQ.out] at d3
          clear t3' hwl
          obtain ⟨p, hpe⟩ : ∃ p, k + 1 - R = p := ⟨_, rfl⟩
          have HPE := Lib.hid hpe
          rw [hpe] at d3
          have hp1 : p ≤ k := by omega
          have WL := win_len (l := l) (p := p) (q := k + 1) (by omega)
          have hpos : 0 < (win l p (k + 1)).length := by omega
          have hlen : (win l p (k + 1)).length ≤ 64 := by omega
          have be := best_any w.heap.size g V3 ls R p (win l p (k + 1)) w3 d3 (by omega)
          rw [show decide (0 < (win l p (k + 1)).length) = true from decide_eq_true hpos] at be
          have HALL := Lib.hid (fun j (h1 : p ≤ j) (h2 : j < k + 1) => bett_no (ls := ls) hpos (win_mem (l := l) (show k + 1 ≤ l.length by omega) h1 h2))
          have HIT := Lib.hid (hit_all (best_good (ls := ls) hpos).1)
          have hkk := keptV_best (ls := ls) hpos
          have hkl := keptV_last ls (win l p k) x
          rw [← HX.out, ← win_push hlt hp1] at hkl
          have hrise := fun i a b => @keptV_rise ls (win l p (k + 1)) i a b
          have hklen := Nat.le_trans (keptV_len ls (win l p (k + 1))) hlen
          have KE0 := Lib.hid (fun W (hb : Below w3.heap.size w3 W) => kept_any w.heap.size g V3 ls R p (win l p (k + 1)) W (d3.next hb) (by omega))
          generalize keptV ls (win l p (k + 1)) = K at *
          generalize bestI ls (win l p (k + 1)) = B at *
          obtain ⟨n, hn⟩ : ∃ n, K.length = n + 1 := by
            obtain ⟨t, rfl⟩ := hkk
            exact ⟨t.length, rfl⟩
          have HN := Lib.hid hn
          have HK0 : Hid (K.getD 0 0 = B) := Lib.hid (by obtain ⟨t, rfl⟩ := hkk; rfl)
          have HKN : Hid (K.getD n 0 = x) := Lib.hid (by
            obtain ⟨t, e⟩ := hkl
            rw [HX.out] at e
            have ht : t.length = n := by rw [e] at hn; simpa using hn
            rw [e, ← ht]
            simp [List.getD])
          have HRISE := Lib.hid (fun i (h : i + 1 < K.length) => hrise i (K.getD i 0) (K.getD (i + 1) 0) (by simp [List.getD, show i < K.length by omega]) (by simp [List.getD, h]))
          have BEH := Lib.hid be
          have D3 := Lib.hid d3
          clear be d3 hkk hkl hrise hn hpe WL hpos
          go_wp2_with fail
          refine BEH.out.mono ?_
          rintro r w4 ⟨rfl, hb4⟩
          have L4 := Lib.hid (below_next L3.out hb4)
          have D4 := Lib.hid (D3.out.next hb4)
          have KE := Lib.hid (KE0.out w4 hb4)
          have I4 := Lib.hid (HI.out.below L4.out)
          clear hb4 KE0
          have hmax : max 0 ((k : Int) - (R : Int) + 1) = (p : Int) := by have := HPE.out; omega
          go_wp2
          go_loop [14, 15] (fun is j => ∃ q : Nat, p ≤ q ∧ q ≤ k + 1 ∧ j = .int .i64 q ∧ is = .bool (hitB l p q B)) (fun _ j => k + 1 - (intOf j).toNat)
          case atStart => exact ⟨p, Nat.le_refl _, by omega, by first | rfl | (rw [hmax]) | (simp; omega), by rw [hit_none]⟩
          case round =>
            obtain ⟨q, hq1, hq2, rfl, rfl⟩ := hrel
            by_cases hqk : q < k + 1
            · have hql : q < l.length := by omega
              obtain ⟨b4, o4, hbo, -, hc4⟩ := I4.out (by omega)
              have hz := hc4 q hql
              injection hbo with hbo
              injection hbo with hb1 hb2
              subst hb1 hb2
              have t4 : decide ((q : Int) ≤ (k : Int)) = true := decide_eq_true (by omega)
              have j1 : (q : Int) < (l.length : Int) := by omega
              have HNO := Lib.hid (HALL.out q hq1 hqk)
              have hst := hit_step (x := B) hql hq1
              obtain ⟨z, hze⟩ : ∃ z, l.getD q 0 = z := ⟨_, rfl⟩
              rw [hze] at hz HNO hst
              obtain ⟨b0, hb0⟩ : ∃ b0, hitB l p q B = b0 := ⟨_, rfl⟩
              rw [hb0] at hst ⊢
              clear hc4 hze hb0
              cases b0 with
              | true =>
                have HST := Lib.hid (hst.trans (Bool.true_or _))
                clear hst
                cases ls with
                | true =>
                  have t5 : decide (z < B) = false := by have h := HNO.out; simpa [bettB] using h
                  clear HNO
                  go_wp2
                  go_round
                  case rel => exact ⟨q + 1, by omega, by omega, by go_num, by rw [HST.out]⟩
                  case measure => simp [intOf]; omega
                | false =>
                  have t5 : decide (z > B) = false := by have h := HNO.out; simpa [bettB] using h
                  clear HNO
                  go_wp2
                  go_round
                  case rel => exact ⟨q + 1, by omega, by omega, by go_num, by rw [HST.out]⟩
                  case measure => simp [intOf]; omega
              | false =>
                have hst2 := hst.trans (Bool.false_or _)
                clear hst
                cases he : (z == B) with
                | true =>
                  rw [he] at hst2
                  have HST := Lib.hid hst2
                  clear hst2
                  cases ls with
                  | true =>
                    have t5 : decide (z < B) = false := by have h := HNO.out; simpa [bettB] using h
                    have t6 : (z == B) = true := he
                    clear HNO he
                    go_wp2
                    go_round
                    case rel => exact ⟨q + 1, by omega, by omega, by go_num, by rw [HST.out]⟩
                    case measure => simp [intOf]; omega
                  | false =>
                    have t5 : decide (z > B) = false := by have h := HNO.out; simpa [bettB] using h
                    have t6 : (z == B) = true := he
                    clear HNO he
                    go_wp2
                    go_round
                    case rel => exact ⟨q + 1, by omega, by omega, by go_num, by rw [HST.out]⟩
                    case measure => simp [intOf]; omega
                | false =>
                  rw [he] at hst2
                  have HST := Lib.hid hst2
                  clear hst2
                  cases ls with
                  | true =>
                    have t5 : decide (z < B) = false := by have h := HNO.out; simpa [bettB] using h
                    have t6 : (z == B) = false := he
                    clear HNO he
                    go_wp2
                    go_round
                    case rel => exact ⟨q + 1, by omega, by omega, by go_num, by rw [HST.out]⟩
                    case measure => simp [intOf]; omega
                  | false =>
                    have t5 : decide (z > B) = false := by have h := HNO.out; simpa [bettB] using h
                    have t6 : (z == B) = false := he
                    clear HNO he
                    go_wp2
                    go_round
                    case rel => exact ⟨q + 1, by omega, by omega, by go_num, by rw [HST.out]⟩
                    case measure => simp [intOf]; omega
            · obtain rfl : q = k + 1 := by omega
              have t4 : decide (((k + 1 : Nat) : Int) ≤ (k : Int)) = false := decide_eq_false (by omega)
              rw [HIT.out]
              go_wp2_with fail
              refine (KE.out).mono ?_
              rintro r w5 ⟨A5, c5, rfl, h5, -, -, hb5⟩
              have L5 := Lib.hid (below_next L4.out hb5)
              have D5 := Lib.hid (D4.out.next hb5)
              obtain ⟨b5, o5, rfl, hb5l, hc5⟩ := SInts.ints h5 (by rw [HN.out]; omega)
              have HC5 := Lib.hid hc5
              have v0 := hc5 0 (by rw [HN.out]; omega)
              have vn := hc5 n (by rw [HN.out]; omega)
              rw [HK0.out, Nat.add_zero] at v0
              rw [HKN.out] at vn
              rw [HN.out]
              have n0 : (0 : Int) < (n : Int) + 1 := by omega
              have n1 : (0 : Int) ≤ (n : Int) := by omega
              have n2 : (n : Int) < (n : Int) + 1 := by omega
              have n3 : (((n : Int) + 1) == 0) = false := by simp; omega
              have n4 : (n : Int) + 1 - 1 = (n : Int) := by omega
              have nb : (n : Int) ≤ 1000 := by have := HN.out; omega
              clear h5 hb5 hc5
              go_wp2
              clear v0 vn
              go_loopw [17] (fun j wr => ∃ q : Nat, 1 ≤ q ∧ q ≤ n + 1 ∧ j = .int .i64 q ∧ Hid (Below w5.heap.size w5 wr)) (fun j _ => n + 1 - (intOf j).toNat)
              case atStart => exact ⟨1, Nat.le_refl _, by omega, rfl, Lib.hid (Below.refl _ _)⟩
              case round =>
                obtain ⟨q, hq1, hq2, rfl, HB6⟩ := hrel
                by_cases hqn : q < n + 1
                · obtain ⟨j, rfl⟩ : ∃ j, q = j + 1 := ⟨q - 1, by omega⟩
                  have vj := (HB6.out.cell (p := ⟨b5, o5 + j, none⟩) hb5l).trans (HC5.out j (by rw [HN.out]; omega))
                  have vj1 := (HB6.out.cell (p := ⟨b5, o5 + (j + 1), none⟩) hb5l).trans (HC5.out (j + 1) (by rw [HN.out]; omega))
                  have hr := HRISE.out j (by rw [HN.out]; omega)
                  obtain ⟨y, hy⟩ : ∃ y, K.getD j 0 = y := ⟨_, rfl⟩
                  obtain ⟨z, hz⟩ : ∃ z, K.getD (j + 1) 0 = z := ⟨_, rfl⟩
                  rw [hy] at vj hr
                  rw [hz] at vj1 hr
                  have hw1 : IntKind.i64.wrap (((j + 1 : Nat) : Int) - 1) = (j : Int) := by rw [IntWalk.i64_in _ (by omega)]; omega
                  have hw2 : ((j + 1 : Nat) : Int) - 1 = (j : Int) := by omega
                  have j0 : (0 : Int) ≤ (j : Int) := by omega
                  have j1 : (j : Int) + 1 < (n : Int) + 1 := by omega
                  have j2 : (j : Int) < (n : Int) + 1 := by omega
                  have j3 : (j : Int) < (n : Int) := by omega
                  clear hy hz
                  cases ls with
                  | true =>
                    have t7 : decide (z ≤ y) = false := hr
                    clear hr
                    go_wp2_with fail
                    go_quiet (fail)
                    go_wp2
                    refine ⟨⟨j + 1 + 1, by omega, by omega, by first | rfl | go_num, Lib.hid (below_drewN HB6.out _)⟩, by simp [intOf]; omega⟩
                  | false =>
                    have t7 : decide (z ≥ y) = false := hr
                    clear hr
                    go_wp2_with fail
                    go_quiet (fail)
                    go_wp2
                    refine ⟨⟨j + 1 + 1, by omega, by omega, by first | rfl | go_num, Lib.hid (below_drewN HB6.out _)⟩, by simp [intOf]; omega⟩
                · obtain rfl : q = n + 1 := by omega
                  have PA := slide_next D5.out L5.out HB6.out HPE.out
                  have PAH := Lib.hid PA
                  clear PA
                  go_wp2
                  refine ⟨⟨k + 1, by omega, by go_num, PAH⟩, by simp [intOf]; omega⟩
      · obtain rfl : k = l.length := by omega
        obtain ⟨V, q1, q2⟩ := HP.out
        have P6 := Lib.hid q2
        clear q1 q2 HP
        go_wp2_with fail
        refine (lives_any _).mono ?_
        rintro r w5 ⟨rfl, hb5⟩
        have L5 := Lib.hid (below_next P6.out hb5)
        clear hb5
        go_wp2
        go_ret
        exact ⟨rfl, L5.out⟩
  · have t1 : decide ((l.length : Int) > 300) = true := decide_eq_true (by omega)
    go_enter Try.func8, Try.ntmps8
    go_wp2_with fail
    refine (lives_any _).mono ?_
    rintro r w5 ⟨rfl, hb5⟩
    have L5 := Lib.hid hb5
    clear hb5
    go_wp2
    go_ret
    exact ⟨rfl, L5.out⟩
end Go.Proofs.Ytogbemdoimhndaa.Dq
