/-
  What rifflelaw11.RingOrder answers: true, whatever the numbers and the room. Condition: no more numbers than fit into a machine.
-/
import Derived.Test.YtocdejjkmfnnnaaRgLives
import Derived.Test.YtocdejjkmfnnnaaRgSame
set_option maxRecDepth 100000
namespace Go.Proofs.Ytocdejjkmfnnnaa.Rg
open Go.Proofs.Ytocdejjkmfnnnaa.Sh Go.Proofs.Ytocdejjkmfnnnaa.St
open Go.RowKit
set_option linter.unusedVariables false

theorem two_lt' {w : World} {g h n s : Nat} {rs : List (List Int)} (r : Ring w g h n s rs) : ∀ i, Two g h i → i < w.heap.size := fun i hi => by
  obtain ⟨f, c, cs, h1, h2, _⟩ := r
  have l1 := h1.lt
  have l2 := h2.lt
  rcases hi with hi | hi <;> omega
def rowsOf (l : List Int) (p q : Nat) : List (List Int) := ((l.take q).drop p).map fun x => [x]
theorem rowsOf_len {l : List Int} {p q : Nat} (h : q ≤ l.length) : (rowsOf l p q).length = q - p := by simp [rowsOf]; omega
theorem rowsOf_push {l : List Int} {p q : Nat} (hq : q < l.length) (hp : p ≤ q) : rowsOf l p (q + 1) = rowsOf l p q ++ [[l.getD q 0]] := by
  unfold rowsOf
  rw [Sh.take_snoc l q hq, List.drop_append_of_le_length (by simp; omega), List.map_append]
  rfl
theorem rowsOf_pop {l : List Int} {p q : Nat} (hp : p < q) (hq : q ≤ l.length) : rowsOf l p q = [l.getD p 0] :: rowsOf l (p + 1) q := by
  unfold rowsOf
  have hl : p < (l.take q).length := by simp; omega
  rw [List.drop_eq_getElem_cons hl]
  simp [List.getD, show p < l.length by omega]
theorem rowsOf_none {l : List Int} {p q : Nat} (h : q ≤ p) : rowsOf l p q = [] := by
  unfold rowsOf
  rw [List.drop_of_length_le (by simp; omega)]
  rfl
/-- At work: the first p numbers have come back, those up to q are in the ring. -/
def OrdAt (w0 w1 wr : World) (g h R : Nat) (l : List Int) (p q : Nat) (V : Value) : Prop :=
  Ring wr g h R 1 (rowsOf l p q) ∧ MineT 2 wr w1.heap.size V (l.take p) ∧ Below w0.heap.size w0 wr ∧ w1.heap.size ≤ wr.heap.size
theorem mine_turn {t : TypeId} {w w' : World} {base g h : Nat} {V : Value} {xs : List Int} (m : MineT t w base V xs) (ht : Turn (Two g h) w w') (hg : g < base) (hh : h < base) : MineT t w' base V xs :=
  own_turn m ht fun k hk hT => by
    have := own_base m k hk
    rcases hT with hT | hT <;> omega
theorem ring_grown {w w' : World} {base g h n s : Nat} {rs : List (List Int)} {t : TypeId} {V : Value} {xs : List Int} (r : Ring w g h n s rs) (m : MineT t w base V xs) (hg : g < base) (hh : h < base) (k : w.grownBy w' V.ownBlock) : Ring w' g h n s rs :=
  r.turn (Turn.of_grown (T := fun b => V.ownBlock = some b) k fun b hb => hb) (fun e => by have := own_base m g e; omega) (fun e => by have := own_base m h e; omega)
set_option maxHeartbeats 4000000 in
theorem order_any (A : Option Addr) (c : Nat) (l : List Int) (u : Int) (w : World) (hl : l.length ≤ maxLen) (hi : Ints w A l) (hu0 : 0 ≤ u) (hu1 : u < 18446744073709551616) :
    Calls Try.prog 5 #[.slice A l.length c, .int .u64 u] w fun e w' => e = .returned (.bool true) ∧ Below w.heap.size w w' := by
  obtain ⟨m, hm⟩ : ∃ m : Nat, u.tmod 64 = m := ⟨(u.tmod 64).toNat, by rw [Int.tmod_eq_emod_of_nonneg hu0]; omega⟩
  have hm64 : m < 64 := by rw [Int.tmod_eq_emod_of_nonneg hu0] at hm; omega
  have HI := Lib.hid hi
  have HLM := Lib.hid hl
  unfold maxLen at hl
  clear hi hu0 hu1
  by_cases hg : l.length ≤ 300
  · have t1 : decide ((l.length : Int) > 300) = false := decide_eq_false (by omega)
    have m0 : (0 : Int) ≤ (m : Int) := by omega
    have m1 : (m : Int) ≤ 63 := by omega
    obtain ⟨R, hR⟩ : ∃ R, 1 + m = R := ⟨_, rfl⟩
    have hRi : (1 : Int) + (m : Int) = (R : Int) := by omega
    have hR0 : 0 < R := by omega
    have hR64 : R ≤ 64 := by omega
    clear hR
    go_enter Try.func5, Try.ntmps5
    go_wp2_with fail
    refine (new1 R w hR0 hR64).mono ?_
    rintro r w1 ⟨g, h, rfl, r1, hgg, hhg, hb1⟩
    have hgl : g < w1.heap.size := two_lt' r1 g (.inl rfl)
    have hhl : h < w1.heap.size := two_lt' r1 h (.inr rfl)
    have PA : Hid (OrdAt w w1 w1 g h R l 0 0 (.slice none 0 0)) := Lib.hid ⟨by rw [rowsOf_none (Nat.le_refl _)]; exact r1, by rw [List.take_zero]; exact MineT.nil _ _ _, hb1, Nat.le_refl _⟩
    clear hb1 r1
    go_wp2
    go_loopw [8, 37] (fun V i wr => ∃ k p : Nat, k ≤ l.length ∧ p ≤ k ∧ i = .int .i64 k ∧ Hid (OrdAt w w1 wr g h R l p k V)) (fun _ i _ => l.length - (intOf i).toNat)
    case atStart => exact ⟨0, 0, Nat.zero_le _, Nat.le_refl _, rfl, PA⟩
    case round =>
      obtain ⟨k, p, hk, hpk, rfl, HP⟩ := hrel
      by_cases hlt : k < l.length
      · obtain ⟨q1, q2, q3, q4⟩ := HP.out
        obtain ⟨b, off, rfl, hb, hc⟩ := (HI.out.below q3) (by omega)
        have hx := hc k hlt
        obtain ⟨x, hxe⟩ : ∃ x, l.getD k 0 = x := ⟨_, rfl⟩
        rw [hxe] at hx
        have hrl := (Ring.room q1).1
        rw [rowsOf_len hk] at hrl
        have i1 : (k : Int) < (l.length : Int) := by omega
        have HROW0 : Hid (∀ p', p' ≤ k → rowsOf l p' (k + 1) = rowsOf l p' k ++ [[x]]) := Lib.hid (fun p' h' => by rw [rowsOf_push hlt h', hxe])
        have R0 := Lib.hid q1
        have M0 := Lib.hid q2
        have L0 := Lib.hid q3
        have Z0 := Lib.hid q4
        clear q1 q2 q3 q4 hc hxe HP
        by_cases hf : k - p = R
        · obtain ⟨y, hye⟩ : ∃ y, l.getD p 0 = y := ⟨_, rfl⟩
          have hr0 := R0.out
          rw [rowsOf_pop (show p < k by omega) hk, hye] at hr0
          have R1 := Lib.hid hr0
          have HT : Hid (l.take (p + 1) = l.take p ++ [y]) := Lib.hid (by rw [Sh.take_snoc l p (by omega), hye])
          have te : (((k - p : Nat) : Int) == (R : Int)) = true := by simp [hf]
          have HF := Lib.hid hf
          clear hr0 hye hf
          go_wp2_with fail
          refine (len_of g h R 1 _ _ R0.out).mono ?_
          rintro r wq ⟨rfl, rfl⟩
          rw [rowsOf_len hk]
          go_wp2_with fail
          refine (pop1 g h R _ y _ R1.out).mono ?_
          rintro r w2 ⟨b2, o2, c2, rfl, hc2, r2, t2⟩
          have R2 := Lib.hid r2
          have M2 := Lib.hid (mine_turn M0.out t2 hgl hhl)
          have L2 := Lib.hid (two_base (T := fun _ => True) L0.out t2 hgg hhg)
          have Z2 := Lib.hid (Nat.le_trans Z0.out t2.size)
          have MA := Lib.hid (MineT.alloc M2.out (.cells #[.int .i64 y] 2))
          have RA := Lib.hid (R2.out.next (below_new w2 (.cells #[.int .i64 y] 2)))
          have LA := Lib.hid (below_next L2.out (below_new w2 (.cells #[.int .i64 y] 2)))
          have TL : Hid ((l.take p).length + [y].length ≤ 100000) := Lib.hid (by simp; omega)
          have ZA : Hid (w1.heap.size ≤ (w2.alloc (.cells #[.int .i64 y] 2)).heap.size) := Lib.hid (by have := Z2.out; simp; omega)
          clear r2 t2
          go_upto_region 16 with (at_builtin; refine wpList_appI numL Try.underlying33 rfl (.tmp 57) (.tmp 61) rfl w1.heap.size u8 (l.take p) rfl MA.out _ 1 [y] rfl (one64 w2 y) TL.out ZA.out ?_; intro v3 w3 hm3 hg3 ha3; have M3 := Lib.hid hm3; have G3 := Lib.hid hg3; clear hm3 hg3 ha3)
          have M4 : Hid (MineT 2 w3 w1.heap.size v3 (l.take (p + 1))) := Lib.hid (by rw [HT.out]; exact M3.out)
          have R4 := Lib.hid (ring_grown RA.out MA.out hgl hhl G3.out)
          have L4 := Lib.hid (LA.out.grown G3.out LA.out.size (fun kk hkk => by have := own_base MA.out kk hkk; omega))
          have Z4 := Lib.hid (Nat.le_trans ZA.out G3.out.size)
          have HROW := Lib.hid (HROW0.out (p + 1) (by have := HF.out; omega))
          clear hc2
          have S5 := Lib.hid (R4.out.next (below_new w3 (.cells #[.int .i64 x] 2)))
          have M5 := Lib.hid (MineT.alloc M4.out (.cells #[.int .i64 x] 2))
          have L5 := Lib.hid (below_next L4.out (below_new w3 (.cells #[.int .i64 x] 2)))
          go_wp2_with fail
          refine (push1 g h R (rowsOf l (p + 1) k) x _ _ _ S5.out (one64 w3 x) (by rw [rowsOf_len hk]; omega)).mono ?_
          rintro r wp ⟨rfl, rp, tp⟩
          rw [← HROW.out] at rp
          have RP := Lib.hid rp
          have MP := Lib.hid (mine_turn M5.out tp hgl hhl)
          have LP := Lib.hid (two_base (T := fun _ => True) L5.out tp hgg hhg)
          have ZP := Lib.hid (Nat.le_trans Z4.out (Nat.le_trans (below_new w3 (.cells #[.int .i64 x] 2)).size tp.size))
          clear rp tp
          go_wp2_with fail
          refine (len_of g h R 1 _ _ RP.out).mono ?_
          rintro r wq ⟨rfl, rfl⟩
          rw [rowsOf_len (show k + 1 ≤ l.length by omega)]
          have tg : decide (((k + 1 - (p + 1) : Nat) : Int) > (R : Int)) = false := decide_eq_false (by omega)
          go_wp2
          exact ⟨⟨k + 1, (p + 1), by omega, by omega, by go_num, Lib.hid ⟨RP.out, MP.out, LP.out, ZP.out⟩⟩, by simp [intOf]; omega⟩
        · have te : (((k - p : Nat) : Int) == (R : Int)) = false := by simp; omega
          have HROW := Lib.hid (HROW0.out p hpk)
          go_wp2_with fail
          refine (len_of g h R 1 _ _ R0.out).mono ?_
          rintro r wq ⟨rfl, rfl⟩
          rw [rowsOf_len hk]
          have S5 := Lib.hid (R0.out.next (below_new wr (.cells #[.int .i64 x] 2)))
          have M5 := Lib.hid (MineT.alloc M0.out (.cells #[.int .i64 x] 2))
          have L5 := Lib.hid (below_next L0.out (below_new wr (.cells #[.int .i64 x] 2)))
          go_wp2_with fail
          refine (push1 g h R (rowsOf l p k) x _ _ _ S5.out (one64 wr x) (by rw [rowsOf_len hk]; omega)).mono ?_
          rintro r wp ⟨rfl, rp, tp⟩
          rw [← HROW.out] at rp
          have RP := Lib.hid rp
          have MP := Lib.hid (mine_turn M5.out tp hgl hhl)
          have LP := Lib.hid (two_base (T := fun _ => True) L5.out tp hgg hhg)
          have ZP := Lib.hid (Nat.le_trans Z0.out (Nat.le_trans (below_new wr (.cells #[.int .i64 x] 2)).size tp.size))
          clear rp tp
          go_wp2_with fail
          refine (len_of g h R 1 _ _ RP.out).mono ?_
          rintro r wq ⟨rfl, rfl⟩
          rw [rowsOf_len (show k + 1 ≤ l.length by omega)]
          have tg : decide (((k + 1 - p : Nat) : Int) > (R : Int)) = false := decide_eq_false (by omega)
          go_wp2
          exact ⟨⟨k + 1, p, by omega, by omega, by go_num, Lib.hid ⟨RP.out, MP.out, LP.out, ZP.out⟩⟩, by simp [intOf]; omega⟩
      · obtain rfl : k = l.length := by omega
        obtain ⟨q1, q2, q3, q4⟩ := HP.out
        have hrl := (Ring.room q1).1
        rw [rowsOf_len hk] at hrl
        have PB : Hid (OrdAt w w1 wr g h R l p l.length u8) := HP
        clear q1 q2 q3 q4 PA HP
        go_wp2
        go_loopw [8, 13] (fun V i wr => ∃ j p : Nat, j ≤ R ∧ p ≤ l.length ∧ l.length - p ≤ R - j ∧ i = .int .i64 j ∧ Hid (OrdAt w w1 wr g h R l p l.length V)) (fun _ i _ => R - (intOf i).toNat)
        case atStart => exact ⟨0, p, Nat.zero_le _, hpk, by omega, rfl, PB⟩
        case round =>
          obtain ⟨j, p', hj, hp', hjp, rfl, HP⟩ := hrel
          obtain ⟨q1, q2, q3, q4⟩ := HP.out
          have R0 := Lib.hid q1
          have M0 := Lib.hid q2
          have L0 := Lib.hid q3
          have Z0 := Lib.hid q4
          clear q1 q2 q3 q4 HP PB
          by_cases hjR : j < R
          · have i1 : (j : Int) < (R : Int) := by omega
            by_cases hpl : p' < l.length
            · obtain ⟨y, hye⟩ : ∃ y, l.getD p' 0 = y := ⟨_, rfl⟩
              have hr0 := R0.out
              rw [rowsOf_pop hpl (Nat.le_refl _), hye] at hr0
              have R1 := Lib.hid hr0
              have HT : Hid (l.take (p' + 1) = l.take p' ++ [y]) := Lib.hid (by rw [Sh.take_snoc l p' hpl, hye])
              clear hr0 hye
              go_wp2_with fail
              refine (pop1 g h R _ y _ R1.out).mono ?_
              rintro r w2 ⟨b2, o2, c2, rfl, hc2, r2, t2⟩
              have R2 := Lib.hid r2
              have M2 := Lib.hid (mine_turn M0.out t2 hgl hhl)
              have L2 := Lib.hid (two_base (T := fun _ => True) L0.out t2 hgg hhg)
              have Z2 := Lib.hid (Nat.le_trans Z0.out t2.size)
              have MA := Lib.hid (MineT.alloc M2.out (.cells #[.int .i64 y] 2))
              have RA := Lib.hid (R2.out.next (below_new w2 (.cells #[.int .i64 y] 2)))
              have LA := Lib.hid (below_next L2.out (below_new w2 (.cells #[.int .i64 y] 2)))
              have TL : Hid ((l.take p').length + [y].length ≤ 100000) := Lib.hid (by simp; omega)
              have ZA : Hid (w1.heap.size ≤ (w2.alloc (.cells #[.int .i64 y] 2)).heap.size) := Lib.hid (by have := Z2.out; simp; omega)
              clear r2 t2
              go_wp2_with (at_builtin; refine wpList_appI numL Try.underlying33 rfl (.tmp 89) (.tmp 93) rfl w1.heap.size u8 (l.take p') rfl MA.out _ 1 [y] rfl (one64 w2 y) TL.out ZA.out ?_; intro v3 w3 hm3 hg3 ha3; have M3 := Lib.hid hm3; have G3 := Lib.hid hg3; clear hm3 hg3 ha3)
              exact ⟨⟨j + 1, p' + 1, by omega, by omega, by omega, by go_num, Lib.hid ⟨ring_grown RA.out MA.out hgl hhl G3.out, by rw [HT.out]; exact M3.out, LA.out.grown G3.out LA.out.size (fun kk hkk => by have := own_base MA.out kk hkk; omega), Nat.le_trans ZA.out G3.out.size⟩⟩, by simp [intOf]; omega⟩
            · obtain rfl : p' = l.length := by omega
              have hr0 := R0.out
              rw [rowsOf_none (Nat.le_refl _)] at hr0
              have R1 := Lib.hid hr0
              clear hr0
              go_wp2_with fail
              refine (pop1_none g h R _ R1.out).mono ?_
              rintro r w2 ⟨A2, c2, rfl, r2, t2⟩
              have R2 := Lib.hid r2
              have M2 := Lib.hid (mine_turn M0.out t2 hgl hhl)
              have L2 := Lib.hid (two_base (T := fun _ => True) L0.out t2 hgg hhg)
              have Z2 := Lib.hid (Nat.le_trans Z0.out t2.size)
              clear r2 t2
              go_wp2
              exact ⟨⟨j + 1, l.length, by omega, by omega, by omega, by go_num, Lib.hid ⟨by rw [rowsOf_none (Nat.le_refl _)]; exact R2.out, M2.out, L2.out, Z2.out⟩⟩, by simp [intOf]; omega⟩
          · obtain rfl : j = R := by omega
            obtain rfl : p' = l.length := by omega
            have hr0 := R0.out
            rw [rowsOf_none (Nat.le_refl _)] at hr0
            have R1 := Lib.hid hr0
            have hm0 := M0.out
            rw [List.take_length] at hm0
            obtain ⟨B, cB, rfl, hBi⟩ := MineT.ints hm0
            have IB := Lib.hid hBi
            clear hr0 hm0 hBi
            go_wp2_with fail
            refine (len_of g h _ 1 _ _ R1.out).mono ?_
            rintro r wq ⟨rfl, rfl⟩
            have NU := nums_b B cB l A c l wr HLM.out HLM.out IB.out (HI.out.below L0.out)
            rw [show (decide (l = l)) = true from by simp] at NU
            have HNU := Lib.hid NU
            clear NU
            go_wp2_with fail
            refine HNU.out.mono ?_
            rintro r w5 ⟨rfl, hb5⟩
            have L5 := Lib.hid (below_next L0.out hb5)
            clear hb5 HNU
            go_wp2_with fail
            refine (lives_any _).mono ?_
            rintro r w6 ⟨rfl, hb6⟩
            have L6 := Lib.hid (below_next L5.out hb6)
            clear hb6
            go_wp2
            go_ret
            exact ⟨rfl, L6.out⟩
  · have t1 : decide ((l.length : Int) > 300) = true := decide_eq_true (by omega)
    go_enter Try.func5, Try.ntmps5
    go_wp2_with fail
    refine (lives_any _).mono ?_
    rintro r w1 ⟨rfl, hb⟩
    have L := Lib.hid hb
    clear hb
    go_wp2
    go_ret
    exact ⟨rfl, L.out⟩
theorem uint_bd {n : Int} (h : (Lit.int .u64 n).wf = true) : 0 ≤ n ∧ n < 18446744073709551616 := by
  simp [Lit.wf, IntKind.min, IntKind.max, IntKind.signed, IntKind.bits, Bool.and_eq_true, decide_eq_true_eq] at h
  omega
end Go.Proofs.Ytocdejjkmfnnnaa.Rg
