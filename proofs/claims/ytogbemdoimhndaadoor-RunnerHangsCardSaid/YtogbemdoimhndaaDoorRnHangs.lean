/-
  What rifflelaw14.RunnerHangs answers: true, whatever the function and the rows. Conditions: the table of traits holds what its text lays; the numbers have 64 bits; no more rows than fit into a machine.
-/
import Derived.Test.YtogbemdoimhndaaDoorRnArg
set_option maxRecDepth 100000
namespace Go.Proofs.YtogbemdoimhndaaDoor.Rn
open Go.Proofs.YtogbemdoimhndaaDoor.Sh Go.Proofs.YtogbemdoimhndaaDoor.St Go.Proofs.YtogbemdoimhndaaDoor.Fd
open Go.RowKit
set_option linter.unusedVariables false

/-- Two runners of two places beside each other, the second one younger. -/
def Both (w1 : World) (ba bb ga : Nat) (Va : Value) (gb : Nat) (Vb : Value) (c : Int) (s : Bool) (ra rb : List (List Int)) (w : World) : Prop :=
  Ru ba w ga Va c s 2 ra ∧ Ru bb w gb Vb c s 2 rb ∧ (∀ i, Tr ga Va i → i < bb) ∧ (∀ r ∈ ra, AllR r) ∧ (∀ r ∈ rb, AllR r) ∧ Below w1.heap.size w1 w ∧ w1.heap.size ≤ ba ∧ w1.heap.size ≤ bb
section
variable {w1 w w' : World} {ba bb ga gb : Nat} {Va Vb : Value} {c : Int} {s : Bool} {ra rb ra' rb' : List (List Int)} {y : List Int}
theorem Both.next (h : Both w1 ba bb ga Va gb Vb c s ra rb w) (hb : Below w.heap.size w w') : Both w1 ba bb ga Va gb Vb c s ra rb w' := by
  obtain ⟨h1, h2, h3, h4, h5, h6, h7⟩ := h
  exact ⟨h1.next hb, h2.next hb, h3, h4, h5, below_next h6 hb, h7⟩
theorem allR_app {rs : List (List Int)} (h : ∀ r ∈ rs, AllR r) (hy : AllR y) : ∀ r ∈ rs ++ [y], AllR r := fun q hq => by
  rcases List.mem_append.1 hq with h1 | h1
  · exact h q h1
  · simp at h1; subst h1; exact hy
theorem Both.a (h : Both w1 ba bb ga Va gb Vb c s ra rb w) (t : Turn (Tr ga Va) w w') (r : Ru ba w' ga Va c s 2 (ra ++ [y])) (hy : AllR y) : Both w1 ba bb ga Va gb Vb c s (ra ++ [y]) rb w' := by
  obtain ⟨h1, h2, h3, h4, h5, h6, h7, h8⟩ := h
  exact ⟨r, h2.turn t (fun b hb hb2 => by have := (h2.lt b hb).2; have := h3 b hb2; omega), h3, allR_app h4 hy, h5, ru_below h6 h7 h1 t, h7, h8⟩
theorem Both.b (h : Both w1 ba bb ga Va gb Vb c s ra rb w) (t : Turn (Tr gb Vb) w w') (r : Ru bb w' gb Vb c s 2 (rb ++ [y])) (hy : AllR y) : Both w1 ba bb ga Va gb Vb c s ra (rb ++ [y]) w' := by
  obtain ⟨h1, h2, h3, h4, h5, h6, h7, h8⟩ := h
  exact ⟨h1.turn t (fun b hb hb2 => by have := (h2.lt b hb2).2; have := h3 b hb; omega), r, h3, h4, allR_app h5 hy, ru_below h6 h8 h2 t, h7, h8⟩
end
theorem cols_more {c : Int} (hj : (Sc.trOf c).joins = true) (s : Bool) {n : Nat} {ra rb : List (List Int)} (h1 : 0 < ra.length) (h2 : 0 < rb.length) (h : colsI c s n ra = colsI c s n rb) {y : List Int} (hy : y.length = n) : colsI c s n (ra ++ [y]) = colsI c s n (rb ++ [y]) := by
  rw [← colsI_snoc hj s h1 hy, ← colsI_snoc hj s h2 hy, h]
/-- A pair as a row. -/
def rowP (d : Int × Int) : List Int := [d.1, d.2]
theorem rowP_R {d : Int × Int} (h : Sc.InR d.1 ∧ Sc.InR d.2) : AllR (rowP d) := fun x hx => by
  simp [rowP] at hx
  rcases hx with rfl | rfl
  · exact h.1
  · exact h.2
theorem two_sints {w : World} {g : Nat} {x y : Int} (h : Bk 72 w g [.int .i64 x, .int .i64 y]) : SInts (fun b => b = g) w (some ⟨g, 0, none⟩) [x, y] := fun _ => ⟨g, 0, rfl, rfl, h.lt, fun j u hu => by rw [Nat.zero_add, h.c j]; exact hu⟩
theorem bk_pair (w : World) (x y : Int) (cs : List Value) (hc : cs.length = 2) : Bk 72 (((w.alloc (.cells cs.toArray 72)).setCell ⟨w.heap.size, 0, none⟩ (.int .i64 x)).setCell ⟨w.heap.size, 1, none⟩ (.int .i64 y)) w.heap.size [.int .i64 x, .int .i64 y] := by
  have h := ((Bk.new 72 w cs).set_ 0 (.int .i64 x)).set_ 1 (.int .i64 y)
  match cs, hc with
  | [a, b], _ => exact h
theorem mine_S {w : World} {base n c : Nat} {A : Option Addr} {r : List Int} (h : MineT 2 w base (.slice A n c) r) : SInts (fun b => base ≤ b) w A r := by
  obtain ⟨B, d, e, h1, h2, h3⟩ := mine_row h
  injection e with e1 e2 e3
  subst e1
  exact h3
set_option maxHeartbeats 4000000 in
theorem hangs_yes (c : Int) (s : Bool) (A : Option Addr) (cA : Nat) (ls : List (Int × Int)) (B : Option Addr) (cB : Nat) (ms : List (Int × Int)) (w : World) (hT : Sc.Tab w) (hA : Prs w A ls) (hB : Prs w B ms) (hRa : ∀ q ∈ ls, Sc.InR q.1 ∧ Sc.InR q.2) (hRb : ∀ q ∈ ms, Sc.InR q.1 ∧ Sc.InR q.2)
    (h1 : ls.length ≤ 60) (h2 : ms.length ≤ 60) (h0 : 0 < ls.length) (hj : (Sc.trOf c).joins = true) :
    Calls Tryd.prog 12 #[.agg #[.int .i64 c, .bool s], .slice A ls.length cA, .slice B ms.length cB] w fun e w' => e = .returned (.bool true) ∧ Below w.heap.size w w' := by
  have b0 := below_new w (.cells #[.int .i64 c, .bool s] 23)
  have BN := Lib.hid (Bx.new 23 w #[.int .i64 c, .bool s])
  have T1 := Lib.hid (hT.below b0)
  have PA := Lib.hid (hA.next b0)
  have PB := Lib.hid (hB.next b0)
  have L0 := Lib.hid b0
  have HRA := Lib.hid hRa
  have HRB := Lib.hid hRb
  have HJ := Lib.hid hj
  have t1 : decide ((ls.length : Int) > 60) = false := decide_eq_false (by omega)
  have t2 : decide ((ms.length : Int) > 60) = false := decide_eq_false (by omega)
  have e3 : ((ls.length : Int) == 0) = false := by simp; intro h; simp [h] at h0
  have JN := Lib.hid (fun W (h : Sc.Tab W) => Sc.joins_any c W h)
  rw [hj] at JN
  clear b0 hT hA hB hRa hRb hj
  obtain ⟨x0, x1⟩ := bx2 BN.out
  go_enter Tryd.func12, Tryd.ntmps12
  go_wp2_with fail
  generalize hW1 : w.alloc (.cells #[.int .i64 c, .bool s] 23) = w1 at *
  clear hW1
  refine (JN.out _ T1.out).mono ?_
  rintro r w2 ⟨rfl, hb2⟩
  have L2 := Lib.hid hb2
  obtain ⟨y0, y1⟩ := bx2 (BN.out.next hb2)
  clear hb2 x0 x1 t1 t2 e3
  go_wp2_with fail
  refine (new_yes c s 2 w2 (T1.out.below L2.out) (by omega) HJ.out).mono ?_
  rintro r w3 ⟨ga, Va, rfl, da, hb3⟩
  have L3 := Lib.hid (below_next L2.out hb3)
  have RA := Lib.hid (ru_new da)
  obtain ⟨z0, z1⟩ := bx2 (BN.out.next L3.out)
  clear hb3 da y0 y1
  go_wp2_with fail
  refine (new_yes c s 2 w3 (T1.out.below L3.out) (by omega) HJ.out).mono ?_
  rintro r w4 ⟨gb, Vb, rfl, db, hb4⟩
  have BO : Hid (Both w1 w2.heap.size w3.heap.size ga Va gb Vb c s [] [] w4) := Lib.hid ⟨RA.out.next hb4, ru_new db, fun i hi => (RA.out.lt i hi).1, fun r hr => by simp at hr, fun r hr => by simp at hr, below_next L3.out hb4, L2.out.size, L3.out.size⟩
  clear hb4 db RA z0 z1 L2 L3
  go_wp2
  go_loopw [69] (fun i wr => ∃ (k : Nat) (ra : List (List Int)), k ≤ ls.length ∧ i = .int .i64 k ∧ ra.length = k ∧ Hid (Both w1 w2.heap.size w3.heap.size ga Va gb Vb c s ra [] wr)) (fun i _ => ls.length - (intOf i).toNat)
  case atStart => exact ⟨0, [], Nat.zero_le _, rfl, rfl, BO⟩
  case round =>
    obtain ⟨k, ra, hk, rfl, hra, HB⟩ := hrel
    by_cases hlt : k < ls.length
    · obtain ⟨d, hd⟩ : ∃ d, ls[k]? = some d := ⟨_, List.getElem?_eq_getElem hlt⟩
      have i1 : (k : Int) < (ls.length : Int) := by omega
      have i0 : (0 : Int) ≤ (k : Int) := by omega
      have DR := Lib.hid (rowP_R (HRA.out d (List.mem_of_getElem? hd)))
      obtain ⟨b, off, rfl, hbl, hc⟩ := (PA.out.next HB.out.2.2.2.2.2.1) (by omega)
      obtain ⟨c1, c2⟩ := hc k d hd
      obtain ⟨x, y⟩ := d
      clear hc hd
      have b5 := below_new wr (.cells #[.int .i64 x, .int .i64 y] 72)
      have H5 := Lib.hid (HB.out.next b5)
      have BP := Lib.hid (Bk.new 72 wr [.int .i64 x, .int .i64 y])
      obtain ⟨t, ht⟩ : ∃ t, colsI c s 2 (ra ++ [[x, y]]) = t := ⟨_, rfl⟩
      have PU := Lib.hid (push_st w2.heap.size ga Va c s 2 ra (fun b => b = wr.heap.size) (some ⟨wr.heap.size, 0, none⟩) 2 [x, y] (wr.alloc (.cells #[.int .i64 x, .int .i64 y] 72)) H5.out.1 (two_sints BP.out) (fun b hb ht => by have := (HB.out.1.lt b ht).1; omega) rfl (by omega) (by omega) HJ.out (fun W h => T1.out.below (H5.out.2.2.2.2.2.1.trans (h.mono H5.out.2.2.2.2.2.2.1))) H5.out.2.2.2.1 DR.out t ht)
      clear b5 ht
      go_wp2_with fail
      refine PU.out.mono ?_
      rintro r w5 ⟨A5, c5, rfl, m5, r5, t5⟩
      have B5 := Lib.hid (H5.out.a t5 r5 DR.out)
      clear m5 r5 t5
      go_wp2
      refine ⟨⟨k + 1, ra ++ [[x, y]], by omega, by go_num, by simp [hra], B5⟩, by simp [intOf]; omega⟩
    · obtain rfl : k = ls.length := by omega
      obtain ⟨v, hv⟩ : ∃ v, colsI c s 2 ra = v := ⟨_, rfl⟩
      have HVL := Lib.hid (show v.length = 2 by rw [← hv, colsI_len])
      have NR := now_ru w2.heap.size ga Va c s 2 ra wr HB.out.1 (by omega) (by omega)
      rw [hv] at NR
      have NH := Lib.hid NR
      have VR : Hid (AllR v) := Lib.hid (by rw [← hv]; exact colsI_R HB.out.2.2.2.1 c s 2)
      have HV := Lib.hid hv
      have HRL := Lib.hid hra
      have SB0 := Lib.hid (fun b (h : Tr gb Vb b) => (HB.out.2.1.lt b h).1)
      clear NR hv hra BO
      go_wp2_with fail
      refine NH.out.mono ?_
      rintro r w5 ⟨A5, c5, rfl, m5, hb5⟩
      have B5 := Lib.hid (HB.out.next hb5)
      have M5 := Lib.hid m5
      have ONE : Hid (colsI c s 2 ([] ++ [v]) = v) := Lib.hid (by have h := colsI_one c s v; rw [HVL.out] at h; exact h)
      have PU := Lib.hid (push_st w3.heap.size gb Vb c s 2 [] (fun b => wr.heap.size ≤ b) A5 c5 v w5 B5.out.2.1 (mine_S m5) (fun b hb ht => by have := (HB.out.2.1.lt b ht).1; omega) HVL.out (by omega) (by simp) HJ.out (fun W h => T1.out.below (B5.out.2.2.2.2.2.1.trans (h.mono B5.out.2.2.2.2.2.2.2))) B5.out.2.2.2.2.1 VR.out v ONE.out)
      clear m5 hb5 NH HB
      go_wp2_with fail
      refine PU.out.mono ?_
      rintro r w6 ⟨A6, c6, rfl, m6, r6, t6⟩
      have B6 := Lib.hid (B5.out.b t6 r6 VR.out)
      have M56 := Lib.hid (show MineT 2 w6 _ _ v from own_turn M5.out t6 (fun b hb ht => by have h1 := own_base M5.out b hb; have h2 := SB0.out b ht; omega))
      have N6 := Lib.hid (nums_same A6 c6 v A5 c5 w6 (by unfold maxLen; have := HVL.out; omega) m6.ints' M56.out.ints')
      clear m6 r6 t6 PU B5 M5
      go_wp2_with fail
      refine N6.out.mono ?_
      rintro r w7 ⟨rfl, hb7⟩
      have B7 := Lib.hid (B6.out.next hb7)
      clear hb7 N6 M56 B6
      go_wp2
      go_loopw [102] (fun i wr => ∃ (k : Nat) (ra rb : List (List Int)), k ≤ ms.length ∧ i = .int .i64 k ∧ Hid (0 < ra.length ∧ ra.length ≤ 60 + k ∧ 0 < rb.length ∧ rb.length ≤ 1 + k ∧ colsI c s 2 ra = colsI c s 2 rb ∧ Both w1 w2.heap.size w3.heap.size ga Va gb Vb c s ra rb wr)) (fun i _ => ms.length - (intOf i).toNat)
      case atStart => exact ⟨0, ra, _, Nat.zero_le _, rfl, Lib.hid ⟨by have := HRL.out; omega, by have := HRL.out; omega, by simp, by simp, by rw [HV.out]; exact ONE.out.symm, B7.out⟩⟩
      case round =>
        obtain ⟨k, ra, rb, hk, rfl, HQ⟩ := hrel
        by_cases hlt : k < ms.length
        · obtain ⟨q1, q2, q3, q4, q5, q6⟩ := HQ.out
          obtain ⟨d, hd⟩ : ∃ d, ms[k]? = some d := ⟨_, List.getElem?_eq_getElem hlt⟩
          have i1 : (k : Int) < (ms.length : Int) := by omega
          have i0 : (0 : Int) ≤ (k : Int) := by omega
          have DR := Lib.hid (rowP_R (HRB.out d (List.mem_of_getElem? hd)))
          obtain ⟨b, off, rfl, hbl, hc⟩ := (PB.out.next q6.2.2.2.2.2.1) (by omega)
          obtain ⟨c1, c2⟩ := hc k d hd
          obtain ⟨x, y⟩ := d
          have b5 := below_new wr (.cells #[.int .i64 x, .int .i64 y] 72)
          have H5 := Lib.hid (q6.next b5)
          have BP := Lib.hid (Bk.new 72 wr [.int .i64 x, .int .i64 y])
          obtain ⟨t, ht⟩ : ∃ t, colsI c s 2 (ra ++ [[x, y]]) = t := ⟨_, rfl⟩
          have ht2 : colsI c s 2 (rb ++ [[x, y]]) = t := by rw [← ht]; exact (cols_more HJ.out s q1 q3 q5 rfl).symm
          have HTL := Lib.hid (show t.length = 2 by rw [← ht, colsI_len])
          have HTE := Lib.hid (ht.trans ht2.symm)
          have HT2 := Lib.hid ht2
          have SQ := Lib.hid (fun b (h : Tr ga Va b) => (q6.1.lt b h).1)
          have SQB := Lib.hid (fun b (h : Tr gb Vb b) => (q6.2.1.lt b h).1)
          have PU := Lib.hid (push_st w2.heap.size ga Va c s 2 ra (fun b => b = wr.heap.size) (some ⟨wr.heap.size, 0, none⟩) 2 [x, y] (wr.alloc (.cells #[.int .i64 x, .int .i64 y] 72)) H5.out.1 (two_sints BP.out) (fun b hb ht => by have := SQ.out b ht; omega) rfl (by omega) (by omega) HJ.out (fun W h => T1.out.below (H5.out.2.2.2.2.2.1.trans (h.mono H5.out.2.2.2.2.2.2.1))) H5.out.2.2.2.1 DR.out t ht)
          have Q1 := Lib.hid q1
          have Q2 := Lib.hid q2
          have Q3 := Lib.hid q3
          have Q4 := Lib.hid q4
          clear b5 ht ht2 hc hd q1 q2 q3 q4 q5 q6 HQ B7
          go_wp2_with fail
          refine PU.out.mono ?_
          rintro r w5 ⟨A5, c5, rfl, m5, r5, t5⟩
          have B5 := Lib.hid (H5.out.a t5 r5 DR.out)
          have M5 := Lib.hid m5
          have BP5 := Lib.hid (BP.out.turn t5 (fun ht => by have := SQ.out _ ht; omega))
          have PV := Lib.hid (push_st w3.heap.size gb Vb c s 2 rb (fun b => b = wr.heap.size) (some ⟨wr.heap.size, 0, none⟩) 2 [x, y] w5 B5.out.2.1 (two_sints BP5.out) (fun b hb ht => by have := SQB.out b ht; omega) rfl (by omega) (by have := Q4.out; omega) HJ.out (fun W h => T1.out.below (B5.out.2.2.2.2.2.1.trans (h.mono B5.out.2.2.2.2.2.2.2))) B5.out.2.2.2.2.1 DR.out t HT2.out)
          clear m5 r5 t5 PU
          go_wp2_with fail
          refine PV.out.mono ?_
          rintro r w6 ⟨A6, c6, rfl, m6, r6, t6⟩
          have B6 := Lib.hid (B5.out.b t6 r6 DR.out)
          have M56 := Lib.hid (show MineT 2 w6 _ _ t from own_turn M5.out t6 (fun b hb ht => by have h1 := own_base M5.out b hb; have h2 := SQB.out b ht; simp at h1; omega))
          have N6 := Lib.hid (nums_same A5 c5 t A6 c6 w6 (by unfold maxLen; have := HTL.out; omega) M56.out.ints' m6.ints')
          clear m6 r6 t6 PV B5 M5
          go_wp2_with fail
          refine N6.out.mono ?_
          rintro r w7 ⟨rfl, hb7⟩
          have B7 := Lib.hid (B6.out.next hb7)
          clear hb7
          go_wp2
          refine ⟨⟨k + 1, ra ++ [[x, y]], rb ++ [[x, y]], by omega, by go_num, Lib.hid ⟨by simp, by have := Q2.out; simp; omega, by simp, by have := Q4.out; simp; omega, HTE.out, B7.out⟩⟩, by simp [intOf]; omega⟩
        · obtain rfl : k = ms.length := by omega
          have L7 := Lib.hid HQ.out.2.2.2.2.2.2.2.2.2.2.1
          clear HQ B7
          go_wp2_with fail
          refine (lives_any _ (T1.out.below L7.out)).mono ?_
          rintro r w9 ⟨rfl, hb9⟩
          have L9 := Lib.hid (below_next (below_next L0.out L7.out) hb9)
          clear hb9
          go_wp2
          go_ret
          exact ⟨rfl, L9.out⟩
set_option maxHeartbeats 2000000 in
theorem hangs_no (c : Int) (s : Bool) (A : Option Addr) (cA : Nat) (ls : List (Int × Int)) (B : Option Addr) (cB : Nat) (ms : List (Int × Int)) (w : World) (hT : Sc.Tab w)
    (h : decide ((ls.length : Int) > 60) = true ∨ (decide ((ls.length : Int) > 60) = false ∧ decide ((ms.length : Int) > 60) = true) ∨ (decide ((ls.length : Int) > 60) = false ∧ decide ((ms.length : Int) > 60) = false ∧ ((ls.length : Int) == 0) = true) ∨ (decide ((ls.length : Int) > 60) = false ∧ decide ((ms.length : Int) > 60) = false ∧ ((ls.length : Int) == 0) = false ∧ (Sc.trOf c).joins = false)) (hma : ls.length ≤ 2 ^ 63 - 1) (hmb : ms.length ≤ 2 ^ 63 - 1) :
    Calls Tryd.prog 12 #[.agg #[.int .i64 c, .bool s], .slice A ls.length cA, .slice B ms.length cB] w fun e w' => e = .returned (.bool true) ∧ Below w.heap.size w w' := by
  have b0 := below_new w (.cells #[.int .i64 c, .bool s] 23)
  have BN := Lib.hid (Bx.new 23 w #[.int .i64 c, .bool s])
  have T1 := Lib.hid (hT.below b0)
  have L0 := Lib.hid b0
  clear b0 hT
  obtain ⟨x0, x1⟩ := bx2 BN.out
  rcases h with t1 | ⟨t1, t2⟩ | ⟨t1, t2, e3⟩ | ⟨t1, t2, e3, hj⟩
  · go_enter Tryd.func12, Tryd.ntmps12
    have L2 := L0
    have T2 := T1
    go_wp2_with fail
    refine (lives_any _ T2.out).mono ?_
    rintro r w5 ⟨rfl, hb5⟩
    have L5 := Lib.hid (below_next L2.out hb5)
    clear hb5
    go_wp2
    go_ret
    exact ⟨rfl, L5.out⟩
  · go_enter Tryd.func12, Tryd.ntmps12
    have L2 := L0
    have T2 := T1
    go_wp2_with fail
    refine (lives_any _ T2.out).mono ?_
    rintro r w5 ⟨rfl, hb5⟩
    have L5 := Lib.hid (below_next L2.out hb5)
    clear hb5
    go_wp2
    go_ret
    exact ⟨rfl, L5.out⟩
  · go_enter Tryd.func12, Tryd.ntmps12
    have L2 := L0
    have T2 := T1
    go_wp2_with fail
    refine (lives_any _ T2.out).mono ?_
    rintro r w5 ⟨rfl, hb5⟩
    have L5 := Lib.hid (below_next L2.out hb5)
    clear hb5
    go_wp2
    go_ret
    exact ⟨rfl, L5.out⟩
  · go_enter Tryd.func12, Tryd.ntmps12
    have JN := Lib.hid (Sc.joins_any c _ T1.out)
    rw [hj] at JN
    clear hj
    go_wp2_with fail
    refine JN.out.mono ?_
    rintro r w2 ⟨rfl, hb2⟩
    have L2 := Lib.hid (below_next L0.out hb2)
    have T2 := Lib.hid (T1.out.below hb2)
    clear hb2
    go_wp2_with fail
    refine (lives_any _ T2.out).mono ?_
    rintro r w5 ⟨rfl, hb5⟩
    have L5 := Lib.hid (below_next L2.out hb5)
    clear hb5
    go_wp2
    go_ret
    exact ⟨rfl, L5.out⟩
theorem hangs_any (c : Int) (s : Bool) (A : Option Addr) (cA : Nat) (ls : List (Int × Int)) (B : Option Addr) (cB : Nat) (ms : List (Int × Int)) (w : World) (hT : Sc.Tab w) (hA : Prs w A ls) (hB : Prs w B ms) (hRa : ∀ q ∈ ls, Sc.InR q.1 ∧ Sc.InR q.2) (hRb : ∀ q ∈ ms, Sc.InR q.1 ∧ Sc.InR q.2) (hma : ls.length ≤ maxLen) (hmb : ms.length ≤ maxLen) :
    Calls Tryd.prog 12 #[.agg #[.int .i64 c, .bool s], .slice A ls.length cA, .slice B ms.length cB] w fun e w' => e = .returned (.bool true) ∧ Below w.heap.size w w' := by
  unfold maxLen at hma hmb
  by_cases h1 : ls.length > 60
  · have t1 : decide ((ls.length : Int) > 60) = true := decide_eq_true (by omega)
    exact hangs_no c s A cA ls B cB ms w hT (.inl t1) hma hmb
  · have t1 : decide ((ls.length : Int) > 60) = false := decide_eq_false (by omega)
    by_cases h2 : ms.length > 60
    · exact hangs_no c s A cA ls B cB ms w hT (.inr (.inl ⟨t1, decide_eq_true (by omega)⟩)) hma hmb
    · have t2 : decide ((ms.length : Int) > 60) = false := decide_eq_false (by omega)
      by_cases h0 : ls.length = 0
      · exact hangs_no c s A cA ls B cB ms w hT (.inr (.inr (.inl ⟨t1, t2, by simp [h0]⟩))) hma hmb
      · have e3 : ((ls.length : Int) == 0) = false := by simp; intro h; exact h0 (by simp [h])
        cases hj : (Sc.trOf c).joins with
        | false => exact hangs_no c s A cA ls B cB ms w hT (.inr (.inr (.inr ⟨t1, t2, e3, hj⟩))) hma hmb
        | true => exact hangs_yes c s A cA ls B cB ms w hT hA hB hRa hRb (by omega) (by omega) (by omega) hj
end Go.Proofs.YtogbemdoimhndaaDoor.Rn
