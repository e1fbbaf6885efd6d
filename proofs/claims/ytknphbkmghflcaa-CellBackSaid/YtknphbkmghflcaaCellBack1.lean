/-
  rifflelaw03.CellBack returns true for any cell that has Items. Condition: at most 10 axes and 200 numbers.
-/
import Derived.Test.YtknphbkmghflcaaCellGather
namespace Go.Proofs.Ytknphbkmghflcaa.Sh
open Go.RowKit
set_option linter.unusedVariables false

theorem cat_pieces (t v : List Int) (s : Nat) : ∀ x : Nat, x * s ≤ v.length → catV ((List.range x).map fun j => (t, piece v j s)) = v.take (x * s)
  | 0, _ => by simp [catV]
  | x + 1, h => by
    have h' : x * s + s ≤ v.length := by rw [Nat.add_mul, Nat.one_mul] at h; exact h
    have ih := cat_pieces t v s x (by omega)
    unfold catV at ih ⊢
    rw [List.range_succ, List.map_append, List.map_append, List.flatten_append, ih, Nat.add_mul, Nat.one_mul, List.take_add]
    simp [piece]
theorem piece_at {v : List Int} {i s r : Nat} (h : (i + 1) * s ≤ v.length) (hr : r < s) : (piece v i s).getD r 0 = v.getD (i * s + r) 0 := by
  rw [Nat.add_mul, Nat.one_mul] at h
  have e1 : i * s + r < v.length := by omega
  simp [piece, List.getD, hr]
theorem stack_items (A : Option Addr) (c : Nat) (d : List Int) (x s : Nat) (t v : List Int) (w : World) (hd : d = (x : Int) :: t) (hx0 : 0 < x) (hx : x ≤ 64) (hs : s ≤ 64) (ht : t.length ≤ 10) (hi : Cells w A ((List.range x).map fun j => (t, piece v j s))) (hp : ∀ q, q < x → (q + 1) * s ≤ v.length) (hct : cellB t s = true) (hr : rightB d = true) (hcat : catV ((List.range x).map fun j => (t, piece v j s)) = v) :
    Calls Try.prog 25 #[.slice A x c] w (RetC w d v (.int .i64 0)) := by
  subst hd
  have hl : ((List.range x).map fun j => (t, piece v j s)).length = x := by simp
  have hm : ∀ y ∈ (List.range x).map (fun j => (t, piece v j s)), y.1 = t ∧ y.2.length = s := fun y hy => by
    obtain ⟨j, hj, rfl⟩ := List.mem_map.1 hy
    exact ⟨rfl, piece_length (hp j (List.mem_range.1 hj))⟩
  have h := stack_ok A c ((List.range x).map fun j => (t, piece v j s)) t (piece v 0 s) w (by omega) (fun y hy => by rw [(hm y hy).1, (hm y hy).2]; omega) hi ⟨by omega, by simp⟩
    (List.all_eq_true.2 fun y hy => by unfold pR; rw [(hm y hy).1, (hm y hy).2]; exact hct) (List.all_eq_true.2 fun y hy => by simp [pD, (hm y hy).1]) (by rw [hl]; exact hr)
  rw [hl, hcat] at h
  exact h
theorem keep3 {W w1 : World} {p1 p2 p3 : Addr} {x1 x2 x3 : Value} (hb : Below W.heap.size W w1) (h : W.cell? p1 = some x1 ∧ W.cell? p2 = some x2 ∧ W.cell? p3 = some x3) : w1.cell? p1 = some x1 ∧ w1.cell? p2 = some x2 ∧ w1.cell? p3 = some x3 :=
  ⟨(hb.cell (World.block_lt_of_cell? W p1 h.1)).trans h.1, (hb.cell (World.block_lt_of_cell? W p2 h.2.1)).trans h.2.1, (hb.cell (World.block_lt_of_cell? W p3 h.2.2)).trans h.2.2⟩
theorem item_q {d : List Int} {n : Nat} {x q : Nat} {t : List Int} (hd : d = (x : Int) :: t) (hc : cellB d n = true) : itemB d n (q : Int) = decide (q < x) := by
  subst hd
  simp [itemB, hc]

set_option maxHeartbeats 6400000 in
set_option maxRecDepth 100000 in
theorem back_main (A : Option Addr) (c : Nat) (x s : Nat) (t : List Int) (B : Option Addr) (c2 : Nat) (v : List Int) (w : World) (hdl : t.length + 1 ≤ 3) (hn : v.length = x * s) (hn64 : v.length ≤ 64) (hx0 : 0 < x) (hx64 : x ≤ 64) (hcv : v.length ≤ c2) (hcm : c2 ≤ maxLen)
    (hrt : rightB t = true) (hst : sizeI t = s) (hr : rightB ((x : Int) :: t) = true) (hcell : cellB ((x : Int) :: t) v.length = true) (id : Ints w A ((x : Int) :: t)) (iv : Ints w B v) :
    Calls Try.prog 6 #[.agg #[.slice A (t.length + 1) c, .slice B v.length c2]] w fun e w' => e = .returned (.bool true) ∧ Below w.heap.size w w' := by
  obtain ⟨d, hd⟩ : ∃ d, d = (x : Int) :: t := ⟨_, rfl⟩
  have hlen : d.length = t.length + 1 := by rw [hd]; rfl
  rw [← hd] at hr hcell id
  rw [← hlen]
  have hd3 : d.length ≤ 3 := by omega
  have hd1 : 0 < d.length := by omega
  have hct : cellB t s = true := by rw [cellB_is hrt, hst]; simp
  have hIB := fun q : Nat => item_q (n := v.length) (q := q) hd hcell
  have hpl := fun (q : Nat) (hq : q < x) => (show (q + 1) * s ≤ v.length by rw [hn]; exact Nat.mul_le_mul_right _ hq)
  have hcat := cat_pieces t v s x (by omega)
  rw [← hn, List.take_length] at hcat
  have htail : d.tail = t := by rw [hd]; rfl
  have hs64 : s ≤ 64 := by have := hpl 0 hx0; omega
  have HD := Lib.hid hd
  have HCELL := Lib.hid hcell
  have HCT := Lib.hid hct
  have HIB := Lib.hid hIB
  have HPL := Lib.hid hpl
  have HCAT := Lib.hid hcat
  have HT := Lib.hid htail
  have HST := Lib.hid hst
  have HRT := Lib.hid hrt
  have HR := Lib.hid hr
  have HN := Lib.hid hn
  have ID := Lib.hid id
  have IV := Lib.hid iv
  have HCM := Lib.hid hcm
  have HLEN := Lib.hid hlen
  have hz0 : ((d.length : Int) == 0) = false := by simp; intro e; rw [e] at hd1; simp at hd1
  have hz1 : d.length ≠ 0 := by omega
  have hx1 : ((x : Int) == 0) = false := by simp; omega
  have hx2 : x ≠ 0 := by omega
  have B0 := Lib.hid (Box.new w (.slice A d.length c) (.slice B v.length c2))
  have L0 := Lib.hid (below_box (Below.refl (w.alloc (.cells #[.slice A d.length c, .slice B v.length c2] 25)).heap.size _))
  clear hd hcell hct hIB hpl hcat htail hst hrt hr hn id iv hcm hlen
  go_enter Try.func6, Try.ntmps6
  go_wp2_with fail
  refine (great_no _ _ _ _ _ _ _ (by omega) (by omega)).mono ?_
  rintro e w1 ⟨rfl, hb1⟩
  have B1 := Lib.hid (B0.out.next hb1)
  have L1 := Lib.hid (below_next L0.out hb1)
  obtain ⟨q0, q1, _, _⟩ := B1.out.all
  clear hb1 B0 L0
  go_wp2_with fail
  refine (cright_yes _ _ d _ _ _ _ (by unfold maxLen; omega) (ID.out.below L1.out) HCELL.out).mono ?_
  rintro e w2 ⟨rfl, hb2⟩
  have B2 := Lib.hid (B1.out.next hb2)
  have L2 := Lib.hid (below_next L1.out hb2)
  obtain ⟨p0, p1, _, _⟩ := B2.out.all
  obtain ⟨b, off, rfl, hbb, hcs⟩ := ID.out.below L2.out hd1
  have hx : w2.cell? ⟨b, off, none⟩ = some (.int .i64 (x : Int)) := by have := hcs 0 hd1; rw [HD.out] at this; simpa using this
  have hg2 := B2.out.lt
  clear hb2 B1 L1 q0 q1 hcs
  go_wp2
  go_loopw [3, 4, 5] (fun l n i wr => ∃ q N : Nat, q ≤ x ∧ N = q * s ∧ i = .int .i64 (q : Int) ∧ n = .int .i64 (N : Int) ∧ CRow wr w2.heap.size l q t (fun j => piece v j s) ∧ Below w2.heap.size w2 wr) (fun _ _ i _ => x - (intOf i).toNat)
  case atStart => exact ⟨0, 0, Nat.zero_le _, by simp, rfl, rfl, CRow.nil _ _ _ _, Below.refl _ _⟩
  case round =>
    obtain ⟨q, N, hq, hN, rfl, rfl, hrow, hbel⟩ := hrel
    have HN' := Lib.hid hN
    have HROW := Lib.hid hrow
    have HB := Lib.hid hbel
    have B3 := Lib.hid (B2.out.below hbel hg2)
    have hxr : wr.cell? ⟨b, off, none⟩ = some (.int .i64 (x : Int)) := (hbel.cell (p := ⟨b, off, none⟩) hbb).trans hx
    have LB := Lib.hid (below_next L2.out hbel)
    have hszr := hbel.size
    obtain ⟨r0, r1, _, _⟩ := B3.out.all
    clear hrow hbel p0 p1
    by_cases hlt : q < x
    · have HI := Lib.hid (show itemB d v.length (q : Int) = true by rw [HIB.out q]; simpa using hlt)
      have hq6 : (q + 1) * s ≤ v.length := HPL.out q hlt
      have HQ := Lib.hid (piece_length hq6)
      have HPA := Lib.hid (fun r hr => piece_at (r := r) hq6 hr)
      have HQ6 := Lib.hid hq6
      have hqs : N + s ≤ v.length := by rw [Nat.add_mul, Nat.one_mul, ← hN] at hq6; exact hq6
      have hqc : q < x := hlt
      clear hq6 hN
      go_wp2_with fail
      refine (item_yes _ _ d _ _ v _ _ hcv HCM.out (ID.out.below LB.out) (IV.out.below LB.out) HI.out).mono ?_
      rintro e w3 ⟨y, rfl, ⟨A6, c6, B6, e6, rfl, j1, j2, j3⟩, hb3⟩
      rw [HT.out] at j1 j2 ⊢
      rw [HST.out] at j2 ⊢
      rw [Int.toNat_natCast, Int.toNat_natCast] at j2 ⊢
      have B6' := Lib.hid ((B3.out.next hb3).alloc (.cells #[.slice A6 t.length c6, .slice B6 (piece v q s).length e6] 25))
      have E6 := Lib.hid (Box.new w3 (.slice A6 t.length c6) (.slice B6 (piece v q s).length e6))
      have R6 := Lib.hid ((HROW.out.below hb3).below (below_box (Below.refl (w3.alloc (.cells #[.slice A6 t.length c6, .slice B6 (piece v q s).length e6] 25)).heap.size _)))
      have L6 := Lib.hid ((below_next LB.out hb3).alloc (below_next LB.out hb3).size (.cells #[.slice A6 t.length c6, .slice B6 (piece v q s).length e6] 25))
      have W6 := Lib.hid ((HB.out.trans (hb3.mono hszr)).alloc (HB.out.trans (hb3.mono hszr)).size (.cells #[.slice A6 t.length c6, .slice B6 (piece v q s).length e6] 25))
      have P6 := Lib.hid ((j1.alloc (.cells #[.slice A6 t.length c6, .slice B6 (piece v q s).length e6] 25)).av HROW.out.lt)
      have Q6 := Lib.hid ((j2.alloc (.cells #[.slice A6 t.length c6, .slice B6 (piece v q s).length e6] 25)).av HROW.out.lt)
      clear hb3 j1 j2 j3 B3 HROW LB HB r0 r1 hxr hszr
      go_upto_region 9 with (fail)
      generalize w3.alloc (.cells #[.slice A6 t.length c6, .slice B6 (piece v q s).length e6] 25) = w4 at *
      generalize w3.heap.size = g6 at *
      obtain ⟨r0, r1, _, _⟩ := E6.out.all
      go_wp2_with fail
      refine (cright_yes _ _ t _ _ _ _ (by unfold maxLen; omega) P6.out.ints (by rw [HQ.out]; exact HCT.out)).mono ?_
      rintro e w7 ⟨rfl, hb7⟩
      have B7 := Lib.hid (B6'.out.next hb7)
      have E7 := Lib.hid (E6.out.next hb7)
      have R7 := Lib.hid (R6.out.below hb7)
      have L7 := Lib.hid (below_next L6.out hb7)
      have W7 := Lib.hid (W6.out.trans (hb7.mono W6.out.size))
      have P7 := Lib.hid (P6.out.below hb7)
      have Q7 := Lib.hid (Q6.out.below hb7)
      clear hb7 r0 r1 B6' E6 R6 L6 W6 P6 Q6
      go_wp2
      go_loopw [4, 8] (fun n k wr => ∃ r m M : Nat, r ≤ (piece v q s).length ∧ M = N + r ∧ n = .int .i64 (M : Int) ∧ k = .int .i64 (r : Int) ∧ wr = w7.drewN m) (fun _ k _ => (piece v q s).length - (intOf k).toNat)
      case atStart => exact ⟨0, 0, N, Nat.zero_le _, rfl, rfl, rfl, rfl⟩
      case round =>
        obtain ⟨r, m, M, hr, hM, rfl, rfl, rfl⟩ := hrel
        have HM := Lib.hid hM
        have B8 := Lib.hid (B7.out.drewN m)
        have E8 := Lib.hid (E7.out.drewN m)
        obtain ⟨r0, r1, _, _⟩ := E8.out.all
        have a1 := B8.out.c1
        by_cases hr2 : r < (piece v q s).length
        · have hrs : r < s := by have := HQ.out; omega
          obtain ⟨b1, o1, rfl, hb1, hc1⟩ := IV.out.below L7.out (by omega)
          obtain ⟨b2, o2, rfl, hb2, hc2⟩ := Q7.out.ints (by omega)
          have h1 : (w7.drewN m).cell? ⟨b1, o1 + M, none⟩ = some (.int .i64 (v.getD M 0)) := hc1 M (by omega)
          have h2 : (w7.drewN m).cell? ⟨b2, o2 + r, none⟩ = some (.int .i64 ((piece v q s).getD r 0)) := hc2 r (by omega)
          rw [HPA.out r hrs, ← HN'.out, ← hM] at h2
          have i0 : (0 : Int) ≤ (M : Int) := by omega
          have i1 : (M : Int) < (v.length : Int) := by omega
          have i2 : (0 : Int) ≤ (r : Int) := by omega
          have i3 : (r : Int) < ((piece v q s).length : Int) := by omega
          have i4 : decide ((v.length : Int) ≤ (M : Int)) = false := by simp; omega
          have i5 : decide (v.length ≤ M) = false := by simp; omega
          have i6 : decide ((M : Int) ≥ (v.length : Int)) = false := by simp; omega
          clear hc1 hc2 hb1 hb2 hM
          generalize hy : v.getD M 0 = y at *
          clear hy
          generalize hw1 : w7.drewN m = w8 at *
          have HW := Lib.hid hw1
          clear hw1
          go_wp2_with fail
          go_quiet (fail)
          go_wp2
          go_roundw
          case rel => exact ⟨r + 1, m + nq, M + 1, by omega, by have := HM.out; omega, by go_num, by go_num, by rw [← HW.out, World.drewN_drewN]⟩
          case measure => simp [intOf]; omega
        · obtain rfl : r = (piece v q s).length := by omega
          clear hM
          have RA := Lib.hid (R7.out.below (below_drewN (Below.refl w7.heap.size w7) m))
          have PA := Lib.hid (P7.out.below (below_drewN (Below.refl w7.heap.size w7) m))
          have QA := Lib.hid (Q7.out.below (below_drewN (Below.refl w7.heap.size w7) m))
          have WA := Lib.hid (below_drewN W7.out m)
          generalize w7.drewN m = w8 at *
          go_wp2_with (at_builtin; refine wpList_appC rfl (.tmp 82) (.tmp 84) rfl w2.heap.size _ q t (fun j => piece v j s) A6 c6 B6 e6 rfl rfl RA.out PA.out QA.out (by omega) WA.out.size ?_; intro v' w9 hr9 hb9)
          go_roundw
          case rel => exact ⟨q + 1, M, by omega, by rw [HM.out, HN'.out, HQ.out, Nat.add_mul, Nat.one_mul], by go_num, by go_num, hr9, WA.out.trans hb9⟩
          case measure => simp [intOf]; omega
    · have hqx : q = x := by omega
      rw [hqx] at HROW
      obtain rfl : N = v.length := by rw [hN, hqx, ← HN.out]
      have HI := Lib.hid (show itemB d v.length (x : Int) = false by rw [HIB.out x]; simp)
      obtain ⟨Al, cl, rfl, hcl⟩ := HROW.out.cells
      have HCL := Lib.hid hcl
      clear hcl hN hqx
      go_wp2_with fail
      have n0 := World.new_ne wr _ r0
      have n1 := World.new_ne wr _ r1
      have n2 := World.new_ne wr _ hxr
      have id0 := ID.out.below LB.out
      have id1 := id0.below (((Below.refl wr.heap.size wr).alloc (Nat.le_refl _) (.cells #[.slice none 0 0, .slice none 0 0] 25)).drew)
      go_region_held3 (fun w' => w'.cell? ⟨w.heap.size, 0, none⟩ = some (.slice (some ⟨b, off, none⟩) d.length c) ∧ w'.cell? ⟨w.heap.size, 1, none⟩ = some (.slice B v.length c2) ∧ w'.cell? ⟨b, off, none⟩ = some (.int .i64 (x : Int)))
        (first
          | go_keep
          | exact ⟨r0, r1, hxr⟩
          | exact keep3 hb3 (by go_keep))
        (first
          | (go_at_call 11; refine (item_no _ _ d _ _ _ _ _ (by omega) (by exact id0) HI.out).mono ?_; rintro e w3 ⟨y, rfl, ⟨A6, c6, B6, e6, rfl, j1, j2, j3⟩, hb3⟩; have k3 : w3.cell? ⟨w.heap.size, 0, none⟩ = some (.slice (some ⟨b, off, none⟩) d.length c) ∧ w3.cell? ⟨w.heap.size, 1, none⟩ = some (.slice B v.length c2) ∧ w3.cell? ⟨b, off, none⟩ = some (.int .i64 (x : Int)) := keep3 hb3 (by first | exact ⟨r0, r1, hxr⟩ | go_keep); obtain ⟨s0, s1, s2⟩ := k3; have m0 := World.new_ne w3 _ s0; have m1 := World.new_ne w3 _ s1; have m2 := World.new_ne w3 _ s2)
          | (go_at_call 11; refine (item_no _ _ d _ _ _ _ _ (by omega) (by exact id1) HI.out).mono ?_; rintro e w3 ⟨y, rfl, ⟨A6, c6, B6, e6, rfl, j1, j2, j3⟩, hb3⟩; have k3 : w3.cell? ⟨w.heap.size, 0, none⟩ = some (.slice (some ⟨b, off, none⟩) d.length c) ∧ w3.cell? ⟨w.heap.size, 1, none⟩ = some (.slice B v.length c2) ∧ w3.cell? ⟨b, off, none⟩ = some (.int .i64 (x : Int)) := keep3 hb3 (by first | exact ⟨r0, r1, hxr⟩ | go_keep); obtain ⟨s0, s1, s2⟩ := k3; have m0 := World.new_ne w3 _ s0; have m1 := World.new_ne w3 _ s1; have m2 := World.new_ne w3 _ s2; obtain ⟨x0, x1, x2, x3⟩ := (((Box.new wr (.slice none 0 0) (.slice none 0 0)).drew).next hb3).all))
      · have HZ := (below_next ((Below.refl wr.heap.size wr).drew) hb3).alloc (below_next ((Below.refl wr.heap.size wr).drew) hb3).size (.cells #[.slice A6 0 c6, .slice B6 0 e6] 25)
        have B9 := Lib.hid (B3.out.next HZ)
        have L9 := Lib.hid (below_next LB.out HZ)
        have CL9 := Lib.hid (HCL.out.below HZ)
        clear HZ hb3 s0 s1 s2 m0 m1 m2 n0 n1 n2 id0 id1 j1 j2 j3 r0 r1 hxr hx hbb B2 B3 LB HB HROW HCL
        generalize w3.alloc (.cells #[.slice A6 0 c6, .slice B6 0 e6] 25) = w9 at *
        go_wp2_with fail
        refine (stack_items _ _ d x s t v _ HD.out hx0 hx64 hs64 (by omega) CL9.out HPL.out HCT.out HR.out HCAT.out).mono ?_
        rintro e w10 ⟨y, rfl, ⟨A7, c7, B7, e7, rfl, j1, j2, j3⟩, hb10⟩
        have B11 := Lib.hid ((B9.out.next hb10).alloc (.cells #[.slice A7 d.length c7, .slice B7 v.length e7] 25))
        have E11 := Lib.hid (Box.new w10 (.slice A7 d.length c7) (.slice B7 v.length e7))
        have L11 := Lib.hid ((below_next L9.out hb10).alloc (below_next L9.out hb10).size (.cells #[.slice A7 d.length c7, .slice B7 v.length e7] 25))
        have P11 := Lib.hid (j1.alloc (.cells #[.slice A7 d.length c7, .slice B7 v.length e7] 25)).ints
        have Q11 := Lib.hid (j2.alloc (.cells #[.slice A7 d.length c7, .slice B7 v.length e7] 25)).ints
        clear hb10 j1 j2 j3 B9 L9 CL9
        go_upto_region 20 with (fail)
        generalize w10.alloc (.cells #[.slice A7 d.length c7, .slice B7 v.length e7] 25) = w11 at *
        generalize w10.heap.size = g11 at *
        obtain ⟨q0, q1, _, _⟩ := B11.out.all
        obtain ⟨q2, q3, _, _⟩ := E11.out.all
        go_wp2_with fail
        refine (rsame_refl _ _ d _ _ v _ _ _ _ _ (by omega) (by omega) (ID.out.below L11.out) (IV.out.below L11.out) P11.out Q11.out).mono ?_
        rintro e w12 ⟨rfl, hb12⟩
        have B12 := Lib.hid (B11.out.next hb12)
        have E12 := Lib.hid (E11.out.next hb12)
        have L12 := Lib.hid (below_next L11.out hb12)
        have P12 := Lib.hid (P11.out.below hb12)
        have Q12 := Lib.hid (Q11.out.below hb12)
        clear hb12 q0 q1 q2 q3 B11 E11 L11 P11 Q11
        obtain ⟨q0, q1, _, _⟩ := B12.out.all
        obtain ⟨q2, q3, _, _⟩ := E12.out.all
        go_wp2_with fail
        refine (csame_b _ _ d _ _ v _ _ d _ _ v _ true (by simp [sameB]) (by unfold maxLen; omega) (by unfold maxLen; omega) (by unfold maxLen; omega) (by unfold maxLen; omega) (ID.out.below L12.out) (IV.out.below L12.out) P12.out Q12.out).mono ?_
        rintro e w13 ⟨rfl, hb13⟩
        have L13 := Lib.hid (below_next L12.out hb13)
        clear hb13 q0 q1 q2 q3 B12 E12 L12 P12 Q12
        go_wp2_with fail
        refine (lives_any _).mono ?_
        rintro e w14 ⟨rfl, hb14⟩
        have L14 := Lib.hid (below_next L13.out hb14)
        clear hb14
        go_wp2
        go_ret
        exact ⟨rfl, L14.out⟩
      · have HZ := ((below_next (((Below.refl wr.heap.size wr).alloc (Nat.le_refl _) (.cells #[.slice none 0 0, .slice none 0 0] 25)).drew) hb3).setCell (p := ⟨wr.heap.size, 0, none⟩) (Nat.le_refl _) (.slice A6 0 c6)).setCell (p := ⟨wr.heap.size, 1, none⟩) (Nat.le_refl _) (.slice B6 0 e6)
        have B9 := Lib.hid (B3.out.next HZ)
        have L9 := Lib.hid (below_next LB.out HZ)
        have CL9 := Lib.hid (HCL.out.below HZ)
        clear x0 x1 x2 x3 HZ hb3 s0 s1 s2 m0 m1 m2 n0 n1 n2 id0 id1 j1 j2 j3 r0 r1 hxr hx hbb B2 B3 LB HB HROW HCL
        generalize (w3.setCell ⟨wr.heap.size, 0, none⟩ (.slice A6 0 c6)).setCell ⟨wr.heap.size, 1, none⟩ (.slice B6 0 e6) = w9 at *
        go_wp2_with fail
        refine (stack_items _ _ d x s t v _ HD.out hx0 hx64 hs64 (by omega) CL9.out HPL.out HCT.out HR.out HCAT.out).mono ?_
        rintro e w10 ⟨y, rfl, ⟨A7, c7, B7, e7, rfl, j1, j2, j3⟩, hb10⟩
        have B11 := Lib.hid ((B9.out.next hb10).alloc (.cells #[.slice A7 d.length c7, .slice B7 v.length e7] 25))
        have E11 := Lib.hid (Box.new w10 (.slice A7 d.length c7) (.slice B7 v.length e7))
        have L11 := Lib.hid ((below_next L9.out hb10).alloc (below_next L9.out hb10).size (.cells #[.slice A7 d.length c7, .slice B7 v.length e7] 25))
        have P11 := Lib.hid (j1.alloc (.cells #[.slice A7 d.length c7, .slice B7 v.length e7] 25)).ints
        have Q11 := Lib.hid (j2.alloc (.cells #[.slice A7 d.length c7, .slice B7 v.length e7] 25)).ints
        clear hb10 j1 j2 j3 B9 L9 CL9
        go_upto_region 20 with (fail)
        generalize w10.alloc (.cells #[.slice A7 d.length c7, .slice B7 v.length e7] 25) = w11 at *
        generalize w10.heap.size = g11 at *
        obtain ⟨q0, q1, _, _⟩ := B11.out.all
        obtain ⟨q2, q3, _, _⟩ := E11.out.all
        go_wp2_with fail
        refine (rsame_refl _ _ d _ _ v _ _ _ _ _ (by omega) (by omega) (ID.out.below L11.out) (IV.out.below L11.out) P11.out Q11.out).mono ?_
        rintro e w12 ⟨rfl, hb12⟩
        have B12 := Lib.hid (B11.out.next hb12)
        have E12 := Lib.hid (E11.out.next hb12)
        have L12 := Lib.hid (below_next L11.out hb12)
        have P12 := Lib.hid (P11.out.below hb12)
        have Q12 := Lib.hid (Q11.out.below hb12)
        clear hb12 q0 q1 q2 q3 B11 E11 L11 P11 Q11
        obtain ⟨q0, q1, _, _⟩ := B12.out.all
        obtain ⟨q2, q3, _, _⟩ := E12.out.all
        go_wp2_with fail
        refine (csame_b _ _ d _ _ v _ _ d _ _ v _ true (by simp [sameB]) (by unfold maxLen; omega) (by unfold maxLen; omega) (by unfold maxLen; omega) (by unfold maxLen; omega) (ID.out.below L12.out) (IV.out.below L12.out) P12.out Q12.out).mono ?_
        rintro e w13 ⟨rfl, hb13⟩
        have L13 := Lib.hid (below_next L12.out hb13)
        clear hb13 q0 q1 q2 q3 B12 E12 L12 P12 Q12
        go_wp2_with fail
        refine (lives_any _).mono ?_
        rintro e w14 ⟨rfl, hb14⟩
        have L14 := Lib.hid (below_next L13.out hb14)
        clear hb14
        go_wp2
        go_ret
        exact ⟨rfl, L14.out⟩
end Go.Proofs.Ytknphbkmghflcaa.Sh
