/-
  What cell.Item answers for any cell and any number; nothing that was there is written. Condition: at most 100 axes and 1000 numbers.
-/
import Derived.Test.YtknphbkmghflcaaCellMake
namespace Go.Proofs.Ytknphbkmghflcaa.Sh
open Go.RowKit
set_option linter.unusedVariables false

/-- A slice of these numbers, in new memory. -/
def RetF (w : World) (xs : List Int) (e : Ending) (w' : World) : Prop := ∃ A c, e = .returned (.slice A xs.length c) ∧ Fr w' w.heap.size A xs ∧ Below w.heap.size w w'

set_option maxHeartbeats 1000000 in
theorem without_f (A : Option Addr) (c : Nat) (d : List Int) (x : Int) (w : World) (hl : d.length ≤ 100) (hi : Ints w A d) (hx : 0 ≤ x ∧ x < d.length) :
    Calls Try.prog 28 #[.slice A d.length c, .int .i64 x] w (RetF w (withoutL d x)) := by
  · have hw := (withinB_iff x d.length).2 hx
    have HW := Lib.hid hw
    have hL : withoutL d x = d.eraseIdx x.toNat := if_pos hx
    rw [hL]
    obtain ⟨k, rfl⟩ : ∃ k : Nat, x = k := ⟨x.toNat, by omega⟩
    rw [Int.toNat_natCast]
    have hk : k < d.length := by omega
    clear hw hL hx
    go_enter Try.func28, Try.ntmps28
    go_wp2_with fail
    refine (clone_any _ _ d _ hl hi).mono ?_
    rintro e w1 ⟨v, rfl, hm, hb1⟩
    have hm0 : w1.ownsRow w.heap.size 3 1 v d.length (d.map (Value.int .i64)) := hm
    rcases hm0.2 with ⟨rfl, h0⟩ | ⟨g, cap, cur, rfl, hbg, hgg, hnc, hcm, _⟩
    · omega
    · have hglt : g < w1.heap.size := by
        rcases Nat.lt_or_ge g w1.heap.size with hlt | hge
        · exact hlt
        · rw [Array.getElem?_eq_none hge] at hgg; cases hgg
      have hc : ∀ j, j < d.length → w1.cell? ⟨g, 0 + j, none⟩ = some (.int .i64 (d.getD j 0)) := by
        intro j hj
        rw [Nat.zero_add, hm0.cellAt j (by omega)]
        simp [List.getD, hj]
      have hf : ∀ j, j < d.length → w1.frozen? ⟨g, 0 + j, none⟩ = false := fun j _ => by rw [Nat.zero_add]; exact hm0.frozenAt j
      have hdel : Calls Try.prog 42 #[.slice (some ⟨g, 0, none⟩) d.length cap, .int .i64 (k : Int), .int .i64 ((k : Int) + 1)] w1 _ :=
        Any.slices_Delete_int_cells deleteLays g 0 d.length cap k (k + 1) d w1 (Nat.le_refl _) hnc (by unfold maxLen at hcm; omega) (by omega) (by omega) hc hf
      have HD := Lib.hid hdel
      have HC := Lib.hid hc
      have HBB := Lib.hid hb1
      clear hm hm0 hb1 hc hf hdel hgg
      go_wp2_with (go_at_call 41; refine (within_yesL _ _ _ HW.out).mono ?_; rintro e w' ⟨rfl, rfl⟩)
      refine HD.out.mono ?_
      rintro e w2 ⟨rfl, q, rfl⟩
      have hE : d.length - 1 = (d.eraseIdx k).length := by rw [List.length_eraseIdx_of_lt hk]
      have hI := deleted_ints d k hk g w1 q hglt HC.out
      have HBX := Lib.hid (below_setCells hbg (((d.take d.length).take k ++ (d.take d.length).drop (k + 1) ++ List.replicate (k + 1 - k) 0).map (Value.int .i64)) 0 w _ (below_drewN HBB.out q))
      have HI := Lib.hid hI
      have HE := Lib.hid hE
      clear hI hE
      generalize (w1.drewN q).setCells g 0 (((d.take d.length).take k ++ (d.take d.length).drop (k + 1) ++ List.replicate (k + 1 - k) 0).map (Value.int .i64)) = w3 at *
      go_wp2
      go_ret
      exact ⟨some ⟨g, 0, none⟩, cap, by rw [← HE.out]; rfl, fun hp => (by
        obtain ⟨b, off, e1, h1, h2⟩ := HI.out hp
        injection e1 with e1
        injection e1 with e2 e3
        subst e2 e3
        exact ⟨g, 0, rfl, hbg, h1, h2⟩), HBX.out⟩

/-- Has a cell an Item of this number? -/
def itemB (d : List Int) (n : Nat) (i : Int) : Bool := cellB d n && decide (0 < d.length) && decide (0 ≤ i) && decide (i < d.getD 0 0)
def itemD (d : List Int) (n : Nat) (i : Int) : List Int := if itemB d n i = true then d.tail else []
def itemV (d v : List Int) (i : Int) : List Int := if itemB d v.length i = true then piece v i.toNat (sizeI d.tail).toNat else []
theorem item_not {d v : List Int} {i : Int} (h : itemB d v.length i = false) : itemD d v.length i = [] ∧ itemV d v i = [] := by simp [itemD, itemV, h]
theorem item_is {d v : List Int} {i : Int} (h : itemB d v.length i = true) : itemD d v.length i = d.tail ∧ itemV d v i = piece v i.toNat (sizeI d.tail).toNat := by simp [itemD, itemV, h]
/-- The parts of a cell that has Items. -/
theorem item_parts {d : List Int} {n : Nat} {i : Int} (h : itemB d n i = true) : ∃ (x s k : Nat) (t : List Int), d = (x : Int) :: t ∧ rightB d = true ∧ rightB t = true ∧ sizeI t = s ∧ n = x * s ∧ i = k ∧ k < x ∧ (k + 1) * s ≤ n ∧ n ≤ 64 ∧ x ≤ 64 ∧ d.length ≤ 3 := by
  simp only [itemB, Bool.and_eq_true, decide_eq_true_eq] at h
  obtain ⟨⟨⟨h1, h2⟩, h3⟩, h4⟩ := h
  obtain ⟨hr, hn⟩ := cellB_parts h1
  cases d with
  | nil => simp at h2
  | cons y t =>
    simp at h4
    obtain ⟨hl3, hall, h64⟩ := rightB_all hr
    have hs : sizeI (y :: t) = prod (y :: t) := sizeI_mk hl3 hall h64
    rw [prod_cons] at h64 hs
    have hy := okAx_bd (by simpa using (List.all_eq_true.1 hall) y (by simp))
    have hta : t.all okAx = true := by
      rw [List.all_eq_true] at hall ⊢
      intro z hz
      exact hall z (by simp [hz])
    have hp0 := (prod_bd t hta).1
    have hge : 1 * prod t ≤ y * prod t := Int.mul_le_mul_of_nonneg_right (by omega) hp0
    have hrt : rightB t = true := rightB_mk (by simp at hl3; omega) hta (by omega)
    have hst : sizeI t = prod t := by simp [sizeI, hrt]
    have hki : (i + 1) * prod t ≤ y * prod t := Int.mul_le_mul_of_nonneg_right (by omega) hp0
    refine ⟨y.toNat, (prod t).toNat, i.toNat, t, by simp; omega, hr, hrt, by rw [hst]; omega, ?_, by omega, by omega, ?_, by omega, by omega, hl3⟩
    · have : ((y.toNat * (prod t).toNat : Nat) : Int) = y * prod t := by rw [Int.natCast_mul, Int.toNat_of_nonneg (by omega), Int.toNat_of_nonneg hp0]
      omega
    · have : (((i.toNat + 1) * (prod t).toNat : Nat) : Int) = (i + 1) * prod t := by rw [Int.natCast_mul, Int.natCast_add, Int.toNat_of_nonneg (by omega), Int.toNat_of_nonneg hp0]; rfl
      omega

theorem size_nat (A : Option Addr) (c : Nat) (d : List Int) (s : Nat) (w : World) (hs : sizeI d = s) (hl : d.length ≤ maxLen) (hi : Ints w A d) :
    Calls Try.prog 31 #[.slice A d.length c] w fun e w' => e = .returned (.int .i64 (s : Int)) ∧ Below w.heap.size w w' := by
  rw [← hs]; exact size_any A c d w hl hi
theorem keep1 {W w1 : World} {g : Nat} {x : Value} (hb : Below W.heap.size W w1) (h : W.cell? ⟨g, 1, none⟩ = some x) : w1.cell? ⟨g, 1, none⟩ = some x :=
  (hb.cell (p := ⟨g, 1, none⟩) (World.block_lt_of_cell? W ⟨g, 1, none⟩ h)).trans h

set_option maxHeartbeats 2000000 in
theorem item_yes (A : Option Addr) (c : Nat) (d : List Int) (B : Option Addr) (c2 : Nat) (v : List Int) (i : Int) (w : World) (hc : v.length ≤ c2) (hcm : c2 ≤ maxLen) (id : Ints w A d) (iv : Ints w B v) (h : itemB d v.length i = true) :
    Calls Try.prog 11 #[.agg #[.slice A d.length c, .slice B v.length c2], .int .i64 i] w (RetC w d.tail (piece v i.toNat (sizeI d.tail).toNat) (.bool true)) := by
  have hcell : cellB d v.length = true := by
    simp only [itemB, Bool.and_eq_true] at h
    exact h.1.1.1
  obtain ⟨x, s, k, t, rfl, hr, hrt, hst, hn, rfl, hk, hks, hn64, hx, hl3⟩ := item_parts h
  have e0 : (((x : Int) :: t).tail) = t := rfl
  rw [e0, hst, Int.toNat_natCast, Int.toNat_natCast]
  have h2 : 2 ≤ 4 := by omega
  have hb2 : Below w.heap.size w ((w.alloc (.cells #[.slice A ((x : Int) :: t).length c, .slice B v.length c2] 25)).alloc (.cells #[.slice none 0 0, .slice none 0 0] 25)) := below_box (below_box (Below.refl _ _))
  have hS0 := (Box.new w (.slice A ((x : Int) :: t).length c) (.slice B v.length c2)).alloc (.cells #[.slice none 0 0, .slice none 0 0] 25)
  have hS1 := Box.new (w.alloc (.cells #[.slice A ((x : Int) :: t).length c, .slice B v.length c2] 25)) (.slice none 0 0) (.slice none 0 0)
  rw [show (w.alloc (.cells #[.slice A ((x : Int) :: t).length c, .slice B v.length c2] 25)).heap.size = w.heap.size + 1 from by simp] at hS1
  have HS0 := Lib.hid hS0
  have HS1 := Lib.hid hS1
  have JD := Lib.hid (id.below hb2)
  have ID := Lib.hid id
  have IV := Lib.hid iv
  have HC := Lib.hid hcell
  have HST := Lib.hid hst
  have HPL := Lib.hid (piece_length hks)
  have hs64 : s ≤ 64 := by rw [Nat.add_mul, Nat.one_mul] at hks; omega
  have HKS := Lib.hid hks
  have e1 : ((x : Int) :: t).length = t.length + 1 := rfl
  have HE1 := Lib.hid e1
  have hlen : 0 < ((x : Int) :: t).length := by simp
  have hcm' := Lib.hid hcm
  clear hS0 hS1 hb2 id iv hcell hst hr hrt h e0 e1 hn hks hcm
  generalize hD : ((x : Int) :: t) = d at *
  have HD := Lib.hid hD
  clear hD
  have hz0 : ((d.length : Int) == 0) = false := by simp; intro e; rw [e] at hlen; simp at hlen
  have hz1 : d.length ≠ 0 := by omega
  go_enter Try.func11, Try.ntmps11
  go_wp2_with fail
  refine (cright_yes _ _ d _ _ _ _ (by unfold maxLen; omega) JD.out HC.out).mono ?_
  rintro r w1 ⟨rfl, hb1⟩
  have S1 := Lib.hid (HS0.out.next hb1)
  have T1 := Lib.hid (HS1.out.next hb1)
  have H1 := Lib.hid (below_box (below_box hb1))
  have I1 := Lib.hid (ID.out.below H1.out)
  obtain ⟨s0, s1, s2, s3⟩ := S1.out.all
  obtain ⟨b, off, rfl, hb, hcs⟩ := I1.out (by omega)
  have hc0 : w1.cell? ⟨b, off, none⟩ = some (.int .i64 (x : Int)) := by have := hcs 0 (by omega); rw [← HD.out] at this; simpa using this
  clear hb1 hcs
  go_wp2_with fail
  refine (without_f _ _ d 0 _ (by omega) I1.out (by omega)).mono ?_
  rintro r w2 ⟨A2, e2, rfl, hf2, hb2⟩
  have hwo : withoutL d 0 = t := by rw [← HD.out]; simp [withoutL]
  rw [hwo] at hf2 ⊢
  clear hwo
  have S2 := Lib.hid (S1.out.next hb2)
  have T2 := Lib.hid (T1.out.next hb2)
  have H2 := Lib.hid (below_next H1.out hb2)
  have H12 := Lib.hid hb2
  have F2 := Lib.hid hf2
  have it0 := hf2.ints
  have iv0 := IV.out.below H2.out
  clear hb2 hf2 s0 s1 s2 s3 hc0 hb
  have hS := S2.out.c1
  go_wp2_with fail
  generalize hg : w.heap.size = g at *
  have HG := Lib.hid hg
  clear hg
  go_region_held3 (fun w' => w'.cell? ⟨g, 1, none⟩ = some (.slice B v.length c2))
    (first
      | go_keep
      | exact keep1 hb3 (by go_keep)
      | exact keep1 hb5 (by go_keep))
    (first
      | (go_at_call 31; refine (size_nat _ _ t s _ HST.out (by have := HE1.out; unfold maxLen; omega) (by exact it0)).mono ?_; rintro e w3 ⟨rfl, hb3⟩; have iv3 := Ints.below (A := B) (l := v) (by exact iv0) hb3; have H3 := Lib.hid (Go.Proofs.Ytknphbkmghflcaa.Sh.below_next (a := w2) (by first | exact Below.refl _ _ | exact (Below.refl _ _).drew | exact below_drewN (Below.refl _ _) _) hb3))
      | (go_at_call 30; refine (cut_any _ _ v k s _ hc hcm'.out (by omega) (by omega) (by exact iv3) HKS.out).mono ?_; rintro e w4 ⟨A4, rfl, hi4, rfl⟩)
      | (go_at_call 29; refine (clone64_any _ _ (piece v k s) _ (by rw [HPL.out]; omega) (by exact hi4)).mono ?_; rintro e w5 ⟨A5, e5, rfl, hm5, hb5⟩; have H5 := Lib.hid (Go.Proofs.Ytknphbkmghflcaa.Sh.below_next (a := w2) (by first | exact H3.out | exact H3.out.drew | exact below_drewN H3.out _) hb5)))
  have U := Lib.hid (T2.out.next H5.out)
  obtain ⟨u0, u1, u2, u3⟩ := U.out.all
  have M5 := Lib.hid hm5
  have B3 := H3.out.size
  clear hm5 hb3 hb5 hi4 iv3 it0 iv0
  go_wp2
  have T := (U.out.set0 (.slice A2 t.length e2)).set1 (.slice A5 (piece v k s).length e5)
  obtain ⟨t0, t1, _, _⟩ := T.all
  refine bodyPost_ret (v := .tuple #[.agg #[.slice A2 t.length e2, .slice A5 (piece v k s).length e5], .bool true]) (by simp [results, Try.results11, go_sem, t0, t1]) rfl ?_
  have g1 := T1.out.lt
  have g2 := T2.out.lt
  have b12 := H12.out.size
  have hc : IsCell w5 w1.heap.size t (piece v k s) (.agg #[.slice A2 t.length e2, .slice A5 (piece v k s).length e5]) :=
    ⟨A2, e2, A5, e5, rfl, F2.out.below H5.out, M5.out.fr.mono (by first | exact Nat.le_trans b12 B3 | (simp; omega)), M5.out.cap⟩
  exact ⟨_, rfl, (hc.set2 g1 _ _).mono (by rw [HG.out]; omega), by rw [HG.out]; exact ((H2.out.trans (H5.out.mono (by omega))).setCell (by simp) _).setCell (by simp) _⟩

set_option maxHeartbeats 2000000 in
theorem item_no (A : Option Addr) (c : Nat) (d : List Int) (B : Option Addr) (c2 : Nat) (n : Nat) (i : Int) (w : World) (hd : d.length ≤ 100) (id : Ints w A d) (h : itemB d n i = false) :
    Calls Try.prog 11 #[.agg #[.slice A d.length c, .slice B n c2], .int .i64 i] w (RetC w [] [] (.bool false)) := by
  have hb2 : Below w.heap.size w ((w.alloc (.cells #[.slice A d.length c, .slice B n c2] 25)).alloc (.cells #[.slice none 0 0, .slice none 0 0] 25)) := below_box (below_box (Below.refl _ _))
  have hS0 := (Box.new w (.slice A d.length c) (.slice B n c2)).alloc (.cells #[.slice none 0 0, .slice none 0 0] 25)
  have hS1 := Box.new (w.alloc (.cells #[.slice A d.length c, .slice B n c2] 25)) (.slice none 0 0) (.slice none 0 0)
  rw [show (w.alloc (.cells #[.slice A d.length c, .slice B n c2] 25)).heap.size = w.heap.size + 1 from by simp] at hS1
  have HS0 := Lib.hid hS0
  have HS1 := Lib.hid hS1
  have JD := Lib.hid (id.below hb2)
  have ID := Lib.hid id
  clear hS0 hS1 hb2 id
  by_cases hcell : cellB d n = true
  · have HC := Lib.hid hcell
    by_cases hlen : 0 < d.length
    · have hz0 : ((d.length : Int) == 0) = false := by simp; intro e; rw [e] at hlen; simp at hlen
      have hz1 : d.length ≠ 0 := by omega
      by_cases hi0 : 0 ≤ i
      · have hi1 : d.getD 0 0 ≤ i := by
          simp only [itemB, hcell, hlen, hi0, decide_true, Bool.and_true, Bool.true_and, decide_eq_false_iff_not] at h
          omega
        have hid : decide (i < 0) = false := by simp; omega
        clear h hcell
        go_enter Try.func11, Try.ntmps11
        go_wp2_with fail
        refine (cright_yes _ _ d _ _ _ _ (by unfold maxLen; omega) JD.out HC.out).mono ?_
        rintro r w1 ⟨rfl, hb1⟩
        have S1 := Lib.hid (HS0.out.next hb1)
        have T1 := Lib.hid (HS1.out.next hb1)
        have H1 := Lib.hid (below_box (below_box hb1))
        obtain ⟨s0, s1, s2, s3⟩ := S1.out.all
        obtain ⟨u0, u1, u2, u3⟩ := T1.out.all
        obtain ⟨b, off, rfl, hb, hcs⟩ := ID.out.below H1.out (by omega)
        have hc0 : w1.cell? ⟨b, off, none⟩ = some (.int .i64 (d.getD 0 0)) := hcs 0 (by omega)
        clear hb1 hcs
        generalize d.getD 0 0 = x at *
        go_wp2
        have T := (T1.out.set0 (.slice none 0 0)).set1 (.slice none 0 0)
        obtain ⟨t0, t1, _, _⟩ := T.all
        refine bodyPost_ret (v := .tuple #[.agg #[.slice none 0 0, .slice none 0 0], .bool false]) (by simp [results, Try.results11, go_sem, t0, t1]) rfl ?_
        exact ⟨_, rfl, IsCell.none _ _, (H1.out.setCell (by simp) _).setCell (by simp) _⟩
      · have hi1 : i < 0 := by omega
        clear h hcell hi0
        go_enter Try.func11, Try.ntmps11
        go_wp2_with fail
        refine (cright_yes _ _ d _ _ _ _ (by unfold maxLen; omega) JD.out HC.out).mono ?_
        rintro r w1 ⟨rfl, hb1⟩
        have S1 := Lib.hid (HS0.out.next hb1)
        have T1 := Lib.hid (HS1.out.next hb1)
        have H1 := Lib.hid (below_box (below_box hb1))
        obtain ⟨s0, s1, s2, s3⟩ := S1.out.all
        obtain ⟨u0, u1, u2, u3⟩ := T1.out.all
        clear hb1
        go_wp2
        have T := (T1.out.set0 (.slice none 0 0)).set1 (.slice none 0 0)
        obtain ⟨t0, t1, _, _⟩ := T.all
        refine bodyPost_ret (v := .tuple #[.agg #[.slice none 0 0, .slice none 0 0], .bool false]) (by simp [results, Try.results11, go_sem, t0, t1]) rfl ?_
        exact ⟨_, rfl, IsCell.none _ _, (H1.out.setCell (by simp) _).setCell (by simp) _⟩
    · have hdn : d = [] := List.eq_nil_of_length_eq_zero (by omega)
      subst hdn
      clear h hcell hlen
      go_enter Try.func11, Try.ntmps11
      go_wp2_with fail
      refine (cright_yes _ _ [] _ _ _ _ (by simp) JD.out HC.out).mono ?_
      rintro r w1 ⟨rfl, hb1⟩
      have S1 := Lib.hid (HS0.out.next hb1)
      have T1 := Lib.hid (HS1.out.next hb1)
      have H1 := Lib.hid (below_box (below_box hb1))
      obtain ⟨s0, s1, s2, s3⟩ := S1.out.all
      obtain ⟨u0, u1, u2, u3⟩ := T1.out.all
      rw [List.length_nil] at s0
      clear hb1
      go_wp2
      have T := (T1.out.set0 (.slice none 0 0)).set1 (.slice none 0 0)
      obtain ⟨t0, t1, _, _⟩ := T.all
      refine bodyPost_ret (v := .tuple #[.agg #[.slice none 0 0, .slice none 0 0], .bool false]) (by simp [results, Try.results11, go_sem, t0, t1]) rfl ?_
      exact ⟨_, rfl, IsCell.none _ _, (H1.out.setCell (by simp) _).setCell (by simp) _⟩
  · have HC := Lib.hid (show cellB d n = false by simpa using hcell)
    clear h hcell
    go_enter Try.func11, Try.ntmps11
    go_wp2_with fail
    refine (cright_no _ _ d _ _ _ _ (by unfold maxLen; omega) JD.out HC.out).mono ?_
    rintro r w1 ⟨rfl, hb1⟩
    have T1 := Lib.hid (HS1.out.next hb1)
    have H1 := Lib.hid (below_box (below_box hb1))
    obtain ⟨u0, u1, u2, u3⟩ := T1.out.all
    clear hb1
    go_wp2
    have T := (T1.out.set0 (.slice none 0 0)).set1 (.slice none 0 0)
    obtain ⟨t0, t1, _, _⟩ := T.all
    refine bodyPost_ret (v := .tuple #[.agg #[.slice none 0 0, .slice none 0 0], .bool false]) (by simp [results, Try.results11, go_sem, t0, t1]) rfl ?_
    exact ⟨_, rfl, IsCell.none _ _, (H1.out.setCell (by simp) _).setCell (by simp) _⟩
end Go.Proofs.Ytknphbkmghflcaa.Sh
