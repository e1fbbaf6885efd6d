/-
  What riffleref03.Item answers for a cell whose axes have no room behind them: as XCellRItem says it of the others. Condition: at most 100 axes and 1000 numbers.
-/
import Derived.Test.YtknphbkmghflcaaCellRItem
namespace Go.Proofs.Ytknphbkmghflcaa.Sh
open Go.RowKit
set_option linter.unusedVariables false

set_option maxHeartbeats 4000000 in
set_option maxRecDepth 100000 in
theorem ritem_yes1 (A : Option Addr) (c : Nat) (d : List Int) (B : Option Addr) (c2 : Nat) (v : List Int) (i : Int) (w : World) (hcd : d.length ≤ c) (hcm : c ≤ maxLen) (id : Ints w A d) (iv : Ints w B v) (h : itemB d v.length i = true) (hc1 : c = 1) :
    Calls Try.prog 12 #[.agg #[.slice A d.length c, .slice B v.length c2], .int .i64 i] w (RetC w d.tail (piece v i.toNat (sizeI d.tail).toNat) (.bool true)) := by
  have hcell : cellB d v.length = true := by
    simp only [itemB, Bool.and_eq_true] at h
    exact h.1.1.1
  obtain ⟨x, s, k, t, rfl, hr, hrt, hst, hn, rfl, hk, hks, hn64, hx, hl3⟩ := item_parts h
  have e0 : (((x : Int) :: t).tail) = t := rfl
  rw [e0, hst, Int.toNat_natCast, Int.toNat_natCast]
  have hb2 : Below w.heap.size w ((w.alloc (.cells #[.slice A ((x : Int) :: t).length c, .slice B v.length c2] 25)).alloc (.cells #[.slice none 0 0, .slice none 0 0] 25)) := below_box (below_box (Below.refl _ _))
  have hS0 := (Box.new w (.slice A ((x : Int) :: t).length c) (.slice B v.length c2)).alloc (.cells #[.slice none 0 0, .slice none 0 0] 25)
  have hS1 := Box.new (w.alloc (.cells #[.slice A ((x : Int) :: t).length c, .slice B v.length c2] 25)) (.slice none 0 0) (.slice none 0 0)
  rw [show (w.alloc (.cells #[.slice A ((x : Int) :: t).length c, .slice B v.length c2] 25)).heap.size = w.heap.size + 1 from by simp] at hS1
  have HS0 := Lib.hid hS0
  have HS1 := Lib.hid hS1
  have JD := Lib.hid (id.below hb2)
  have ID := Lib.hid id
  have IV := Lib.hid iv
  have HC := Lib.hid hcell
  have HPL := Lib.hid (piece_length hks)
  have hs64 : s ≤ 64 := by rw [Nat.add_mul, Nat.one_mul] at hks; omega
  have hsz : (sizeI ((x : Int) :: t)).toNat = v.length := by have := (cellB_parts hcell).2; omega
  have HSZ := Lib.hid hsz
  have hhead := fun q (hq : q < x * s) => head_is (k := k) hrt hst hq
  rw [← hn] at hhead
  have HH := Lib.hid hhead
  have htl : t.length + 1 = ((x : Int) :: t).length := rfl
  have hlen : 0 < ((x : Int) :: t).length := by simp
  subst hc1
  clear hcm
  clear hS0 hS1 hb2 id iv hcell hst hr hrt h e0 hn hks hsz hhead
  generalize hD : ((x : Int) :: t) = d at *
  have HD := Lib.hid hD
  have htl2 : t.length + 1 ≤ d.length := by omega
  have htl3 : d.length ≤ t.length + 1 := by omega
  have HTL := Lib.hid htl
  clear hD htl
  have hz0 : ((d.length : Int) == 0) = false := by simp; intro e; rw [e] at hlen; simp at hlen
  have hz1 : d.length ≠ 0 := by omega
  go_enter Try.func12, Try.ntmps12
  go_wp2_with fail
  refine (rright_yes _ _ d _ _ _ _ (by unfold maxLen; omega) JD.out HC.out).mono ?_
  rintro r w1 ⟨rfl, hb1⟩
  have S1 := Lib.hid (HS0.out.next hb1)
  have T1 := Lib.hid (HS1.out.next hb1)
  have H1 := Lib.hid (below_box (below_box hb1))
  have I1 := Lib.hid (ID.out.below H1.out)
  obtain ⟨s0, s1, s2, s3⟩ := S1.out.all
  obtain ⟨b, off, rfl, hb, hcs⟩ := I1.out (by omega)
  have hc0 : w1.cell? ⟨b, off, none⟩ = some (.int .i64 (x : Int)) := by have := hcs 0 (by omega); rw [← HD.out] at this; simpa using this
  have It : Hid (Ints w1 (some ⟨b, off, none⟩) t) := Lib.hid (by
    intro hp
    refine ⟨b, off + 1, by omega, hb, fun j hj => ?_⟩
    have := hcs (1 + j) (by omega)
    rw [← HD.out] at this
    rw [Nat.add_assoc, this]
    simp [Nat.add_comm 1 j])
  have hg0 := S1.out.lt
  clear hb1 hcs
  go_wp2_with fail
  have ht0 : t = [] := List.eq_nil_of_length_eq_zero (by omega)
  subst ht0
  have hb2 : Below w1.heap.size w1 (w1.alloc (.cells #[] 3)) := (Below.refl _ _).alloc (Nat.le_refl _) _
  have S2 := Lib.hid (S1.out.next hb2)
  have T2 := Lib.hid (T1.out.next hb2)
  have H2 := Lib.hid (below_next H1.out hb2)
  have hg2 := S2.out.lt
  have M6 := Lib.hid (show MineT 3 (w1.alloc (.cells #[] 3)) w1.heap.size (.slice (some ⟨w1.heap.size, 0, none⟩) 0 0) [] from MineT.new 3 w1 [] w1.heap.size (Nat.le_refl _) (by simp))
  have hz2 : (w1.alloc (.cells #[] 3)).heap.size = w1.heap.size + 1 := by simp
  generalize w1.alloc (.cells #[] 3) = w2 at *
  rw [← hz2]
  generalize (some (⟨w1.heap.size, 0, none⟩ : Addr)) = A6 at *
  have HZ2 := Lib.hid hz2
  clear hz2 hb2
  have K6 := Lib.hid (Box.new w2 (.slice A6 0 0) (.slice none 0 0))
  have S3 := Lib.hid (S2.out.alloc (.cells #[.slice A6 0 0, .slice none 0 0] 25))
  have T3 := Lib.hid (T2.out.alloc (.cells #[.slice A6 0 0, .slice none 0 0] 25))
  have H3 := Lib.hid (H2.out.alloc H2.out.size (.cells #[.slice A6 0 0, .slice none 0 0] 25))
  have M63 := Lib.hid (M6.out.alloc (.cells #[.slice A6 0 0, .slice none 0 0] 25))
  have g01 := T2.out.lt
  have g02 := H1.out.size
  have g03 := M6.out.lt
  generalize w2.alloc (.cells #[.slice A6 0 0, .slice none 0 0] 25) = W2 at *
  generalize hg6 : w2.heap.size = g6 at *
  have HG6 := Lib.hid hg6
  have HG03 := Lib.hid g03
  clear hg6 g03 s0 s1 s2 s3 hc0
  refine (places_any _ _ d _ (by omega) (ID.out.below H3.out)).mono ?_
  rintro r w3 ⟨lv, bO, rfl, hout, hb3⟩
  rw [HSZ.out] at hout
  obtain ⟨AO, co, rfl, _⟩ := hout.view
  have OUT := Lib.hid hout
  have K63 := Lib.hid (K6.out.next hb3)
  have S4 := Lib.hid (S3.out.next hb3)
  have T4 := Lib.hid (T3.out.next hb3)
  have H4 := Lib.hid (below_next H3.out hb3)
  have M64 := Lib.hid (M63.out.below hb3 (Nat.le_refl _))
  have h63 := K63.out.lt
  clear hb3 hout
  go_wp2
  go_loopw [8] (fun j wr => ∃ (q : Nat) (V : Value), q ≤ v.length ∧ j = .int .i64 q ∧ w3.grownBy wr (some g6) ∧ Box wr g6 (.slice A6 0 0) V ∧ MineT 2 wr w3.heap.size V (part v k s q))
    (fun j _ => v.length - (intOf j).toNat)
  case atStart => exact ⟨0, _, Nat.zero_le _, rfl, World.grownBy.refl _ _, K63.out, by rw [part_zero]; exact MineT.nil _ _ _⟩
  case round =>
    obtain ⟨q, V, hq, rfl, hgr, hbx, hmv⟩ := hrel
    have HGR := Lib.hid hgr
    have HBX := Lib.hid hbx
    have HMV := Lib.hid hmv
    have hsz3 := hgr.size
    have S5 := Lib.hid (S4.out.grown hgr (by simp; omega))
    have T5 := Lib.hid (T4.out.grown hgr (by simp; omega))
    have hBw := Lib.hid (below_turned H4.out hgr (by omega))
    clear hgr hbx hmv
    by_cases hlt : q < v.length
    · obtain ⟨A', c', e', hat⟩ := (OUT.out.grown K63.out HGR.out).view
      injection e' with e1 e2 e3
      subst e1 e3
      obtain ⟨bq, Aq, cq, rfl, hcq, hiq⟩ := hat q hlt
      obtain ⟨bb, oo, rfl, hbb, hcc⟩ := hiq (by rw [dg_length]; omega)
      have hdq : wr.cell? ⟨bb, oo, none⟩ = some (.int .i64 ((dg d q).getD 0 0)) := hcc 0 (by rw [dg_length]; omega)
      have hiff := HH.out q hlt
      obtain ⟨bv, ov, hBv, hbv, hcv⟩ := IV.out.below hBw.out (by omega)
      have hcv' := hcv q hlt
      have hdl : 0 < (d.length : Int) := by omega
      clear hat hcc hcv e2 hiq
      by_cases hin : k * s ≤ q ∧ q < k * s + s
      · rw [hiff.2 hin] at hdq
        have HP := Lib.hid (part_in hin.1 hin.2 hlt)
        have hpl := part_length v k s q
        clear hiff hin
        have hkk : ((k : Int) == (k : Int)) = true := by simp
        subst hBv
        obtain ⟨c0, c1, _, _⟩ := S5.out.all
        obtain ⟨x0, x1, x2, x3⟩ := HBX.out.all
        generalize hY : v.getD q 0 = y at *
        have HY := Lib.hid hY
        clear hY
        go_wp2_with fail
        have hmW := Lib.hid (show MineT 2 (wr.drew.alloc (.cells #[.int .i64 y] 2)) w3.heap.size V (part v k s q) from HMV.out.alloc _)
        have hyW := Lib.hid (show Ints (wr.drew.alloc (.cells #[.int .i64 y] 2)) (some ⟨wr.heap.size, 0, none⟩) [y] from (MineT.new 2 wr.drew [y] 0 (Nat.zero_le _) (by unfold maxLen; simp)).ints')
        have hbW := Lib.hid (show Box (wr.drew.alloc (.cells #[.int .i64 y] 2)) g6 (.slice A6 0 0) V from HBX.out.alloc _)
        have hgW := Lib.hid (show w3.grownBy (wr.drew.alloc (.cells #[.int .i64 y] 2)) (some g6) from turned_alloc (turned_drew HGR.out) _)
        have hzz : (wr.alloc (.cells #[.int .i64 y] 2)).cell? ⟨g6, 1, none⟩ = some V := (HBX.out.alloc _).c1
        go_region_law ((refine step_appI numL Try.underlying23 rfl (.tmp 55) (.tmp 61) rfl w3.heap.size V (part v k s q) (by simp [Act.eval]) hmW.out (some ⟨wr.heap.size, 0, none⟩) 1 [y] (by simp [Act.eval]) hyW.out (by simp; omega) (by simp; omega) ?_; intro V' w5 hm5 hg5 ha5; obtain ⟨A5, c5, rfl, _⟩ := hm5.ints; obtain ⟨z0, z1, z2, z3⟩ := (hbW.out.grown hg5 (fun e => by have := HMV.out.block g6 e.symm; omega)).all))
        all_goals
          go_wp2
          go_roundw
          case rel => exact ⟨q + 1, _, by omega, by go_num, turned_set (turned_grown hgW.out hg5 HMV.out.block) 1 _, (hbW.out.grown hg5 (fun e => by have := HMV.out.block g6 e.symm; omega)).set1 _, by rw [HP.out]; have hh := hm5.setCell (p := ⟨g6, 1, none⟩) (fun e => by have := hm5.block g6 e; omega) (.slice A5 ((part v k s q).length + 1) c5); rw [List.length_append] at hh; exact hh⟩
          case measure => simp [intOf]; omega
      · have hne : ((dg d q).getD 0 0 == (k : Int)) = false := by simpa using fun e => hin (hiff.1 e)
        have HP := Lib.hid (part_out (v := v) (i := k) (s := s) (q := q) (by omega) hlt)
        clear hiff hin
        generalize (dg d q).getD 0 0 = y at *
        go_wp2
        go_roundw
        case rel => exact ⟨q + 1, V, by omega, by go_num, HGR.out, HBX.out, by rw [HP.out]; exact HMV.out⟩
        case measure => simp [intOf]; omega
    · obtain rfl : q = v.length := by omega
      obtain ⟨AV, cV, rfl, _⟩ := HMV.out.ints
      obtain ⟨x0, x1, _, _⟩ := HBX.out.all
      obtain ⟨y0, y1, y2, y3⟩ := T5.out.all
      have hgT := T1.out.lt
      have hgT4 := T4.out.lt
      go_wp2
      have T := (T5.out.set0 (.slice A6 0 0)).set1 (.slice AV (part v k s v.length).length cV)
      obtain ⟨t0, t1, _, _⟩ := T.all
      refine bodyPost_ret (v := .tuple #[.agg #[.slice A6 0 0, .slice AV (part v k s v.length).length cV], .bool true]) (by simp [results, Try.results12, go_sem, t0, t1]) rfl ?_
      have hm6 : MineT 3 wr w1.heap.size (.slice A6 0 0) [] := own_grown M64.out K63.out (by decide) HGR.out
      have hic := isCell_of (base := w.heap.size) (hm6.box hgT (.slice A6 0 0) (.slice AV (part v k s v.length).length cV)) (HMV.out.box hgT4 (.slice A6 0 0) (.slice AV (part v k s v.length).length cV)) H1.out.size H4.out.size
      rw [part_all] at hic ⊢
      exact ⟨_, rfl, hic, (hBw.out.setCell (by simp) _).setCell (by simp) _⟩


theorem ritem_yes (A : Option Addr) (c : Nat) (d : List Int) (B : Option Addr) (c2 : Nat) (v : List Int) (i : Int) (w : World) (hcd : d.length ≤ c) (hcm : c ≤ maxLen) (id : Ints w A d) (iv : Ints w B v) (h : itemB d v.length i = true) :
    Calls Try.prog 12 #[.agg #[.slice A d.length c, .slice B v.length c2], .int .i64 i] w (RetC w d.tail (piece v i.toNat (sizeI d.tail).toNat) (.bool true)) := by
  by_cases hc : c = 1
  · exact ritem_yes1 A c d B c2 v i w hcd hcm id iv h hc
  · exact ritem_yes2 A c d B c2 v i w hcd hcm id iv h hc
end Go.Proofs.Ytknphbkmghflcaa.Sh
