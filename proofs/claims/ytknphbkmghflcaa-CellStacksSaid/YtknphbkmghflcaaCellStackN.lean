/-
  What cell.Stack answers of cells that may not be stacked: the zero value and why; nothing that was there is written. Condition: at most 70 cells, of at most 10 axes and 200 numbers.
-/
import Derived.Test.YtknphbkmghflcaaCellStack
namespace Go.Proofs.Ytknphbkmghflcaa.Sh
open Go.RowKit
set_option linter.unusedVariables false

set_option maxHeartbeats 2000000 in
theorem stack_nil (A : Option Addr) (c : Nat) (w : World) : Calls Try.prog 25 #[.slice A 0 c] w (RetC w [] [] (.int .i64 1)) := by
  have L0 := Lib.hid (below_box (Below.refl (w.alloc (.cells #[.slice none 0 0, .slice none 0 0] 25)).heap.size _))
  go_enter Try.func25, Try.ntmps25
  go_wp2
  refine bodyPost_ret (v := .tuple #[.agg #[.slice none 0 0, .slice none 0 0], .int .i64 1]) (by simp [results, Try.results25, go_sem]) rfl ?_
  exact ⟨_, rfl, IsCell.none _ _, L0.out⟩

set_option maxHeartbeats 2000000 in
theorem stack_wrong (A : Option Addr) (c : Nat) (L : List Two) (w : World) (hL : L.length ≤ 70) (hs : SmallL L) (hi : Cells w A L) (hpos : 0 < L.length) (hR : L.all pR = false) :
    Calls Try.prog 25 #[.slice A L.length c] w (RetC w [] [] (.int .i64 1)) := by
  have HI := Lib.hid hi
  have HS := Lib.hid hs
  have HR := Lib.hid hR
  have hz0 : ((L.length : Int) == 0) = false := by simp; intro e; subst e; simp at hpos
  have hz1 : L.length ≠ 0 := by omega
  have B2 := Lib.hid (Box.new w (.slice none 0 0) (.slice none 0 0))
  have L0 := Lib.hid (below_box (Below.refl (w.alloc (.cells #[.slice none 0 0, .slice none 0 0] 25)).heap.size _))
  clear hi hs hR
  go_enter Try.func25, Try.ntmps25
  go_wp2_with fail
  refine (allRight_b false HR.out hL HS.out (HI.out.below L0.out)).mono ?_
  rintro e w1 ⟨rfl, hb1⟩
  have B21 := Lib.hid (B2.out.next hb1)
  have L1 := Lib.hid (below_next L0.out hb1)
  clear hb1 B2 L0
  obtain ⟨u0, u1, u2, u3⟩ := B21.out.all
  go_wp2
  have T := (B21.out.set0 (.slice none 0 0)).set1 (.slice none 0 0)
  obtain ⟨t0, t1, _, _⟩ := T.all
  refine bodyPost_ret (v := .tuple #[.agg #[.slice none 0 0, .slice none 0 0], .int .i64 1]) (by simp [results, Try.results25, go_sem, t0, t1]) rfl ?_
  exact ⟨_, rfl, IsCell.none _ _, (L1.out.setCell (by simp) _).setCell (by simp) _⟩

set_option maxHeartbeats 4000000 in
set_option maxRecDepth 100000 in
theorem stack_more (A : Option Addr) (c : Nat) (L : List Two) (d0 v0 : List Int) (w : World) (hL : L.length ≤ 70) (hs : SmallL L) (hi : Cells w A L) (h0 : ∃ h : 0 < L.length, L[0] = (d0, v0)) (hR : L.all pR = true) (e : Int) (hk : (L.all (pD d0) = false ∧ e = 3) ∨ (L.all (pD d0) = true ∧ rightB ((L.length : Int) :: d0) = false ∧ e = 4)) :
    Calls Try.prog 25 #[.slice A L.length c] w (RetC w [] [] (.int .i64 e)) := by
  obtain ⟨hpos, hL0⟩ := h0
  have hsd := hs (d0, v0) (hL0 ▸ List.getElem_mem hpos)
  have hd10 : d0.length ≤ 10 := hsd.1
  have HR := Lib.hid hR
  have HI := Lib.hid hi
  have HS := Lib.hid hs
  have HL0 := Lib.hid hL0
  have hz0 : ((L.length : Int) == 0) = false := by simp; intro e; subst e; simp at hpos
  have hz1 : L.length ≠ 0 := by omega
  have B2 := Lib.hid (Box.new w (.slice none 0 0) (.slice none 0 0))
  have L0 := Lib.hid (below_box (Below.refl (w.alloc (.cells #[.slice none 0 0, .slice none 0 0] 25)).heap.size _))
  have HK := Lib.hid hk
  clear hR hi hs hL0 hsd hk
  go_enter Try.func25, Try.ntmps25
  go_wp2_with fail
  refine (allRight_b true HR.out hL HS.out (HI.out.below L0.out)).mono ?_
  rintro r w1 ⟨rfl, hb1⟩
  have B21 := Lib.hid (B2.out.next hb1)
  have L1 := Lib.hid (below_next L0.out hb1)
  clear hb1 B2 L0
  obtain ⟨b, off, rfl, hbb, hcs⟩ := HI.out.below L1.out hpos
  obtain ⟨A0, c0, B0, e0, k0, k1, k2, k3⟩ := hcs 0 hpos
  rw [HL0.out] at k0 k1 k2 k3
  simp only [Nat.mul_zero, Nat.add_zero] at k0 k1 k2 k3
  have I0 := Lib.hid k2
  clear k2 k3 hcs
  go_upto_region 4 with (fail)
  have B4 := Lib.hid (Box.new w1 (.slice A0 d0.length c0) (.slice B0 v0.length e0))
  have B22 := Lib.hid (B21.out.alloc (.cells #[.slice A0 d0.length c0, .slice B0 v0.length e0] 25))
  have L2 := Lib.hid (L1.out.alloc L1.out.size (.cells #[.slice A0 d0.length c0, .slice B0 v0.length e0] 25))
  have I02 := Lib.hid (I0.out.below (below_box (Below.refl (w1.alloc (.cells #[.slice A0 d0.length c0, .slice B0 v0.length e0] 25)).heap.size _)))
  have g24 := B21.out.lt
  generalize w1.alloc (.cells #[.slice A0 d0.length c0, .slice B0 v0.length e0] 25) = W2 at *
  generalize w1.heap.size = g4 at *
  clear k0 k1 hbb
  go_wp2_with fail
  rcases HK.out with ⟨hA, rfl⟩ | ⟨hA, hD, rfl⟩
  · have HA := Lib.hid hA
    clear hA
    refine (allAlike_b g4 A0 c0 d0 (.slice B0 v0.length e0) false HA.out hL HS.out (HI.out.below L2.out) (by omega) B4.out I02.out).mono ?_
    rintro r w3 ⟨rfl, hb3⟩
    have B23 := Lib.hid (B22.out.next hb3)
    have L3 := Lib.hid (below_next L2.out hb3)
    clear hb3
    obtain ⟨u0, u1, u2, u3⟩ := B23.out.all
    go_wp2
    have T := (B23.out.set0 (.slice none 0 0)).set1 (.slice none 0 0)
    obtain ⟨t0, t1, _, _⟩ := T.all
    refine bodyPost_ret (v := .tuple #[.agg #[.slice none 0 0, .slice none 0 0], .int .i64 3]) (by simp [results, Try.results25, go_sem, t0, t1]) rfl ?_
    exact ⟨_, rfl, IsCell.none _ _, (L3.out.setCell (by simp) _).setCell (by simp) _⟩
  · have HA := Lib.hid hA
    have HD := Lib.hid hD
    clear hA hD
    refine (allAlike_b g4 A0 c0 d0 (.slice B0 v0.length e0) true HA.out hL HS.out (HI.out.below L2.out) (by omega) B4.out I02.out).mono ?_
    rintro r w3 ⟨rfl, hb3⟩
    have B23 := Lib.hid (B22.out.next hb3)
    have B43 := Lib.hid (B4.out.next hb3)
    have L3 := Lib.hid (below_next L2.out hb3)
    have I03 := Lib.hid (I02.out.below hb3)
    obtain ⟨f0, f1, _, _⟩ := B43.out.all
    have g4lt := B43.out.lt
    clear hb3
    have MN := Lib.hid (MineT.new 3 w3 [(L.length : Int)] w3.heap.size (Nat.le_refl _) (by unfold maxLen; simp))
    have I03' := Lib.hid (I03.out.below (below_box (Below.refl (w3.alloc (.cells (cellsI [(L.length : Int)]) 3)).heap.size _)))
    go_wp2_with (at_builtin; refine wpList_appI numI Try.underlying22 rfl (.tmp 29) (.tmp 31) rfl w3.heap.size _ [(L.length : Int)] rfl MN.out _ _ d0 rfl I03'.out (by simp; omega) (by simp) ?_; intro vD w4 hmD hgD haD; obtain ⟨AD, cD, rfl, hiD⟩ := hmD.ints)
    have hb4 : Below w3.heap.size w3 w4 := ((Below.refl _ w3).alloc (Nat.le_refl _) _).grown hgD (by simp) MN.out.block
    have HID := Lib.hid (show Ints w4 AD ((L.length : Int) :: d0) from hiD)
    have B24 := Lib.hid (B23.out.next hb4)
    have L4 := Lib.hid (below_next L3.out hb4)
    clear hmD hgD haD hiD hb4 f0 f1
    have hzz : zeroD ((L.length : Int) :: d0) = [] ∧ zeroV ((L.length : Int) :: d0) = [] := by simp [zeroD, zeroV, HD.out, sizeI]
    have HZZ := Lib.hid hzz
    clear hzz
    go_wp2_with fail
    refine (zero_any _ _ ((L.length : Int) :: d0) _ (by simp; omega) HID.out).mono ?_
    rintro r w5 ⟨y, rfl, hic, hb5⟩
    rw [HZZ.out.1, HZZ.out.2] at hic
    obtain ⟨A5, c5, B5, e5, rfl, j1, j2, j3⟩ := hic
    have B25 := Lib.hid (B24.out.next hb5)
    have L5 := Lib.hid (below_next L4.out hb5)
    clear hb5 j1 j2 j3
    go_upto_region 8 with (fail)
    have B6 := Lib.hid (Box.new w5 (.slice A5 0 c5) (.slice B5 0 e5))
    have B26 := Lib.hid (B25.out.alloc (.cells #[.slice A5 0 c5, .slice B5 0 e5] 25))
    have L6 := Lib.hid (L5.out.alloc L5.out.size (.cells #[.slice A5 0 c5, .slice B5 0 e5] 25))
    generalize w5.alloc (.cells #[.slice A5 0 c5, .slice B5 0 e5] 25) = W6 at *
    generalize w5.heap.size = g6 at *
    obtain ⟨f0, f1, _, _⟩ := B6.out.all
    go_wp2_with fail
    refine (cright_no _ _ [] _ _ _ _ (by simp) (fun h => absurd h (by simp)) (by decide)).mono ?_
    rintro r w7 ⟨rfl, hb7⟩
    have B27 := Lib.hid (B26.out.next hb7)
    have L7 := Lib.hid (below_next L6.out hb7)
    clear hb7 f0 f1
    obtain ⟨u0, u1, u2, u3⟩ := B27.out.all
    go_wp2
    have T := (B27.out.set0 (.slice none 0 0)).set1 (.slice none 0 0)
    obtain ⟨t0, t1, _, _⟩ := T.all
    refine bodyPost_ret (v := .tuple #[.agg #[.slice none 0 0, .slice none 0 0], .int .i64 4]) (by simp [results, Try.results25, go_sem, t0, t1]) rfl ?_
    exact ⟨_, rfl, IsCell.none _ _, (L7.out.setCell (by simp) _).setCell (by simp) _⟩
end Go.Proofs.Ytknphbkmghflcaa.Sh
