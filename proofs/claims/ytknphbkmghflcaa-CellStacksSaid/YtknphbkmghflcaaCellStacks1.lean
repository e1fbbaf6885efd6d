/-
  rifflelaw03.CellStacks returns true for any cells. Conditions: as told in each.
-/
import Derived.Test.YtknphbkmghflcaaCellRStack
import Derived.Test.YtknphbkmghflcaaCellLives
namespace Go.Proofs.Ytknphbkmghflcaa.Sh
open Go.RowKit
set_option linter.unusedVariables false

/-- Both answers of Stack are alike. -/
theorem stack_both (A : Option Addr) (c : Nat) (L : List Two) (hL : L.length ≤ 70) (hs : SmallL L) : ∃ (D V : List Int) (e : Int), D.length ≤ 1000 ∧ V.length ≤ 1000 ∧ ∀ w, Cells w A L →
    Calls Try.prog 25 #[.slice A L.length c] w (RetC w D V (.int .i64 e)) ∧ Calls Try.prog 26 #[.slice A L.length c] w (RetC w D V (.int .i64 e)) := by
  cases hLL : L with
  | nil => exact ⟨[], [], 1, by simp, by simp, fun w _ => ⟨stack_nil A c w, rstack_nil A c w⟩⟩
  | cons x M =>
    obtain ⟨d0, v0⟩ := x
    rw [← hLL]
    have h0 : ∃ h : 0 < L.length, L[0] = (d0, v0) := by subst hLL; exact ⟨by simp, rfl⟩
    by_cases hR : L.all pR = true
    · by_cases hA : L.all (pD d0) = true
      · by_cases hD : rightB ((L.length : Int) :: d0) = true
        · refine ⟨(L.length : Int) :: d0, catV L, 0, ?_, ?_, fun w hi => ⟨stack_ok A c L d0 v0 w hL hs hi h0 hR hA hD, rstack_any A c L d0 v0 w _ _ _ hL hs hi h0 (.inr (.inr (.inr ⟨hR, hA, hD, rfl, rfl, rfl⟩)))⟩⟩
          · have := (rightB_all hD).1; omega
          · obtain ⟨h, e0⟩ := h0
            obtain ⟨q3, qa, q64⟩ := rightB_all hD
            have hlen : ∀ x ∈ L, x.2.length = v0.length := fun x hx => by
              have h1 := List.all_eq_true.1 hR x hx
              have h2 : d0 = x.1 := by simpa [pD] using List.all_eq_true.1 hA x hx
              have h3 := List.all_eq_true.1 hR (d0, v0) (e0 ▸ List.getElem_mem h)
              have h4 := (cellB_parts h1).2
              have h5 : (v0.length : Int) = sizeI d0 := (cellB_parts h3).2
              rw [← h2] at h4
              omega
            have hv := catV_len hlen
            have h3 := List.all_eq_true.1 hR (d0, v0) (e0 ▸ List.getElem_mem h)
            obtain ⟨hr0, hn0⟩ := cellB_parts h3
            have hn0' : (v0.length : Int) = sizeI d0 := hn0
            have e2 : sizeI d0 = prod d0 := by have hr : rightB d0 = true := hr0; simp [sizeI, hr]
            rw [prod_cons, ← e2, ← hn0', ← Int.natCast_mul] at q64
            omega
        · exact ⟨[], [], 4, by simp, by simp, fun w hi => ⟨stack_more A c L d0 v0 w hL hs hi h0 hR 4 (.inr ⟨hA, by simpa using hD, rfl⟩), rstack_any A c L d0 v0 w _ _ _ hL hs hi h0 (.inr (.inr (.inl ⟨hR, hA, by simpa using hD, rfl, rfl, rfl⟩)))⟩⟩
      · have hA' : L.all (pD d0) = false := Bool.eq_false_iff.2 hA
        exact ⟨[], [], 3, by simp, by simp, fun w hi => ⟨stack_more A c L d0 v0 w hL hs hi h0 hR 3 (.inl ⟨hA', rfl⟩), rstack_any A c L d0 v0 w _ _ _ hL hs hi h0 (.inr (.inl ⟨hR, hA', rfl, rfl, rfl⟩))⟩⟩
    · have hR' : L.all pR = false := Bool.eq_false_iff.2 hR
      exact ⟨[], [], 1, by simp, by simp, fun w hi => ⟨stack_wrong A c L w hL hs hi h0.1 hR', rstack_any A c L d0 v0 w _ _ _ hL hs hi h0 (.inl ⟨hR', rfl, rfl, rfl⟩)⟩⟩

set_option maxHeartbeats 4000000 in
set_option maxRecDepth 100000 in
theorem stacks_any (A : Option Addr) (c : Nat) (L : List Two) (w : World) (hi : Cells w A L) :
    Calls Try.prog 5 #[.slice A L.length c] w fun e w' => e = .returned (.bool true) ∧ Below w.heap.size w w' := by
  by_cases hL : L.length ≤ 70
  · have HI := Lib.hid hi
    have HBOTH := Lib.hid (stack_both A c L hL)
    clear hi
    have hgt : decide ((L.length : Int) > 70) = false := by simp; omega
    go_enter Try.func5, Try.ntmps5
    go_wp2_with fail
    go_loopw [15] (fun j wr => ∃ k : Nat, k ≤ L.length ∧ j = .int .i64 (k : Int) ∧ SmallL (L.take k) ∧ Below w.heap.size w wr) (fun j _ => L.length - (intOf j).toNat)
    case atStart => exact ⟨0, Nat.zero_le _, rfl, fun x hx => by simp at hx, Below.refl _ _⟩
    case round =>
      obtain ⟨k, hk, rfl, hsm, hbel⟩ := hrel
      have HSM := Lib.hid hsm
      have HB := Lib.hid hbel
      clear hsm hbel
      by_cases hlt : k < L.length
      · obtain ⟨b, off, rfl, hb, hcs⟩ := HI.out.below HB.out (by omega)
        obtain ⟨Ai, ci, Bi, ei, h1, h2, h3, h4⟩ := hcs k hlt
        rw [Nat.mul_comm 2 k] at h1 h2
        have HTK := Lib.hid (List.take_succ_eq_append_getElem hlt)
        have i0 : (0 : Int) ≤ (k : Int) := by omega
        have i1 : (k : Int) < (L.length : Int) := by omega
        clear hcs h3 h4
        generalize hx : L[k] = x at *
        obtain ⟨d, v⟩ := x
        clear hx
        simp only at h1 h2
        have LB := Lib.hid (HB.out.alloc HB.out.size (.cells #[.slice Ai d.length ci, .slice Bi v.length ei] 25))
        by_cases hp : d.length ≤ 10 ∧ v.length ≤ 200
        · have HP := Lib.hid hp
          clear hp
          go_wp2_with fail
          refine (great_no _ _ _ _ _ _ _ HP.out.1 HP.out.2).mono ?_
          rintro r w2 ⟨rfl, hb2⟩
          have L2 := Lib.hid (below_next LB.out hb2)
          clear hb2
          go_wp2
          go_roundw
          case rel => exact ⟨k + 1, by omega, by go_num, by rw [HTK.out]; intro y hy; rcases List.mem_append.1 hy with hy | hy; exact HSM.out y hy; (simp at hy; subst hy; exact HP.out), L2.out⟩
          case measure => simp [intOf]; omega
        · have HP := Lib.hid hp
          clear hp
          go_wp2_with fail
          refine (great_yes _ _ _ _ _ _ _ HP.out).mono ?_
          rintro r w2 ⟨rfl, hb2⟩
          have L2 := Lib.hid (below_next LB.out hb2)
          clear hb2
          go_wp2_with fail
          refine (lives_any _).mono ?_
          rintro r w3 ⟨rfl, hb3⟩
          have L3 := Lib.hid (below_next L2.out hb3)
          clear hb3
          go_wp2
          go_ret
          exact ⟨rfl, L3.out⟩
      · obtain rfl : k = L.length := by omega
        have hs := HSM.out
        rw [List.take_length] at hs
        obtain ⟨D, V, e, hD, hV, hboth⟩ := HBOTH.out hs
        have HBT := Lib.hid hboth
        clear hs hboth HSM HBOTH
        go_wp2_with fail
        refine (HBT.out _ (HI.out.below HB.out)).1.mono ?_
        rintro r w5 ⟨y, rfl, ⟨A5, c5, B5, e5, rfl, j1, j2, j3⟩, hb5⟩
        have E5 := Lib.hid (Box.new w5 (.slice A5 D.length c5) (.slice B5 V.length e5))
        have L5 := Lib.hid ((below_next HB.out hb5).alloc (below_next HB.out hb5).size (.cells #[.slice A5 D.length c5, .slice B5 V.length e5] 25))
        have P5 := Lib.hid (j1.alloc (.cells #[.slice A5 D.length c5, .slice B5 V.length e5] 25)).ints
        have Q5 := Lib.hid (j2.alloc (.cells #[.slice A5 D.length c5, .slice B5 V.length e5] 25)).ints
        clear hb5 j1 j2 j3
        go_upto_region 10 with (fail)
        generalize w5.alloc (.cells #[.slice A5 D.length c5, .slice B5 V.length e5] 25) = W5 at *
        generalize w5.heap.size = g5 at *
        go_wp2_with fail
        refine (HBT.out _ (HI.out.below L5.out)).2.mono ?_
        rintro r w7 ⟨y, rfl, ⟨A7, c7, B7, e7, rfl, j1, j2, j3⟩, hb7⟩
        have E7 := Lib.hid ((E5.out.next hb7).alloc (.cells #[.slice A7 D.length c7, .slice B7 V.length e7] 25))
        have F7 := Lib.hid (Box.new w7 (.slice A7 D.length c7) (.slice B7 V.length e7))
        have L7 := Lib.hid ((below_next L5.out hb7).alloc (below_next L5.out hb7).size (.cells #[.slice A7 D.length c7, .slice B7 V.length e7] 25))
        have P7 := Lib.hid ((P5.out.below hb7).below (below_box (Below.refl (w7.alloc (.cells #[.slice A7 D.length c7, .slice B7 V.length e7] 25)).heap.size _)))
        have Q7 := Lib.hid ((Q5.out.below hb7).below (below_box (Below.refl (w7.alloc (.cells #[.slice A7 D.length c7, .slice B7 V.length e7] 25)).heap.size _)))
        have R7 := Lib.hid (j1.alloc (.cells #[.slice A7 D.length c7, .slice B7 V.length e7] 25)).ints
        have S7 := Lib.hid (j2.alloc (.cells #[.slice A7 D.length c7, .slice B7 V.length e7] 25)).ints
        clear hb7 j1 j2 j3 E5 L5 P5 Q5
        go_upto_region 11 with (fail)
        generalize w7.alloc (.cells #[.slice A7 D.length c7, .slice B7 V.length e7] 25) = W7 at *
        generalize w7.heap.size = g7 at *
        obtain ⟨q0, q1, _, _⟩ := E7.out.all
        obtain ⟨q2, q3, _, _⟩ := F7.out.all
        go_wp2_with fail
        refine (rsame_refl _ _ D _ _ V _ _ _ _ _ hD hV P7.out Q7.out R7.out S7.out).mono ?_
        rintro r w8 ⟨rfl, hb8⟩
        have L8 := Lib.hid (below_next L7.out hb8)
        clear hb8 q0 q1 q2 q3
        go_wp2_with fail
        refine (lives_any _).mono ?_
        rintro r w9 ⟨rfl, hb9⟩
        have L9 := Lib.hid (below_next L8.out hb9)
        clear hb9
        go_wp2
        go_ret
        exact ⟨rfl, L9.out⟩
  · have hgt : decide ((L.length : Int) > 70) = true := by simp; omega
    clear hi
    go_enter Try.func5, Try.ntmps5
    go_wp2_with fail
    refine (lives_any _).mono ?_
    rintro r w1 ⟨rfl, hb1⟩
    have L1 := Lib.hid hb1
    clear hb1
    go_wp2
    go_ret
    exact ⟨rfl, L1.out⟩
end Go.Proofs.Ytknphbkmghflcaa.Sh
