/-
  What riffleref03.Stack answers of any cells; nothing that was there is written. Condition: at most 70 cells, of at most 10 axes and 200 numbers.
-/
import Derived.Test.YtknphbkmghflcaaCellStackN
import Derived.Test.YtknphbkmghflcaaCellTells1
namespace Go.Proofs.Ytknphbkmghflcaa.Sh
open Go.RowKit
set_option linter.unusedVariables false

set_option maxHeartbeats 2000000 in
theorem rstack_nil (A : Option Addr) (c : Nat) (w : World) : Calls Try.prog 26 #[.slice A 0 c] w (RetC w [] [] (.int .i64 1)) := by
  have L0 := Lib.hid (below_box (Below.refl (w.alloc (.cells #[.slice none 0 0, .slice none 0 0] 25)).heap.size _))
  go_enter Try.func26, Try.ntmps26
  go_wp2
  refine bodyPost_ret (v := .tuple #[.agg #[.slice none 0 0, .slice none 0 0], .int .i64 1]) (by simp [results, Try.results26, go_sem]) rfl ?_
  exact ⟨_, rfl, IsCell.none _ _, L0.out⟩

theorem catV_bd : ∀ M : List Two, SmallL M → (catV M).length ≤ M.length * 200
  | [], _ => by simp [catV]
  | x :: M, h => by
    have ih := catV_bd M fun y hy => h y (List.mem_cons_of_mem _ hy)
    have hx := (h x (by simp)).2
    unfold catV at ih ⊢
    rw [List.map_cons, List.flatten_cons, List.length_append, List.length_cons, Nat.add_mul]
    omega
theorem catV_bd_take {L : List Two} (h : SmallL L) (k : Nat) (hk : k ≤ 70) : (catV (L.take k)).length ≤ 14000 := by
  have h1 := catV_bd (L.take k) fun y hy => h y (List.mem_of_mem_take hy)
  have h2 : (L.take k).length ≤ k := by simp; omega
  omega
theorem keep2 {W w1 : World} {p1 p2 : Addr} {x1 x2 : Value} (hb : Below W.heap.size W w1) (h : W.cell? p1 = some x1 ∧ W.cell? p2 = some x2) : w1.cell? p1 = some x1 ∧ w1.cell? p2 = some x2 :=
  ⟨(hb.cell (World.block_lt_of_cell? W p1 h.1)).trans h.1, (hb.cell (World.block_lt_of_cell? W p2 h.2)).trans h.2⟩
theorem refSame_q (A : Option Addr) (c : Nat) (a : List Int) (B : Option Addr) (d : Nat) (b : List Int) (w : World) (q : Bool) (hq : decide (b = a) = q) (hl : a.length ≤ maxLen) (hl2 : b.length ≤ maxLen) (ha : Ints w A a) (hb : Ints w B b) :
    Calls Try.prog 36 #[.slice A a.length c, .slice B b.length d] w fun e w' => e = .returned (.bool q) ∧ ∃ n, w' = w.drewN n :=
  (refSame_any A c a B d b w hl hl2 ha hb).mono fun _ _ ⟨e, n, h⟩ => ⟨by rw [e, ← hq]; congr 2; exact decide_eq_decide.2 eq_comm, n, h⟩

set_option maxHeartbeats 6400000 in
set_option maxRecDepth 100000 in
theorem rstack_any (A : Option Addr) (c : Nat) (L : List Two) (d0 v0 : List Int) (w : World) (D V : List Int) (e : Int) (hL : L.length ≤ 70) (hs : SmallL L) (hi : Cells w A L) (h0 : ∃ h : 0 < L.length, L[0] = (d0, v0))
    (hk : (L.all pR = false ∧ D = [] ∧ V = [] ∧ e = 1) ∨ (L.all pR = true ∧ L.all (pD d0) = false ∧ D = [] ∧ V = [] ∧ e = 3) ∨ (L.all pR = true ∧ L.all (pD d0) = true ∧ rightB ((L.length : Int) :: d0) = false ∧ D = [] ∧ V = [] ∧ e = 4) ∨ (L.all pR = true ∧ L.all (pD d0) = true ∧ rightB ((L.length : Int) :: d0) = true ∧ D = (L.length : Int) :: d0 ∧ V = catV L ∧ e = 0)) :
    Calls Try.prog 26 #[.slice A L.length c] w (RetC w D V (.int .i64 e)) := by
  obtain ⟨hpos, hL0⟩ := h0
  have hsd := hs (d0, v0) (hL0 ▸ List.getElem_mem hpos)
  have hd10 : d0.length ≤ 10 := hsd.1
  have HI := Lib.hid hi
  have HS := Lib.hid hs
  have HL0 := Lib.hid hL0
  have HK := Lib.hid hk
  have hz0 : ((L.length : Int) == 0) = false := by simp; intro e; subst e; simp at hpos
  have hz1 : L.length ≠ 0 := by omega
  have B2 := Lib.hid (Box.new w (.slice none 0 0) (.slice none 0 0))
  have L0 := Lib.hid (below_box (Below.refl (w.alloc (.cells #[.slice none 0 0, .slice none 0 0] 25)).heap.size _))
  clear hi hs hL0 hsd hk
  go_enter Try.func26, Try.ntmps26
  go_wp2_with fail
  generalize w.alloc (.cells #[.slice none 0 0, .slice none 0 0] 25) = w1 at *
  go_loopw [4] (fun j wr => ∃ k : Nat, k ≤ L.length ∧ j = .int .i64 (k : Int) ∧ (L.take k).all pR = true ∧ Below w1.heap.size w1 wr) (fun j _ => L.length - (intOf j).toNat)
  case atStart => exact ⟨0, Nat.zero_le _, rfl, by simp, Below.refl _ _⟩
  case round =>
    obtain ⟨k, hk, rfl, hall, hbel⟩ := hrel
    have HA := Lib.hid hall
    have HB := Lib.hid hbel
    have LB := Lib.hid (below_next L0.out hbel)
    have B3 := Lib.hid (B2.out.next hbel)
    clear hall hbel
    by_cases hlt : k < L.length
    · obtain ⟨b, off, rfl, hb, hcs⟩ := HI.out.below LB.out (by omega)
      obtain ⟨Ai, ci, Bi, ei, h1, h2, h3, h4⟩ := hcs k hlt
      rw [Nat.mul_comm 2 k] at h1 h2
      have hsm := HS.out L[k] (List.getElem_mem hlt)
      have hT := Lib.hid (all_take_snoc pR L k hlt)
      have hbad := fun h => Lib.hid (all_bad pR L k hlt h)
      have i0 : (0 : Int) ≤ (k : Int) := by omega
      have i1 : (k : Int) < (L.length : Int) := by omega
      have H3 := Lib.hid h3
      clear hcs h3 h4
      generalize hx : L[k] = x at *
      obtain ⟨d, v⟩ := x
      have HX := Lib.hid hx
      clear hx
      simp only at h1 h2 hsm
      by_cases hp : pR (d, v) = true
      · have HP := Lib.hid hp
        clear hp hbad
        go_wp2_with fail
        refine (rright_b _ _ d _ _ _ _ true HP.out (by unfold maxLen; omega) H3.out).mono ?_
        rintro r w2 ⟨rfl, hb2⟩
        have L2 := Lib.hid (below_next HB.out hb2)
        clear hb2
        go_wp2
        go_roundw
        case rel => exact ⟨k + 1, by omega, by go_num, by rw [hT.out, HA.out]; exact HP.out, L2.out⟩
        case measure => simp [intOf]; omega
      · have HP := Lib.hid (show pR (d, v) = false by simpa using hp)
        have HZ := hbad HP.out
        clear hp hbad
        obtain ⟨rfl, rfl, rfl⟩ : D = [] ∧ V = [] ∧ e = 1 := by
          have hz := HZ.out
          rcases HK.out with ⟨_, a1, a2, a3⟩ | ⟨a0, _⟩ | ⟨a0, _⟩ | ⟨a0, _⟩
          · exact ⟨a1, a2, a3⟩
          · rw [hz] at a0; cases a0
          · rw [hz] at a0; cases a0
          · rw [hz] at a0; cases a0
        go_wp2_with fail
        refine (rright_b _ _ d _ _ _ _ false HP.out (by unfold maxLen; omega) H3.out).mono ?_
        rintro r w2 ⟨rfl, hb2⟩
        have L2 := Lib.hid (below_next LB.out hb2)
        have B4 := Lib.hid (B3.out.next hb2)
        clear hb2
        obtain ⟨u0, u1, u2, u3⟩ := B4.out.all
        go_wp2
        have T := (B4.out.set0 (.slice none 0 0)).set1 (.slice none 0 0)
        obtain ⟨t0, t1, _, _⟩ := T.all
        refine bodyPost_ret (v := .tuple #[.agg #[.slice none 0 0, .slice none 0 0], .int .i64 1]) (by simp [results, Try.results26, go_sem, t0, t1]) rfl ?_
        exact ⟨_, rfl, IsCell.none _ _, (L2.out.setCell (by simp) _).setCell (by simp) _⟩
    · obtain rfl : k = L.length := by omega
      have hR := HA.out
      rw [List.take_length] at hR
      have HR := Lib.hid hR
      clear hR HA
      obtain ⟨b, off, rfl, hbb, hcs⟩ := HI.out.below LB.out hpos
      obtain ⟨A0, c0, B0, e0, k0, k1, k2, k3⟩ := hcs 0 hpos
      rw [HL0.out] at k0 k1 k2 k3
      simp only [Nat.mul_zero, Nat.add_zero] at k0 k1 k2 k3
      have I0 := Lib.hid k2
      clear k2 k3 hcs
      have MN := Lib.hid (MineT.new 3 wr [(L.length : Int)] wr.heap.size (Nat.le_refl _) (by unfold maxLen; simp))
      have I03' := Lib.hid (I0.out.below (below_box (Below.refl (wr.alloc (.cells (cellsI [(L.length : Int)]) 3)).heap.size _)))
      go_wp2_with (at_builtin; refine wpList_appI numI Try.underlying22 rfl (.tmp 26) (.tmp 30) rfl wr.heap.size _ [(L.length : Int)] rfl MN.out _ _ d0 rfl I03'.out (by simp; omega) (by simp) ?_; intro vD w4 hmD hgD haD; obtain ⟨AD, cD, rfl, hiD⟩ := hmD.ints)
      have hb4 : Below wr.heap.size wr w4 := ((Below.refl _ wr).alloc (Nat.le_refl _) _).grown hgD (by simp) MN.out.block
      have MD := Lib.hid (show MineT 3 w4 wr.heap.size (.slice AD (d0.length + 1) cD) ((L.length : Int) :: d0) from hmD)
      have L4 := Lib.hid (below_next LB.out hb4)
      have B4 := Lib.hid (B3.out.next hb4)
      have K5 := Lib.hid (Box.new w4 (.slice AD (d0.length + 1) cD) (.slice none 0 0))
      have B5 := Lib.hid (B4.out.alloc (.cells #[.slice AD (d0.length + 1) cD, .slice none 0 0] 25))
      have L5 := Lib.hid (L4.out.alloc L4.out.size (.cells #[.slice AD (d0.length + 1) cD, .slice none 0 0] 25))
      have M5 := Lib.hid (MD.out.alloc (.cells #[.slice AD (d0.length + 1) cD, .slice none 0 0] 25))
      have g1 := B4.out.lt
      have g2 := hb4.size
      have g3 := B3.out.lt
      clear hmD hgD haD hiD hb4 k0 k1 hbb I0 MN I03' MD L4 B4 B3 HB
      generalize w4.alloc (.cells #[.slice AD (d0.length + 1) cD, .slice none 0 0] 25) = W5 at *
      generalize w4.heap.size = g5 at *
      have h5 := K5.out.lt
      have HWR := Lib.hid LB.out.size
      generalize wr.heap.size = g4 at *
      go_loopw [6] (fun j wr => ∃ (k : Nat) (U : Value), k ≤ L.length ∧ j = .int .i64 (k : Int) ∧ (L.take k).all (pD d0) = true ∧ W5.grownBy wr (some g5) ∧ Box wr g5 (.slice AD (d0.length + 1) cD) U ∧ MineT 2 wr W5.heap.size U (catV (L.take k))) (fun j _ => L.length - (intOf j).toNat)
      case atStart => exact ⟨0, _, Nat.zero_le _, rfl, by simp, World.grownBy.refl _ _, K5.out, by simp only [List.take_zero]; exact MineT.nil _ _ _⟩
      case round =>
        obtain ⟨k, U, hk2, rfl, hall, hgr, hbx, hmv⟩ := hrel
        have HA := Lib.hid hall
        have HGR := Lib.hid hgr
        have HBX := Lib.hid hbx
        have HMV := Lib.hid hmv
        have B6 := Lib.hid (B5.out.grown hgr (by simp; omega))
        have LB2 := Lib.hid (below_turned L5.out hgr (by omega))
        have hsz := hgr.size
        clear hall hgr hbx hmv
        by_cases hlt : k < L.length
        · obtain ⟨b', off', eb, hbb, hcs⟩ := HI.out.below LB2.out hpos
          injection eb with eb
          injection eb with eb1 eb2
          subst eb1 eb2
          obtain ⟨Ai, ci, Bi, ei, h1, h2, h3, h4⟩ := hcs k hlt
          obtain ⟨A0, c0, B0, e0, k0, k1, k2, k3⟩ := hcs 0 hpos
          rw [HL0.out] at k0 k1 k2 k3
          simp only [Nat.mul_zero, Nat.add_zero] at k0 k1 k2 k3
          rw [Nat.mul_comm 2 k] at h1 h2
          have hsm := HS.out L[k] (List.getElem_mem hlt)
          have hT := Lib.hid (all_take_snoc (pD d0) L k hlt)
          have hbad := fun h => Lib.hid (all_bad (pD d0) L k hlt h)
          have HCT := Lib.hid (catV_take L k hlt)
          have hbd := catV_bd_take HS.out k (by omega)
          have i0 : (0 : Int) ≤ (k : Int) := by omega
          have i1 : (k : Int) < (L.length : Int) := by omega
          clear hcs k1 k3
          generalize hx : L[k] = x at *
          obtain ⟨d, v⟩ := x
          have HX := Lib.hid hx
          clear hx
          simp only at h1 h2 h3 h4 hsm
          have HCT' : Hid (catV (L.take (k + 1)) = catV (L.take k) ++ v) := HCT
          clear HCT
          have hdm : d.length ≤ maxLen := by unfold maxLen; omega
          have hdm0 : d0.length ≤ maxLen := by unfold maxLen; omega
          by_cases hp : pD d0 (d, v) = true
          · have HP := Lib.hid (show decide (d0 = d) = true from hp)
            clear hp hbad
            go_wp2_with fail
            go_region_held3 (fun w' => w'.cell? ⟨b, off + k * 2, none⟩ = some (.slice Ai d.length ci) ∧ w'.cell? ⟨b, off, none⟩ = some (.slice A0 d0.length c0))
              (first
                | go_keep
                | exact ⟨h1, k0⟩)
              (first
                | (go_at_call 36; refine (refSame_q Ai _ d A0 _ d0 _ true HP.out hdm hdm0 (by exact h3) (by exact k2)).mono ?_; rintro r w7 ⟨rfl, n7, rfl⟩))
            have G7 := Lib.hid (turned_drewN HGR.out (1 + n7))
            have X7 := Lib.hid (HBX.out.drewN (1 + n7))
            have M7 := Lib.hid (show MineT 2 (wr.drewN (1 + n7)) W5.heap.size U (catV (L.take k)) from HMV.out)
            have V7 := Lib.hid (show Ints (wr.drewN (1 + n7)) Bi v from h4)
            have f2 : (wr.drewN (1 + n7)).cell? ⟨b, off + k * 2 + 1, none⟩ = some (.slice Bi v.length ei) := h2
            have hsz7 : W5.heap.size ≤ (wr.drewN (1 + n7)).heap.size := hsz
            obtain ⟨x0, x1, x2, x3⟩ := X7.out.all
            clear HGR HBX h1 h2 h3 h4 k0 k2 hsz hbb
            generalize wr.drewN (1 + n7) = w7 at *
            go_wp2_with fail
            have hmW := Lib.hid (show MineT 2 w7.drew W5.heap.size U (catV (L.take k)) from M7.out)
            have hyW := Lib.hid (show Ints w7.drew Bi v from V7.out)
            have hbW := Lib.hid (show Box w7.drew g5 (.slice AD (d0.length + 1) cD) U from X7.out)
            have hgW := Lib.hid (show W5.grownBy w7.drew (some g5) from turned_drew G7.out)
            go_region_law ((refine step_appI numL Try.underlying23 rfl (.tmp 52) (.tmp 57) rfl W5.heap.size U (catV (L.take k)) (by simp [Act.eval]) hmW.out Bi ei v (by simp [Act.eval]) hyW.out (by omega) (by first | exact hsz7 | (simp; omega)) ?_; intro V' w8 hm8 hg8 ha8; obtain ⟨A8, c8, rfl, _⟩ := hm8.ints; obtain ⟨z0, z1, z2, z3⟩ := (hbW.out.grown hg8 (fun e => by have := M7.out.block g5 e.symm; omega)).all))
            all_goals
              go_wp2
              go_roundw
              case rel => exact ⟨k + 1, _, by omega, by go_num, by rw [hT.out, HA.out]; exact HP.out, turned_set (turned_grown hgW.out hg8 M7.out.block) 1 _, (hbW.out.grown hg8 (fun e => by have := M7.out.block g5 e.symm; omega)).set1 _, by rw [HCT'.out]; have hh := hm8.setCell (p := ⟨g5, 1, none⟩) (fun e => by have := hm8.block g5 e; omega) (.slice A8 ((catV (L.take k)).length + v.length) c8); rw [List.length_append] at hh; exact hh⟩
              case measure => simp [intOf]; omega
          · have HP := Lib.hid (show decide (d0 = d) = false from (Bool.eq_false_iff.2 hp : pD d0 (d, v) = false))
            have HZ := hbad HP.out
            clear hp hbad
            obtain ⟨rfl, rfl, rfl⟩ : D = [] ∧ V = [] ∧ e = 3 := by
              have hz := HZ.out
              rcases HK.out with ⟨a0, _⟩ | ⟨_, _, a1, a2, a3⟩ | ⟨_, a0, _⟩ | ⟨_, a0, _⟩
              · rw [HR.out] at a0; cases a0
              · exact ⟨a1, a2, a3⟩
              · rw [hz] at a0; cases a0
              · rw [hz] at a0; cases a0
            go_wp2_with fail
            go_region_held3 (fun w' => w'.cell? ⟨b, off + k * 2, none⟩ = some (.slice Ai d.length ci) ∧ w'.cell? ⟨b, off, none⟩ = some (.slice A0 d0.length c0))
              (first
                | go_keep
                | exact ⟨h1, k0⟩)
              (first
                | (go_at_call 36; refine (refSame_q Ai _ d A0 _ d0 _ false HP.out hdm hdm0 (by exact h3) (by exact k2)).mono ?_; rintro r w7 ⟨rfl, n7, rfl⟩))
            obtain ⟨u0, u1, u2, u3⟩ := (B6.out.drewN (1 + n7)).all
            have L7 := Lib.hid (below_drewN LB2.out (1 + n7))
            have B7 := Lib.hid (B6.out.drewN (1 + n7))
            clear h1 h2 h3 h4 k0 k2
            generalize wr.drewN (1 + n7) = w7 at *
            go_wp2
            have T := (B7.out.set0 (.slice none 0 0)).set1 (.slice none 0 0)
            obtain ⟨t0, t1, _, _⟩ := T.all
            refine bodyPost_ret (v := .tuple #[.agg #[.slice none 0 0, .slice none 0 0], .int .i64 3]) (by simp [results, Try.results26, go_sem, t0, t1]) rfl ?_
            exact ⟨_, rfl, IsCell.none _ _, (L7.out.setCell (by simp) _).setCell (by simp) _⟩
        · obtain rfl : k = L.length := by omega
          have hA := HA.out
          rw [List.take_length] at hA
          have HAA := Lib.hid hA
          have HM' := HMV.out
          rw [List.take_length] at HM'
          have HMM := Lib.hid HM'
          clear hA HA HM' HMV
          obtain ⟨AV, cV, rfl, _⟩ := HMM.out.ints
          obtain ⟨x0, x1, _, _⟩ := HBX.out.all
          have MDW : Hid (MineT 3 wr g4 (.slice AD (d0.length + 1) cD) ((L.length : Int) :: d0)) := Lib.hid (own_grown M5.out K5.out (by decide) HGR.out)
          have ID := Lib.hid (show Ints wr AD ((L.length : Int) :: d0) by obtain ⟨A', c', e', hi'⟩ := MDW.out.ints; injection e' with e1; rw [e1]; exact hi')
          by_cases hD : rightB ((L.length : Int) :: d0) = true
          · have HD := Lib.hid hD
            obtain ⟨rfl, rfl, rfl⟩ : D = (L.length : Int) :: d0 ∧ V = catV L ∧ e = 0 := by
              rcases HK.out with ⟨a0, _⟩ | ⟨_, a0, _⟩ | ⟨_, _, a0, _⟩ | ⟨_, _, _, a1, a2, a3⟩
              · rw [HR.out] at a0; cases a0
              · rw [HAA.out] at a0; cases a0
              · rw [hD] at a0; cases a0
              · exact ⟨a1, a2, a3⟩
            clear hD
            go_wp2_with fail
            refine (refRight_yes _ _ ((L.length : Int) :: d0) _ HD.out (by unfold maxLen; simp; omega) ID.out).mono ?_
            rintro r w9 ⟨rfl, rfl⟩
            obtain ⟨y0, y1, y2, y3⟩ := B6.out.all
            go_wp2
            have T := (B6.out.set0 (.slice AD (d0.length + 1) cD)).set1 (.slice AV (catV L).length cV)
            obtain ⟨t0, t1, _, _⟩ := T.all
            refine bodyPost_ret (v := .tuple #[.agg #[.slice AD (d0.length + 1) cD, .slice AV (catV L).length cV], .int .i64 0]) (by simp [results, Try.results26, go_sem, t0, t1]) rfl ?_
            have hic := isCell_of (base := w.heap.size) (d := (L.length : Int) :: d0) (MDW.out.box g3 (.slice AD (d0.length + 1) cD) (.slice AV (catV L).length cV)) (HMM.out.box (by omega) (.slice AD (d0.length + 1) cD) (.slice AV (catV L).length cV)) (by omega) (by omega)
            exact ⟨_, rfl, hic, (LB2.out.setCell (Nat.le_refl _) _).setCell (Nat.le_refl _) _⟩
          · have HD := Lib.hid (show rightB ((L.length : Int) :: d0) = false by simpa using hD)
            obtain ⟨rfl, rfl, rfl⟩ : D = [] ∧ V = [] ∧ e = 4 := by
              rcases HK.out with ⟨a0, _⟩ | ⟨_, a0, _⟩ | ⟨_, _, _, a1, a2, a3⟩ | ⟨_, _, a0, _⟩
              · rw [HR.out] at a0; cases a0
              · rw [HAA.out] at a0; cases a0
              · exact ⟨a1, a2, a3⟩
              · exact absurd a0 hD
            clear hD
            go_wp2_with fail
            refine (refRight_no _ _ ((L.length : Int) :: d0) _ HD.out (by unfold maxLen; simp; omega) ID.out).mono ?_
            rintro r w9 ⟨rfl, rfl⟩
            obtain ⟨y0, y1, y2, y3⟩ := B6.out.all
            go_wp2
            have T := (B6.out.set0 (.slice none 0 0)).set1 (.slice none 0 0)
            obtain ⟨t0, t1, _, _⟩ := T.all
            refine bodyPost_ret (v := .tuple #[.agg #[.slice none 0 0, .slice none 0 0], .int .i64 4]) (by simp [results, Try.results26, go_sem, t0, t1]) rfl ?_
            exact ⟨_, rfl, IsCell.none _ _, (LB2.out.setCell (Nat.le_refl _) _).setCell (Nat.le_refl _) _⟩
end Go.Proofs.Ytknphbkmghflcaa.Sh
