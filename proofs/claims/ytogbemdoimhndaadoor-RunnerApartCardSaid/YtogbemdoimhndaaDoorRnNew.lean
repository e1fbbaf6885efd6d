/-
  What New and Clone of package runner make, and what riffleref14.May answers. Condition: the table of traits holds what its text lays.
-/
import Derived.Test.YtogbemdoimhndaaDoorRnPush
set_option maxRecDepth 100000
namespace Go.Proofs.YtogbemdoimhndaaDoor.Rn
open Go.Proofs.YtogbemdoimhndaaDoor.Sh Go.Proofs.YtogbemdoimhndaaDoor.St Go.Proofs.YtogbemdoimhndaaDoor.Fd
open Go.RowKit
set_option linter.unusedVariables false

/-- Why there is no such runner; 0, if there is one. -/
def whyI (c n : Int) : Int := if n < 0 ∨ n > 64 then 1 else if Sc.hasB c 2 = false then 13 else if (Sc.trOf c).joins = false then 17 else 0
theorem why_yes {c n : Int} (h : whyI c n = 0) : 0 ≤ n ∧ n ≤ 64 ∧ (Sc.trOf c).joins = true := by
  unfold whyI at h
  split at h
  · cases h
  · split at h
    · cases h
    · split at h
      · cases h
      · next h1 _ h3 => exact ⟨by omega, by omega, by simpa using h3⟩
set_option maxHeartbeats 2000000 in
theorem may_any (c : Int) (s : Bool) (n : Int) (w : World) : Calls Tryd.prog 40 #[.agg #[.int .i64 c, .bool s], .int .i64 n] w fun e w' => e = .returned (.int .i64 (whyI c n)) ∧ Below w.heap.size w w' := by
  have L0 := Lib.hid (below_new w (.cells #[.int .i64 c, .bool s] 23))
  by_cases h1 : n < 0
  · have t1 : decide (n < 0) = true := decide_eq_true h1
    have e := show whyI c n = 1 by unfold whyI; rw [if_pos (.inl h1)]
    rw [e]
    clear e
    go_enter Tryd.func40, Tryd.ntmps40
    go_wp2
    go_ret
    exact ⟨rfl, L0.out⟩
  · have t1 : decide (n < 0) = false := decide_eq_false h1
    by_cases h2 : n > 64
    · have t2 : decide (n > 64) = true := decide_eq_true h2
      have e := show whyI c n = 1 by unfold whyI; rw [if_pos (.inr h2)]
      rw [e]
      clear e
      go_enter Tryd.func40, Tryd.ntmps40
      go_wp2
      go_ret
      exact ⟨rfl, L0.out⟩
    · have t2 : decide (n > 64) = false := decide_eq_false h2
      cases hh : Sc.hasB c 2 with
      | false =>
        have e := show whyI c n = 13 by unfold whyI; rw [if_neg (by omega), if_pos hh]
        rw [e]
        clear e
        go_enter Tryd.func40, Tryd.ntmps40
        go_wp2_with fail
        refine (Sc.rhas_b c 2 false _ hh).mono ?_
        rintro r w1 ⟨rfl, rfl⟩
        go_wp2
        go_ret
        exact ⟨rfl, L0.out⟩
      | true =>
        have HJ := Lib.hid (fun W => Sc.rjoins_any c W)
        cases hj : (Sc.trOf c).joins with
        | false =>
          rw [hj] at HJ
          have e := show whyI c n = 17 by unfold whyI; rw [if_neg (by omega), if_neg (by simp [hh]), if_pos hj]
          rw [e]
          clear e hj
          go_enter Tryd.func40, Tryd.ntmps40
          go_wp2_with fail
          refine (Sc.rhas_b c 2 true _ hh).mono ?_
          rintro r w1 ⟨rfl, rfl⟩
          go_wp2_with fail
          refine (HJ.out _).mono ?_
          rintro r w2 ⟨rfl, hb⟩
          have L2 := Lib.hid (below_next L0.out hb)
          clear hb
          go_wp2
          go_ret
          exact ⟨rfl, L2.out⟩
        | true =>
          rw [hj] at HJ
          have e := show whyI c n = 0 by unfold whyI; rw [if_neg (by omega), if_neg (by simp [hh]), if_neg (by simp [hj])]
          rw [e]
          clear e hj
          go_enter Tryd.func40, Tryd.ntmps40
          go_wp2_with fail
          refine (Sc.rhas_b c 2 true _ hh).mono ?_
          rintro r w1 ⟨rfl, rfl⟩
          go_wp2_with fail
          refine (HJ.out _).mono ?_
          rintro r w2 ⟨rfl, hb⟩
          have L2 := Lib.hid (below_next L0.out hb)
          clear hb
          go_wp2
          go_ret
          exact ⟨rfl, L2.out⟩
set_option maxHeartbeats 2000000 in
theorem new_no (c : Int) (s : Bool) (n : Int) (w : World) (hT : Sc.Tab w) (hw : whyI c n ≠ 0) : Calls Tryd.prog 39 #[.agg #[.int .i64 c, .bool s], .int .i64 n] w fun e w' => e = .returned (.tuple #[.pointer none, .int .i64 (whyI c n)]) ∧ Below w.heap.size w w' := by
  have b0 := below_new w (.cells #[.int .i64 c, .bool s] 23)
  have L0 := Lib.hid b0
  have T0 := Lib.hid (hT.below b0)
  have BX := Lib.hid (Bk.new 23 w [.int .i64 c, .bool s])
  clear b0 hT
  by_cases h1 : n < 0
  · have t1 : decide (n < 0) = true := decide_eq_true h1
    have e := show whyI c n = 1 by unfold whyI; rw [if_pos (.inl h1)]
    rw [e]
    clear e hw
    go_enter Tryd.func39, Tryd.ntmps39
    go_wp2
    go_ret2
    exact ⟨rfl, L0.out⟩
  · have t1 : decide (n < 0) = false := decide_eq_false h1
    by_cases h2 : n > 64
    · have t2 : decide (n > 64) = true := decide_eq_true h2
      have e := show whyI c n = 1 by unfold whyI; rw [if_pos (.inr h2)]
      rw [e]
      clear e hw
      go_enter Tryd.func39, Tryd.ntmps39
      go_wp2
      go_ret2
      exact ⟨rfl, L0.out⟩
    · have t2 : decide (n > 64) = false := decide_eq_false h2
      cases hh : Sc.hasB c 2 with
      | false =>
        have e := show whyI c n = 13 by unfold whyI; rw [if_neg (by omega), if_pos hh]
        rw [e]
        clear e hw
        go_enter Tryd.func39, Tryd.ntmps39
        go_wp2_with fail
        refine (Sc.has_b c 2 false _ hh T0.out).mono ?_
        rintro r w1 ⟨rfl, hb⟩
        have L1 := Lib.hid (below_next L0.out hb)
        replace T0 := Lib.hid (T0.out.below hb)
        replace BX := Lib.hid (BX.out.next hb)
        have x0 := BX.out.c 0
        simp only [List.getElem?_cons_zero] at x0
        clear hb
        go_wp2
        go_ret2
        exact ⟨rfl, L1.out⟩
      | true =>
        have HJ := Lib.hid (fun W (h : Sc.Tab W) => Sc.joins_any c W h)
        cases hj : (Sc.trOf c).joins with
        | false =>
          rw [hj] at HJ
          have e := show whyI c n = 17 by unfold whyI; rw [if_neg (by omega), if_neg (by simp [hh]), if_pos hj]
          rw [e]
          clear e hw hj
          go_enter Tryd.func39, Tryd.ntmps39
          go_wp2_with fail
          refine (Sc.has_b c 2 true _ hh T0.out).mono ?_
          rintro r w1 ⟨rfl, hb⟩
          have L1 := Lib.hid (below_next L0.out hb)
          replace T0 := Lib.hid (T0.out.below hb)
          replace BX := Lib.hid (BX.out.next hb)
          have x0 := BX.out.c 0
          simp only [List.getElem?_cons_zero] at x0
          clear hb
          go_wp2_with fail
          refine (HJ.out _ T0.out).mono ?_
          rintro r w2 ⟨rfl, hb⟩
          have L2 := Lib.hid (below_next L1.out hb)
          replace T0 := Lib.hid (T0.out.below hb)
          replace BX := Lib.hid (BX.out.next hb)
          clear hb
          go_wp2
          go_ret2
          exact ⟨rfl, L2.out⟩
        | true =>
          rw [hj] at HJ
          exact absurd (show whyI c n = 0 by unfold whyI; rw [if_neg (by omega), if_neg (by simp [hh]), if_neg (by simp [hj])]) hw
def RetNew (c : Int) (s : Bool) (n : Nat) (w : World) (e : Ending) (w' : World) : Prop := ∃ g V, e = .returned (.tuple #[.pointer (some ⟨g, 0, none⟩), .int .i64 0]) ∧ Rn w.heap.size w' g V c s 0 (List.replicate n 0) ∧ Below w.heap.size w w'
theorem new_end {w w2 : World} {c : Int} {s : Bool} (h : Below w.heap.size w w2) (n : Nat) (hn : n ≤ 64) : RetNew c s n w (.returned (.tuple #[.pointer (some ⟨w2.heap.size + 1, 0, none⟩), .int .i64 0])) (((w2.alloc (.cells (madeCells #[Value.int .i64 0] n) 2)).alloc (.cells #[.int .i64 c, .bool s, .int .i64 0, .slice (some ⟨w2.heap.size, 0, none⟩) n n] 114)).drew) := by
  have hs : (w2.alloc (.cells (madeCells #[Value.int .i64 0] n) 2)).heap.size = w2.heap.size + 1 := by simp
  have M := MineT.made 2 w2 n w.heap.size h.size (by unfold maxLen; omega)
  have B := Bk.new 114 (w2.alloc (.cells (madeCells #[Value.int .i64 0] n) 2)) [.int .i64 c, .bool s, .int .i64 0, .slice (some ⟨w2.heap.size, 0, none⟩) n n]
  rw [hs] at B
  refine ⟨w2.heap.size + 1, .slice (some ⟨w2.heap.size, 0, none⟩) n n, rfl, ⟨B.drew, (M.alloc _).drew, ?_⟩, (below_next (below_next h (below_new _ _)) (below_new _ _)).drew⟩
  have := h.size
  omega
set_option maxHeartbeats 4000000 in
theorem new_yes (c : Int) (s : Bool) (n : Nat) (w : World) (hT : Sc.Tab w) (hn : n ≤ 64) (hj : (Sc.trOf c).joins = true) : Calls Tryd.prog 39 #[.agg #[.int .i64 c, .bool s], .int .i64 n] w (RetNew c s n w) := by
  have hmk := fun W => run_make_row' (P := Tryd.prog) 27 2 (.int .i64 0) 8 Tryd.underlying27 infoL rfl .i64 .i64 n (by omega) (by omega) W
  have b0 := below_new w (.cells #[.int .i64 c, .bool s] 23)
  have L0 := Lib.hid b0
  have T0 := Lib.hid (hT.below b0)
  have BX := Lib.hid (Bk.new 23 w [.int .i64 c, .bool s])
  have hh := joins_has hj
  have HJ := Lib.hid (fun W (h : Sc.Tab W) => Sc.joins_any c W h)
  rw [hj] at HJ
  have t1 : decide ((n : Int) < 0) = false := decide_eq_false (by omega)
  have t2 : decide ((n : Int) > 64) = false := decide_eq_false (by omega)
  have HH := Lib.hid (fun W (h : Sc.Tab W) => Sc.has_b c 2 true W hh h)
  clear b0 hT hj hh
  go_enter Tryd.func39, Tryd.ntmps39
  go_wp2_with fail
  refine (HH.out _ T0.out).mono ?_
  rintro r w1 ⟨rfl, hb⟩
  replace L0 := Lib.hid (below_next L0.out hb)
  replace BX := Lib.hid (BX.out.next hb)
  have T1 := Lib.hid (T0.out.below hb)
  have x0 := BX.out.c 0
  simp only [List.getElem?_cons_zero] at x0
  clear hb T0
  go_wp2_with fail
  refine (HJ.out _ T1.out).mono ?_
  rintro r w2 ⟨rfl, hb⟩
  replace L0 := Lib.hid (below_next L0.out hb)
  replace BX := Lib.hid (BX.out.next hb)
  have hle : w.heap.size ≤ w2.heap.size := L0.out.size
  have hlt : w.heap.size < w2.heap.size := BX.out.lt
  have y0 := BX.out.c 0
  have y1 := BX.out.c 1
  simp only [List.getElem?_cons_zero, List.getElem?_cons_succ] at y0 y1
  have z0 : (w2.alloc (.cells (madeCells #[Value.int .i64 0] n) 2)).cell? ⟨w.heap.size, 0, none⟩ = some (.int .i64 c) := (World.cell?_alloc_past _ _ _ hlt).trans y0
  have z1 : (w2.alloc (.cells (madeCells #[Value.int .i64 0] n) 2)).cell? ⟨w.heap.size, 1, none⟩ = some (.bool s) := (World.cell?_alloc_past _ _ _ hlt).trans y1
  clear hb x0 T1
  go_wp2_with fail
  go_region
  all_goals
    go_wp2
    go_ret2
    exact new_end L0.out n hn
def RetClone (c : Int) (s : Bool) (k : Nat) (xs : List Int) (w : World) (e : Ending) (w' : World) : Prop := ∃ g V, e = .returned (.pointer (some ⟨g, 0, none⟩)) ∧ Rn w.heap.size w' g V c s k xs ∧ Below w.heap.size w w'
set_option maxHeartbeats 2000000 in
theorem clone_any (base g : Nat) (V : Value) (c : Int) (s : Bool) (k : Nat) (xs : List Int) (w : World) (r : Rn base w g V c s k xs) (hl : xs.length ≤ 1000) :
    Calls Tryd.prog 47 #[.pointer (some ⟨g, 0, none⟩)] w (RetClone c s k xs w) := by
  have b1 := below_new w (.cells #[.int .i64 c, .bool s, .int .i64 k, V] 114)
  have B1 := Lib.hid b1
  have BX := Lib.hid (Bk.new 114 w [.int .i64 c, .bool s, .int .i64 k, V])
  obtain ⟨c0, c1, c2, c3⟩ := r.all
  obtain ⟨y0, y1, y2, y3⟩ := (r.next b1).all
  obtain ⟨A, cap, rfl, hi⟩ := (r.next b1).2.1.ints
  have CL := Lib.hid (clone64_any A cap xs _ hl hi)
  have hgl : g < w.heap.size := r.1.lt
  clear r b1 hi
  go_enter Tryd.func47, Tryd.ntmps47
  go_wp2_with fail
  refine CL.out.mono ?_
  rintro r w2 ⟨A2, c2', rfl, hm, hb2⟩
  have M2 := Lib.hid hm
  have K2 := Lib.hid (below_next B1.out hb2)
  have X2 := Lib.hid (BX.out.next hb2)
  have x3 := X2.out.c 3
  have xf := X2.out.f 3
  clear hm hb2 y0 y1 y2 y3
  go_wp2
  go_ret
  have hne : (Value.slice A2 xs.length c2').ownBlock ≠ some w.heap.size := fun e => own_bk_ne (t := 114) M2.out X2.out (by decide) e.symm
  refine ⟨w.heap.size, _, rfl, ⟨Bk.set_ X2.out 3 _, MineT.mono (own_turn M2.out (Turn.setCell (p := ⟨w.heap.size, 3, none⟩) (Turn.refl (fun i => i = w.heap.size) w2) (.inl rfl) _) (fun k hk e => hne (by rw [← e]; exact hk))) (by simp), Nat.le_refl _⟩, K2.out.setCell (Nat.le_refl _) _⟩
end Go.Proofs.YtogbemdoimhndaaDoor.Rn
