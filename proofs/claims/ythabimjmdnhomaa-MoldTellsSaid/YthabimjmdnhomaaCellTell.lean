/-
  What rifflelaw03.Great, cell.Right, cell.Same, riffleref03.Right and riffleref03.Same answer for any cells; nothing that was there is written. Condition: the slices are no longer than an int can say.
-/
import Derived.Test.YthabimjmdnhomaaCellBase
import Derived.Deep.RegionHeld3
namespace Go.Proofs.Ythabimjmdnhomaa.Sh
open Go.RowKit
set_option linter.unusedVariables false

/-- May a cell of these axes with that many numbers be? -/
def cellB (d : List Int) (n : Nat) : Bool := rightB d && decide ((n : Int) = sizeI d)
theorem cellB_not {d : List Int} {n : Nat} (h : rightB d = false) : cellB d n = false := by simp [cellB, h]
theorem cellB_is {d : List Int} {n : Nat} (h : rightB d = true) : cellB d n = decide ((n : Int) = sizeI d) := by simp [cellB, h]

/-- Two cells of a block below stay as they are. -/
theorem keepC {W w1 : World} {g : Nat} {x y : Value} (hb : Below W.heap.size W w1) (h : W.cell? ⟨g, 0, none⟩ = some x ∧ W.cell? ⟨g, 1, none⟩ = some y) :
    w1.cell? ⟨g, 0, none⟩ = some x ∧ w1.cell? ⟨g, 1, none⟩ = some y :=
  ⟨(hb.cell (p := ⟨g, 0, none⟩) (World.block_lt_of_cell? W ⟨g, 0, none⟩ h.1)).trans h.1, (hb.cell (p := ⟨g, 1, none⟩) (World.block_lt_of_cell? W ⟨g, 0, none⟩ h.1)).trans h.2⟩
theorem block_of {W : World} {g : Nat} {x : Value} (h : W.cell? ⟨g, 0, none⟩ = some x) : g < W.heap.size := World.block_lt_of_cell? W ⟨g, 0, none⟩ h

/-- Take an operation first whose guard says yes. -/
theorem take_yes {P : Program} {md : Region.Mode} {ops : Array Oper} {Q : Exit → Act → World → Prop} {S : World → Prop} {i : Nat} {oi : Oper} {fuel : Nat} {listed : Array Bool} {a : Act} {w : World} (dst : Option Tmp) (v : Value) (hi : ops[i]? = some oi) (hd : oi.dst = dst)
    (hs : Region.noSelect ops = true) (hf : Region.free md ops listed i = true) (hr : (Region.ready md ops listed).contains i = true)
    (hQ : ∀ c a w, Q (.panic c) (a.put dst v) w → Q (.panic c) a w) (hw : Region.wanted oi (yielded ops a.tmps) = true) (hS : S w) (hy : ∀ w, S w → (execOp a.eval oi).run P w = .ok (.value v) w)
    (h : wpAnyH P md ops Q S fuel (listed.setIfInBounds i true) (a.put dst v) w) : wpAnyH P md ops Q S (fuel + 1) listed a w := by
  subst hd
  exact wpAnyH_take hi hs hf hr hQ (Or.inl ⟨hw, hy⟩) hS h
/-- Pass an operation by whose guard says no. -/
theorem take_no {P : Program} {md : Region.Mode} {ops : Array Oper} {Q : Exit → Act → World → Prop} {S : World → Prop} {i : Nat} {oi : Oper} {fuel : Nat} {listed : Array Bool} {a : Act} {w : World} (dst : Option Tmp) (hi : ops[i]? = some oi) (hd : oi.dst = dst)
    (hs : Region.noSelect ops = true) (hf : Region.free md ops listed i = true) (hr : (Region.ready md ops listed).contains i = true)
    (hQ : ∀ c a w, Q (.panic c) (a.put dst undef) w → Q (.panic c) a w) (hw : Region.wanted oi (yielded ops a.tmps) = false) (hS : S w)
    (h : wpAnyH P md ops Q S fuel (listed.setIfInBounds i true) (a.put dst undef) w) : wpAnyH P md ops Q S (fuel + 1) listed a w := by
  subst hd
  exact wpAnyH_take hi hs hf hr hQ (Or.inr ⟨hw, rfl⟩) hS h

set_option maxHeartbeats 1000000 in
theorem great_no (A : Option Addr) (n c : Nat) (B : Option Addr) (m c2 : Nat) (w : World) (h1 : n ≤ 10) (h2 : m ≤ 200) :
    Calls Try.prog 7 #[.agg #[.slice A n c, .slice B m c2]] w fun e w' => e = .returned (.bool false) ∧ Below w.heap.size w w' := by
  go_enter Try.func7, Try.ntmps7
  go_wp2
  go_ret
  exact ⟨ret_bool (by first | (simp; done) | (simp; omega)), (Below.refl _ _).alloc (Nat.le_refl _) _⟩
set_option maxHeartbeats 1000000 in
theorem great_yes (A : Option Addr) (n c : Nat) (B : Option Addr) (m c2 : Nat) (w : World) (h : ¬ (n ≤ 10 ∧ m ≤ 200)) :
    Calls Try.prog 7 #[.agg #[.slice A n c, .slice B m c2]] w fun e w' => e = .returned (.bool true) ∧ Below w.heap.size w w' := by
  by_cases h1 : n ≤ 10
  · have h2 : 200 < m := by omega
    clear h
    go_enter Try.func7, Try.ntmps7
    go_wp2
    go_ret
    exact ⟨ret_bool (by first | (simp; done) | (simp; omega)), (Below.refl _ _).alloc (Nat.le_refl _) _⟩
  · have h2 : 10 < n := by omega
    clear h
    go_enter Try.func7, Try.ntmps7
    go_wp2
    go_ret
    exact ⟨ret_bool (by first | (simp; done) | (simp; omega)), (Below.refl _ _).alloc (Nat.le_refl _) _⟩

theorem right_yes (A : Option Addr) (c : Nat) (d : List Int) (w : World) (h : rightB d = true) (hl : d.length ≤ maxLen) (hi : Ints w A d) :
    Calls Try.prog 36 #[.slice A d.length c] w fun e w' => e = .returned (.bool true) ∧ Below w.heap.size w w' :=
  (right_any A c d w hl hi).mono fun _ _ ⟨a, b⟩ => ⟨by rw [a, h], b⟩
theorem right_no (A : Option Addr) (c : Nat) (d : List Int) (w : World) (h : rightB d = false) (hl : d.length ≤ maxLen) (hi : Ints w A d) :
    Calls Try.prog 36 #[.slice A d.length c] w fun e w' => e = .returned (.bool false) ∧ Below w.heap.size w w' :=
  (right_any A c d w hl hi).mono fun _ _ ⟨a, b⟩ => ⟨by rw [a, h], b⟩
theorem refRight_yes (A : Option Addr) (c : Nat) (d : List Int) (w : World) (h : rightB d = true) (hl : d.length ≤ maxLen) (hi : Ints w A d) :
    Calls Try.prog 38 #[.slice A d.length c] w fun e w' => e = .returned (.bool true) ∧ w = w' :=
  (refRight_any A c d w hl hi).mono fun _ _ ⟨a, b⟩ => ⟨by rw [a, h], b⟩
theorem refRight_no (A : Option Addr) (c : Nat) (d : List Int) (w : World) (h : rightB d = false) (hl : d.length ≤ maxLen) (hi : Ints w A d) :
    Calls Try.prog 38 #[.slice A d.length c] w fun e w' => e = .returned (.bool false) ∧ w = w' :=
  (refRight_any A c d w hl hi).mono fun _ _ ⟨a, b⟩ => ⟨by rw [a, h], b⟩

theorem refRightB_yes (A : Option Addr) (c : Nat) (d : List Int) (w : World) (h : rightB d = true) (hl : d.length ≤ maxLen) (hi : Ints w A d) :
    Calls Try.prog 38 #[.slice A d.length c] w fun e w' => e = .returned (.bool true) ∧ Below w.heap.size w w' :=
  (refRight_any A c d w hl hi).mono fun _ _ ⟨a, b⟩ => ⟨by rw [a, h], by rw [← b]; exact Below.refl _ _⟩
theorem refRightB_no (A : Option Addr) (c : Nat) (d : List Int) (w : World) (h : rightB d = false) (hl : d.length ≤ maxLen) (hi : Ints w A d) :
    Calls Try.prog 38 #[.slice A d.length c] w fun e w' => e = .returned (.bool false) ∧ Below w.heap.size w w' :=
  (refRight_any A c d w hl hi).mono fun _ _ ⟨a, b⟩ => ⟨by rw [a, h], by rw [← b]; exact Below.refl _ _⟩
theorem refSizeB (A : Option Addr) (c : Nat) (d : List Int) (w : World) (hl : d.length ≤ maxLen) (hi : Ints w A d) :
    Calls Try.prog 55 #[.slice A d.length c] w fun e w' => e = .returned (.int .i64 (sizeI d)) ∧ Below w.heap.size w w' :=
  (refSize_any A c d w hl hi).mono fun _ _ ⟨a, b⟩ => ⟨a, by rw [← b]; exact Below.refl _ _⟩

set_option maxHeartbeats 1000000 in
theorem cright_any (A : Option Addr) (c : Nat) (d : List Int) (B : Option Addr) (n c2 : Nat) (w : World) (hl : d.length ≤ maxLen) (hi : Ints w A d) :
    Calls Try.prog 22 #[.agg #[.slice A d.length c, .slice B n c2]] w fun e w' => e = .returned (.bool (cellB d n)) ∧ Below w.heap.size w w' := by
  have hB0 : Below w.heap.size w (w.alloc (.cells #[.slice A d.length c, .slice B n c2] 25)) := (Below.refl _ w).alloc (Nat.le_refl _) _
  have hi0 := hi.below hB0
  have hS : (w.alloc (.cells #[.slice A d.length c, .slice B n c2] 25)).cell? ⟨w.heap.size, 0, none⟩ = some (.slice A d.length c) ∧ (w.alloc (.cells #[.slice A d.length c, .slice B n c2] 25)).cell? ⟨w.heap.size, 1, none⟩ = some (.slice B n c2) :=
    ⟨by rw [World.cell?_alloc_at _ _ _ _ (by simp)]; rfl, by rw [World.cell?_alloc_at _ _ _ _ (by simp)]; rfl⟩
  have HB0 := Lib.hid hB0
  have HI0 := Lib.hid hi0
  have HS := Lib.hid hS
  clear hB0 hi0 hi hS
  by_cases hR : rightB d = true
  · have HR := Lib.hid hR
    have HC := Lib.hid (cellB_is (n := n) hR)
    clear hR
    go_enter Try.func22, Try.ntmps22
    go_wp2_with fail
    have hS := HS.out
    have hi0 := HI0.out
    generalize w.alloc (.cells #[.slice A d.length c, .slice B n c2] 25) = W0 at *
    generalize hg : w.heap.size = g at *
    have HG := Lib.hid hg
    clear hg HS HI0
    rw [← HG.out] at HB0
    go_region_held3 (fun w' => w'.cell? ⟨g, 0, none⟩ = some (.slice A d.length c) ∧ w'.cell? ⟨g, 1, none⟩ = some (.slice B n c2))
      (first
        | go_keep
        | exact keepC hb1 (by go_keep)
        | exact keepC hb2 (by go_keep))
      (first
        | (go_at_call 36; refine (right_yes _ _ d _ HR.out hl (by exact hi0)).mono ?_; rintro e w1 ⟨rfl, hb1⟩; have hi1 := Ints.below (A := A) (l := d) (by exact hi0) hb1; have HB1 := Lib.hid (Go.Proofs.Ythabimjmdnhomaa.Sh.below_next (a := w) (by first | exact HB0.out | exact HB0.out.drew | exact below_drewN HB0.out _) hb1))
        | (go_at_call 49; refine (size_any _ _ d _ hl (by exact hi1)).mono ?_; rintro e w2 ⟨rfl, hb2⟩; have HB2 := Lib.hid (Go.Proofs.Ythabimjmdnhomaa.Sh.below_next (a := w) (by first | exact HB1.out | exact HB1.out.drew | exact below_drewN HB1.out _) hb2)))
    go_wp2
    go_ret
    exact ⟨ret_bool (by rw [HC.out]; first | rfl | (simp; done) | (rw [Bool.eq_iff_iff]; simp; omega)), by first | exact HB2.out | exact HB2.out.drew | exact below_drewN HB2.out _⟩
  · have HR := Lib.hid (show rightB d = false by simpa using hR)
    have HC := Lib.hid (cellB_not (n := n) HR.out)
    clear hR
    go_enter Try.func22, Try.ntmps22
    go_wp2_with fail
    have hS := HS.out
    have hi0 := HI0.out
    generalize w.alloc (.cells #[.slice A d.length c, .slice B n c2] 25) = W0 at *
    generalize hg : w.heap.size = g at *
    have HG := Lib.hid hg
    clear hg HS HI0
    rw [← HG.out] at HB0
    refine wp_region_held_drew (S := fun w' => w'.cell? ⟨g, 0, none⟩ = some (.slice A d.length c) ∧ w'.cell? ⟨g, 1, none⟩ = some (.slice B n c2)) (by kernel_rfl) ?_ (fun hHeld => ?_)
    · exact hS
    refine take_yes (i := 0) (some 3) (.pointer (some ⟨g, 0, none⟩)) rfl rfl (by kernel_rfl) (by kernel_rfl) (by kernel_rfl) (fun _ _ _ h => h) (by rfl) (by assumption) ?_ ?_
    · intro w hSw; (try dsimp only at hSw); go_simp
    simp only [Act.put, List.setIfInBounds_toArray, List.set_cons_zero, List.set_cons_succ]
    refine take_yes (i := 1) (some 4) (.slice A d.length c) rfl rfl (by kernel_rfl) (by kernel_rfl) (by kernel_rfl) (fun _ _ _ h => h) (by rfl) (by assumption) ?_ ?_
    · intro w hSw; (try dsimp only at hSw); go_simp
    simp only [Act.put, List.setIfInBounds_toArray, List.set_cons_zero, List.set_cons_succ]
    refine wpAnyH_ready (rs := [2]) (by kernel_rfl) (by simp) ?_
    refine AllReadyH.cons rfl (fun K hK => ?_) AllReadyH.nil
    go_simp
    (go_at_call 36; refine (right_no _ _ d _ HR.out hl (by exact hi0)).mono ?_; rintro e w1 ⟨rfl, hb1⟩; have hi1 := Ints.below (A := A) (l := d) (by exact hi0) hb1; have HB1 := Lib.hid (Go.Proofs.Ythabimjmdnhomaa.Sh.below_next (a := w) (by first | exact HB0.out | exact HB0.out.drew | exact below_drewN HB0.out _) hb1))
    go_wp2_with fail
    refine hK.out _ _ (keepC hb1 (by go_keep)) (fun hHeld2 => ?_)
    clear hK K
    refine take_yes (i := 3) (some 6) (.bool false) rfl rfl (by kernel_rfl) (by kernel_rfl) (by kernel_rfl) (fun _ _ _ h => h) (by rfl) (by assumption) ?_ ?_
    · intro w hSw; (try dsimp only at hSw); go_simp
    simp only [Act.put, List.setIfInBounds_toArray, List.set_cons_zero, List.set_cons_succ]
    refine take_no (i := 4) (some 7) rfl rfl (by kernel_rfl) (by kernel_rfl) (by kernel_rfl) (fun _ _ _ h => h) (by rfl) (by assumption) ?_
    simp only [Act.put, List.setIfInBounds_toArray, List.set_cons_zero, List.set_cons_succ]
    refine take_no (i := 5) (some 8) rfl rfl (by kernel_rfl) (by kernel_rfl) (by kernel_rfl) (fun _ _ _ h => h) (by rfl) (by assumption) ?_
    simp only [Act.put, List.setIfInBounds_toArray, List.set_cons_zero, List.set_cons_succ]
    refine take_no (i := 6) (some 9) rfl rfl (by kernel_rfl) (by kernel_rfl) (by kernel_rfl) (fun _ _ _ h => h) (by rfl) (by assumption) ?_
    simp only [Act.put, List.setIfInBounds_toArray, List.set_cons_zero, List.set_cons_succ]
    refine take_no (i := 7) (some 10) rfl rfl (by kernel_rfl) (by kernel_rfl) (by kernel_rfl) (fun _ _ _ h => h) (by rfl) (by assumption) ?_
    simp only [Act.put, List.setIfInBounds_toArray, List.set_cons_zero, List.set_cons_succ]
    refine take_no (i := 8) (some 11) rfl rfl (by kernel_rfl) (by kernel_rfl) (by kernel_rfl) (fun _ _ _ h => h) (by rfl) (by assumption) ?_
    simp only [Act.put, List.setIfInBounds_toArray, List.set_cons_zero, List.set_cons_succ]
    refine take_no (i := 9) (some 12) rfl rfl (by kernel_rfl) (by kernel_rfl) (by kernel_rfl) (fun _ _ _ h => h) (by rfl) (by assumption) ?_
    simp only [Act.put, List.setIfInBounds_toArray, List.set_cons_zero, List.set_cons_succ]
    refine take_no (i := 10) (some 13) rfl rfl (by kernel_rfl) (by kernel_rfl) (by kernel_rfl) (fun _ _ _ h => h) (by rfl) (by assumption) ?_
    simp only [Act.put, List.setIfInBounds_toArray, List.set_cons_zero, List.set_cons_succ]
    refine take_yes (i := 11) (some 14) (.bool false) rfl rfl (by kernel_rfl) (by kernel_rfl) (by kernel_rfl) (fun _ _ _ h => h) (by rfl) (by assumption) ?_ ?_
    · intro w hSw; (try dsimp only at hSw); go_simp
    simp only [Act.put, List.setIfInBounds_toArray, List.set_cons_zero, List.set_cons_succ]
    refine take_yes (i := 12) (some 2) (.bool false) rfl rfl (by kernel_rfl) (by kernel_rfl) (by kernel_rfl) (fun _ _ _ h => h) (by rfl) (by assumption) ?_ ?_
    · intro w hSw; (try dsimp only at hSw); go_simp
    simp only [Act.put, List.setIfInBounds_toArray, List.set_cons_zero, List.set_cons_succ]
    refine wpAnyH_done (by kernel_rfl) ?_ _
    go_wp2
    go_ret
    exact ⟨ret_bool HC.out.symm, by first | exact HB1.out | exact HB1.out.drew | exact below_drewN HB1.out _⟩

set_option maxHeartbeats 1000000 in
theorem rright_any (A : Option Addr) (c : Nat) (d : List Int) (B : Option Addr) (n c2 : Nat) (w : World) (hl : d.length ≤ maxLen) (hi : Ints w A d) :
    Calls Try.prog 27 #[.agg #[.slice A d.length c, .slice B n c2]] w fun e w' => e = .returned (.bool (cellB d n)) ∧ Below w.heap.size w w' := by
  have hB0 : Below w.heap.size w (w.alloc (.cells #[.slice A d.length c, .slice B n c2] 25)) := (Below.refl _ w).alloc (Nat.le_refl _) _
  have hi0 := hi.below hB0
  have hS : (w.alloc (.cells #[.slice A d.length c, .slice B n c2] 25)).cell? ⟨w.heap.size, 0, none⟩ = some (.slice A d.length c) ∧ (w.alloc (.cells #[.slice A d.length c, .slice B n c2] 25)).cell? ⟨w.heap.size, 1, none⟩ = some (.slice B n c2) :=
    ⟨by rw [World.cell?_alloc_at _ _ _ _ (by simp)]; rfl, by rw [World.cell?_alloc_at _ _ _ _ (by simp)]; rfl⟩
  have HB0 := Lib.hid hB0
  have HI0 := Lib.hid hi0
  have HS := Lib.hid hS
  clear hB0 hi0 hi hS
  by_cases hR : rightB d = true
  · have HR := Lib.hid hR
    have HC := Lib.hid (cellB_is (n := n) hR)
    clear hR
    go_enter Try.func27, Try.ntmps27
    go_wp2_with fail
    have hS := HS.out
    have hi0 := HI0.out
    generalize w.alloc (.cells #[.slice A d.length c, .slice B n c2] 25) = W0 at *
    generalize hg : w.heap.size = g at *
    have HG := Lib.hid hg
    clear hg HS HI0
    rw [← HG.out] at HB0
    go_region_held3 (fun w' => w'.cell? ⟨g, 0, none⟩ = some (.slice A d.length c) ∧ w'.cell? ⟨g, 1, none⟩ = some (.slice B n c2))
      (first
        | go_keep
        | exact keepC hb1 (by go_keep)
        | exact keepC hb2 (by go_keep))
      (first
        | (go_at_call 38; refine (refRightB_yes _ _ d _ HR.out hl (by exact hi0)).mono ?_; rintro e w1 ⟨rfl, hb1⟩; have hi1 := Ints.below (A := A) (l := d) (by exact hi0) hb1; have HB1 := Lib.hid (Go.Proofs.Ythabimjmdnhomaa.Sh.below_next (a := w) (by first | exact HB0.out | exact HB0.out.drew | exact below_drewN HB0.out _) hb1))
        | (go_at_call 55; refine (refSizeB _ _ d _ hl (by exact hi1)).mono ?_; rintro e w2 ⟨rfl, hb2⟩; have HB2 := Lib.hid (Go.Proofs.Ythabimjmdnhomaa.Sh.below_next (a := w) (by first | exact HB1.out | exact HB1.out.drew | exact below_drewN HB1.out _) hb2)))
    go_wp2
    go_ret
    exact ⟨ret_bool (by rw [HC.out]; first | rfl | (simp; done) | (rw [Bool.eq_iff_iff]; simp; omega)), by first | exact HB2.out | exact HB2.out.drew | exact below_drewN HB2.out _⟩
  · have HR := Lib.hid (show rightB d = false by simpa using hR)
    have HC := Lib.hid (cellB_not (n := n) HR.out)
    clear hR
    go_enter Try.func27, Try.ntmps27
    go_wp2_with fail
    have hS := HS.out
    have hi0 := HI0.out
    generalize w.alloc (.cells #[.slice A d.length c, .slice B n c2] 25) = W0 at *
    generalize hg : w.heap.size = g at *
    have HG := Lib.hid hg
    clear hg HS HI0
    rw [← HG.out] at HB0
    refine wp_region_held_drew (S := fun w' => w'.cell? ⟨g, 0, none⟩ = some (.slice A d.length c) ∧ w'.cell? ⟨g, 1, none⟩ = some (.slice B n c2)) (by kernel_rfl) ?_ (fun hHeld => ?_)
    · exact hS
    refine take_yes (i := 0) (some 3) (.pointer (some ⟨g, 0, none⟩)) rfl rfl (by kernel_rfl) (by kernel_rfl) (by kernel_rfl) (fun _ _ _ h => h) (by rfl) (by assumption) ?_ ?_
    · intro w hSw; (try dsimp only at hSw); go_simp
    simp only [Act.put, List.setIfInBounds_toArray, List.set_cons_zero, List.set_cons_succ]
    refine take_yes (i := 1) (some 4) (.slice A d.length c) rfl rfl (by kernel_rfl) (by kernel_rfl) (by kernel_rfl) (fun _ _ _ h => h) (by rfl) (by assumption) ?_ ?_
    · intro w hSw; (try dsimp only at hSw); go_simp
    simp only [Act.put, List.setIfInBounds_toArray, List.set_cons_zero, List.set_cons_succ]
    refine wpAnyH_ready (rs := [2]) (by kernel_rfl) (by simp) ?_
    refine AllReadyH.cons rfl (fun K hK => ?_) AllReadyH.nil
    go_simp
    (go_at_call 38; refine (refRightB_no _ _ d _ HR.out hl (by exact hi0)).mono ?_; rintro e w1 ⟨rfl, hb1⟩; have hi1 := Ints.below (A := A) (l := d) (by exact hi0) hb1; have HB1 := Lib.hid (Go.Proofs.Ythabimjmdnhomaa.Sh.below_next (a := w) (by first | exact HB0.out | exact HB0.out.drew | exact below_drewN HB0.out _) hb1))
    go_wp2_with fail
    refine hK.out _ _ (keepC hb1 (by go_keep)) (fun hHeld2 => ?_)
    clear hK K
    refine take_yes (i := 3) (some 6) (.bool false) rfl rfl (by kernel_rfl) (by kernel_rfl) (by kernel_rfl) (fun _ _ _ h => h) (by rfl) (by assumption) ?_ ?_
    · intro w hSw; (try dsimp only at hSw); go_simp
    simp only [Act.put, List.setIfInBounds_toArray, List.set_cons_zero, List.set_cons_succ]
    refine take_no (i := 4) (some 7) rfl rfl (by kernel_rfl) (by kernel_rfl) (by kernel_rfl) (fun _ _ _ h => h) (by rfl) (by assumption) ?_
    simp only [Act.put, List.setIfInBounds_toArray, List.set_cons_zero, List.set_cons_succ]
    refine take_no (i := 5) (some 8) rfl rfl (by kernel_rfl) (by kernel_rfl) (by kernel_rfl) (fun _ _ _ h => h) (by rfl) (by assumption) ?_
    simp only [Act.put, List.setIfInBounds_toArray, List.set_cons_zero, List.set_cons_succ]
    refine take_no (i := 6) (some 9) rfl rfl (by kernel_rfl) (by kernel_rfl) (by kernel_rfl) (fun _ _ _ h => h) (by rfl) (by assumption) ?_
    simp only [Act.put, List.setIfInBounds_toArray, List.set_cons_zero, List.set_cons_succ]
    refine take_no (i := 7) (some 10) rfl rfl (by kernel_rfl) (by kernel_rfl) (by kernel_rfl) (fun _ _ _ h => h) (by rfl) (by assumption) ?_
    simp only [Act.put, List.setIfInBounds_toArray, List.set_cons_zero, List.set_cons_succ]
    refine take_no (i := 8) (some 11) rfl rfl (by kernel_rfl) (by kernel_rfl) (by kernel_rfl) (fun _ _ _ h => h) (by rfl) (by assumption) ?_
    simp only [Act.put, List.setIfInBounds_toArray, List.set_cons_zero, List.set_cons_succ]
    refine take_no (i := 9) (some 12) rfl rfl (by kernel_rfl) (by kernel_rfl) (by kernel_rfl) (fun _ _ _ h => h) (by rfl) (by assumption) ?_
    simp only [Act.put, List.setIfInBounds_toArray, List.set_cons_zero, List.set_cons_succ]
    refine take_no (i := 10) (some 13) rfl rfl (by kernel_rfl) (by kernel_rfl) (by kernel_rfl) (fun _ _ _ h => h) (by rfl) (by assumption) ?_
    simp only [Act.put, List.setIfInBounds_toArray, List.set_cons_zero, List.set_cons_succ]
    refine take_yes (i := 11) (some 14) (.bool false) rfl rfl (by kernel_rfl) (by kernel_rfl) (by kernel_rfl) (fun _ _ _ h => h) (by rfl) (by assumption) ?_ ?_
    · intro w hSw; (try dsimp only at hSw); go_simp
    simp only [Act.put, List.setIfInBounds_toArray, List.set_cons_zero, List.set_cons_succ]
    refine take_yes (i := 12) (some 2) (.bool false) rfl rfl (by kernel_rfl) (by kernel_rfl) (by kernel_rfl) (fun _ _ _ h => h) (by rfl) (by assumption) ?_ ?_
    · intro w hSw; (try dsimp only at hSw); go_simp
    simp only [Act.put, List.setIfInBounds_toArray, List.set_cons_zero, List.set_cons_succ]
    refine wpAnyH_done (by kernel_rfl) ?_ _
    go_wp2
    go_ret
    exact ⟨ret_bool HC.out.symm, by first | exact HB1.out | exact HB1.out.drew | exact below_drewN HB1.out _⟩

end Go.Proofs.Ythabimjmdnhomaa.Sh
