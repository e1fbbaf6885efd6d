/-
  What cell.Same, cell.At, riffleref03.Same and riffleref03.At answer for any cells and places; nothing that was there is written. Condition: the slices are no longer than an int can say.
-/
import Derived.Test.YthabimjmdnhomaaDoorCellTell
namespace Go.Proofs.YthabimjmdnhomaaDoor.Sh
open Go.RowKit
set_option linter.unusedVariables false

/-- The world behind the boxing of a cell. -/
theorem boxed (w : World) (x y : Value) : ((w.alloc (.cells #[x, y] 32)).cell? ⟨w.heap.size, 0, none⟩ = some x ∧ (w.alloc (.cells #[x, y] 32)).cell? ⟨w.heap.size, 1, none⟩ = some y) ∧ Below w.heap.size w (w.alloc (.cells #[x, y] 32)) :=
  ⟨⟨by rw [World.cell?_alloc_at _ _ _ _ (by simp)]; rfl, by rw [World.cell?_alloc_at _ _ _ _ (by simp)]; rfl⟩, (Below.refl _ w).alloc (Nat.le_refl _) _⟩
theorem below_box {w w1 : World} {o : Obj} (h : Below (w.alloc o).heap.size (w.alloc o) w1) : Below w.heap.size w w1 := ((Below.refl _ w).alloc (Nat.le_refl _) o).trans (h.mono (by simp))

def sameB (d v e u : List Int) : Bool := decide (d = e) && decide (v = u)
section
variable (A : Option Addr) (c : Nat) (a : List Int) (B : Option Addr) (d : Nat) (b : List Int) (w : World) (hl : a.length ≤ maxLen) (hl2 : b.length ≤ maxLen) (ha : Ints w A a) (hb : Ints w B b)
include hl hl2 ha hb
theorem same_yes (h : a = b) : Calls Tryd.prog 20 #[.slice A a.length c, .slice B b.length d] w fun e w' => e = .returned (.bool true) ∧ Below w.heap.size w w' :=
  (same_any A c a B d b w hl hl2 ha hb).mono fun _ _ ⟨e, n, q⟩ => ⟨by rw [e, decide_eq_true h], by rw [q]; exact below_drewN (Below.refl _ _) n⟩
theorem same_no (h : ¬ a = b) : Calls Tryd.prog 20 #[.slice A a.length c, .slice B b.length d] w fun e w' => e = .returned (.bool false) ∧ Below w.heap.size w w' :=
  (same_any A c a B d b w hl hl2 ha hb).mono fun _ _ ⟨e, n, q⟩ => ⟨by rw [e, decide_eq_false h], by rw [q]; exact below_drewN (Below.refl _ _) n⟩
theorem refSame_yes (h : a = b) : Calls Tryd.prog 10 #[.slice A a.length c, .slice B b.length d] w fun e w' => e = .returned (.bool true) ∧ Below w.heap.size w w' :=
  (refSame_any A c a B d b w hl hl2 ha hb).mono fun _ _ ⟨e, n, q⟩ => ⟨by rw [e, decide_eq_true h], by rw [q]; exact below_drewN (Below.refl _ _) n⟩
theorem refSame_no (h : ¬ a = b) : Calls Tryd.prog 10 #[.slice A a.length c, .slice B b.length d] w fun e w' => e = .returned (.bool false) ∧ Below w.heap.size w w' :=
  (refSame_any A c a B d b w hl hl2 ha hb).mono fun _ _ ⟨e, n, q⟩ => ⟨by rw [e, decide_eq_false h], by rw [q]; exact below_drewN (Below.refl _ _) n⟩
theorem nums_b : Calls Tryd.prog 31 #[.slice A a.length c, .slice B b.length d] w fun e w' => e = .returned (.bool (decide (a = b))) ∧ Below w.heap.size w w' :=
  (nums_any A c a B d b w hl hl2 ha hb).mono fun _ _ ⟨e, n, q⟩ => ⟨e, by rw [q]; exact below_drewN (Below.refl _ _) n⟩
end

/-- The two boxes of cells of a call that takes two. -/
theorem boxed2 (w : World) (x y z u : Value) (w1 : World) (h : Below ((w.alloc (.cells #[x, y] 32)).alloc (.cells #[z, u] 32)).heap.size ((w.alloc (.cells #[x, y] 32)).alloc (.cells #[z, u] 32)) w1) :
    w1.cell? ⟨w.heap.size, 1, none⟩ = some y ∧ w1.cell? ⟨w.heap.size + 1, 1, none⟩ = some u ∧ Below w.heap.size w w1 := by
  have h1 := (boxed w x y).1
  have h2 := (boxed (w.alloc (.cells #[x, y] 32)) z u).1
  rw [show (w.alloc (.cells #[x, y] 32)).heap.size = w.heap.size + 1 from by simp] at h2
  refine ⟨?_, (keepC h h2).2, below_box (below_box h)⟩
  rw [h.cell (p := ⟨w.heap.size, 1, none⟩) (by simp; omega), World.cell?_alloc_past _ _ _ (by simp)]
  exact h1.2

set_option maxHeartbeats 1000000 in
theorem rsame_any (A : Option Addr) (c : Nat) (d : List Int) (B : Option Addr) (c2 : Nat) (v : List Int) (A' : Option Addr) (c' : Nat) (e : List Int) (B' : Option Addr) (c2' : Nat) (u : List Int) (w : World)
    (hd : d.length ≤ maxLen) (hv : v.length ≤ maxLen) (he : e.length ≤ maxLen) (hu : u.length ≤ maxLen) (id : Ints w A d) (iv : Ints w B v) (ie : Ints w A' e) (iu : Ints w B' u) :
    Calls Tryd.prog 14 #[.agg #[.slice A d.length c, .slice B v.length c2], .agg #[.slice A' e.length c', .slice B' u.length c2']] w fun r w' => r = .returned (.bool (sameB d v e u)) ∧ Below w.heap.size w w' := by
  have hb2 : Below w.heap.size w ((w.alloc (.cells #[.slice A d.length c, .slice B v.length c2] 32)).alloc (.cells #[.slice A' e.length c', .slice B' u.length c2'] 32)) := below_box (below_box (Below.refl _ _))
  have jd := Lib.hid (id.below hb2)
  have je := Lib.hid (ie.below hb2)
  by_cases h : d = e
  · have H := Lib.hid h
    have HS : Hid (sameB d v e u = decide (v = u)) := Lib.hid (by simp [sameB, h])
    have IV := Lib.hid iv
    have IU := Lib.hid iu
    clear h id iv ie iu hb2
    go_enter Tryd.func14, Tryd.ntmps14
    go_wp2_with fail
    refine (refSame_yes _ _ d _ _ e _ hd he jd.out je.out H.out).mono ?_
    rintro r w1 ⟨rfl, hb1⟩
    obtain ⟨h1, h2, h3⟩ := boxed2 w _ _ _ _ w1 hb1
    have kv := Lib.hid (IV.out.below h3)
    have ku := Lib.hid (IU.out.below h3)
    have H3 := Lib.hid h3
    clear hb1 h3
    go_wp2_with fail
    refine (nums_b _ _ v _ _ u _ hv hu kv.out ku.out).mono ?_
    rintro r w2 ⟨rfl, hb2⟩
    have H4 := Lib.hid (below_next H3.out hb2)
    clear hb2
    go_wp2
    go_ret
    exact ⟨ret_bool HS.out.symm, H4.out⟩
  · have H := Lib.hid h
    have HS : Hid (sameB d v e u = false) := Lib.hid (by simp [sameB, h])
    clear h id iv ie iu hb2
    go_enter Tryd.func14, Tryd.ntmps14
    go_wp2_with fail
    refine (refSame_no _ _ d _ _ e _ hd he jd.out je.out H.out).mono ?_
    rintro r w1 ⟨rfl, hb1⟩
    have H3 := Lib.hid (boxed2 w _ _ _ _ w1 hb1).2.2
    clear hb1
    go_wp2
    go_ret
    exact ⟨ret_bool HS.out.symm, H3.out⟩


/-- Is there a number at a place of a cell, and which? -/
def atB (d v p : List Int) : Bool := cellB d v.length && decide (0 ≤ idxI d p)
def atI (d v p : List Int) : Int := if atB d v p = true then v.getD (idxI d p).toNat 0 else 0
theorem atB_not {d v p : List Int} (h : cellB d v.length = false) : atB d v p = false ∧ atI d v p = 0 := by simp [atB, atI, h]
theorem atB_out {d v p : List Int} (h : ¬ 0 ≤ idxI d p) : atB d v p = false ∧ atI d v p = 0 := by simp [atB, atI, h]
theorem atB_is {d v p : List Int} (h : cellB d v.length = true) (hi : 0 ≤ idxI d p) : atB d v p = true ∧ atI d v p = v.getD (idxI d p).toNat 0 := by simp [atB, atI, h, hi]
theorem cellB_parts {d : List Int} {n : Nat} (h : cellB d n = true) : rightB d = true ∧ (n : Int) = sizeI d := by simpa [cellB] using h
theorem idx_lt {d p : List Int} {n : Nat} (h : cellB d n = true) (hi : 0 ≤ idxI d p) : idxI d p < n := by
  obtain ⟨hr, hn⟩ := cellB_parts h
  unfold idxI at hi ⊢
  split at hi
  · rename_i hh
    rw [if_pos hh]
    have := (hor_bd d p hh.2).2
    have hs : sizeI d = prod d := by simp [sizeI, hr]
    omega
  · omega

section
variable (A : Option Addr) (c : Nat) (d : List Int) (B : Option Addr) (n c2 : Nat) (w : World) (hl : d.length ≤ maxLen) (hi : Ints w A d)
include hl hi
theorem cright_yes (h : cellB d n = true) : Calls Tryd.prog 17 #[.agg #[.slice A d.length c, .slice B n c2]] w fun e w' => e = .returned (.bool true) ∧ Below w.heap.size w w' :=
  (cright_any A c d B n c2 w hl hi).mono fun _ _ ⟨a, b⟩ => ⟨by rw [a, h], b⟩
theorem cright_no (h : cellB d n = false) : Calls Tryd.prog 17 #[.agg #[.slice A d.length c, .slice B n c2]] w fun e w' => e = .returned (.bool false) ∧ Below w.heap.size w w' :=
  (cright_any A c d B n c2 w hl hi).mono fun _ _ ⟨a, b⟩ => ⟨by rw [a, h], b⟩
theorem rright_yes (h : cellB d n = true) : Calls Tryd.prog 27 #[.agg #[.slice A d.length c, .slice B n c2]] w fun e w' => e = .returned (.bool true) ∧ Below w.heap.size w w' :=
  (rright_any A c d B n c2 w hl hi).mono fun _ _ ⟨a, b⟩ => ⟨by rw [a, h], b⟩
theorem rright_no (h : cellB d n = false) : Calls Tryd.prog 27 #[.agg #[.slice A d.length c, .slice B n c2]] w fun e w' => e = .returned (.bool false) ∧ Below w.heap.size w w' :=
  (rright_any A c d B n c2 w hl hi).mono fun _ _ ⟨a, b⟩ => ⟨by rw [a, h], b⟩
end

end Go.Proofs.YthabimjmdnhomaaDoor.Sh
