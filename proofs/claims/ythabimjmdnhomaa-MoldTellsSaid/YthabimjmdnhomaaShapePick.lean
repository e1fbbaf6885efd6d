/-
  Plain facts on lists of which each number from 0 on stands once, and on a list picked by one; rows of bools and ints by a function. No condition; nothing of the program stands here.
-/
import Derived.Test.YthabimjmdnhomaaShapeOwn
namespace Go.Proofs.Ythabimjmdnhomaa.Sh
open Go.RowKit
set_option linter.unusedVariables false

/-- Has p each number from 0 on, below its length, once? -/
def permB (p : List Int) : Bool := (List.range p.length).all fun n => p.count (n : Int) == 1
def inRange (m : Nat) (x : Int) : Bool := decide (0 ≤ x) && decide (x < m)
/-- How many numbers stand in p from 0 on below m. -/
def sumC (p : List Int) : Nat → Nat
  | 0 => 0
  | m + 1 => sumC p m + p.count (m : Int)
theorem sumC_eq (p : List Int) (m : Nat) : sumC p m = p.countP (inRange m) := by
  induction m with
  | zero =>
    rw [sumC]
    symm
    rw [List.countP_eq_zero]
    intro x _
    simp [inRange]
  | succ m ih =>
    rw [sumC, ih]
    clear ih
    induction p with
    | nil => simp
    | cons x p ih =>
      rw [List.countP_cons, List.countP_cons, List.count_cons, ← ih]
      have e : (if inRange (m + 1) x = true then 1 else 0 : Nat) = (if inRange m x = true then 1 else 0) + (if (x == (m : Int)) = true then 1 else 0) := by
        simp only [inRange, Bool.and_eq_true, decide_eq_true_eq, beq_iff_eq]
        split <;> split <;> split <;> omega
      omega
theorem sumC_ones (p : List Int) (m : Nat) (h : ∀ n, n < m → p.count (n : Int) = 1) : sumC p m = m := by
  induction m with
  | zero => rfl
  | succ m ih => rw [sumC, ih (fun n hn => h n (by omega)), h m (by omega)]
theorem sumC_le (p : List Int) (m : Nat) (h : ∀ n, n < m → p.count (n : Int) ≤ 1) : sumC p m ≤ m := by
  induction m with
  | zero => exact Nat.le_refl _
  | succ m ih => have := ih (fun n hn => h n (by omega)); have := h m (by omega); rw [sumC]; omega
theorem sumC_full (p : List Int) (m : Nat) (h : ∀ n, n < m → p.count (n : Int) ≤ 1) (hs : sumC p m = m) : ∀ n, n < m → p.count (n : Int) = 1 := by
  induction m with
  | zero => intro n hn; omega
  | succ m ih =>
    have h1 := sumC_le p m (fun n hn => h n (by omega))
    have h2 := h m (by omega)
    rw [sumC] at hs
    intro n hn
    rcases Nat.lt_or_ge n m with hlt | hge
    · exact ih (fun n hn => h n (by omega)) (by omega) n hlt
    · have : n = m := by omega
      subst this; omega
theorem permB_iff (p : List Int) : permB p = true ↔ ∀ n, n < p.length → p.count (n : Int) = 1 := by
  simp [permB]
theorem permB_range {p : List Int} (h : permB p = true) : ∀ x ∈ p, 0 ≤ x ∧ x < p.length := by
  have h1 := sumC_ones p p.length ((permB_iff p).1 h)
  rw [sumC_eq] at h1
  have h2 := List.countP_eq_length.1 h1
  intro x hx
  have := h2 x hx
  simpa [inRange] using this
theorem permB_of {p : List Int} (hr : ∀ x ∈ p, 0 ≤ x ∧ x < p.length) (hc : ∀ x : Int, p.count x ≤ 1) : permB p = true := by
  rw [permB_iff]
  apply sumC_full p p.length (fun n _ => hc n)
  rw [sumC_eq, List.countP_eq_length]
  intro x hx
  have := hr x hx
  simpa [inRange] using this
theorem permB_out {p : List Int} {k : Nat} (hk : k < p.length) (h : ¬ (0 ≤ p.getD k 0 ∧ p.getD k 0 < p.length)) : permB p = false := by
  rw [Bool.eq_false_iff]
  intro hp
  apply h
  have := permB_range hp (p.getD k 0) (by simp [List.getD, hk])
  exact this
theorem count_take (p : List Int) (k : Nat) (hk : k < p.length) (x : Int) : (p.take (k + 1)).count x = (p.take k).count x + if p.getD k 0 = x then 1 else 0 := by
  rw [take_snoc p k hk, List.count_append]; simp [List.count_cons]
theorem count_le_of_take (p : List Int) (k : Nat) (x : Int) : (p.take k).count x ≤ p.count x := (List.take_sublist k p).count_le x
theorem permB_twice {p : List Int} {k : Nat} (hk : k < p.length) (h : p.getD k 0 ∈ p.take k) : permB p = false := by
  rw [Bool.eq_false_iff]
  intro hp
  have hr := permB_range hp (p.getD k 0) (by simp [List.getD, hk])
  have h1 : p.count (p.getD k 0) = 1 := by
    have := (permB_iff p).1 hp (p.getD k 0).toNat (by omega)
    rwa [show (((p.getD k 0).toNat : Nat) : Int) = p.getD k 0 from by omega] at this
  have h2 := count_le_of_take p (k + 1) (p.getD k 0)
  rw [count_take p k hk, if_pos rfl] at h2
  have h3 : 0 < (p.take k).count (p.getD k 0) := List.count_pos_iff.2 h
  omega

/-- The numbers of d that stand where p has n. -/
def pk : List Int → List Int → Int → List Int
  | x :: d, y :: p, n => if y = n then x :: pk d p n else pk d p n
  | _, _, _ => []
theorem pk_snoc (d p : List Int) (x y n : Int) (h : p.length = d.length) : pk (d ++ [x]) (p ++ [y]) n = pk d p n ++ if y = n then [x] else [] := by
  induction d generalizing p with
  | nil => cases p with | nil => simp [pk] | cons _ _ => simp at h
  | cons a d ih => cases p with
    | nil => simp at h
    | cons b p =>
      simp only [List.cons_append, pk, ih p (by simpa using h)]
      split <;> simp
theorem pk_take (d p : List Int) (k : Nat) (h : p.length = d.length) (hk : k < d.length) (n : Int) : pk (d.take (k + 1)) (p.take (k + 1)) n = pk (d.take k) (p.take k) n ++ if p.getD k 0 = n then [d.getD k 0] else [] := by
  rw [take_snoc d k hk, take_snoc p k (by omega), pk_snoc _ _ _ _ _ (by simp [h])]
theorem pk_length (d p : List Int) (n : Int) (h : p.length = d.length) : (pk d p n).length = p.count n := by
  induction d generalizing p with
  | nil => cases p with | nil => simp [pk] | cons _ _ => simp at h
  | cons a d ih => cases p with
    | nil => simp at h
    | cons b p =>
      rw [List.count_cons]
      simp only [pk, beq_iff_eq]
      by_cases hb : b = n
      · rw [if_pos hb, if_pos hb, List.length_cons, ih p (by simpa using h)]
      · rw [if_neg hb, if_neg hb, ih p (by simpa using h)]; rfl
/-- What stands at the place n. -/
def pf (d p : List Int) (n : Nat) : Int := (pk d p (n : Int)).getLastD 0
theorem pf_take (d p : List Int) (k : Nat) (h : p.length = d.length) (hk : k < d.length) (n : Nat) : pf (d.take (k + 1)) (p.take (k + 1)) n = if p.getD k 0 = (n : Int) then d.getD k 0 else pf (d.take k) (p.take k) n := by
  unfold pf
  rw [pk_take d p k h hk]
  split
  · simp [List.getLastD_eq_getLast?]
  · rw [List.append_nil]
def pickB (d p : List Int) : List Int := if p.length = d.length ∧ permB p = true then (List.range d.length).map (pf d p) else []
/-- Gathered place by place. -/
def pg (d p : List Int) : Nat → List Int
  | 0 => []
  | n + 1 => pg d p n ++ pk d p (n : Int)
theorem pg_eq (d p : List Int) (h : p.length = d.length) (hp : permB p = true) (n : Nat) (hn : n ≤ d.length) : pg d p n = (List.range n).map (pf d p) := by
  induction n with
  | zero => rfl
  | succ n ih =>
    rw [pg, ih (by omega), List.range_succ, List.map_append]
    congr 1
    have h1 := pk_length d p (n : Int) h
    rw [(permB_iff p).1 hp n (by omega)] at h1
    match hq : pk d p (n : Int), h1 with
    | [x], _ => simp [pf, hq]
theorem pg_length (d p : List Int) (h : p.length = d.length) (hp : permB p = true) (n : Nat) (hn : n ≤ d.length) : (pg d p n).length = n := by rw [pg_eq d p h hp n hn]; simp

/-- A row of ints, or bools, by a function. -/
def fI (n : Nat) (f : Nat → Int) : List Int := (List.range n).map f
theorem fI_set (n : Nat) (f : Nat → Int) (i : Nat) (x : Int) : (fI n f).set i x = fI n fun j => if i = j then x else f j := by
  apply List.ext_getElem
  · simp [fI]
  · intro j h1 h2
    simp only [fI, List.length_set, List.length_map, List.length_range] at h1
    rw [List.getElem_set]
    simp [fI]
theorem fI_congr (n : Nat) (f g : Nat → Int) (h : ∀ j, j < n → f j = g j) : fI n f = fI n g := by
  unfold fI
  apply List.map_congr_left
  intro j hj
  exact h j (by simpa using hj)
theorem fI_zero (n : Nat) : List.replicate n (0 : Int) = fI n fun _ => 0 := by
  simp [fI, List.map_const']

def cellsB (n : Nat) (f : Nat → Bool) : Array Value := ((List.range n).map fun j => Value.bool (f j)).toArray
/-- Block g is just these bools, none frozen. -/
def OwnB (w : World) (g n : Nat) (f : Nat → Bool) : Prop := w.heap[g]? = some (.cells (cellsB n f) 4 (0, 0))
section
variable {w w' : World} {g n : Nat} {f : Nat → Bool}
theorem OwnB.cell (h : OwnB w g n f) {i : Nat} (hi : i < n) : w.cell? ⟨g, i, none⟩ = some (.bool (f i)) := by
  rw [cell_of_row w g i _ _ _ h]; simp [cellsB, hi]
theorem OwnB.frozen (h : OwnB w g n f) (i : Nat) : w.frozen? ⟨g, i, none⟩ = false := by
  unfold OwnB at h
  simp [World.frozen?, h]
theorem OwnB.made (w : World) (n : Nat) : OwnB (w.alloc (.cells (madeCells #[Value.bool false] n) 4)) w.heap.size n (fun _ => false) := by
  have e : madeCells #[Value.bool false] n = cellsB n fun _ => false := by
    apply Array.ext
    · simp [madeCells, cellsB]
    · intro i h1 h2
      simp [madeCells, cellsB, Nat.mod_one]
  unfold OwnB; rw [← e]; exact heap_alloc_new w _
theorem OwnB.set_ (h : OwnB w g n f) (i : Nat) (x : Bool) : OwnB (w.setCell ⟨g, i, none⟩ (.bool x)) g n (fun j => if i = j then x else f j) := by
  have e : (cellsB n f).setIfInBounds i (.bool x) = cellsB n fun j => if i = j then x else f j := by
    apply Array.ext
    · simp [cellsB]
    · intro j h1 h2
      simp only [cellsB, Array.size_setIfInBounds, List.size_toArray, List.length_map, List.length_range] at h1
      rw [Array.getElem_setIfInBounds]
      · simp only [cellsB, List.getElem_toArray, List.getElem_map, List.getElem_range]
        split <;> rfl
      · simpa [cellsB] using h1
  unfold OwnB at h ⊢
  simp only [World.setCell, Array.getElem?_modify, if_true, h, Option.map_some, e]
  rfl
theorem OwnB.drewN (h : OwnB w g n f) (k : Nat) : OwnB (w.drewN k) g n f := h
theorem OwnB.congr {f' : Nat → Bool} (h : OwnB w g n f) (e : ∀ j, j < n → f j = f' j) : OwnB w g n f' := by
  have : cellsB n f = cellsB n f' := by
    unfold cellsB
    congr 1
    apply List.map_congr_left
    intro j hj
    rw [e j (by simpa using hj)]
  unfold OwnB at h ⊢
  rw [← this]; exact h
end
theorem infoBool : (Try.prog.info? 4).map (fun i => (i.zero, i.size, i.bytes)) = some (some (.bool false), 1, 1) := by kernel_rfl
end Go.Proofs.Ythabimjmdnhomaa.Sh
