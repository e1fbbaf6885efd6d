/-
  Plain facts on lists of integers for the axes of layer 1: products, what may be, what two lists have in common. No condition; nothing of the program stands here.
-/
import Derived.WalkKit
import Derived.Deep.Draws
namespace Go.Proofs.Ythabimjmdnhomaa.Sh
open Go.RowKit
set_option linter.unusedVariables false

/-- All numbers multiplied. -/
def prod (l : List Int) : Int := l.foldl (· * ·) 1
/-- May a length be? -/
def okAx (n : Int) : Bool := decide (0 ≤ n) && decide (n ≤ 64)
/-- May these axes be? -/
def rightB (l : List Int) : Bool := decide (l.length ≤ 3) && l.all okAx && decide (prod l ≤ 64)
/-- How many places they have. -/
def sizeI (l : List Int) : Int := if rightB l = true then prod l else 0

theorem prod_nil : prod [] = 1 := rfl
theorem prod_snoc (l : List Int) (x : Int) : prod (l ++ [x]) = prod l * x := by simp [prod]
theorem take_snoc (l : List Int) (k : Nat) (h : k < l.length) : l.take (k + 1) = l.take k ++ [l.getD k 0] := by
  rw [List.take_succ_eq_append_getElem h]; simp [List.getD, h]
theorem prod_take (l : List Int) (k : Nat) (h : k < l.length) : prod (l.take (k + 1)) = prod (l.take k) * l.getD k 0 := by
  rw [take_snoc l k h, prod_snoc]
theorem all_take (l : List Int) (k : Nat) (h : k < l.length) : (l.take (k + 1)).all okAx = ((l.take k).all okAx && okAx (l.getD k 0)) := by
  rw [take_snoc l k h]; simp
theorem okAx_bd {n : Int} (h : okAx n = true) : 0 ≤ n ∧ n ≤ 64 := by simpa [okAx] using h

theorem mul_bd {a b m : Int} (h0 : 0 ≤ a) (h1 : a ≤ m) (h2 : 0 ≤ b) (h3 : b ≤ 64) : 0 ≤ a * b ∧ a * b ≤ m * 64 :=
  ⟨Int.mul_nonneg h0 h2, Int.mul_le_mul h1 h3 h2 (by omega)⟩

/-- The bound of a product, by how many numbers there are. -/
theorem prod_bd (l : List Int) (h : l.all okAx = true) : 0 ≤ prod l ∧ (l.length ≤ 3 → prod l ≤ 262144) ∧ (l.length ≤ 2 → prod l ≤ 4096) ∧ (l.length ≤ 1 → prod l ≤ 64) ∧ (l.length = 0 → prod l = 1) := by
  match l, h with
  | [], _ => simp [prod]
  | [a], h =>
    have ha : okAx a = true := by simpa using h
    have := okAx_bd ha
    simp [prod]; omega
  | [a, b], h =>
    have h' : okAx a = true ∧ okAx b = true := by simpa using h
    have ba := okAx_bd h'.1
    have bb := okAx_bd h'.2
    have := mul_bd ba.1 ba.2 bb.1 bb.2
    simp [prod]; omega
  | [a, b, c], h =>
    have h' : okAx a = true ∧ okAx b = true ∧ okAx c = true := by simpa using h
    have ba := okAx_bd h'.1
    have bb := okAx_bd h'.2.1
    have bc := okAx_bd h'.2.2
    have h1 := mul_bd ba.1 ba.2 bb.1 bb.2
    have h2 := mul_bd h1.1 h1.2 bc.1 bc.2
    simp [prod]; omega
  | a :: b :: c :: d :: r, h =>
    have hn : ∀ (l : List Int) (x : Int), 0 ≤ x → l.all okAx = true → 0 ≤ l.foldl (· * ·) x := by
      intro l
      induction l with
      | nil => intro x hx _; simpa using hx
      | cons y t ih =>
        intro x hx ht
        simp only [List.all_cons, Bool.and_eq_true] at ht
        exact ih _ (Int.mul_nonneg hx (okAx_bd ht.1).1) ht.2
    exact ⟨hn _ 1 (by omega) h, by simp, by simp, by simp, by simp⟩

theorem rightB_len {l : List Int} (h : 3 < l.length) : rightB l = false := by simp [rightB]; omega
theorem sizeI_len {l : List Int} (h : 3 < l.length) : sizeI l = 0 := by simp [sizeI, rightB_len h]
theorem all_of_take {l : List Int} {k : Nat} (h : (l.take k).all okAx = false) : l.all okAx = false := by
  rw [← List.take_append_drop k l, List.all_append, h, Bool.false_and]
theorem rightB_bad {l : List Int} {k : Nat} (h : k < l.length) (hb : okAx (l.getD k 0) = false) : rightB l = false := by
  have : (l.take (k + 1)).all okAx = false := by rw [all_take l k h, hb, Bool.and_false]
  simp [rightB, all_of_take this]
theorem sizeI_bad {l : List Int} {k : Nat} (h : k < l.length) (hb : okAx (l.getD k 0) = false) : sizeI l = 0 := by simp [sizeI, rightB_bad h hb]
theorem rightB_great {l : List Int} (h : 64 < prod l) : rightB l = false := by simp [rightB]; omega
theorem sizeI_great {l : List Int} (h : 64 < prod l) : sizeI l = 0 := by simp [sizeI, rightB_great h]
theorem rightB_mk {l : List Int} (h3 : l.length ≤ 3) (ha : l.all okAx = true) (hp : prod l ≤ 64) : rightB l = true := by
  simp only [rightB, Bool.and_eq_true, decide_eq_true_eq]; exact ⟨⟨h3, ha⟩, hp⟩
theorem sizeI_mk {l : List Int} (h3 : l.length ≤ 3) (ha : l.all okAx = true) (hp : prod l ≤ 64) : sizeI l = prod l := by simp [sizeI, rightB_mk h3 ha hp]
theorem rightB_all {l : List Int} (h : rightB l = true) : l.length ≤ 3 ∧ l.all okAx = true ∧ prod l ≤ 64 := by
  simp only [rightB, Bool.and_eq_true, decide_eq_true_eq] at h; exact ⟨h.1.1, h.1.2, h.2⟩
theorem okAx_at {l : List Int} (h : l.all okAx = true) (k : Nat) (hk : k < l.length) : 0 ≤ l.getD k 0 ∧ l.getD k 0 ≤ 64 := by
  have : okAx l[k] = true := List.all_eq_true.1 h _ (List.getElem_mem hk)
  have := okAx_bd this
  simpa [List.getD, hk] using this

theorem ret_int {k : IntKind} {a b : Int} (h : a = b) : Ending.returned (.int k a) = .returned (.int k b) := by rw [h]
theorem ret_bool {a b : Bool} (h : a = b) : Ending.returned (.bool a) = .returned (.bool b) := by rw [h]
theorem ret_two {k : IntKind} {a b : Int} {c d : Bool} (h : a = b) (h' : c = d) : Ending.returned (.tuple #[.int k a, .bool c]) = .returned (.tuple #[.int k b, .bool d]) := by rw [h, h']

/-- A slice of numbers, nil let in: where there is a number, it lies at an address below the heap's end. -/
def Ints (w : World) (A : Option Addr) (l : List Int) : Prop :=
  0 < l.length → ∃ b off, A = some ⟨b, off, none⟩ ∧ b < w.heap.size ∧ ∀ i, i < l.length → w.cell? ⟨b, off + i, none⟩ = some (.int .i64 (l.getD i 0))
theorem Ints.below {w w' : World} {A : Option Addr} {l : List Int} (h : Ints w A l) (hb : Below w.heap.size w w') : Ints w' A l := by
  intro hl
  obtain ⟨b, off, e, hlt, hc⟩ := h hl
  exact ⟨b, off, e, Nat.lt_of_lt_of_le hlt hb.size, fun i hi => (hb.cell (p := ⟨b, off + i, none⟩) hlt).trans (hc i hi)⟩
theorem Ints.drewN {w : World} {A : Option Addr} {l : List Int} (h : Ints w A l) (n : Nat) : Ints (w.drewN n) A l := h
theorem below_drewN {B : Nat} {a w : World} (h : Below B a w) (n : Nat) : Below B a (w.drewN n) := ⟨h.os, h.tape, h.output, h.size, h.block⟩
theorem below_next {a b c : World} (h : Below a.heap.size a b) (k : Below b.heap.size b c) : Below a.heap.size a c := h.trans (k.mono h.size)
end Go.Proofs.Ythabimjmdnhomaa.Sh
