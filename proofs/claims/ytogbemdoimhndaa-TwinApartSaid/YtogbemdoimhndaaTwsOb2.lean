/-
  The same where all that the window has lies at or above a bound. Conditions: as told in each.
-/
import Derived.Test.YtogbemdoimhndaaTwsOb
set_option maxRecDepth 100000
namespace Go.Proofs.Ytogbemdoimhndaa.Tws
open Go.Proofs.Ytogbemdoimhndaa.Sh Go.Proofs.Ytogbemdoimhndaa.St
open Go.RowKit
set_option linter.unusedVariables false

/-- A window all of whose blocks lie at or above n₀. -/
def Low (n₀ : Nat) (w : World) (g m : Nat) (l : List ByteArray) : Prop := ∃ base, Ob base w g m l (n₀ ≤ ·) ∧ n₀ ≤ w.heap.size
theorem Low.next {n₀ : Nat} {w w' : World} {g m : Nat} {l : List ByteArray} (h : Low n₀ w g m l) (hb : Below w.heap.size w w') : Low n₀ w' g m l := by
  obtain ⟨base, h, hn⟩ := h
  exact ⟨base, h.next hb, Nat.le_trans hn hb.size⟩
theorem Left.low {base n₀ g m : Nat} {l : List ByteArray} {w w' : World} (h : Left base g m l (n₀ ≤ ·) w w') (hn : n₀ ≤ w.heap.size) : Low n₀ w' g m l ∧ Below n₀ w w' := by
  obtain ⟨T', ⟨FV, BV, fs, bs, tv, tb, r, e, hy, hT⟩, ht, hs⟩ := h
  refine ⟨⟨base, ⟨FV, BV, fs, bs, tv, tb, r, e, hy, fun b k => ?_⟩, Nat.le_trans hn ht.size⟩, ht.below hn fun i hi => hi⟩
  rcases hs b (hT b k) with h | h
  · exact h
  · exact Nat.le_trans hn h
theorem low_new (m : Nat) (w : World) (h1 : 1 ≤ m) (h2 : m ≤ 64) : Calls Try.prog 9 #[.int .i64 (m : Int), jv] w fun e w' => ∃ g, e = .returned (.tuple #[.pointer (some ⟨g, 0, none⟩), .int .i64 0]) ∧ Low w.heap.size w' g m [] ∧ Below w.heap.size w w' :=
  (ob_new m w h1 h2).mono fun e w' ⟨g, he, h, hb⟩ => ⟨g, he, ⟨_, h, hb.size⟩, hb⟩
theorem low_push (n₀ g m : Nat) (l : List ByteArray) (x : ByteArray) (w : World) (h : Low n₀ w g m l) (hl : l.length < m) (hm : m ≤ 64) (hx : wsum (l ++ [x]) ≤ 10000) :
    Calls Try.prog 18 #[.pointer (some ⟨g, 0, none⟩), Value.string x] w fun e w' => e = .returned (.int .i64 0) ∧ Low n₀ w' g m (l ++ [x]) ∧ Below n₀ w w' := by
  obtain ⟨base, h, hn⟩ := h
  exact (ob_push base g m l _ x w h hl hm hx).mono fun e w' ⟨he, h⟩ => ⟨he, h.low hn⟩
theorem low_drop (n₀ g m : Nat) (l : List ByteArray) (x : ByteArray) (w : World) (h : Low n₀ w g m (x :: l)) (hl : l.length < 64) (hx : wsum (x :: l) ≤ 10000) :
    Calls Try.prog 16 #[.pointer (some ⟨g, 0, none⟩)] w fun e w' => e = .returned (.bool true) ∧ Low n₀ w' g m l ∧ Below n₀ w w' := by
  obtain ⟨base, h, hn⟩ := h
  exact (ob_drop base g m l _ x w h hl hx).mono fun e w' ⟨he, h⟩ => ⟨he, h.low hn⟩
theorem low_all (n₀ g m : Nat) (l : List ByteArray) (w : World) (h : Low n₀ w g m l) (hl : l.length ≤ 900) (hx : wsum l ≤ 1000000) :
    Calls Try.prog 15 #[.pointer (some ⟨g, 0, none⟩)] w fun e w' => e = .returned (.tuple #[Value.string (jl l), .bool (decide (0 < l.length))]) ∧ Low n₀ w' g m l ∧ Below w.heap.size w w' := by
  obtain ⟨base, h, hn⟩ := h
  exact (ob_all base g m l _ w h hl hx).mono fun e w' ⟨he, hb⟩ => ⟨he, ⟨base, h.next hb, Nat.le_trans hn hb.size⟩, hb⟩
theorem low_len (n₀ g m : Nat) (l : List ByteArray) (w : World) (h : Low n₀ w g m l) (hl : l.length ≤ 900) :
    Calls Try.prog 17 #[.pointer (some ⟨g, 0, none⟩)] w fun e w' => e = .returned (.int .i64 (l.length : Nat)) ∧ Low n₀ w' g m l ∧ Below w.heap.size w w' := by
  obtain ⟨base, h, hn⟩ := h
  exact (ob_len base g m l _ w h hl).mono fun e w' ⟨he, hb⟩ => ⟨he, ⟨base, h.next hb, Nat.le_trans hn hb.size⟩, hb⟩
end Go.Proofs.Ytogbemdoimhndaa.Tws
