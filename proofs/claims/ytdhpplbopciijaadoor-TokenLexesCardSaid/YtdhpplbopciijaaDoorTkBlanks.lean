/-
  Layer 17, token: rifflelaw17.TokenBlanks. Condition: the two tables of unicode/utf8 hold what their text lays.
-/
import Derived.Test.YtdhpplbopciijaaDoorTkAlike
import Derived.Test.YtdhpplbopciijaaDoorTkRises0
import Derived.Deep.RegionHeld3
set_option maxRecDepth 100000
namespace Go.Proofs.YtdhpplbopciijaaDoor.Tk
open Go.Proofs.YtdhpplbopciijaaDoor.Sh Go.Proofs.YtdhpplbopciijaaDoor.St
open Go.RowKit
set_option linter.unusedVariables false

theorem cell_next {w w' : World} {b o : Nat} {v : Value} (h : w.cell? ⟨b, o, none⟩ = some v) (hl : b < w.heap.size) (hb : Below w.heap.size w w') : w'.cell? ⟨b, o, none⟩ = some v := (hb.cell (p := ⟨b, o, none⟩) hl).trans h
theorem pos_le {s : ByteArray} {qs : List Qt} (hf : Fine s.data.toList.length (.inl (qs.map Prod.fst))) {q : Qt} (hq : q ∈ qs) : q.1.pos ≤ s.size := by
  obtain ⟨b, hi⟩ := hf
  have h1 := (hi.1 q.1 (List.mem_map_of_mem hq)).1.1
  have h2 : s.data.toList.length = s.size := by simp
  omega
/-- Both results of Lex in one form. -/
theorem retX_two {s : ByteArray} {w w' : World} {e : Ending} (h : RetX s w e w') : ∃ R A c qs, ∃ E P : Nat, LexIs s.data.toList R ∧ e = .returned (.tuple #[.slice A (List.length qs) c, .agg #[.int .i64 (E : Int), .int .i64 (P : Int)]]) ∧ Live w.heap.size w' (.slice A qs.length c) qs ∧ Below w.heap.size w w' ∧ qs.length ≤ 400 ∧ (∀ q ∈ qs, q.1.nums.length ≤ 64) ∧ (∀ q ∈ qs, q.1.pos ≤ s.size) ∧ P ≤ s.size ∧ ((R = .inl (qs.map Prod.fst) ∧ E = 0) ∨ (qs = [] ∧ R = .inr (E, P) ∧ E ≠ 0)) := by
  obtain ⟨R, hR, h⟩ := h
  have hf := lexIs_facts hR
  cases R with
  | inl ts =>
    obtain ⟨V, qs, rfl, hl, rfl, hok, hb⟩ := h
    obtain ⟨A, c, rfl, -⟩ := hl.view
    exact ⟨_, A, c, qs, 0, 0, hR, rfl, hl, hb, by simpa using hok.1, fun q hq => hok.2 q.1 (List.mem_map_of_mem hq), fun q hq => pos_le hf hq, Nat.zero_le _, .inl ⟨rfl, rfl⟩⟩
  | inr ep =>
    obtain ⟨e0, p⟩ := ep
    obtain ⟨rfl, hb⟩ := h
    exact ⟨_, none, 0, [], e0, p, hR, rfl, Live.nil' _ _, hb, by simp, fun q hq => by simp at hq, fun q hq => by simp at hq, by have := hf.2; simpa using this, .inr ⟨rfl, rfl, hf.1⟩⟩
def moreN (n : Nat) : List Int := [((n : Int)) % 10, 200 + ((n : Int)) % 9, 40]
def moreB (s : ByteArray) (n : Nat) : ByteArray := { data := #[32] } ++ s ++ { data := #[9, 35, 32] } ++ strOfNums (moreN n)
def moreZ (n : Nat) : List UInt8 := [9, 35, 32] ++ (moreN n).map fun n => UInt8.ofNat n.toNat
theorem more_list (s : ByteArray) (n : Nat) : (moreB s n).data.toList = 32 :: (s.data.toList ++ moreZ n) := by
  unfold moreB moreZ strOfNums
  simp [ByteArray.data_append]
theorem more_tail (n : Nat) : Tail (moreZ n) := by
  refine ⟨⟨_, rfl⟩, fun x hx => ?_⟩
  unfold moreZ moreN at hx
  simp at hx
  rcases hx with rfl | rfl | rfl | rfl | rfl | rfl
  · decide
  · decide
  · decide
  · intro h
    have h1 : (UInt8.ofNat (((n : Int) % 10).toNat)).toNat = 10 := by rw [h]; rfl
    simp at h1; omega
  · intro h
    have h1 : (UInt8.ofNat ((200 + (n : Int) % 9).toNat)).toNat = 10 := by rw [h]; rfl
    simp at h1; omega
  · decide
theorem more_size (s : ByteArray) (n : Nat) : (moreB s n).size = s.size + 7 := by
  have h := congrArg List.length (more_list s n)
  simp [moreZ, moreN] at h
  omega
end Go.Proofs.YtdhpplbopciijaaDoor.Tk
