/-
  What rifflelaw11.does tells of a ring and the document's ring with the same rows: that they tell the same; what rows both have behind it. Conditions: at most 64 rows, a row of at most 100 numbers.
-/
import Derived.Test.YtocdejjkmfnnnaaRgSame
import Derived.Deep.RegionWith
set_option maxRecDepth 100000
namespace Go.Proofs.Ytocdejjkmfnnnaa.Rg
open Go.Proofs.Ytocdejjkmfnnnaa.Sh Go.Proofs.Ytocdejjkmfnnnaa.St
open Go.RowKit
set_option linter.unusedVariables false

/-- The rows behind a deed. -/
def doL (n s : Nat) (rs : List (List Int)) (d : Deed) : List (List Int) := if d.1 = 0 then pushL n s rs d.2.2 else if d.1 = 1 then rs.tail else rs
def RetDo (S : Nat → Prop) (g h n s : Nat) (rs : List (List Int)) (w : World) (e : Ending) (w' : World) : Prop := ∃ x, e = .returned (.tuple #[x, .bool true]) ∧ IsR (fun b => S b ∨ w.heap.size ≤ b) w' n s rs x ∧ Ring w' g h n s rs ∧ Turn (Two g h) w w'
/-- The boxes of does: the document's ring, the deed, the answer. -/
def DoB (w0 w : World) (AV : Option Addr) (N cV n s : Nat) (K I : Int) (B : Option Addr) (m cB : Nat) : Prop :=
  Bk 32 w w0.heap.size [.slice AV N cV, .int .i64 n, .int .i64 s] ∧ Bk 35 w (w0.heap.size + 1) [.int .i64 K, .int .i64 I, .slice B m cB] ∧ Bk 32 w (w0.heap.size + 1 + 1) [.slice none 0 0, .int .i64 0, .int .i64 0] ∧ w0.heap.size + 1 + 1 + 1 ≤ w.heap.size
section
variable {w0 w w' : World} {AV : Option Addr} {N cV n s : Nat} {K I : Int} {B : Option Addr} {m cB g h : Nat}
theorem DoB.new (w : World) (AV : Option Addr) (N cV n s : Nat) (K I : Int) (B : Option Addr) (m cB : Nat) : DoB w (((w.alloc (.cells #[.slice AV N cV, .int .i64 n, .int .i64 s] 32)).alloc (.cells #[.int .i64 K, .int .i64 I, .slice B m cB] 35)).alloc (.cells #[.slice none 0 0, .int .i64 0, .int .i64 0] 32)) AV N cV n s K I B m cB := by
  have h1 := Bk.new 32 w [.slice AV N cV, .int .i64 n, .int .i64 s]
  have h2 := Bk.new 35 (w.alloc (.cells #[.slice AV N cV, .int .i64 n, .int .i64 s] 32)) [.int .i64 K, .int .i64 I, .slice B m cB]
  have h3 := Bk.new 32 ((w.alloc (.cells #[.slice AV N cV, .int .i64 n, .int .i64 s] 32)).alloc (.cells #[.int .i64 K, .int .i64 I, .slice B m cB] 35)) [.slice none 0 0, .int .i64 0, .int .i64 0]
  rw [show (w.alloc (.cells #[.slice AV N cV, .int .i64 n, .int .i64 s] 32)).heap.size = w.heap.size + 1 from by simp] at h2
  rw [show ((w.alloc (.cells #[.slice AV N cV, .int .i64 n, .int .i64 s] 32)).alloc (.cells #[.int .i64 K, .int .i64 I, .slice B m cB] 35)).heap.size = w.heap.size + 1 + 1 from by simp] at h3
  exact ⟨(h1.alloc _).alloc _, h2.alloc _, h3, by simp⟩
theorem DoB.turn {T : Nat → Prop} (b : DoB w0 w AV N cV n s K I B m cB) (ht : Turn T w w') (hT : ∀ i, T i → i < w0.heap.size) : DoB w0 w' AV N cV n s K I B m cB :=
  ⟨b.1.turn ht fun h => by have := hT _ h; omega, b.2.1.turn ht fun h => by have := hT _ h; omega, b.2.2.1.turn ht fun h => by have := hT _ h; omega, Nat.le_trans b.2.2.2 ht.size⟩
theorem DoB.next (b : DoB w0 w AV N cV n s K I B m cB) (hb : Below w.heap.size w w') : DoB w0 w' AV N cV n s K I B m cB := b.turn (Turn.of_below (fun _ => False) hb) fun _ h => h.elim
theorem DoB.cells (b : DoB w0 w AV N cV n s K I B m cB) : (w.cell? ⟨w0.heap.size, 0, none⟩ = some (.slice AV N cV) ∧ w.cell? ⟨w0.heap.size, 1, none⟩ = some (.int .i64 n) ∧ w.cell? ⟨w0.heap.size, 2, none⟩ = some (.int .i64 s)) ∧ (w.cell? ⟨w0.heap.size + 1, 1, none⟩ = some (.int .i64 I) ∧ w.cell? ⟨w0.heap.size + 1, 2, none⟩ = some (.slice B m cB)) ∧
    (w.cell? ⟨w0.heap.size + 1 + 1, 0, none⟩ = some (.slice none 0 0) ∧ w.cell? ⟨w0.heap.size + 1 + 1, 1, none⟩ = some (.int .i64 0) ∧ w.cell? ⟨w0.heap.size + 1 + 1, 2, none⟩ = some (.int .i64 0)) ∧ w.frozen? ⟨w0.heap.size + 1 + 1, 0, none⟩ = false ∧ w.frozen? ⟨w0.heap.size + 1 + 1, 1, none⟩ = false ∧ w.frozen? ⟨w0.heap.size + 1 + 1, 2, none⟩ = false :=
  ⟨⟨b.1.c 0, b.1.c 1, b.1.c 2⟩, ⟨b.2.1.c 1, b.2.1.c 2⟩, ⟨b.2.2.1.c 0, b.2.2.1.c 1, b.2.2.1.c 2⟩, b.2.2.1.f 0, b.2.2.1.f 1, b.2.2.1.f 2⟩
end
theorem two_lt {w : World} {g h n s : Nat} {rs : List (List Int)} (r : Ring w g h n s rs) : ∀ i, Two g h i → i < w.heap.size := fun i hi => by
  obtain ⟨f, c, cs, h1, h2, _⟩ := r
  have l1 := h1.lt
  have l2 := h2.lt
  rcases hi with hi | hi <;> omega
set_option maxHeartbeats 1000000 in
/-- The answer is laid. -/
theorem do_end {S : Nat → Prop} {g h n s : Nat} {rs rs' : List (List Int)} {w w6 : World} {A4 : Option Addr} {c4 : Nat} (r0 : Ring w g h n s rs) (hS : ∀ b, S b → b < w.heap.size) (hx : RwsIn (fun b => S b ∨ w.heap.size + 1 + 1 + 1 ≤ b) w6 (.slice A4 rs'.length c4) rs') (r6 : Ring w6 g h n s rs') (ht : Turn (Two g h) w w6) (a b c : Value) :
    RetDo S g h n s rs' w (.returned (.tuple #[.agg #[.slice A4 rs'.length c4, .int .i64 n, .int .i64 s], .bool true])) (((w6.setCell ⟨w.heap.size + 1 + 1, 0, none⟩ a).setCell ⟨w.heap.size + 1 + 1, 1, none⟩ b).setCell ⟨w.heap.size + 1 + 1, 2, none⟩ c) := by
  have h2 := two_lt r0
  have hT : Turn (fun i => i = w.heap.size + 1 + 1) w6 (((w6.setCell ⟨w.heap.size + 1 + 1, 0, none⟩ a).setCell ⟨w.heap.size + 1 + 1, 1, none⟩ b).setCell ⟨w.heap.size + 1 + 1, 2, none⟩ c) :=
    Turn.setCell (p := ⟨w.heap.size + 1 + 1, 2, none⟩) (Turn.setCell (p := ⟨w.heap.size + 1 + 1, 1, none⟩) (Turn.setCell (p := ⟨w.heap.size + 1 + 1, 0, none⟩) (Turn.refl (fun i => i = w.heap.size + 1 + 1) w6) (.inl rfl) a) (.inl rfl) b) (.inl rfl) c
  have hle : ∀ k, w.heap.size ≤ (⟨w.heap.size + 1 + 1, k, none⟩ : Addr).block := fun k => by show w.heap.size ≤ w.heap.size + 1 + 1; omega
  have hT2 : Turn (Two g h) w (((w6.setCell ⟨w.heap.size + 1 + 1, 0, none⟩ a).setCell ⟨w.heap.size + 1 + 1, 1, none⟩ b).setCell ⟨w.heap.size + 1 + 1, 2, none⟩ c) :=
    Turn.setCell (p := ⟨w.heap.size + 1 + 1, 2, none⟩) (Turn.setCell (p := ⟨w.heap.size + 1 + 1, 1, none⟩) (Turn.setCell (p := ⟨w.heap.size + 1 + 1, 0, none⟩) ht (.inr (hle 0)) a) (.inr (hle 1)) b) (.inr (hle 2)) c
  have hx2 := RwsIn.turn hx hT
  have hr2 := Ring.turn r6 hT
  refine ⟨_, rfl, ⟨A4, c4, rfl, (hx2 fun i hi he => ?_).mono fun i hi => ?_⟩, hr2 (fun e => ?_) (fun e => ?_), hT2⟩
  · rcases hi with hi | hi
    · have := hS i hi; omega
    · omega
  · rcases hi with hi | hi
    · exact .inl hi
    · exact .inr (by omega)
  · have := h2 g (.inl rfl); omega
  · have := h2 h (.inr rfl); omega
end Go.Proofs.Ytocdejjkmfnnnaa.Rg
