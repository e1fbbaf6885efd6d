/-
  A window of string by two stacks: the mathematics of its sums, the object in memory, and what Len and New answer. Conditions: as told in each.
-/
import Derived.Test.YtogbemdoimhndaaTwsMeet
import Derived.Deep.QuietTactic
import Derived.BigQuiet
set_option maxRecDepth 100000
namespace Go.Proofs.Ytogbemdoimhndaa.Tws
open Go.Proofs.Ytogbemdoimhndaa.Sh Go.Proofs.Ytogbemdoimhndaa.St
open Go.RowKit
set_option linter.unusedVariables false

theorem jn_assoc (a b c : ByteArray) : jn a (jn b c) = jn (jn a b) c := by
  unfold jn
  rw [ByteArray.append_assoc]
/-- All joined, from the first one on. -/
def jl : List ByteArray → ByteArray
  | [] => (⟨#[]⟩ : ByteArray)
  | [x] => x
  | x :: y :: l => jn x (jl (y :: l))
theorem jl_cons (x : ByteArray) {l : List ByteArray} (h : 0 < l.length) : jl (x :: l) = jn x (jl l) := by
  cases l with
  | nil => simp at h
  | cons y t => rfl
theorem jl_app {b : List ByteArray} (hb : 0 < b.length) : ∀ a : List ByteArray, 0 < a.length → jl (a ++ b) = jn (jl a) (jl b)
  | [], h => by simp at h
  | [x], _ => jl_cons x hb
  | x :: y :: l, _ => by
    have ih := jl_app hb (y :: l) (by simp)
    rw [List.cons_append, jl_cons x (by simp), ih, jn_assoc, jl_cons x (l := y :: l) (by simp)]
/-- How much room values take. -/
def wsum (l : List ByteArray) : Nat := (l.map wt).sum
theorem wsum_app (a b : List ByteArray) : wsum (a ++ b) = wsum a + wsum b := by simp [wsum]
theorem wsum_cons (x : ByteArray) (l : List ByteArray) : wsum (x :: l) = wt x + wsum l := by simp [wsum]
theorem wt_jl : ∀ l : List ByteArray, wt (jl l) ≤ wsum l
  | [] => by first | (simp [jl, wt, wsum]; done) | exact Nat.le_refl 0
  | [x] => by simp [jl, wsum]
  | x :: y :: l => by
    have ih := wt_jl (y :: l)
    rw [jl_cons x (by simp), wsum_cons]
    unfold jn wt at *
    rw [ByteArray.size_append]
    omega
/-- The front stack's sums, the newest value's at the bottom. -/
def sums : List ByteArray → List ByteArray
  | [] => []
  | x :: l => sums l ++ [jl (x :: l)]
theorem sums_len : ∀ l, (sums l).length = l.length
  | [] => rfl
  | x :: l => by simp [sums, sums_len l]
/-- Sums as cells. -/
def flat (ss : List ByteArray) : List Value := ss.flatMap fun s => [Value.string s, .bool true]
theorem flat_app (a b : List ByteArray) : flat (a ++ b) = flat a ++ flat b := by simp [flat]
theorem flat_len (ss : List ByteArray) : (flat ss).length = ss.length * 2 := by
  induction ss with
  | nil => rfl
  | cons s t ih => simp [flat] at ih ⊢; omega
theorem flat_last (ss : List ByteArray) (s : ByteArray) : (flat (ss ++ [s]))[ss.length * 2]? = some (Value.string s) ∧ (flat (ss ++ [s]))[ss.length * 2 + 1]? = some (.bool true) := by
  rw [flat_app]
  constructor
  · rw [List.getElem?_append_right (by rw [flat_len]; omega), flat_len, Nat.sub_self]; rfl
  · rw [List.getElem?_append_right (by rw [flat_len]; omega), flat_len, show ss.length * 2 + 1 - ss.length * 2 = 1 by omega]; rfl
theorem flat_one (ss : List ByteArray) : ∀ u ∈ flat ss, u.oneCell' = true := fun u hu => by
  simp only [flat, List.mem_flatMap] at hu
  obtain ⟨s, _, hs⟩ := hu
  simp at hs
  rcases hs with rfl | rfl <;> rfl
theorem infoV : (Try.prog.info? 9).map (fun i => (i.zero, i.size, i.bytes)) = some (some (.string ⟨#[]⟩ : Value), 1, 16) := by kernel_rfl
theorem infoN : (Try.prog.info? 69).map (fun i => (i.zero, i.size, i.bytes)) = some (some (.agg #[(.string ⟨#[]⟩ : Value), .bool false]), 2, 24) := by kernel_rfl
/-- A window behind the pointer to block g: its room, the values of the front stack, first one first, and those of the back one. -/
def Tw (base : Nat) (w : World) (g m : Nat) (FV BV : Value) (fs bs : List ByteArray) (tv : Value) (tb : Bool) : Prop :=
  Bk 71 w g [.int .i64 m, jv, FV, BV, tv, .bool tb] ∧ w.ownsRow base 69 2 FV fs.length (flat (sums fs)) ∧ w.ownsRow base 9 1 BV bs.length (bs.map (Value.string)) ∧ base ≤ g ∧ (0 < bs.length → tv = Value.string (jl bs) ∧ tb = true)
/-- The blocks of a window. -/
def Tt (g : Nat) (FV BV : Value) (b : Nat) : Prop := b = g ∨ FV.ownBlock = some b ∨ BV.ownBlock = some b
/-- The row lies where it lay, or in a new block. -/
def Fresh (w : World) (V V' : Value) : Prop := ∀ k, V'.ownBlock = some k → V.ownBlock = some k ∨ w.heap.size ≤ k
section
variable {base : Nat} {w w' : World} {g m : Nat} {FV BV tv : Value} {tb : Bool} {fs bs : List ByteArray} {T : Nat → Prop}
theorem Tw.turn (r : Tw base w g m FV BV fs bs tv tb) (hb : Turn T w w') (hT : ∀ b, Tt g FV BV b → ¬ T b) : Tw base w' g m FV BV fs bs tv tb :=
  ⟨r.1.turn hb (hT g (.inl rfl)), own_turn r.2.1 hb fun b h => hT b (.inr (.inl h)), own_turn r.2.2.1 hb fun b h => hT b (.inr (.inr h)), r.2.2.2⟩
theorem Tw.next (r : Tw base w g m FV BV fs bs tv tb) (hb : Below w.heap.size w w') : Tw base w' g m FV BV fs bs tv tb := r.turn (Turn.of_below (fun _ => False) hb) fun _ _ h => h
theorem Tw.lt (r : Tw base w g m FV BV fs bs tv tb) : ∀ b, Tt g FV BV b → b < w.heap.size ∧ base ≤ b := fun b hb => by
  rcases hb with rfl | hb | hb
  · exact ⟨r.1.lt, r.2.2.2.1⟩
  · exact ⟨own_lt r.2.1 b hb, own_base r.2.1 b hb⟩
  · exact ⟨own_lt r.2.2.1 b hb, own_base r.2.2.1 b hb⟩
theorem Tw.base_le (r : Tw base w g m FV BV fs bs tv tb) : base ≤ w.heap.size := Nat.le_trans r.2.2.2.1 (Nat.le_of_lt r.1.lt)
theorem Tw.all (r : Tw base w g m FV BV fs bs tv tb) : w.cell? ⟨g, 0, none⟩ = some (.int .i64 m) ∧ w.cell? ⟨g, 1, none⟩ = some jv ∧ w.cell? ⟨g, 2, none⟩ = some FV ∧ w.cell? ⟨g, 3, none⟩ = some BV ∧ w.cell? ⟨g, 4, none⟩ = some tv ∧ w.cell? ⟨g, 5, none⟩ = some (.bool tb) := ⟨r.1.c 0, r.1.c 1, r.1.c 2, r.1.c 3, r.1.c 4, r.1.c 5⟩
theorem Tw.front (r : Tw base w g m FV BV fs bs tv tb) : ∃ A c, FV = .slice A fs.length c ∧ fs.length ≤ c ∧ c ≤ maxLen ∧ Seq (base ≤ ·) w A (flat (sums fs)) := own_seq r.2.1 (by decide)
theorem Tw.back (r : Tw base w g m FV BV fs bs tv tb) : ∃ A c, BV = .slice A bs.length c ∧ bs.length ≤ c ∧ c ≤ maxLen ∧ Seq (base ≤ ·) w A (bs.map (Value.string)) := own_seq r.2.2.1 (by decide)
end
set_option maxHeartbeats 1000000 in
theorem len_nil (w : World) : Calls Try.prog 17 #[.pointer none] w fun e w' => e = .returned (.int .i64 0) ∧ w = w' := by
  go_enter Try.func17, Try.ntmps17
  go_wp2
  go_ret
  exact ⟨rfl, rfl⟩
set_option maxHeartbeats 1000000 in
theorem len_any (base g m : Nat) (FV BV tv : Value) (tb : Bool) (fs bs : List ByteArray) (w : World) (r : Tw base w g m FV BV fs bs tv tb) (h : fs.length + bs.length ≤ 1000) : Calls Try.prog 17 #[.pointer (some ⟨g, 0, none⟩)] w fun e w' => e = .returned (.int .i64 ((fs.length + bs.length : Nat))) ∧ ∃ n, w' = w.drewN n := by
  obtain ⟨-, -, c2, c3, -, -⟩ := r.all
  obtain ⟨A1, n1, rfl, -⟩ := r.front
  obtain ⟨A2, n2, rfl, -⟩ := r.back
  have e1 : IntKind.i64.wrap ((fs.length : Int) + (bs.length : Int)) = (fs.length : Int) + (bs.length : Int) := IntWalk.i64_in _ (by omega)
  clear r
  go_enter Try.func17, Try.ntmps17
  go_wp2_with fail
  go_quiet (fail)
  go_wp2
  go_ret
  exact ⟨by first | rfl | simp, _, rfl⟩
set_option maxHeartbeats 1000000 in
theorem new_no (m : Int) (w : World) (h : m < 1 ∨ m > 64) : Calls Try.prog 9 #[.int .i64 m, jv] w fun e w' => e = .returned (.tuple #[.pointer none, .int .i64 1]) ∧ w = w' := by
  unfold jv
  by_cases h1 : m < 1
  · have t1 : decide (m < 1) = true := decide_eq_true h1
    go_enter Try.func9, Try.ntmps9
    go_wp2
    go_ret2
    exact ⟨rfl, rfl⟩
  · have t1 : decide (m < 1) = false := decide_eq_false h1
    have t2 : decide (m > 64) = true := decide_eq_true (by omega)
    clear h
    go_enter Try.func9, Try.ntmps9
    go_wp2
    go_ret2
    exact ⟨rfl, rfl⟩
def RetNew (m : Nat) (w : World) (e : Ending) (w' : World) : Prop := ∃ g FV BV tv tb, e = .returned (.tuple #[.pointer (some ⟨g, 0, none⟩), .int .i64 0]) ∧ Tw w.heap.size w' g m FV BV [] [] tv tb ∧ Below w.heap.size w w'
set_option maxHeartbeats 1000000 in
theorem new_yes (m : Nat) (w : World) (h1 : 1 ≤ m) (h2 : m ≤ 64) : Calls Try.prog 9 #[.int .i64 (m : Int), jv] w (RetNew m w) := by
  have t1 : decide ((m : Int) < 1) = false := decide_eq_false (by omega)
  have t2 : decide ((m : Int) > 64) = false := decide_eq_false (by omega)
  have t3 : ∀ W, (binOp .eql 27 jv .nilFunc).run Try.prog W = .ok (.bool false) W := fun W => by kernel_rfl
  unfold jv at *
  go_enter Try.func9, Try.ntmps9
  go_wp2
  go_ret2
  exact ⟨w.heap.size, .slice none 0 0, .slice none 0 0, (.string ⟨#[]⟩ : Value), false, rfl, ⟨Bk.new _ w _, World.ownsRow_nil _ _ _ _, World.ownsRow_nil _ _ _ _, Nat.le_refl _, fun h => absurd h (by simp)⟩, below_new w _⟩
end Go.Proofs.Ytogbemdoimhndaa.Tws
