/-
  A window of int64 by two stacks: the mathematics of its sums, the object in memory, and what Len and New answer. Conditions: as told in each.
-/
import Derived.Test.YtfamgaakcbinkaaDoorTwcMeet
import Derived.Deep.QuietTactic
import Derived.BigQuiet
namespace Go.Proofs.YtfamgaakcbinkaaDoor.Twc
open Go.Proofs.YtfamgaakcbinkaaDoor.Sh Go.Proofs.YtfamgaakcbinkaaDoor.St
open Go.RowKit
set_option linter.unusedVariables false
set_option linter.unusedSectionVars false
variable [J : Jc]

theorem jn_assoc (a b c : Int) : jn a (jn b c) = jn (jn a b) c := by
  unfold jn
  exact Sc.do_assoc J.j J.s a b c
/-- All joined, from the first one on. -/
def jl : List Int → Int
  | [] => (0 : Int)
  | [x] => x
  | x :: y :: l => jn x (jl (y :: l))
theorem jl_cons (x : Int) {l : List Int} (h : 0 < l.length) : jl (x :: l) = jn x (jl l) := by
  cases l with
  | nil => simp at h
  | cons y t => rfl
theorem jl_app {b : List Int} (hb : 0 < b.length) : ∀ a : List Int, 0 < a.length → jl (a ++ b) = jn (jl a) (jl b)
  | [], h => by simp at h
  | [x], _ => jl_cons x hb
  | x :: y :: l, _ => by
    have ih := jl_app hb (y :: l) (by simp)
    rw [List.cons_append, jl_cons x (by simp), ih, jn_assoc, jl_cons x (l := y :: l) (by simp)]
/-- How much room values take. -/
def wsum (l : List Int) : Nat := (l.map wt).sum
theorem wsum_app (a b : List Int) : wsum (a ++ b) = wsum a + wsum b := by simp [wsum]
theorem wsum_cons (x : Int) (l : List Int) : wsum (x :: l) = wt x + wsum l := by simp [wsum]
theorem wt_jl : ∀ l : List Int, wt (jl l) ≤ wsum l
  | [] => by rw [show jl ([] : List Int) = 0 from rfl, R_wt (by unfold Sc.InR; omega)]; exact Nat.zero_le _
  | [x] => by simp [jl, wsum]
  | x :: y :: l => by
    have ih := wt_jl (y :: l)
    rw [jl_cons x (by simp), wsum_cons]
    by_cases hs : wt x + wsum (y :: l) ≤ 1000000
    · rw [R_wt (jn_R (wt_R (a := x) (by omega)) (wt_R (a := jl (y :: l)) (by omega)))]; omega
    · have := wt_le (jn x (jl (y :: l))); omega
/-- The front stack's sums, the newest value's at the bottom. -/
def sums : List Int → List Int
  | [] => []
  | x :: l => sums l ++ [jl (x :: l)]
theorem sums_len : ∀ l, (sums l).length = l.length
  | [] => rfl
  | x :: l => by simp [sums, sums_len l]
/-- A world in which the join may be called, its box and the table below base. -/
def JB (base : Nat) (w : World) : Prop := JW w ∧ J.g < base ∧ 0 < base ∧ base ≤ w.heap.size
theorem JB.turn {base : Nat} {T : Nat → Prop} {w w' : World} (h : JB base w) (t : Turn T w w') (hT : ∀ b, T b → base ≤ b) : JB base w' := by
  obtain ⟨⟨h1, h2⟩, h3, h4, h5⟩ := h
  have key : ∀ (p : Addr) (x : Option Value), p.block < base → w.cell? p = x → w'.cell? p = x := fun p x hp hx => (t.below h5 hT).cell hp |>.trans hx
  exact ⟨⟨fun k hk j hj => key _ _ h4 (h1 k hk j hj), key _ _ h3 h2.1, key _ _ h3 h2.2⟩, h3, h4, Nat.le_trans h5 t.size⟩
theorem JB.next {base : Nat} {w w' : World} (h : JB base w) (hb : Below w.heap.size w w') : JB base w' := h.turn (Turn.of_below (fun _ => False) hb) fun _ k => k.elim
/-- Sums as cells. -/
def flat (ss : List Int) : List Value := ss.flatMap fun s => [Value.int .i64 s, .bool true]
theorem flat_app (a b : List Int) : flat (a ++ b) = flat a ++ flat b := by simp [flat]
theorem flat_len (ss : List Int) : (flat ss).length = ss.length * 2 := by
  induction ss with
  | nil => rfl
  | cons s t ih => simp [flat] at ih ⊢; omega
theorem flat_last (ss : List Int) (s : Int) : (flat (ss ++ [s]))[ss.length * 2]? = some (Value.int .i64 s) ∧ (flat (ss ++ [s]))[ss.length * 2 + 1]? = some (.bool true) := by
  rw [flat_app]
  constructor
  · rw [List.getElem?_append_right (by rw [flat_len]; omega), flat_len, Nat.sub_self]; rfl
  · rw [List.getElem?_append_right (by rw [flat_len]; omega), flat_len, show ss.length * 2 + 1 - ss.length * 2 = 1 by omega]; rfl
theorem flat_one (ss : List Int) : ∀ u ∈ flat ss, u.oneCell' = true := fun u hu => by
  simp only [flat, List.mem_flatMap] at hu
  obtain ⟨s, _, hs⟩ := hu
  simp at hs
  rcases hs with rfl | rfl <;> rfl
theorem infoV : (Tryd.prog.info? 2).map (fun i => (i.zero, i.size, i.bytes)) = some (some (.int .i64 0 : Value), 1, 8) := by kernel_rfl
theorem infoN : (Tryd.prog.info? 159).map (fun i => (i.zero, i.size, i.bytes)) = some (some (.agg #[(.int .i64 0 : Value), .bool false]), 2, 16) := by kernel_rfl
/-- A window behind the pointer to block g: its room, the values of the front stack, first one first, and those of the back one. -/
def Tw (base : Nat) (w : World) (g m : Nat) (FV BV : Value) (fs bs : List Int) (tv : Value) (tb : Bool) : Prop :=
  Bk 161 w g [.int .i64 m, jv, FV, BV, tv, .bool tb] ∧ w.ownsRow base 159 2 FV fs.length (flat (sums fs)) ∧ w.ownsRow base 2 1 BV bs.length (bs.map (Value.int .i64)) ∧ base ≤ g ∧ (0 < bs.length → tv = Value.int .i64 (jl bs) ∧ tb = true)
/-- The blocks of a window. -/
def Tt (g : Nat) (FV BV : Value) (b : Nat) : Prop := b = g ∨ FV.ownBlock = some b ∨ BV.ownBlock = some b
/-- The row lies where it lay, or in a new block. -/
def Fresh (w : World) (V V' : Value) : Prop := ∀ k, V'.ownBlock = some k → V.ownBlock = some k ∨ w.heap.size ≤ k
section
variable {base : Nat} {w w' : World} {g m : Nat} {FV BV tv : Value} {tb : Bool} {fs bs : List Int} {T : Nat → Prop}
theorem Tw.turn (r : Tw base w g m FV BV fs bs tv tb) (hb : Turn T w w') (hT : ∀ b, Tt g FV BV b → ¬ T b) : Tw base w' g m FV BV fs bs tv tb :=
  ⟨r.1.turn hb (hT g (.inl rfl)), own_turn r.2.1 hb fun b h => hT b (.inr (.inl h)), own_turn r.2.2.1 hb fun b h => hT b (.inr (.inr h)), r.2.2.2⟩
theorem Tw.next (r : Tw base w g m FV BV fs bs tv tb) (hb : Below w.heap.size w w') : Tw base w' g m FV BV fs bs tv tb := r.turn (Turn.of_below (fun _ => False) hb) fun _ _ h => h
theorem Tw.lt (r : Tw base w g m FV BV fs bs tv tb) : ∀ b, Tt g FV BV b → b < w.heap.size ∧ base ≤ b := fun b hb => by
  rcases hb with rfl | hb | hb
  · exact ⟨r.1.lt, r.2.2.2.1⟩
  · exact ⟨own_lt r.2.1 b hb, own_base r.2.1 b hb⟩
  · exact ⟨own_lt r.2.2.1 b hb, own_base r.2.2.1 b hb⟩
theorem Tw.base_le (r : Tw base w g m FV BV fs bs tv tb) : base ≤ w.heap.size := Nat.le_trans r.2.2.2.1 (Nat.le_of_lt r.1.lt)
theorem Tw.all (r : Tw base w g m FV BV fs bs tv tb) : w.cell? ⟨g, 0, none⟩ = some (.int .i64 m) ∧ w.cell? ⟨g, 1, none⟩ = some jv ∧ w.cell? ⟨g, 2, none⟩ = some FV ∧ w.cell? ⟨g, 3, none⟩ = some BV ∧ w.cell? ⟨g, 4, none⟩ = some tv ∧ w.cell? ⟨g, 5, none⟩ = some (.bool tb) := ⟨r.1.c 0, r.1.c 1, r.1.c 2, r.1.c 3, r.1.c 4, r.1.c 5⟩
theorem Tw.front (r : Tw base w g m FV BV fs bs tv tb) : ∃ A c, FV = .slice A fs.length c ∧ fs.length ≤ c ∧ c ≤ maxLen ∧ Seq (base ≤ ·) w A (flat (sums fs)) := own_seq r.2.1 (by decide)
theorem Tw.back (r : Tw base w g m FV BV fs bs tv tb) : ∃ A c, BV = .slice A bs.length c ∧ bs.length ≤ c ∧ c ≤ maxLen ∧ Seq (base ≤ ·) w A (bs.map (Value.int .i64)) := own_seq r.2.2.1 (by decide)
end
set_option maxHeartbeats 1000000 in
theorem len_nil (w : World) : Calls Tryd.prog 155 #[.pointer none] w fun e w' => e = .returned (.int .i64 0) ∧ w = w' := by
  go_enter Tryd.func155, Tryd.ntmps155
  go_wp2
  go_ret
  exact ⟨rfl, rfl⟩
set_option maxHeartbeats 1000000 in
theorem len_any (base g m : Nat) (FV BV tv : Value) (tb : Bool) (fs bs : List Int) (w : World) (r : Tw base w g m FV BV fs bs tv tb) (h : fs.length + bs.length ≤ 1000) : Calls Tryd.prog 155 #[.pointer (some ⟨g, 0, none⟩)] w fun e w' => e = .returned (.int .i64 ((fs.length + bs.length : Nat))) ∧ ∃ n, w' = w.drewN n := by
  obtain ⟨-, -, c2, c3, -, -⟩ := r.all
  obtain ⟨A1, n1, rfl, -⟩ := r.front
  obtain ⟨A2, n2, rfl, -⟩ := r.back
  have e1 : IntKind.i64.wrap ((fs.length : Int) + (bs.length : Int)) = (fs.length : Int) + (bs.length : Int) := IntWalk.i64_in _ (by omega)
  clear r
  go_enter Tryd.func155, Tryd.ntmps155
  go_wp2_with fail
  go_quiet (fail)
  go_wp2
  go_ret
  exact ⟨by first | rfl | simp, _, rfl⟩
set_option maxHeartbeats 1000000 in
theorem new_no (m : Int) (w : World) (h : m < 1 ∨ m > 64) : Calls Tryd.prog 93 #[.int .i64 m, jv] w fun e w' => e = .returned (.tuple #[.pointer none, .int .i64 1]) ∧ w = w' := by
  unfold jv
  by_cases h1 : m < 1
  · have t1 : decide (m < 1) = true := decide_eq_true h1
    go_enter Tryd.func93, Tryd.ntmps93
    go_wp2
    go_ret2
    exact ⟨rfl, rfl⟩
  · have t1 : decide (m < 1) = false := decide_eq_false h1
    have t2 : decide (m > 64) = true := decide_eq_true (by omega)
    clear h
    go_enter Tryd.func93, Tryd.ntmps93
    go_wp2
    go_ret2
    exact ⟨rfl, rfl⟩
def RetNew (m : Nat) (w : World) (e : Ending) (w' : World) : Prop := ∃ g FV BV tv tb, e = .returned (.tuple #[.pointer (some ⟨g, 0, none⟩), .int .i64 0]) ∧ Tw w.heap.size w' g m FV BV [] [] tv tb ∧ Below w.heap.size w w'
set_option maxHeartbeats 1000000 in
theorem new_yes (m : Nat) (w : World) (h1 : 1 ≤ m) (h2 : m ≤ 64) : Calls Tryd.prog 93 #[.int .i64 (m : Int), jv] w (RetNew m w) := by
  have t1 : decide ((m : Int) < 1) = false := decide_eq_false (by omega)
  have t2 : decide ((m : Int) > 64) = false := decide_eq_false (by omega)
  have t3 : ∀ W, (binOp .eql 121 jv .nilFunc).run Tryd.prog W = .ok (.bool false) W := fun W => by kernel_rfl
  unfold jv at *
  go_enter Tryd.func93, Tryd.ntmps93
  go_wp2
  go_ret2
  exact ⟨w.heap.size, .slice none 0 0, .slice none 0 0, (.int .i64 0 : Value), false, rfl, ⟨Bk.new _ w _, World.ownsRow_nil _ _ _ _, World.ownsRow_nil _ _ _ _, Nat.le_refl _, fun h => absurd h (by simp)⟩, below_new w _⟩
end Go.Proofs.YtfamgaakcbinkaaDoor.Twc
