/-
  What the calls of package runner do to a runner, and what they answer: New, Push, Now, Came, Clone. Conditions: the table of traits holds what its text lays; the numbers have 64 bits; as told in each.
-/
import Derived.Test.YtogbemdoimhndaaDoorStBase
import Derived.Test.YtogbemdoimhndaaDoorFdRow
import Derived.Test.YtogbemdoimhndaaDoorScAssoc
import Derived.IntWalk
import Derived.Deep.QuietTactic
import Derived.BigQuiet
import Derived.Deep.RegionWith
import Derived.Deep.OwnRows
namespace Go.Proofs.YtogbemdoimhndaaDoor.Rn
open Go.Proofs.YtogbemdoimhndaaDoor.Sh Go.Proofs.YtogbemdoimhndaaDoor.St Go.Proofs.YtogbemdoimhndaaDoor.Fd
open Go.RowKit
set_option linter.unusedVariables false

theorem joins_has {c : Int} (h : (Sc.trOf c).joins = true) : Sc.hasB c 2 = true := by
  rcases Sc.joins_cases h with h | h | h | h | h | h | h | h <;> subst h <;> exact Sc.has2_in (by omega) (by omega)
theorem foldI_snoc {c : Int} (hj : (Sc.trOf c).joins = true) (s : Bool) (x : Int) : ∀ l : List Int, 0 < l.length → foldI c s (l ++ [x]) = Sc.doI c s (foldI c s l) x
  | [], h => by simp at h
  | [y], _ => rfl
  | y :: z :: l, _ => by
    have ih := foldI_snoc hj s x (z :: l) (by simp)
    rw [List.cons_append, foldI_cons _ _ _ (by simp), ih, foldI_cons c s y (l := z :: l) (by simp), Sc.do_assoc hj]
/-- A runner behind the pointer to block g: its function, how many rows came, and its numbers, behind V. -/
def Rn (base : Nat) (w : World) (g : Nat) (V : Value) (c : Int) (s : Bool) (k : Nat) (xs : List Int) : Prop :=
  Bk 114 w g [.int .i64 c, .bool s, .int .i64 k, V] ∧ MineT 2 w base V xs ∧ base ≤ g
/-- The blocks of a runner. -/
def Tr (g : Nat) (V : Value) (b : Nat) : Prop := b = g ∨ V.ownBlock = some b
section
variable {base : Nat} {w w' : World} {g : Nat} {V : Value} {c : Int} {s : Bool} {k : Nat} {xs : List Int} {T : Nat → Prop}
theorem Rn.turn (r : Rn base w g V c s k xs) (hb : Turn T w w') (hT : ∀ b, Tr g V b → ¬ T b) : Rn base w' g V c s k xs :=
  ⟨r.1.turn hb (hT g (.inl rfl)), own_turn r.2.1 hb fun b hb => hT b (.inr hb), r.2.2⟩
theorem Rn.next (r : Rn base w g V c s k xs) (hb : Below w.heap.size w w') : Rn base w' g V c s k xs := r.turn (Turn.of_below (fun _ => False) hb) fun _ _ h => h
theorem Rn.lt (r : Rn base w g V c s k xs) : ∀ b, Tr g V b → b < w.heap.size ∧ base ≤ b := fun b hb => by
  rcases hb with rfl | hb
  · exact ⟨r.1.lt, r.2.2⟩
  · exact ⟨own_lt r.2.1 b hb, own_base r.2.1 b hb⟩
theorem Rn.ne (r : Rn base w g V c s k xs) : V.ownBlock ≠ some g := fun e => own_bk_ne (t := 114) r.2.1 r.1 (by decide) e.symm
theorem Rn.all (r : Rn base w g V c s k xs) : w.cell? ⟨g, 0, none⟩ = some (.int .i64 c) ∧ w.cell? ⟨g, 1, none⟩ = some (.bool s) ∧ w.cell? ⟨g, 2, none⟩ = some (.int .i64 k) ∧ w.cell? ⟨g, 3, none⟩ = some V := ⟨r.1.c 0, r.1.c 1, r.1.c 2, r.1.c 3⟩
theorem Rn.froz (r : Rn base w g V c s k xs) : w.frozen? ⟨g, 2, none⟩ = false := r.1.f 2
/-- The row of a runner, its place j. -/
theorem mine_at {w : World} {base : Nat} {V : Value} {xs : List Int} (h : MineT 2 w base V xs) {j : Nat} (hj : j < xs.length) : ∃ b cap, V = .slice (some ⟨b, 0, none⟩) xs.length cap ∧ V.ownBlock = some b ∧ b < w.heap.size ∧ w.cell? ⟨b, j, none⟩ = some (.int .i64 (xs.getD j 0)) ∧ w.frozen? ⟨b, j, none⟩ = false := by
  have hc := World.ownsRow.cells h (g := V.ownBlock.getD 0)
  have hlt := own_lt h
  rcases h.2 with ⟨rfl, h0⟩ | ⟨b, cap, cur, rfl, hb, hg, hn, hm, _⟩
  · omega
  · refine ⟨b, cap, rfl, rfl, hlt b rfl, ?_, by simp [World.frozen?, hg]⟩
    have := hc rfl j (.int .i64 (xs.getD j 0)) (by simp [List.getD, hj])
    rw [Go.WideShapes.add_plain] at this
    simp only [Value.ownBlock, Option.getD_some, Nat.zero_add] at this
    exact this
theorem mine_set {w : World} {base : Nat} {V : Value} {xs : List Int} {b cap n : Nat} (h : MineT 2 w base V xs) (hV : V = .slice (some ⟨b, 0, none⟩) n cap) {j : Nat} (hj : j < xs.length) (y : Int) : MineT 2 (w.setCell ⟨b, j, none⟩ (.int .i64 y)) base V (xs.set j y) := by
  subst hV
  refine ⟨by simp, ?_⟩
  rcases h.2 with ⟨e, h0⟩ | ⟨b', cap', cur, e, hb, hg, hn, hm, hs, ht⟩
  · cases e
  · injection e with e1 e2 e3
    injection e1 with e1
    injection e1 with e1
    subst e1 e2 e3
    refine .inr ⟨b, cap, cur.set! j (.int .i64 y), by simp, hb, by simp [World.setCell, Array.getElem?_modify, hg], by simpa using hn, hm, by simpa using hs, ?_⟩
    rw [List.length_set, List.map_set, ← ht]
    simp [List.take_set]
end
theorem came_nil (w : World) : Calls Tryd.prog 46 #[.pointer none] w fun e w' => e = .returned (.int .i64 0) ∧ w = w' := by
  go_enter Tryd.func46, Tryd.ntmps46
  go_wp2
  go_ret
  exact ⟨rfl, rfl⟩
theorem came_any (base g : Nat) (V : Value) (c : Int) (s : Bool) (k : Nat) (xs : List Int) (w : World) (r : Rn base w g V c s k xs) : Calls Tryd.prog 46 #[.pointer (some ⟨g, 0, none⟩)] w fun e w' => e = .returned (.int .i64 k) ∧ w = w' := by
  obtain ⟨-, -, c2, -⟩ := r.all
  clear r
  go_enter Tryd.func46, Tryd.ntmps46
  go_wp2
  go_ret
  exact ⟨rfl, rfl⟩
theorem start_any (g : Nat) (j y : Int) (w : World) : Calls Tryd.prog 90 #[.pointer (some ⟨g, 0, none⟩), .int .i64 j, .int .i64 y] w fun e w' => e = .returned (.int .i64 y) ∧ w = w' := by
  go_enter Tryd.func90, Tryd.ntmps90
  go_wp2
  go_ret
  exact ⟨rfl, rfl⟩
set_option maxHeartbeats 2000000 in
theorem join_any (base g : Nat) (V : Value) (c : Int) (s : Bool) (k : Nat) (xs : List Int) (j : Nat) (y : Int) (w : World) (hT : Sc.Tab w) (r : Rn base w g V c s k xs) (hj : j < xs.length) (hx : Sc.InR (xs.getD j 0)) (hy : Sc.InR y) :
    Calls Tryd.prog 89 #[.pointer (some ⟨g, 0, none⟩), .int .i64 j, .int .i64 y] w fun e w' => e = .returned (.int .i64 (Sc.doI c s (xs.getD j 0) y)) ∧ Below w.heap.size w w' := by
  obtain ⟨c0, c1, -, c3⟩ := r.all
  obtain ⟨b, cap, rfl, -, hbl, hcell, -⟩ := mine_at r.2.1 hj
  have DO := Lib.hid (fun W (h : Sc.Tab W) => Sc.do_any c s (xs.getD j 0) y W h hx hy)
  have T := Lib.hid (hT.below (Below.refl w.heap.size w).drew)
  have j0 : (0 : Int) ≤ (j : Int) := by omega
  have j1 : (j : Int) < (xs.length : Int) := by omega
  generalize xs.getD j 0 = x at *
  clear hT r hx hy hj
  go_enter Tryd.func89, Tryd.ntmps89
  go_wp2_with fail
  go_region_with (go_at_call 76; (with_reducible refine (DO.out _ T.out).mono ?_); rintro r w5 ⟨rfl, hb⟩; have K := Lib.hid hb; clear hb)
  all_goals
    go_wp2
    go_ret
    exact ⟨rfl, below_next (Below.refl w.heap.size w).drew K.out⟩
theorem push_nil (A : Option Addr) (n c : Nat) (w : World) : Calls Tryd.prog 43 #[.pointer none, .slice A n c] w fun e w' => e = .returned (.tuple #[.slice none 0 0, .int .i64 1]) ∧ w = w' := by
  go_enter Tryd.func43, Tryd.ntmps43
  go_wp2
  go_ret2
  exact ⟨rfl, rfl⟩
theorem now_nil (w : World) : Calls Tryd.prog 45 #[.pointer none] w fun e w' => e = .returned (.tuple #[.slice none 0 0, .bool false]) ∧ w = w' := by
  go_enter Tryd.func45, Tryd.ntmps45
  go_wp2_with fail
  refine (came_nil w).mono ?_
  rintro r w1 ⟨rfl, rfl⟩
  go_wp2
  go_ret2
  exact ⟨rfl, rfl⟩
theorem clone_nil (w : World) : Calls Tryd.prog 47 #[.pointer none] w fun e w' => e = .returned (.pointer none) ∧ w = w' := by
  go_enter Tryd.func47, Tryd.ntmps47
  go_wp2
  go_ret
  exact ⟨rfl, rfl⟩
/-- A row of one's own with these numbers, and a bool. -/
def RetNow (xs : List Int) (b : Bool) (w : World) (e : Ending) (w' : World) : Prop := ∃ A cap, e = .returned (.tuple #[.slice A xs.length cap, .bool b]) ∧ MineT 2 w' w.heap.size (.slice A xs.length cap) xs ∧ Below w.heap.size w w'
set_option maxHeartbeats 2000000 in
theorem now_none (base g : Nat) (V : Value) (c : Int) (s : Bool) (xs : List Int) (w : World) (r : Rn base w g V c s 0 xs) : Calls Tryd.prog 45 #[.pointer (some ⟨g, 0, none⟩)] w fun e w' => e = .returned (.tuple #[.slice none 0 0, .bool false]) ∧ w = w' := by
  have CA := Lib.hid (came_any base g V c s 0 xs w r)
  clear r
  go_enter Tryd.func45, Tryd.ntmps45
  go_wp2_with fail
  refine CA.out.mono ?_
  rintro r w1 ⟨rfl, rfl⟩
  go_wp2
  go_ret2
  exact ⟨rfl, rfl⟩
set_option maxHeartbeats 2000000 in
theorem now_any (base g : Nat) (V : Value) (c : Int) (s : Bool) (k : Nat) (xs : List Int) (w : World) (r : Rn base w g V c s k xs) (hk : 0 < k) (hl : xs.length ≤ 1000) : Calls Tryd.prog 45 #[.pointer (some ⟨g, 0, none⟩)] w (RetNow xs true w) := by
  have CA := Lib.hid (came_any base g V c s k xs w r)
  obtain ⟨-, -, -, c3⟩ := r.all
  obtain ⟨A, cap, rfl, hi⟩ := r.2.1.ints
  have CL := Lib.hid (clone64_any A cap xs w hl hi)
  have e1 : (((k : Nat) : Int) == 0) = false := by simp; omega
  clear r hi
  go_enter Tryd.func45, Tryd.ntmps45
  go_wp2_with fail
  refine CA.out.mono ?_
  rintro r w1 ⟨rfl, rfl⟩
  go_wp2_with fail
  refine CL.out.mono ?_
  rintro r w2 ⟨B, c', rfl, hm, hb⟩
  have M := Lib.hid hm
  have K := Lib.hid hb
  clear hm hb
  go_wp2
  go_ret2
  exact ⟨B, c', rfl, M.out, K.out⟩
end Go.Proofs.YtogbemdoimhndaaDoor.Rn
