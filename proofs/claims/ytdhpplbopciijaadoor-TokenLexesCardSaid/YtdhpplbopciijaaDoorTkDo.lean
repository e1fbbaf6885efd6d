/-
  Layer 17, token: what the reader's methods do. Conditions: as told in each.
-/
import Derived.Test.YtdhpplbopciijaaDoorTkRow
import Derived.WalkLawsBesides
set_option maxRecDepth 100000
namespace Go.Proofs.YtdhpplbopciijaaDoor.Tk
open Go.Proofs.YtdhpplbopciijaaDoor.Sh Go.Proofs.YtdhpplbopciijaaDoor.St
open Go.RowKit
set_option linter.unusedVariables false

/-- What wasn't read yet. -/
def restB (s : ByteArray) (a : Nat) : ByteArray := s.extract a s.size
theorem rest_list (s : ByteArray) (a : Nat) : (restB s a).data.toList = s.data.toList.drop a := by
  unfold restB
  rw [Dg.ext_list, List.take_of_length_le (by simp)]
theorem rest_size (s : ByteArray) (a : Nat) : (restB s a).size = s.size - a := by unfold restB; rw [ByteArray.size_extract]; omega
def RetS (p : ByteArray) (w : World) (e : Ending) (w' : World) : Prop := e = .returned (.string p) ∧ Below w.heap.size w w'
set_option maxHeartbeats 1000000 in
theorem rest_any (w : World) (g : Nat) (s : ByteArray) (a : Nat) (V : Value) (qs : List Qt) (d : Rd w g s a V qs) (ha : a ≤ s.size) (hs : s.size ≤ maxLen) :
    Calls Tryd.prog 28 #[.pointer (some ⟨g, 0, none⟩)] w (RetS (restB s a) w) := by
  obtain ⟨c0, c1, -⟩ := d.all
  unfold maxLen at hs
  have i0 : (a : Int) ≤ (s.size : Int) := by omega
  clear d
  go_enter Tryd.func28, Tryd.ntmps28
  go_wp2
  go_region
  go_wp2
  go_ret
  exact ⟨rfl, Gl.below_drewN (Below.refl _ _) _⟩
def RetF (e0 p : Nat) (w : World) (e : Ending) (w' : World) : Prop := e = .panicked [{ v := .iface 25 (.agg #[.int .i64 (e0 : Int), .int .i64 (p : Int)]), recovered := false }] ∧ w = w'
set_option maxHeartbeats 1000000 in
theorem fail_any (w : World) (g : Nat) (s : ByteArray) (a : Nat) (V : Value) (qs : List Qt) (e0 : Nat) (d : Rd w g s a V qs) :
    Calls Tryd.prog 20 #[.pointer (some ⟨g, 0, none⟩), .int .i64 (e0 : Int)] w (RetF e0 a w) := by
  obtain ⟨-, c1, -⟩ := d.all
  clear d
  go_enter Tryd.func20, Tryd.ntmps20
  go_wp2
  exact ⟨rfl, rfl, rfl⟩
/-- A step went well: the reader stands at b, with these tokens. -/
def RetN (g : Nat) (s : ByteArray) (b : Nat) (ts : List Tk) (w : World) (e : Ending) (w' : World) : Prop := ∃ V' qs', e = .returned (.tuple #[]) ∧ Rd w' g s b V' qs' ∧ qs'.map Prod.fst = ts ∧ Below g w w'
set_option maxHeartbeats 1000000 in
theorem blank_any (w : World) (g : Nat) (s : ByteArray) (a : Nat) (V : Value) (qs : List Qt) (d : Rd w g s a V qs) (ha : a < s.size) (hs : s.size ≤ maxLen) :
    Calls Tryd.prog 29 #[.pointer (some ⟨g, 0, none⟩)] w (RetN g s (a + 1) (qs.map Prod.fst) w) := by
  obtain ⟨-, c1, -⟩ := d.all
  obtain ⟨f1, -⟩ := d.froz
  unfold maxLen at hs
  have HD := Lib.hid d
  have g2 : IntKind.i64.wrap ((a : Int) + 1) = (a : Int) + 1 := IntWalk.i64_in _ (by omega)
  clear d
  go_enter Tryd.func29, Tryd.ntmps29
  go_wp2
  go_end0
  exact ⟨V, qs, rfl, HD.out.at_ (a + 1), rfl, (Below.refl g w).setCell (p := ⟨g, 1, none⟩) (Nat.le_refl _) _⟩
set_option maxHeartbeats 1000000 in
theorem remark_any (w : World) (g : Nat) (s : ByteArray) (a : Nat) (V : Value) (qs : List Qt) (d : Rd w g s a V qs) (ha : a < s.size) (hs : s.size ≤ maxLen) :
    Calls Tryd.prog 34 #[.pointer (some ⟨g, 0, none⟩)] w (RetN g s (a + lineN (s.data.toList.drop a)) (qs.map Prod.fst) w) := by
  have HR := Lib.hid (rest_any w g s a V qs d (by omega) hs)
  have HC := Lib.hid (fun W => cut_nl (restB s a) W (by rw [rest_size]; omega))
  have hl := line_le (s.data.toList.drop a)
  rw [rest_list] at HC
  generalize lineN (s.data.toList.drop a) = n at *
  have hn : a + n ≤ s.size := by rw [List.length_drop] at hl; simp at hl; omega
  unfold maxLen at hs
  have HD := Lib.hid d
  have g2 : IntKind.i64.wrap ((a : Int) + (n : Int)) = (a : Int) + (n : Int) := IntWalk.i64_in _ (by omega)
  clear d hl
  go_enter Tryd.func34, Tryd.ntmps34
  go_wp2_with fail
  refine (HR.out).mono ?_
  rintro e w1 ⟨rfl, hb1⟩
  have L1 := Lib.hid hb1
  clear hb1
  go_wp2_with fail
  refine (HC.out _).mono ?_
  rintro e w2 ⟨p, q, b, rfl, hp, hb2⟩
  have L2 := Lib.hid (Gl.below_next L1.out hb2)
  have D2 := Lib.hid (HD.out.next L2.out)
  obtain ⟨-, c1, -⟩ := D2.out.all
  obtain ⟨f1, -⟩ := D2.out.froz
  clear hb2
  go_wp2
  go_end0
  exact ⟨V, qs, rfl, D2.out.at_ (a + n), rfl, (L2.out.mono (Nat.le_of_lt HD.out.lt)).setCell (p := ⟨g, 1, none⟩) (Nat.le_refl _) _⟩
end Go.Proofs.YtdhpplbopciijaaDoor.Tk
