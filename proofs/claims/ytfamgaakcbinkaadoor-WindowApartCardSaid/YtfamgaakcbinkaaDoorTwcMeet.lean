/-
  A window of int64 by two stacks that is joined by a scalar function in a box: what its join tells, and (*twin.Agg[int64]).meet of two sums that are there. Conditions: the table of traits holds what its text lays, the function lies in its box, the numbers are int64.
-/
import Derived.Test.YtfamgaakcbinkaaDoorStBase
import Derived.Test.YtfamgaakcbinkaaDoorFdRow
import Derived.Test.YtfamgaakcbinkaaDoorScAssoc
import Derived.Tactics
import Derived.Tactics2
import Derived.Defers
import Derived.Recover
import Derived.Laws.Pointers
import Derived.Deep.RegionHeld3
import Derived.IntWalk
namespace Go.Proofs.YtfamgaakcbinkaaDoor.Twc
open Go.Proofs.YtfamgaakcbinkaaDoor.Sh Go.Proofs.YtfamgaakcbinkaaDoor.St
open Go.RowKit
set_option linter.unusedVariables false
set_option linter.unusedSectionVars false
set_option linter.unusedSimpArgs false

/-- A function that joins, and the block of its box. -/
class Jc where
  c : Int
  s : Bool
  g : Nat
  j : (Sc.trOf c).joins = true
variable [J : Jc]
instance (a : Int) : Decidable (Sc.InR a) := by unfold Sc.InR; infer_instance
/-- Joined. -/
def jn (a b : Int) : Int := Sc.doI J.c J.s a b
/-- No room where the number is an int64. -/
def wt (a : Int) : Nat := if Sc.InR a then 0 else 1000001
theorem wt_R {a : Int} (h : wt a ≤ 1000000) : Sc.InR a := by
  unfold wt at h
  by_cases h1 : Sc.InR a
  · exact h1
  · rw [if_neg h1] at h; omega
theorem R_wt {a : Int} (h : Sc.InR a) : wt a = 0 := if_pos h
theorem wt_le (a : Int) : wt a ≤ 1000001 := by
  unfold wt
  split <;> omega
theorem jn_R {a b : Int} (ha : Sc.InR a) (hb : Sc.InR b) : Sc.InR (jn a b) := Sc.do_R _ _ _ _ ha hb
/-- The window's join as a value. -/
def jv : Value := .func (.func 94) #[] #[.pointer (some ⟨J.g, 0, none⟩)]
/-- What the join wants of a world. -/
def JW (w : World) : Prop := Sc.Tab w ∧ Fd.FnAt w J.g J.c J.s
theorem JW.next {w w' : World} (h : JW w) (hb : Below w.heap.size w w') : JW w' := ⟨h.1.below hb, h.2.below hb⟩
set_option maxHeartbeats 1000000 in
theorem join_any (a b : Int) (w : World) (hJ : JW w) (h : wt a + wt b ≤ 1000000) : Calls Tryd.prog 94 #[Value.int .i64 a, Value.int .i64 b, .pointer (some ⟨J.g, 0, none⟩)] w fun e w' => e = .returned (Value.int .i64 (jn a b)) ∧ Below w.heap.size w w' := by
  obtain ⟨q0, q1⟩ := hJ.2
  go_enter Tryd.func94, Tryd.ntmps94
  go_wp2_with fail
  refine (Sc.do_any J.c J.s a b _ hJ.1 (wt_R (by omega)) (wt_R (by omega))).mono ?_
  rintro r w1 ⟨rfl, hb⟩
  go_wp2
  go_ret
  exact ⟨rfl, hb⟩
theorem catch_idle (w : World) : CallsD Tryd.prog 159 #[] .returning w fun e u' w' => e = .returned (.tuple #[]) ∧ u' = .returning ∧ w' = w := by
  refine callsD_of_wpS Tryd.func159 rfl fun c₀ cs hu => ?_
  apply wpS_region
  simp [wpOpsS, go_sem, recoverD, hu, Tryd.ntmps159, bodyPostS, results, Tryd.results159]
  cases c₀
  simp_all
/-- A sum as a value. -/
def sv (a : Int) : Value := .agg #[Value.int .i64 a, .bool true]
theorem keep3 {w : World} {a b c d : Nat} {i j k l : Nat} {x y z : Value} (h : w.cell? ⟨a, i, none⟩ = some x ∧ w.cell? ⟨b, j, none⟩ = some y ∧ w.cell? ⟨c, k, none⟩ = some z) (n : a ≠ d ∧ b ≠ d ∧ c ≠ d) (u : Value) :
    (w.setCell ⟨d, l, none⟩ u).cell? ⟨a, i, none⟩ = some x ∧ (w.setCell ⟨d, l, none⟩ u).cell? ⟨b, j, none⟩ = some y ∧ (w.setCell ⟨d, l, none⟩ u).cell? ⟨c, k, none⟩ = some z :=
  ⟨(World.cell?_setCell_other _ _ _ _ (fun e => by first | exact n.1 (congrArg Addr.block e) | exact n.1 (congrArg Addr.block e).symm)).trans h.1,
   (World.cell?_setCell_other _ _ _ _ (fun e => by first | exact n.2.1 (congrArg Addr.block e) | exact n.2.1 (congrArg Addr.block e).symm)).trans h.2.1,
   (World.cell?_setCell_other _ _ _ _ (fun e => by first | exact n.2.2 (congrArg Addr.block e) | exact n.2.2 (congrArg Addr.block e).symm)).trans h.2.2⟩
set_option maxHeartbeats 2000000 in
theorem meet_any (g : Nat) (a b : Int) (w : World) (hj : w.cell? ⟨g, 1, none⟩ = some jv) (hJ : JW w) (h : wt a + wt b ≤ 1000000) :
    Calls Tryd.prog 156 #[.pointer (some ⟨g, 0, none⟩), .agg #[Value.int .i64 a, .bool true], .agg #[Value.int .i64 b, .bool true]] w fun e w' => e = .returned (.agg #[Value.int .i64 (jn a b), .bool true]) ∧ Below w.heap.size w w' := by
  have hg : g < w.heap.size := World.block_lt_of_cell? w _ hj
  have JA := Lib.hid (fun W (hb : Below w.heap.size w W) => join_any a b W (hJ.next hb) h)
  obtain ⟨W3, hW3⟩ : ∃ W3, ((w.alloc (.cells #[Value.int .i64 a, .bool true] 159)).alloc (.cells #[Value.int .i64 b, .bool true] 159)).alloc (.cells #[Value.int .i64 0, .bool false] 159) = W3 := ⟨_, rfl⟩
  have LB := Lib.hid (show Below w.heap.size w W3 from by rw [← hW3]; exact below_next (below_next (below_new w _) (below_new _ _)) (below_new _ _))
  unfold jv at hj
  have k1 := (LB.out.cell (p := ⟨g, 1, none⟩) hg).trans hj
  have XA := (((Bk.new 159 w [Value.int .i64 a, .bool true]).alloc (.cells #[Value.int .i64 b, .bool true] 159)).alloc (.cells #[Value.int .i64 0, .bool false] 159))
  have XB := (Bk.new 159 (w.alloc (.cells #[Value.int .i64 a, .bool true] 159)) [Value.int .i64 b, .bool true]).alloc (.cells #[Value.int .i64 0, .bool false] 159)
  have XC := Bk.new 159 ((w.alloc (.cells #[Value.int .i64 a, .bool true] 159)).alloc (.cells #[Value.int .i64 b, .bool true] 159)) [Value.int .i64 0, .bool false]
  rw [show (w.alloc (.cells #[Value.int .i64 a, .bool true] 159)).heap.size = w.heap.size + 1 by simp] at XB
  rw [show ((w.alloc (.cells #[Value.int .i64 a, .bool true] 159)).alloc (.cells #[Value.int .i64 b, .bool true] 159)).heap.size = w.heap.size + 1 + 1 by simp] at XC
  have XA : Hid (Bk 159 W3 w.heap.size [Value.int .i64 a, .bool true]) := Lib.hid (by rw [← hW3]; exact XA)
  have XB : Hid (Bk 159 W3 (w.heap.size + 1) [Value.int .i64 b, .bool true]) := Lib.hid (by rw [← hW3]; exact XB)
  have XC : Hid (Bk 159 W3 (w.heap.size + 1 + 1) [Value.int .i64 0, .bool false]) := Lib.hid (by rw [← hW3]; exact XC)
  obtain ⟨a0, a1⟩ : W3.cell? ⟨w.heap.size, 0, none⟩ = some (Value.int .i64 a) ∧ W3.cell? ⟨w.heap.size, 1, none⟩ = some (.bool true) := ⟨XA.out.c 0, XA.out.c 1⟩
  obtain ⟨b0, b1⟩ : W3.cell? ⟨w.heap.size + 1, 0, none⟩ = some (Value.int .i64 b) ∧ W3.cell? ⟨w.heap.size + 1, 1, none⟩ = some (.bool true) := ⟨XB.out.c 0, XB.out.c 1⟩
  have S3 := Lib.hid (show W3.drew.cell? ⟨g, 1, none⟩ = some (.func (.func 94) #[] #[.pointer (some ⟨J.g, 0, none⟩)]) ∧ W3.drew.cell? ⟨w.heap.size, 0, none⟩ = some (Value.int .i64 a) ∧ W3.drew.cell? ⟨w.heap.size + 1, 0, none⟩ = some (Value.int .i64 b) from ⟨k1, a0, b0⟩)
  clear h hJ
  generalize J.g = gj at *
  go_enter_defers Tryd.func156, Tryd.ntmps156
  have N3 : Hid (g ≠ w.heap.size + 1 + 1 ∧ w.heap.size ≠ w.heap.size + 1 + 1 ∧ w.heap.size + 1 ≠ w.heap.size + 1 + 1) := Lib.hid (by omega)
  clear XA XB
  go_wp2_with fail
  clear hW3
  go_region_held3 (fun w' => w'.cell? ⟨g, 1, none⟩ = some (.func (.func 94) #[] #[.pointer (some ⟨gj, 0, none⟩)]) ∧ w'.cell? ⟨w.heap.size, 0, none⟩ = some (Value.int .i64 a) ∧ w'.cell? ⟨w.heap.size + 1, 0, none⟩ = some (Value.int .i64 b))
    (first
      | with_reducible exact KK.out
      | with_reducible exact S3.out
      | with_reducible exact keep3 (keep3 KK.out N3.out _) N3.out _
      | with_reducible exact keep3 (keep3 (keep3 KK.out N3.out _) N3.out _) N3.out _
      | with_reducible exact keep3 (keep3 (keep3 (keep3 KK.out N3.out _) N3.out _) N3.out _) N3.out _
      | go_keep)
    (first
      | (go_at_call 94; (with_reducible refine (JA.out _ LB.out.drew).mono ?_); rintro r w5 ⟨rfl, hb5⟩; have L5 := Lib.hid (below_next LB.out.drew hb5); have X5 := Lib.hid (XC.out.drew.next hb5); have KK := Lib.hid (And.intro ((hb5.cell (World.block_lt_of_cell? _ _ S3.out.1)).trans S3.out.1) (And.intro ((hb5.cell (World.block_lt_of_cell? _ _ S3.out.2.1)).trans S3.out.2.1) ((hb5.cell (World.block_lt_of_cell? _ _ S3.out.2.2)).trans S3.out.2.2))); have f0 := X5.out.f 0; have f1 := X5.out.f 1; obtain ⟨h0, h1⟩ : w5.cell? ⟨w.heap.size + 1 + 1, 0, none⟩ = some (Value.int .i64 0) ∧ w5.cell? ⟨w.heap.size + 1 + 1, 1, none⟩ = some (.bool false) := ⟨X5.out.c 0, X5.out.c 1⟩; clear hb5))
  all_goals
    have hq : w.heap.size ≤ w.heap.size + 1 + 1 := by omega
    have L6 := Lib.hid ((((L5.out.setCell (p := ⟨w.heap.size + 1 + 1, 0, none⟩) hq (Value.int .i64 0)).setCell (p := ⟨w.heap.size + 1 + 1, 1, none⟩) hq (.bool false)).setCell (p := ⟨w.heap.size + 1 + 1, 0, none⟩) hq (Value.int .i64 (jn a b))).setCell (p := ⟨w.heap.size + 1 + 1, 1, none⟩) hq (.bool true))
    have X6 := Lib.hid (Bk.set_ (Bk.set_ (Bk.set_ (Bk.set_ X5.out 0 (Value.int .i64 0)) 1 (.bool false)) 0 (Value.int .i64 (jn a b))) 1 (.bool true))
    clear h0 h1 f0 f1 KK
    generalize (((w5.setCell ⟨w.heap.size + 1 + 1, 0, none⟩ (Value.int .i64 0)).setCell ⟨w.heap.size + 1 + 1, 1, none⟩ (.bool false)).setCell ⟨w.heap.size + 1 + 1, 0, none⟩ (Value.int .i64 (jn a b))).setCell ⟨w.heap.size + 1 + 1, 1, none⟩ (.bool true) = w6 at *
    have X7 := Lib.hid (show Bk 159 w6 (w.heap.size + 1 + 1) [Value.int .i64 (jn a b), .bool true] from X6.out)
    have X8 := Lib.hid (Bk.set_ (Bk.set_ X7.out 0 (Value.int .i64 (jn a b))) 1 (.bool true))
    have L8 := Lib.hid ((L6.out.setCell (p := ⟨w.heap.size + 1 + 1, 0, none⟩) hq (Value.int .i64 (jn a b))).setCell (p := ⟨w.heap.size + 1 + 1, 1, none⟩) hq (.bool true))
    have k0 := X8.out.c 0
    have k1 := X8.out.c 1
    obtain ⟨h0, h1⟩ : w6.cell? ⟨w.heap.size + 1 + 1, 0, none⟩ = some (Value.int .i64 (jn a b)) ∧ w6.cell? ⟨w.heap.size + 1 + 1, 1, none⟩ = some (.bool true) := ⟨X7.out.c 0, X7.out.c 1⟩
    have f0 := X7.out.f 0
    have f1 := X7.out.f 1
    go_wp2
    refine leaves_cons (f := 159) (args := #[]) (by simp) (by simp [go_sem]) ?_
    refine (catch_idle _).mono ?_
    rintro e u' w'' ⟨rfl, rfl, rfl⟩
    simp [Leaves, settle, results, Tryd.results156, go_sem, k0, k1]
    exact L8.out
end Go.Proofs.YtfamgaakcbinkaaDoor.Twc
