/-
  What rifflelaw11.same answers of a ring and the document's ring with the same rows: true. Condition: at most 64 rows.
-/
import Derived.Test.YtocdejjkmfnnnaaRgDeed
set_option maxRecDepth 100000
namespace Go.Proofs.Ytocdejjkmfnnnaa.Rg
open Go.Proofs.Ytocdejjkmfnnnaa.Sh Go.Proofs.Ytocdejjkmfnnnaa.St
open Go.RowKit
set_option linter.unusedVariables false

theorem len_of (g h n s : Nat) (rs : List (List Int)) (w : World) (r : Ring w g h n s rs) :
    Calls Try.prog 18 #[.pointer (some ⟨g, 0, none⟩)] w fun e w' => e = .returned (.int .i64 (rs.length : Nat)) ∧ w = w' := by
  obtain ⟨f, c, cs, h1, _⟩ := r
  exact len_any g h n s rs.length f c w h1
theorem words_of (g h n s : Nat) (rs : List (List Int)) (w : World) (r : Ring w g h n s rs) :
    Calls Try.prog 19 #[.pointer (some ⟨g, 0, none⟩)] w fun e w' => e = .returned (.int .i64 ((rs.length : Nat) * (s : Int))) ∧ Below w.heap.size w w' := by
  have hr := r.room
  obtain ⟨f, c, cs, h1, _⟩ := r
  exact words_any g h n s rs.length f c w h1 (by omega) hr.2.2.1
theorem same_eq (S S' : Nat → Prop) (A : Option Addr) (c : Nat) (rs : List (List Int)) (B : Option Addr) (d : Nat) (w : World) (ha : RwsIn S w (.slice A rs.length c) rs) (hb : RwsIn S' w (.slice B rs.length d) rs) (hla : rs.length ≤ 1000) :
    Calls Try.prog 43 #[.slice A rs.length c, .slice B rs.length d] w fun e w' => e = .returned (.bool true) ∧ Below w.heap.size w w' :=
  (same_any S S' A c rs B d rs w ha hb hla hla).mono fun e w' ⟨h1, h2⟩ => ⟨by rw [h1]; simp, h2⟩
theorem keep2 {W w1 : World} {g : Nat} {x z : Value} (hb : Below W.heap.size W w1) (h : W.cell? ⟨g, 0, none⟩ = some x ∧ W.cell? ⟨g, 2, none⟩ = some z) : w1.cell? ⟨g, 0, none⟩ = some x ∧ w1.cell? ⟨g, 2, none⟩ = some z :=
  ⟨(hb.cell (p := ⟨g, 0, none⟩) (World.block_lt_of_cell? W _ h.1)).trans h.1, (hb.cell (p := ⟨g, 2, none⟩) (World.block_lt_of_cell? W _ h.2)).trans h.2⟩
set_option maxHeartbeats 4000000 in
theorem same_law (S : Nat → Prop) (g h n s : Nat) (rs : List (List Int)) (AV : Option Addr) (cV : Nat) (w : World) (r : Ring w g h n s rs) (hr : RwsIn S w (.slice AV rs.length cV) rs) :
    Calls Try.prog 14 #[.pointer (some ⟨g, 0, none⟩), .agg #[.slice AV rs.length cV, .int .i64 n, .int .i64 s]] w fun e w' => e = .returned (.bool true) ∧ Below w.heap.size w w' := by
  have hR := r.room
  have L0 := Lib.hid (below_new w (.cells #[.slice AV rs.length cV, .int .i64 n, .int .i64 s] 32))
  have BX := Bk.new 32 w [.slice AV rs.length cV, .int .i64 n, .int .i64 s]
  have a0 : (w.alloc (.cells #[.slice AV rs.length cV, .int .i64 n, .int .i64 s] 32)).cell? ⟨w.heap.size, 0, none⟩ = some (.slice AV rs.length cV) := BX.c 0
  have a2 : (w.alloc (.cells #[.slice AV rs.length cV, .int .i64 n, .int .i64 s] 32)).cell? ⟨w.heap.size, 2, none⟩ = some (.int .i64 s) := BX.c 2
  have r0 := r.next L0.out
  have x0 := hr.next L0.out
  have hl : rs.length ≤ 1000 := by omega
  have g0 : (0 : Int) ≤ (rs.length : Int) * (s : Int) := Int.mul_nonneg (by omega) (by omega)
  have g1 : (rs.length : Int) * (s : Int) ≤ 64 * 64 := Int.mul_le_mul (by omega) (by omega) (by omega) (by omega)
  have w3 : IntKind.i64.wrap ((rs.length : Int) * (s : Int)) = (rs.length : Int) * (s : Int) := IntWalk.i64_in _ (by omega)
  clear BX hr r
  go_enter Try.func14, Try.ntmps14
  go_wp2_with fail
  go_region_held3 (fun w' => w'.cell? ⟨w.heap.size, 0, none⟩ = some (.slice AV rs.length cV) ∧ w'.cell? ⟨w.heap.size, 2, none⟩ = some (.int .i64 s))
    (first
      | go_keep
      | exact ⟨a0, a2⟩
      | exact keep2 hb1 (by go_keep)
      | exact keep2 hb2 (by go_keep)
      | exact keep2 hb4 (by go_keep))
    (first
      | (go_at_call 17; refine (rows_any g h n s rs _ (by exact r0)).mono ?_; rintro r w1 ⟨V1, rfl, hV1, hb1⟩; obtain ⟨A1, c1, vs1, rfl, k1, k2, k3, k4, k5⟩ := (show RwsIn _ w1 V1 rs from hV1); have v1 := hV1; have r1 := Ring.next (by exact r0) hb1; have x1 := RwsIn.next (by exact x0) hb1; have M1 := Lib.hid (Go.Proofs.Ytocdejjkmfnnnaa.Sh.below_next (a := w) (by first | exact L0.out | exact L0.out.drew | exact below_drewN L0.out _) hb1); clear k1 k2 k3 k4 k5 hV1)
      | (go_at_call 43; refine (same_eq _ S _ _ rs _ _ _ (by exact v1) (by exact x1) hl).mono ?_; rintro r w2 ⟨rfl, hb2⟩; have r2 := Ring.next (by exact r1) hb2; have M2 := Lib.hid (Go.Proofs.Ytocdejjkmfnnnaa.Sh.below_next (a := w) (by first | exact M1.out | exact M1.out.drew | exact below_drewN M1.out _) hb2))
      | (go_at_call 18; refine (len_of g h n s rs _ (by exact r2)).mono ?_; rintro r w3 ⟨rfl, rfl⟩)
      | (go_at_call 19; refine (words_of g h n s rs _ (by exact r2)).mono ?_; rintro r w4 ⟨rfl, hb4⟩; have M4 := Lib.hid (Go.Proofs.Ytocdejjkmfnnnaa.Sh.below_next (a := w) (by first | exact M2.out | exact M2.out.drew | exact below_drewN M2.out _) hb4)))
  go_wp2
  go_ret
  exact ⟨ret_bool (by first | rfl | simp), by first | exact M4.out | exact M4.out.drew | exact below_drewN M4.out _⟩
end Go.Proofs.Ytocdejjkmfnnnaa.Rg
