/-
  What (*twin.Agg[int64]).All tells of a window. Conditions: as told in each.
-/
import Derived.Test.YtfamgaakcbinkaaDoorTwcDrop
namespace Go.Proofs.YtfamgaakcbinkaaDoor.Twc
open Go.Proofs.YtfamgaakcbinkaaDoor.Sh Go.Proofs.YtfamgaakcbinkaaDoor.St
open Go.RowKit
set_option linter.unusedVariables false
set_option linter.unusedSectionVars false
variable [J : Jc]

/-- What All tells of these values. -/
def RetAll (l : List Int) (w : World) (e : Ending) (w' : World) : Prop := e = .returned (.tuple #[Value.int .i64 (jl l), .bool (decide (0 < l.length))]) ∧ Below w.heap.size w w'
theorem all_nil (w : World) : Calls Tryd.prog 151 #[.pointer none] w (RetAll [] w) := by
  have LN := Lib.hid len_nil
  have X1 := Lib.hid (Bk.new 159 w [(.int .i64 0 : Value), .bool false])
  have x0 : (w.alloc (.cells #[(.int .i64 0 : Value), .bool false] 159)).cell? ⟨w.heap.size, 0, none⟩ = some (.int .i64 0 : Value) := X1.out.c 0
  have x1 : (w.alloc (.cells #[(.int .i64 0 : Value), .bool false] 159)).cell? ⟨w.heap.size, 1, none⟩ = some (.bool false) := X1.out.c 1
  go_enter Tryd.func151, Tryd.ntmps151
  go_wp2_with (go_at_call 155; (with_reducible refine (LN.out _).mono ?_); rintro r w5 ⟨rfl, rfl⟩)
  go_quiet (fail)
  go_wp2
  go_ret2
  exact ⟨rfl, Sh.below_drewN (below_new w _) _⟩
theorem all_none (base g m : Nat) (FV BV tv : Value) (tb : Bool) (w : World) (r : Tw base w g m FV BV [] [] tv tb) : Calls Tryd.prog 151 #[.pointer (some ⟨g, 0, none⟩)] w (RetAll [] w) := by
  have LN := Lib.hid (fun W (h : Below w.heap.size w W) => len_any base g m FV BV tv tb [] [] W (r.next h) (by simp))
  have B1 := Lib.hid (below_new w (.cells #[(.int .i64 0 : Value), .bool false] 159))
  have X1 := Lib.hid (Bk.new 159 w [(.int .i64 0 : Value), .bool false])
  clear r
  go_enter Tryd.func151, Tryd.ntmps151
  go_wp2_with (go_at_call 155; (with_reducible refine (LN.out _ B1.out).mono ?_); rintro r w5 ⟨rfl, n5, rfl⟩; have B5 := Lib.hid (Sh.below_drewN (Below.refl (w.alloc (.cells #[(.int .i64 0 : Value), .bool false] 159)).heap.size (w.alloc (.cells #[(.int .i64 0 : Value), .bool false] 159))) n5); have X5 := Lib.hid (X1.out.drewN n5); generalize (w.alloc (.cells #[(.int .i64 0 : Value), .bool false] 159)).drewN n5 = w5 at *; have x0 := X5.out.c 0; have x1 := X5.out.c 1)
  go_quiet (fail)
  go_wp2
  go_ret2
  exact ⟨rfl, Sh.below_drewN (below_next B1.out B5.out) _⟩
set_option maxHeartbeats 2000000 in
theorem all_back (base g m : Nat) (FV BV tv : Value) (tb : Bool) (bs : List Int) (w : World) (r : Tw base w g m FV BV [] bs tv tb) (hb : 0 < bs.length) (hl : bs.length ≤ 900) : Calls Tryd.prog 151 #[.pointer (some ⟨g, 0, none⟩)] w (RetAll bs w) := by
  have LN := Lib.hid (fun W (h : Below w.heap.size w W) => len_any base g m FV BV tv tb [] bs W (r.next h) (by simp; omega))
  have B1 := Lib.hid (below_new w (.cells #[(.int .i64 0 : Value), .bool false] 159))
  have X1 := Lib.hid (Bk.new 159 w [(.int .i64 0 : Value), .bool false])
  obtain ⟨rfl, rfl⟩ := r.2.2.2.2 hb
  obtain ⟨A0, c0, hFV, -⟩ := r.front
  have hFV : FV = .slice A0 0 c0 := hFV
  subst hFV
  have HR := Lib.hid r
  obtain ⟨N0, hN0⟩ : ∃ N0 : Nat, ([] : List Int).length + bs.length = N0 := ⟨_, rfl⟩
  rw [hN0] at LN
  have t1 : ((N0 : Int) == 0) = false := by simp at hN0 ⊢; omega
  have HB := Lib.hid hb
  obtain ⟨y, hy⟩ : ∃ y, jl bs = y := ⟨_, rfl⟩
  have HY := Lib.hid hy
  rw [hy] at HR
  clear r hb hN0 hl hy
  go_enter Tryd.func151, Tryd.ntmps151
  go_wp2_with (go_at_call 155; (with_reducible refine (LN.out _ B1.out).mono ?_); rintro r w5 ⟨rfl, n5, rfl⟩; have B5 := Lib.hid (Sh.below_drewN (Below.refl (w.alloc (.cells #[(.int .i64 0 : Value), .bool false] 159)).heap.size (w.alloc (.cells #[(.int .i64 0 : Value), .bool false] 159))) n5); have X5 := Lib.hid (X1.out.drewN n5); generalize (w.alloc (.cells #[(.int .i64 0 : Value), .bool false] 159)).drewN n5 = w5 at *; have x0 := X5.out.c 0; have x1 := X5.out.c 1; have f0 := X5.out.f 0; have f1 := X5.out.f 1; have R5 := Lib.hid (HR.out.next (below_next B1.out B5.out)); have g2 := R5.out.1.c 2; have g4 := R5.out.1.c 4; have g5 := R5.out.1.c 5)
  have X6 := Bk.set_ (Bk.set_ X5.out 0 (Value.int .i64 y)) 1 (.bool true)
  have B6 := Lib.hid (((below_next B1.out B5.out).setCell (p := ⟨w.heap.size, 0, none⟩) (Nat.le_refl _) (Value.int .i64 y)).setCell (p := ⟨w.heap.size, 1, none⟩) (Nat.le_refl _) (.bool true))
  generalize (w5.setCell ⟨w.heap.size, 0, none⟩ (Value.int .i64 y)).setCell ⟨w.heap.size, 1, none⟩ (.bool true) = w6 at *
  clear x0 x1 f0 f1
  have x0 : w6.cell? ⟨w.heap.size, 0, none⟩ = some (Value.int .i64 y) := X6.c 0
  have x1 : w6.cell? ⟨w.heap.size, 1, none⟩ = some (.bool true) := X6.c 1
  go_quiet (fail)
  go_wp2
  go_ret2
  exact ⟨by rw [HY.out, decide_eq_true HB.out]; rfl, (by first | exact Sh.below_drewN B6.out _ | exact Sh.below_drewN B6.out.drew _)⟩
theorem top_cells {base g m kb c : Nat} {BV tv : Value} {tb : Bool} {x : Int} {t bs : List Int} {W : World} (r : Tw base W g m (.slice (some ⟨kb, 0, none⟩) (t.length + 1) c) BV (x :: t) bs tv tb) :
    W.cell? ⟨kb, t.length * 2, none⟩ = some (Value.int .i64 (jl (x :: t))) ∧ W.cell? ⟨kb, t.length * 2 + 1, none⟩ = some (.bool true) ∧ kb < W.heap.size := by
  obtain ⟨A', c', e, _, _, hs⟩ := own_seq r.2.1 (by decide)
  cases e
  obtain ⟨g', o', e', _, hlt, hc⟩ := hs (by rw [flat_len, sums_len]; simp)
  cases e'
  have h := flat_last (sums t) (jl (x :: t))
  rw [sums_len] at h
  have h0 := hc _ _ h.1
  have h1 := hc _ _ h.2
  simp only [Nat.zero_add] at h0 h1
  exact ⟨h0, h1, hlt⟩
set_option maxHeartbeats 2000000 in
theorem all_front (base g m : Nat) (FV BV tv : Value) (tb : Bool) (x : Int) (t : List Int) (w : World) (r : Tw base w g m FV BV (x :: t) [] tv tb) (hl : t.length ≤ 900) : Calls Tryd.prog 151 #[.pointer (some ⟨g, 0, none⟩)] w (RetAll (x :: t) w) := by
  have LN := Lib.hid (fun W (h : Below w.heap.size w W) => len_any base g m FV BV tv tb (x :: t) [] W (r.next h) (by simp; omega))
  have B1 := Lib.hid (below_new w (.cells #[(.int .i64 0 : Value), .bool false] 159))
  have X1 := Lib.hid (Bk.new 159 w [(.int .i64 0 : Value), .bool false])
  obtain ⟨kb, c, rfl⟩ := ownsRow_succ (show w.ownsRow base 159 2 FV (t.length + 1) _ from r.2.1)
  obtain ⟨A2, n2, hBV, -⟩ := r.back
  have hBV : BV = .slice A2 0 n2 := hBV
  subst hBV
  have HR := Lib.hid r
  obtain ⟨N0, hN0⟩ : ∃ N0 : Nat, (x :: t).length + ([] : List Int).length = N0 := ⟨_, rfl⟩
  rw [hN0] at LN
  have t1 : ((N0 : Int) == 0) = false := by simp at hN0 ⊢; omega
  have t2 : (((t.length : Int) + 1) == 0) = false := by simp; omega
  have w2 : IntKind.i64.wrap (t.length : Int) = t.length := IntWalk.i64_in _ (by omega)
  have i1 : t.length < t.length + 1 := by omega
  have i2 : (t.length : Int) < (t.length : Int) + 1 := by omega
  have i3 : (0 : Int) ≤ (t.length : Int) := by omega
  have i4 : (0 : Int) ≤ (t.length : Int) ∧ (t.length : Int) < (t.length : Int) + 1 := ⟨i3, i2⟩
  have hlw := Lib.hid (show ∀ b, Tt g (.slice (some ⟨kb, 0, none⟩) (t.length + 1) c) (.slice A2 0 n2) b → b < w.heap.size from fun b hb => (r.lt b hb).1)
  have e1 : ¬ w.heap.size = g := fun e => by have := hlw.out g (.inl rfl); omega
  have e2 : ¬ w.heap.size = kb := fun e => by have := hlw.out kb (.inr (.inl rfl)); omega
  have e3 : ¬ g = w.heap.size := fun e => e1 e.symm
  have e4 : ¬ kb = w.heap.size := fun e => e2 e.symm
  have TOP := Lib.hid (fun W (h : Tw base W g m (.slice (some ⟨kb, 0, none⟩) (t.length + 1) c) (.slice A2 0 n2) (x :: t) [] tv tb) => top_cells h)
  obtain ⟨y, hy⟩ : ∃ y, jl (x :: t) = y := ⟨_, rfl⟩
  have HY := Lib.hid hy
  rw [hy] at TOP
  clear r hN0 hl hy
  go_enter Tryd.func151, Tryd.ntmps151
  go_wp2_with (go_at_call 155; (with_reducible refine (LN.out _ B1.out).mono ?_); rintro r w5 ⟨rfl, n5, rfl⟩; have B5 := Lib.hid (Sh.below_drewN (Below.refl (w.alloc (.cells #[(.int .i64 0 : Value), .bool false] 159)).heap.size (w.alloc (.cells #[(.int .i64 0 : Value), .bool false] 159))) n5); have X5 := Lib.hid (X1.out.drewN n5); generalize (w.alloc (.cells #[(.int .i64 0 : Value), .bool false] 159)).drewN n5 = w5 at *; have x0 := X5.out.c 0; have x1 := X5.out.c 1; have f0 := X5.out.f 0; have f1 := X5.out.f 1; have R5 := Lib.hid (HR.out.next (below_next B1.out B5.out)); have g2 := R5.out.1.c 2; have g3 := R5.out.1.c 3; obtain ⟨k0, k1, -⟩ := TOP.out _ R5.out)
  go_region_held3 (fun w' => w'.cell? ⟨g, 2, none⟩ = some (.slice (some ⟨kb, 0, none⟩) (t.length + 1) c) ∧ w'.cell? ⟨kb, t.length * 2, none⟩ = some (Value.int .i64 y) ∧ w'.cell? ⟨kb, t.length * 2 + 1, none⟩ = some (.bool true))
    (first
      | go_keep)
    (fail)
  all_goals
    go_wp2_with fail
    have X6 := Bk.set_ (Bk.set_ X5.out 0 (Value.int .i64 y)) 1 (.bool true)
    have B6 := Lib.hid (((below_next B1.out B5.out).setCell (p := ⟨w.heap.size, 0, none⟩) (Nat.le_refl _) (Value.int .i64 y)).setCell (p := ⟨w.heap.size, 1, none⟩) (Nat.le_refl _) (.bool true))
    generalize (w5.setCell ⟨w.heap.size, 0, none⟩ (Value.int .i64 y)).setCell ⟨w.heap.size, 1, none⟩ (.bool true) = w6 at *
    clear x0 x1 f0 f1
    have x0 : w6.cell? ⟨w.heap.size, 0, none⟩ = some (Value.int .i64 y) := X6.c 0
    have x1 : w6.cell? ⟨w.heap.size, 1, none⟩ = some (.bool true) := X6.c 1
    go_quiet (fail)
    go_wp2
    go_ret2
    exact ⟨by rw [HY.out]; rfl, (by first | exact Sh.below_drewN B6.out _ | exact Sh.below_drewN B6.out.drew _)⟩
set_option maxHeartbeats 2000000 in
theorem all_both (base g m : Nat) (FV BV tv : Value) (tb : Bool) (x : Int) (t bs : List Int) (w : World) (r : Tw base w g m FV BV (x :: t) bs tv tb) (hb : 0 < bs.length) (hl : t.length + bs.length ≤ 900) (hwt : wt (jl (x :: t)) + wt (jl bs) ≤ 1000000) (hJ : JW w) : Calls Tryd.prog 151 #[.pointer (some ⟨g, 0, none⟩)] w (RetAll ((x :: t) ++ bs) w) := by
  have LN := Lib.hid (fun W (h : Below w.heap.size w W) => len_any base g m FV BV tv tb (x :: t) bs W (r.next h) (by simp; omega))
  have ME := Lib.hid (fun W (h : W.cell? ⟨g, 1, none⟩ = some jv ∧ JW W) => meet_any g (jl (x :: t)) (jl bs) W h.1 h.2 hwt)
  have JH := Lib.hid hJ
  clear hJ
  have HJ := Lib.hid (jl_app hb (x :: t) (by simp))
  have B1 := Lib.hid (below_new w (.cells #[(.int .i64 0 : Value), .bool false] 159))
  have X1 := Lib.hid (Bk.new 159 w [(.int .i64 0 : Value), .bool false])
  obtain ⟨rfl, rfl⟩ := r.2.2.2.2 hb
  obtain ⟨kb, c, rfl⟩ := ownsRow_succ (show w.ownsRow base 159 2 FV (t.length + 1) _ from r.2.1)
  obtain ⟨A2, n2, rfl, -⟩ := r.back
  have HR := Lib.hid r
  obtain ⟨N0, hN0⟩ : ∃ N0 : Nat, (x :: t).length + bs.length = N0 := ⟨_, rfl⟩
  rw [hN0] at LN
  have t1 : ((N0 : Int) == 0) = false := by simp at hN0 ⊢; omega
  have t2 : (((t.length : Int) + 1) == 0) = false := by simp; omega
  have t3 : ((bs.length : Int) == 0) = false := by simp; exact fun e => by rw [e] at hb; simp at hb
  have w2 : IntKind.i64.wrap (t.length : Int) = t.length := IntWalk.i64_in _ (by omega)
  have i1 : t.length < t.length + 1 := by omega
  have i2 : (t.length : Int) < (t.length : Int) + 1 := by omega
  have i3 : (0 : Int) ≤ (t.length : Int) := by omega
  have i4 : (0 : Int) ≤ (t.length : Int) ∧ (t.length : Int) < (t.length : Int) + 1 := ⟨i3, i2⟩
  have hlw := Lib.hid (show ∀ b, Tt g (.slice (some ⟨kb, 0, none⟩) (t.length + 1) c) (.slice A2 bs.length n2) b → b < w.heap.size from fun b hb => (r.lt b hb).1)
  have e1 : ¬ w.heap.size = g := fun e => by have := hlw.out g (.inl rfl); omega
  have e2 : ¬ w.heap.size = kb := fun e => by have := hlw.out kb (.inr (.inl rfl)); omega
  have e3 : ¬ g = w.heap.size := fun e => e1 e.symm
  have e4 : ¬ kb = w.heap.size := fun e => e2 e.symm
  obtain ⟨q, hq⟩ : ∃ q, jl bs = q := ⟨_, rfl⟩
  rw [hq] at HR ME HJ
  have TOP := Lib.hid (fun W (h : Tw base W g m (.slice (some ⟨kb, 0, none⟩) (t.length + 1) c) (.slice A2 bs.length n2) (x :: t) bs (Value.int .i64 q) true) => top_cells h)
  obtain ⟨y, hy⟩ : ∃ y, jl (x :: t) = y := ⟨_, rfl⟩
  rw [hy] at TOP ME HJ
  obtain ⟨z, hz⟩ : ∃ z, jn y q = z := ⟨_, rfl⟩
  rw [hz] at ME HJ
  have HB := Lib.hid hb
  clear r hN0 hl hy hq hz hwt hb
  go_enter Tryd.func151, Tryd.ntmps151
  go_wp2_with (go_at_call 155; (with_reducible refine (LN.out _ B1.out).mono ?_); rintro r w5 ⟨rfl, n5, rfl⟩; have B5 := Lib.hid (Sh.below_drewN (Below.refl (w.alloc (.cells #[(.int .i64 0 : Value), .bool false] 159)).heap.size (w.alloc (.cells #[(.int .i64 0 : Value), .bool false] 159))) n5); have X5 := Lib.hid (X1.out.drewN n5); generalize (w.alloc (.cells #[(.int .i64 0 : Value), .bool false] 159)).drewN n5 = w5 at *; have x0 := X5.out.c 0; have x1 := X5.out.c 1; have R5 := Lib.hid (HR.out.next (below_next B1.out B5.out)); have g1 := Lib.hid (show w5.drew.cell? ⟨g, 1, none⟩ = some jv ∧ JW w5.drew from ⟨R5.out.1.c 1, JH.out.next (below_next B1.out B5.out).drew⟩); have g2 := R5.out.1.c 2; have g3 := R5.out.1.c 3; have g4 := R5.out.1.c 4; have g5 := R5.out.1.c 5; obtain ⟨k0, k1, -⟩ := TOP.out _ R5.out)
  go_region_held3 (fun w' => w'.cell? ⟨g, 2, none⟩ = some (.slice (some ⟨kb, 0, none⟩) (t.length + 1) c) ∧ w'.cell? ⟨g, 4, none⟩ = some (Value.int .i64 q) ∧ w'.cell? ⟨g, 5, none⟩ = some (.bool true) ∧ w'.cell? ⟨kb, t.length * 2, none⟩ = some (Value.int .i64 y) ∧ w'.cell? ⟨kb, t.length * 2 + 1, none⟩ = some (.bool true))
    (first
      | with_reducible exact KK.out
      | go_keep)
    (first
      | (go_at_call 156; (with_reducible refine (ME.out _ g1.out).mono ?_); rintro r w7 ⟨rfl, hb7⟩; have B7 := Lib.hid (below_next (Below.refl w5.heap.size w5).drew hb7); have X7 := Lib.hid (X5.out.next B7.out); have R7 := R5.out.next B7.out; have T7 := TOP.out _ R7; have KK := Lib.hid (show w7.cell? ⟨g, 2, none⟩ = some (.slice (some ⟨kb, 0, none⟩) (t.length + 1) c) ∧ w7.cell? ⟨g, 4, none⟩ = some (Value.int .i64 q) ∧ w7.cell? ⟨g, 5, none⟩ = some (.bool true) ∧ w7.cell? ⟨kb, t.length * 2, none⟩ = some (Value.int .i64 y) ∧ w7.cell? ⟨kb, t.length * 2 + 1, none⟩ = some (.bool true) from ⟨R7.1.c 2, R7.1.c 4, R7.1.c 5, T7.1, T7.2.1⟩); have x0 := X7.out.c 0; have x1 := X7.out.c 1; have f0 := X7.out.f 0; have f1 := X7.out.f 1; clear hb7 R7 T7))
  all_goals
    go_wp2_with fail
    have X6 := Bk.set_ (Bk.set_ X7.out 0 (Value.int .i64 z)) 1 (.bool true)
    have B6 := Lib.hid (((below_next (below_next B1.out B5.out) B7.out).setCell (p := ⟨w.heap.size, 0, none⟩) (Nat.le_refl _) (Value.int .i64 z)).setCell (p := ⟨w.heap.size, 1, none⟩) (Nat.le_refl _) (.bool true))
    generalize (w7.setCell ⟨w.heap.size, 0, none⟩ (Value.int .i64 z)).setCell ⟨w.heap.size, 1, none⟩ (.bool true) = w6 at *
    clear x0 x1 f0 f1
    have x0 : w6.cell? ⟨w.heap.size, 0, none⟩ = some (Value.int .i64 z) := X6.c 0
    have x1 : w6.cell? ⟨w.heap.size, 1, none⟩ = some (.bool true) := X6.c 1
    go_quiet (fail)
    go_wp2
    go_ret2
    exact ⟨by have h := HJ.out; simp only [List.cons_append] at h ⊢; rw [h]; rfl, (by first | exact Sh.below_drewN B6.out _ | exact Sh.below_drewN B6.out.drew _)⟩
end Go.Proofs.YtfamgaakcbinkaaDoor.Twc
