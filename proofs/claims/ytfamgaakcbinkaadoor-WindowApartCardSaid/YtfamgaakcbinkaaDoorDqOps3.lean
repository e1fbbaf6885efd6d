/-
  What Kept, New and Clone of package deque answer. Conditions: as told in each.
-/
import Derived.Test.YtfamgaakcbinkaaDoorDqOps2
namespace Go.Proofs.YtfamgaakcbinkaaDoor.Dq
open Go.Proofs.YtfamgaakcbinkaaDoor.Sh Go.Proofs.YtfamgaakcbinkaaDoor.St
open Go.RowKit
set_option linter.unusedVariables false

theorem RowK.mono {base b : Nat} {w : World} {V : Value} {ks : List (Int × Nat)} (h : RowK base w V ks) (hb : b ≤ base) : RowK b w V ks := by
  refine ⟨h.1, ?_⟩
  rcases h.2 with h0 | ⟨g, cap, cur, rfl, hb', hr⟩
  · exact .inl h0
  · exact .inr ⟨g, cap, cur, rfl, by omega, hr⟩
theorem kept_nil (w : World) : Calls Tryd.prog 138 #[.pointer none] w fun e w' => e = .returned (.slice none 0 0) ∧ w = w' := by
  go_enter Tryd.func138, Tryd.ntmps138
  go_wp2
  go_ret
  exact ⟨rfl, rfl⟩
theorem clone_nil (w : World) : Calls Tryd.prog 134 #[.pointer none] w fun e w' => e = .returned (.pointer none) ∧ w = w' := by
  go_enter Tryd.func134, Tryd.ntmps134
  go_wp2
  go_ret
  exact ⟨rfl, rfl⟩
set_option maxHeartbeats 1000000 in
theorem kept_any (base g : Nat) (V : Value) (ls : Bool) (n f : Nat) (l : List Int) (w : World) (d : Deq base w g V ls n f l) (hs : l.length ≤ 1000) :
    Calls Tryd.prog 138 #[.pointer (some ⟨g, 0, none⟩)] w (RetVals (keptV ls l) w) := by
  have VA := values_any base g V (keptF ls f l) w d.1.all.2.1 d.1.lt d.2.1 (Nat.le_trans (kept_len ls l f) hs)
  rw [kept_vals] at VA
  have HV := Lib.hid VA
  clear d hs VA
  go_enter Tryd.func138, Tryd.ntmps138
  go_wp2_with fail
  refine HV.out.mono ?_
  rintro r w1 ⟨A, c, rfl, h1, h2, h3, hb⟩
  have H1 := Lib.hid h1
  have K := Lib.hid hb
  clear h1 hb
  go_wp2
  go_ret
  exact ⟨A, c, rfl, H1.out, h2, h3, K.out⟩
def mayB (n : Int) : Bool := decide (1 ≤ n ∧ n ≤ 64)
set_option maxHeartbeats 1000000 in
theorem new_no (ls : Bool) (n : Int) (w : World) (h : mayB n = false) :
    Calls Tryd.prog 92 #[.bool ls, .int .i64 n] w fun e w' => e = .returned (.tuple #[.pointer none, .int .i64 1]) ∧ w = w' := by
  have h' : ¬ (1 ≤ n ∧ n ≤ 64) := by simpa [mayB] using h
  clear h
  by_cases h1 : n < 1
  · have t1 : decide (n < 1) = true := decide_eq_true h1
    clear h'
    go_enter Tryd.func92, Tryd.ntmps92
    go_wp2
    go_ret2
    exact ⟨rfl, rfl⟩
  · have t1 : decide (n < 1) = false := decide_eq_false h1
    have t2 : decide (n > 64) = true := decide_eq_true (by omega)
    clear h'
    go_enter Tryd.func92, Tryd.ntmps92
    go_wp2
    go_ret2
    exact ⟨rfl, rfl⟩
def RetNew (ls : Bool) (n : Nat) (w : World) (e : Ending) (w' : World) : Prop := ∃ g, e = .returned (.tuple #[.pointer (some ⟨g, 0, none⟩), .int .i64 0]) ∧ Deq w.heap.size w' g (.slice none 0 0) ls n 0 [] ∧ Below w.heap.size w w'
set_option maxHeartbeats 1000000 in
theorem new_yes (ls : Bool) (n : Nat) (w : World) (h1 : 1 ≤ n) (h2 : n ≤ 64) :
    Calls Tryd.prog 92 #[.bool ls, .int .i64 n] w (RetNew ls n w) := by
  have t1 : decide ((n : Int) < 1) = false := decide_eq_false (by omega)
  have t2 : decide ((n : Int) > 64) = false := decide_eq_false (by omega)
  go_enter Tryd.func92, Tryd.ntmps92
  go_wp2
  go_ret2
  exact ⟨w.heap.size, rfl, ⟨Bk.new 156 w [.bool ls, .slice none 0 0, .int .i64 0, .int .i64 0, .int .i64 n], RowK.nil' _ _, Nat.zero_le _, h2, Nat.le_refl _⟩, below_new _ _⟩
def RetClone (ls : Bool) (n f : Nat) (l : List Int) (w : World) (e : Ending) (w' : World) : Prop := ∃ g V, e = .returned (.pointer (some ⟨g, 0, none⟩)) ∧ Deq w.heap.size w' g V ls n f l ∧ Below w.heap.size w w'
set_option maxHeartbeats 2000000 in
theorem clone_any (base g : Nat) (V : Value) (ls : Bool) (n f : Nat) (l : List Int) (w : World) (d : Deq base w g V ls n f l) (hs : l.length ≤ 1000) :
    Calls Tryd.prog 134 #[.pointer (some ⟨g, 0, none⟩)] w (RetClone ls n f l w) := by
  have D0 := Lib.hid d
  have hkl := Nat.le_trans (kept_len ls l f) hs
  obtain ⟨a, ha⟩ : ∃ a, f + l.length = a := ⟨_, rfl⟩
  have d1 := d.1
  rw [ha] at d1
  have HA := Lib.hid ha
  have b1 := below_new w (.cells #[.bool ls, V, .int .i64 a, .int .i64 f, .int .i64 n] 156)
  have B1 := Lib.hid b1
  have BX := Lib.hid (Bk.new 156 w [.bool ls, V, .int .i64 a, .int .i64 f, .int .i64 n])
  have CL := Lib.hid (clone_k base V (keptF ls f l) _ (d.2.1.next b1) hkl)
  obtain ⟨A, c, rfl, -⟩ := d.2.1.view
  obtain ⟨c0, c1, c2, c3, c4⟩ := d1.all
  obtain ⟨y0, y1, y2, y3, y4⟩ := (d1.next b1).all
  have hgl : g < w.heap.size := d1.lt
  clear d d1 hs ha b1 hkl
  go_enter Tryd.func134, Tryd.ntmps134
  go_wp2_with fail
  refine CL.out.mono ?_
  rintro r w2 ⟨V2, rfl, r2, hb2⟩
  obtain ⟨A2, c2', rfl, -⟩ := r2.view
  have R2 := Lib.hid r2
  have K2 := Lib.hid (below_next B1.out hb2)
  have X2 := Lib.hid (BX.out.next hb2)
  have x1 := X2.out.c 1
  have xf := X2.out.f 1
  clear r2 hb2 y0 y1 y2 y3 y4
  go_wp2
  go_ret
  have hne : (Value.slice A2 (keptF ls f l).length c2').ownBlock ≠ some w.heap.size := fun e => own_bk_ne (t := 156) R2.out X2.out (by decide) e.symm
  refine ⟨w.heap.size, _, rfl, ⟨?_, (R2.out.turn (Turn.setCell (p := ⟨w.heap.size, 1, none⟩) (Turn.refl (fun i => i = w.heap.size) w2) (.inl rfl) _) (fun k hk e => hne (by rw [← e]; exact hk))).mono (by simp), D0.out.2.2.1, D0.out.2.2.2.1, Nat.le_refl _⟩, K2.out.setCell (Nat.le_refl _) _⟩
  unfold DqF
  rw [HA.out]
  exact Bk.set_ X2.out 1 _
end Go.Proofs.YtfamgaakcbinkaaDoor.Dq
