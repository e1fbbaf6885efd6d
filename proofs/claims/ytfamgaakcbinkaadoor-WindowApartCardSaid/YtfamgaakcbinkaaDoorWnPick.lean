/-
  window.picked: what its methods answer. Conditions: no more than 1000 numbers in all.
-/
import Derived.Test.YtfamgaakcbinkaaDoorDqRef
import Derived.Test.YtfamgaakcbinkaaDoorWnJoin
namespace Go.Proofs.YtfamgaakcbinkaaDoor.Wn
open Go.Proofs.YtfamgaakcbinkaaDoor.Sh Go.Proofs.YtfamgaakcbinkaaDoor.St
open Go.RowKit
set_option linter.unusedVariables false

def RetQ (base g : Nat) (V : Value) (ls : Bool) (n f : Nat) (l : List Int) (w : World) (e : Ending) (w' : World) : Prop := ∃ V', e = .returned (.tuple #[]) ∧ Dq.Deq base w' g V' ls n f l ∧ Turn (Dq.Tq g V) w w' ∧ Dq.Fresh w V V'
theorem retq_from {base g n f : Nat} {V : Value} {ls : Bool} {l : List Int} {v : Value} {e : Ending} {w w1 w' : World} (h : Dq.RetD base g V ls n f l v w1 e w') (hb : Below w.heap.size w w1) : e = .returned v ∧ RetQ base g V ls n f l w (.returned (.tuple #[])) w' := by
  obtain ⟨V', h0, h1, h2, h3⟩ := h
  exact ⟨h0, V', rfl, h1, (Turn.of_below _ hb).trans h2, fun k hk => (h3 k hk).imp id fun h => Nat.le_trans hb.size h⟩
set_option maxHeartbeats 1000000 in
theorem push_picked (base g : Nat) (V : Value) (ls : Bool) (n f : Nat) (l : List Int) (y : Int) (w : World) (d : Dq.Deq base w g V ls n f l) (hs : f + l.length ≤ 1000) (hf : l.length < n) :
    Calls Tryd.prog 131 #[.agg #[.pointer (some ⟨g, 0, none⟩)], .int .i64 y] w (RetQ base g V ls n f (l ++ [y]) w) := by
  have B1 := Lib.hid (below_new w (.cells #[.pointer (some ⟨g, 0, none⟩)] 135))
  have PU := Lib.hid (Dq.push_room base g V ls n f l y (w.alloc (.cells #[.pointer (some ⟨g, 0, none⟩)] 135)) (d.next B1.out) hs hf)
  clear d hs hf
  go_enter Tryd.func131, Tryd.ntmps131
  go_wp2_with (go_at_call 137; (with_reducible refine (PU.out).mono ?_); intro r w5 h5; obtain ⟨rfl, h6⟩ := retq_from h5 B1.out; have H5 := Lib.hid h6; clear h5 h6)
  exact ⟨rfl, .tuple #[], by simp [results, Tryd.results131, go_sem], H5.out⟩
set_option maxHeartbeats 1000000 in
theorem drop_picked (base g : Nat) (V : Value) (ls : Bool) (n f : Nat) (x : Int) (l : List Int) (w : World) (d : Dq.Deq base w g V ls n f (x :: l)) (hs : f + l.length ≤ 999) :
    Calls Tryd.prog 130 #[.agg #[.pointer (some ⟨g, 0, none⟩)]] w (RetQ base g V ls n (f + 1) l w) := by
  have B1 := Lib.hid (below_new w (.cells #[.pointer (some ⟨g, 0, none⟩)] 135))
  have PU := Lib.hid (Dq.drop_some base g V ls n f x l (w.alloc (.cells #[.pointer (some ⟨g, 0, none⟩)] 135)) (d.next B1.out) hs)
  clear d hs
  go_enter Tryd.func130, Tryd.ntmps130
  go_wp2_with (go_at_call 127; (with_reducible refine (PU.out).mono ?_); intro r w5 h5; obtain ⟨rfl, h6⟩ := retq_from h5 B1.out; have H5 := Lib.hid h6; clear h5 h6)
  exact ⟨rfl, .tuple #[], by simp [results, Tryd.results130, go_sem], H5.out⟩
set_option maxHeartbeats 1000000 in
theorem all_picked (base g : Nat) (V : Value) (ls : Bool) (n f : Nat) (l : List Int) (w : World) (d : Dq.Deq base w g V ls n f l) (hs : f + l.length ≤ 1000) :
    Calls Tryd.prog 128 #[.agg #[.pointer (some ⟨g, 0, none⟩)]] w fun e w' => e = .returned (.int .i64 (Dq.bestI ls l)) ∧ Below w.heap.size w w' := by
  have B1 := Lib.hid (below_new w (.cells #[.pointer (some ⟨g, 0, none⟩)] 135))
  have PU := Lib.hid (Dq.best_any base g V ls n f l (w.alloc (.cells #[.pointer (some ⟨g, 0, none⟩)] 135)) (d.next B1.out) hs)
  clear d hs
  go_enter Tryd.func128, Tryd.ntmps128
  go_wp2_with (go_at_call 133; (with_reducible refine (PU.out).mono ?_); rintro r w5 ⟨rfl, h5⟩; have H5 := Lib.hid (below_next B1.out h5); clear h5)
  go_ret
  exact ⟨rfl, H5.out⟩
set_option maxHeartbeats 1000000 in
theorem words_picked (base g : Nat) (V : Value) (ls : Bool) (n f : Nat) (l : List Int) (w : World) (d : Dq.Deq base w g V ls n f l) (hs : l.length ≤ 1000) :
    Calls Tryd.prog 132 #[.agg #[.pointer (some ⟨g, 0, none⟩)]] w fun e w' => e = .returned (.int .i64 (2 * (Dq.keptV ls l).length : Nat)) ∧ Below w.heap.size w w' := by
  have B1 := Lib.hid (below_new w (.cells #[.pointer (some ⟨g, 0, none⟩)] 135))
  have PU := Dq.kept_any base g V ls n f l (w.alloc (.cells #[.pointer (some ⟨g, 0, none⟩)] 135)) (d.next B1.out) hs
  unfold Dq.RetVals at PU
  have PU := Lib.hid PU
  have hk : (Dq.keptV ls l).length ≤ 1000 := by rw [← Dq.kept_vals ls l f, List.length_map]; exact Nat.le_trans (Dq.kept_len ls l f) hs
  obtain ⟨N, hN⟩ : ∃ N, (Dq.keptV ls l).length = N := ⟨_, rfl⟩
  rw [hN] at PU hk ⊢
  have e1 : IntKind.i64.wrap (2 * (N : Int)) = 2 * (N : Int) := IntWalk.i64_in _ (by omega)
  have e2 : ((2 * N : Nat) : Int) = 2 * (N : Int) := by omega
  clear d hs hk hN
  go_enter Tryd.func132, Tryd.ntmps132
  go_wp2_with (go_at_call 138; (with_reducible refine (PU.out).mono ?_); rintro r w5 ⟨A5, c5, rfl, -, -, -, h5⟩; have H5 := Lib.hid (below_next B1.out h5); clear h5)
  go_ret
  exact ⟨by rw [e2]; rfl, H5.out⟩
/-- What a clone is. -/
def RetQc (ls : Bool) (n f : Nat) (l : List Int) (w : World) (e : Ending) (w' : World) : Prop := ∃ g V, e = .returned (.iface 135 (.agg #[.pointer (some ⟨g, 0, none⟩)])) ∧ Dq.Deq w.heap.size w' g V ls n f l ∧ Below w.heap.size w w'
set_option maxHeartbeats 1000000 in
theorem clone_picked (base g : Nat) (V : Value) (ls : Bool) (n f : Nat) (l : List Int) (w : World) (d : Dq.Deq base w g V ls n f l) (hs : l.length ≤ 1000) :
    Calls Tryd.prog 129 #[.agg #[.pointer (some ⟨g, 0, none⟩)]] w (RetQc ls n f l w) := by
  have B1 := Lib.hid (below_new w (.cells #[.pointer (some ⟨g, 0, none⟩)] 135))
  have PU := Dq.clone_any base g V ls n f l (w.alloc (.cells #[.pointer (some ⟨g, 0, none⟩)] 135)) (d.next B1.out) hs
  unfold Dq.RetClone at PU
  have PU := Lib.hid PU
  clear d hs
  go_enter Tryd.func129, Tryd.ntmps129
  go_wp2_with (go_at_call 134; (with_reducible refine (PU.out).mono ?_); rintro r w5 ⟨g5, V5, rfl, r5, h5⟩; have H5 := Lib.hid (below_next B1.out h5); have R5 := Lib.hid r5; clear h5 r5)
  go_ret
  have hs := B1.out.size
  obtain ⟨k1, k2, k3, k4, k5⟩ := R5.out
  exact ⟨g5, V5, rfl, ⟨k1, Dq.RowK.mono k2 hs, k3, k4, Nat.le_trans hs k5⟩, H5.out⟩
end Go.Proofs.YtfamgaakcbinkaaDoor.Wn
