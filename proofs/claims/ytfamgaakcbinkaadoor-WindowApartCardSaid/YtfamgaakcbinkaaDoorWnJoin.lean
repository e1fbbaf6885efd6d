/-
  window.joined: what its methods answer. Conditions: the join may be called (Twc.JB), the numbers are int64, no more than 64.
-/
import Derived.Test.YtfamgaakcbinkaaDoorTwcOb
import Derived.Test.YtfamgaakcbinkaaDoorTwcClone
import Derived.Test.YtfamgaakcbinkaaDoorWnPast
namespace Go.Proofs.YtfamgaakcbinkaaDoor.Wn
open Go.Proofs.YtfamgaakcbinkaaDoor.Sh Go.Proofs.YtfamgaakcbinkaaDoor.St
open Go.RowKit
set_option linter.unusedVariables false
set_option linter.unusedSectionVars false
variable [J : Twc.Jc]

/-- The joined column behind the pointer to g as a value. -/
def jcol (g : Nat) : Value := .agg #[.pointer (some ⟨g, 0, none⟩)]
theorem left_from {base g m : Nat} {l : List Int} {T : Nat → Prop} {w w1 w' : World} (h : Twc.Left base g m l T w1 w') (hb : Below w.heap.size w w1) : Twc.Left base g m l T w w' := by
  obtain ⟨T', h1, h2, h3⟩ := h
  exact ⟨T', h1, (Turn.of_below T hb).trans h2, fun b k => (h3 b k).imp id fun h => Nat.le_trans hb.size h⟩
theorem own_low {w : World} {base b size n : Nat} {e : TypeId} {v : Value} {xs : List Value} (h : w.ownsRow base e size v n xs) (hb : b ≤ base) : w.ownsRow b e size v n xs := by
  obtain ⟨h1, h2⟩ := h
  refine ⟨h1, ?_⟩
  rcases h2 with h2 | ⟨g, cap, cur, e1, hg, h3⟩
  · exact .inl h2
  · exact .inr ⟨g, cap, cur, e1, Nat.le_trans hb hg, h3⟩
theorem wsum0 : ∀ l : List Int, Fd.AllR l → Twc.wsum l = 0
  | [], _ => rfl
  | x :: l, h => by rw [Twc.wsum_cons, Twc.R_wt (h x (by simp)), wsum0 l fun y hy => h y (by simp [hy])]
set_option maxHeartbeats 1000000 in
theorem push_joined (base g m : Nat) (l : List Int) (T : Nat → Prop) (x : Int) (w : World) (h : Twc.Ob base w g m l T) (hJ : Twc.JB base w) (hl : l.length < m) (hm : m ≤ 64) (hR : Fd.AllR (l ++ [x])) :
    Calls Tryd.prog 149 #[.agg #[.pointer (some ⟨g, 0, none⟩)], .int .i64 x] w fun e w' => e = .returned (.tuple #[]) ∧ Twc.Left base g m (l ++ [x]) T w w' := by
  have B1 := Lib.hid (below_new w (.cells #[.pointer (some ⟨g, 0, none⟩)] 140))
  have PU := Lib.hid (Twc.ob_push base g m l T x (w.alloc (.cells #[.pointer (some ⟨g, 0, none⟩)] 140)) (h.next B1.out) hl hm (by rw [wsum0 _ hR]; omega) (hJ.next B1.out))
  clear h hJ hl hm hR
  go_enter Tryd.func149, Tryd.ntmps149
  go_wp2_with (go_at_call 154; (with_reducible refine (PU.out).mono ?_); rintro r w5 ⟨rfl, h5⟩; have H5 := Lib.hid (left_from h5 B1.out); clear h5)
  exact ⟨rfl, .tuple #[], by simp [results, Tryd.results149, go_sem], rfl, H5.out⟩
set_option maxHeartbeats 1000000 in
theorem drop_joined (base g m : Nat) (l : List Int) (T : Nat → Prop) (x : Int) (w : World) (h : Twc.Ob base w g m (x :: l) T) (hJ : Twc.JB base w) (hl : l.length < 64) (hR : Fd.AllR (x :: l)) :
    Calls Tryd.prog 148 #[.agg #[.pointer (some ⟨g, 0, none⟩)]] w fun e w' => e = .returned (.tuple #[]) ∧ Twc.Left base g m l T w w' := by
  have B1 := Lib.hid (below_new w (.cells #[.pointer (some ⟨g, 0, none⟩)] 140))
  have PU := Lib.hid (Twc.ob_drop base g m l T x (w.alloc (.cells #[.pointer (some ⟨g, 0, none⟩)] 140)) (h.next B1.out) hl (by rw [wsum0 _ hR]; omega) (hJ.next B1.out))
  clear h hJ hl hR
  go_enter Tryd.func148, Tryd.ntmps148
  go_wp2_with (go_at_call 153; (with_reducible refine (PU.out).mono ?_); rintro r w5 ⟨rfl, h5⟩; have H5 := Lib.hid (left_from h5 B1.out); clear h5)
  exact ⟨rfl, .tuple #[], by simp [results, Tryd.results148, go_sem], rfl, H5.out⟩
set_option maxHeartbeats 1000000 in
theorem all_joined (base g m : Nat) (l : List Int) (T : Nat → Prop) (w : World) (h : Twc.Ob base w g m l T) (hJ : Twc.JB base w) (hl : l.length ≤ 900) (hR : Fd.AllR l) :
    Calls Tryd.prog 146 #[.agg #[.pointer (some ⟨g, 0, none⟩)]] w fun e w' => e = .returned (.int .i64 (Twc.jl l)) ∧ Below w.heap.size w w' := by
  have B1 := Lib.hid (below_new w (.cells #[.pointer (some ⟨g, 0, none⟩)] 140))
  have PU := Twc.ob_all base g m l T (w.alloc (.cells #[.pointer (some ⟨g, 0, none⟩)] 140)) (h.next B1.out) hl (by rw [wsum0 _ hR]; omega) (hJ.next B1.out)
  unfold Twc.RetAll at PU
  have PU := Lib.hid PU
  clear h hJ hl hR
  go_enter Tryd.func146, Tryd.ntmps146
  go_wp2_with (go_at_call 151; (with_reducible refine (PU.out).mono ?_); rintro r w5 ⟨rfl, h5⟩; have H5 := Lib.hid (below_next B1.out h5); clear h5)
  go_ret
  exact ⟨rfl, H5.out⟩
set_option maxHeartbeats 1000000 in
theorem words_joined (base g m : Nat) (l : List Int) (T : Nat → Prop) (w : World) (h : Twc.Ob base w g m l T) (hl : l.length ≤ 900) :
    Calls Tryd.prog 150 #[.agg #[.pointer (some ⟨g, 0, none⟩)]] w fun e w' => e = .returned (.int .i64 (2 * l.length : Nat)) ∧ Below w.heap.size w w' := by
  have B1 := Lib.hid (below_new w (.cells #[.pointer (some ⟨g, 0, none⟩)] 140))
  have PU := Lib.hid (Twc.ob_len base g m l T (w.alloc (.cells #[.pointer (some ⟨g, 0, none⟩)] 140)) (h.next B1.out) hl)
  have e1 : IntKind.i64.wrap (2 * (l.length : Int)) = 2 * (l.length : Int) := IntWalk.i64_in _ (by omega)
  have e2 : ((2 * l.length : Nat) : Int) = 2 * (l.length : Int) := by omega
  clear h hl
  go_enter Tryd.func150, Tryd.ntmps150
  go_wp2_with (go_at_call 155; (with_reducible refine (PU.out).mono ?_); rintro r w5 ⟨rfl, h5⟩; have H5 := Lib.hid (below_next B1.out h5); clear h5)
  go_ret
  exact ⟨by rw [e2]; rfl, H5.out⟩
/-- What a clone is. -/
def RetJc (m : Nat) (l : List Int) (w : World) (e : Ending) (w' : World) : Prop := ∃ g, e = .returned (.iface 140 (.agg #[.pointer (some ⟨g, 0, none⟩)])) ∧ Twc.Ob w.heap.size w' g m l (w.heap.size ≤ ·) ∧ Below w.heap.size w w'
set_option maxHeartbeats 1000000 in
theorem clone_joined (base g m : Nat) (l : List Int) (T : Nat → Prop) (w : World) (h : Twc.Ob base w g m l T) (hl : l.length ≤ 900) :
    Calls Tryd.prog 147 #[.agg #[.pointer (some ⟨g, 0, none⟩)]] w (RetJc m l w) := by
  have B1 := Lib.hid (below_new w (.cells #[.pointer (some ⟨g, 0, none⟩)] 140))
  have h1 := h.next B1.out
  obtain ⟨FV, BV, fs, bs, tv, tb, r, rfl, ⟨y, rfl⟩, hT⟩ := h1
  have PU := Twc.clone_any base g m FV BV y tb fs bs _ r (by simpa using hl)
  unfold Twc.RetClone at PU
  have PU := Lib.hid PU
  clear h hl r hT
  go_enter Tryd.func147, Tryd.ntmps147
  go_wp2_with (go_at_call 152; (with_reducible refine (PU.out).mono ?_); rintro r w5 ⟨g5, FV5, BV5, rfl, r5, h5⟩; have H5 := Lib.hid (below_next B1.out h5); have R5 := Lib.hid r5; clear h5 r5)
  go_ret
  have hs := B1.out.size
  obtain ⟨k1, k2, k3, k4, k5⟩ := R5.out
  exact ⟨g5, rfl, ⟨FV5, BV5, fs, bs, _, tb, ⟨k1, own_low k2 hs, own_low k3 hs, Nat.le_trans hs k4, k5⟩, rfl, ⟨y, rfl⟩, fun b k => Nat.le_trans hs (R5.out.lt b k).2⟩, H5.out⟩
end Go.Proofs.YtfamgaakcbinkaaDoor.Wn
