/-
  A window as its values alone, with a set of blocks that holds its own: what each of its functions does to it. Conditions: as told in each.
-/
import Derived.Test.YtfamgaakcbinkaaDoorTwcAll
namespace Go.Proofs.YtfamgaakcbinkaaDoor.Twc
open Go.Proofs.YtfamgaakcbinkaaDoor.Sh Go.Proofs.YtfamgaakcbinkaaDoor.St
open Go.RowKit
set_option linter.unusedVariables false
set_option linter.unusedSectionVars false
variable [J : Jc]

/-- The window behind block g holds the values l; its blocks are among T. -/
def Ob (base : Nat) (w : World) (g m : Nat) (l : List Int) (T : Nat → Prop) : Prop := ∃ FV BV fs bs tv tb, Tw base w g m FV BV fs bs tv tb ∧ fs ++ bs = l ∧ (∃ y, tv = Value.int .i64 y) ∧ ∀ b, Tt g FV BV b → T b
/-- What a deed leaves. -/
def Left (base g m : Nat) (l : List Int) (T : Nat → Prop) (w w' : World) : Prop := ∃ T', Ob base w' g m l T' ∧ Turn T w w' ∧ ∀ b, T' b → T b ∨ w.heap.size ≤ b
section
variable {base : Nat} {w w' : World} {g m : Nat} {l : List Int} {T : Nat → Prop}
theorem Ob.next (h : Ob base w g m l T) (hb : Below w.heap.size w w') : Ob base w' g m l T := by
  obtain ⟨FV, BV, fs, bs, tv, tb, r, e, hy, hT⟩ := h
  exact ⟨FV, BV, fs, bs, tv, tb, r.next hb, e, hy, hT⟩
theorem Ob.turn (h : Ob base w g m l T) {S : Nat → Prop} (hb : Turn S w w') (hS : ∀ b, T b → ¬ S b) : Ob base w' g m l T := by
  obtain ⟨FV, BV, fs, bs, tv, tb, r, e, hy, hT⟩ := h
  exact ⟨FV, BV, fs, bs, tv, tb, r.turn hb fun b k => hS b (hT b k), e, hy, hT⟩
theorem Ob.own (h : Ob base w g m l T) : ∃ T', Ob base w g m l T' ∧ ∀ b, T' b → T b ∧ b < w.heap.size ∧ base ≤ b := by
  obtain ⟨FV, BV, fs, bs, tv, tb, r, e, hy, hT⟩ := h
  exact ⟨Tt g FV BV, ⟨FV, BV, fs, bs, tv, tb, r, e, hy, fun b k => k⟩, fun b k => ⟨hT b k, r.lt b k⟩⟩
end
theorem left_of {base g m : Nat} {l : List Int} {T : Nat → Prop} {w w' : World} {FV BV FV' BV' tv : Value} {tb : Bool} {fs bs : List Int} (hT : ∀ b, Tt g FV BV b → T b) (r : Tw base w' g m FV' BV' fs bs tv tb) (e : fs ++ bs = l) (hy : ∃ y, tv = Value.int .i64 y) (ht : Turn (Tt g FV BV) w w') (h1 : Fresh w FV FV') (h2 : Fresh w BV BV') : Left base g m l T w w' :=
  ⟨Tt g FV' BV', ⟨FV', BV', fs, bs, tv, tb, r, e, hy, fun b k => k⟩, ht.mono hT, fun b k => by
    rcases k with k | k | k
    · exact .inl (hT b (.inl k))
    · exact (h1 b k).imp (fun h => hT b (.inr (.inl h))) id
    · exact (h2 b k).imp (fun h => hT b (.inr (.inr h))) id⟩
theorem ob_new (m : Nat) (w : World) (h1 : 1 ≤ m) (h2 : m ≤ 64) : Calls Tryd.prog 93 #[.int .i64 (m : Int), jv] w fun e w' => ∃ g, e = .returned (.tuple #[.pointer (some ⟨g, 0, none⟩), .int .i64 0]) ∧ Ob w.heap.size w' g m [] (w.heap.size ≤ ·) ∧ Below w.heap.size w w' := by
  have t1 : decide ((m : Int) < 1) = false := decide_eq_false (by omega)
  have t2 : decide ((m : Int) > 64) = false := decide_eq_false (by omega)
  have t3 : ∀ W, (binOp .eql 121 jv .nilFunc).run Tryd.prog W = .ok (.bool false) W := fun W => by kernel_rfl
  unfold jv at *
  go_enter Tryd.func93, Tryd.ntmps93
  go_wp2
  go_ret2
  refine ⟨w.heap.size, rfl, ⟨.slice none 0 0, .slice none 0 0, [], [], (.int .i64 0 : Value), false, ⟨Bk.new _ w _, World.ownsRow_nil _ _ _ _, World.ownsRow_nil _ _ _ _, Nat.le_refl _, fun h => absurd h (by simp)⟩, rfl, ⟨(0 : Int), rfl⟩, fun b k => ?_⟩, below_new w _⟩
  rcases k with rfl | k | k
  · exact Nat.le_refl _
  · cases k
  · cases k
theorem wsum_le {a b : List Int} : wsum b ≤ wsum (a ++ b) := by rw [wsum_app]; omega
theorem ob_push (base g m : Nat) (l : List Int) (T : Nat → Prop) (x : Int) (w : World) (h : Ob base w g m l T) (hl : l.length < m) (hm : m ≤ 64) (hx : wsum (l ++ [x]) ≤ 10000) (hJ : JB base w) :
    Calls Tryd.prog 154 #[.pointer (some ⟨g, 0, none⟩), Value.int .i64 x] w fun e w' => e = .returned (.int .i64 0) ∧ Left base g m (l ++ [x]) T w w' := by
  obtain ⟨FV, BV, fs, bs, tv, tb, r, rfl, hy, hT⟩ := h
  have hl' : fs.length + bs.length < m := by simpa using hl
  have hx' : wsum (bs ++ [x]) ≤ 10000 := by
    have : wsum (bs ++ [x]) ≤ wsum (fs ++ (bs ++ [x])) := wsum_le
    rw [← List.append_assoc] at this
    omega
  have hp : Calls Tryd.prog 154 #[.pointer (some ⟨g, 0, none⟩), Value.int .i64 x] w (RetPush base g m FV BV fs (bs ++ [x]) w) := by
    cases bs with
    | nil =>
      refine push_first base g m FV BV tv tb fs x w r (by simpa using hl') hm ?_
      have : wsum ([] ++ [x]) = wt x := by simp [wsum]
      omega
    | cons y t => exact push_more base g m FV BV tv tb fs (y :: t) x w r (by simp) hl' hm hx' hJ.1
  refine hp.mono ?_
  rintro e w' ⟨BV', tv', tb', rfl, r', ht, hf⟩
  exact ⟨rfl, left_of hT r' (by rw [List.append_assoc]) ⟨_, (r'.2.2.2.2 (by simp)).1⟩ ht (fun k hk => .inl hk) hf⟩
theorem ob_full (base g m : Nat) (l : List Int) (T : Nat → Prop) (x : Int) (w : World) (h : Ob base w g m l T) (hl : l.length = m) (hm : m ≤ 64) :
    Calls Tryd.prog 154 #[.pointer (some ⟨g, 0, none⟩), Value.int .i64 x] w fun e w' => e = .returned (.int .i64 19) ∧ Below w.heap.size w w' := by
  obtain ⟨FV, BV, fs, bs, tv, tb, r, rfl, hy, hT⟩ := h
  exact push_full base g m FV BV tv tb fs bs x w r (by simpa using hl) hm
theorem wt_mem {l : List Int} {z : Int} (h : z ∈ l) : wt z ≤ wsum l := by
  induction l with
  | nil => simp at h
  | cons y t ih =>
    rw [wsum_cons]
    rcases List.mem_cons.1 h with rfl | h
    · omega
    · have := ih h; omega
theorem ob_drop (base g m : Nat) (l : List Int) (T : Nat → Prop) (x : Int) (w : World) (h : Ob base w g m (x :: l) T) (hl : l.length < 64) (hx : wsum (x :: l) ≤ 10000) (hJ : JB base w) :
    Calls Tryd.prog 153 #[.pointer (some ⟨g, 0, none⟩)] w fun e w' => e = .returned (.bool true) ∧ Left base g m l T w w' := by
  obtain ⟨FV, BV, fs, bs, tv, tb, r, he, hy, hT⟩ := h
  refine (drop_any base g m FV BV tv tb fs bs l x w r he (by have := congrArg List.length he; simp at this; omega) (fun z hz => by rw [he] at hz; exact Nat.le_trans (wt_mem hz) hx) hy hJ).mono ?_
  rintro e w' ⟨rfl, FV', BV', fs', bs', tv', tb', r', e', ht, h1, h2, hy'⟩
  exact ⟨rfl, left_of hT r' e' hy' ht h1 h2⟩
theorem ob_none (base g m : Nat) (T : Nat → Prop) (w : World) (h : Ob base w g m [] T) :
    Calls Tryd.prog 153 #[.pointer (some ⟨g, 0, none⟩)] w fun e w' => e = .returned (.bool false) ∧ Below w.heap.size w w' := by
  obtain ⟨FV, BV, fs, bs, tv, tb, r, he, hy, hT⟩ := h
  obtain ⟨rfl, rfl⟩ := List.append_eq_nil_iff.1 he
  refine (drop_none base g m FV BV tv tb w r).mono ?_
  rintro e w' ⟨rfl, n, rfl⟩
  exact ⟨rfl, Sh.below_drewN (Below.refl _ _) _⟩
theorem ob_all (base g m : Nat) (l : List Int) (T : Nat → Prop) (w : World) (h : Ob base w g m l T) (hl : l.length ≤ 900) (hx : wsum l ≤ 1000000) (hJ : JB base w) :
    Calls Tryd.prog 151 #[.pointer (some ⟨g, 0, none⟩)] w (RetAll l w) := by
  obtain ⟨FV, BV, fs, bs, tv, tb, r, rfl, hy, hT⟩ := h
  cases fs with
  | nil =>
    cases bs with
    | nil => exact all_none base g m FV BV tv tb w r
    | cons y t => exact all_back base g m FV BV tv tb (y :: t) w r (by simp) (by simpa using hl)
  | cons x t =>
    cases bs with
    | nil =>
      rw [List.append_nil]
      exact all_front base g m FV BV tv tb x t w r (by simp at hl; omega)
    | cons y s =>
      refine all_both base g m FV BV tv tb x t (y :: s) w r (by simp) (by simp at hl ⊢; omega) ?_ hJ.1
      have h1 := wt_jl (x :: t)
      have h2 := wt_jl (y :: s)
      rw [wsum_app] at hx
      omega
theorem ob_len (base g m : Nat) (l : List Int) (T : Nat → Prop) (w : World) (h : Ob base w g m l T) (hl : l.length ≤ 900) :
    Calls Tryd.prog 155 #[.pointer (some ⟨g, 0, none⟩)] w fun e w' => e = .returned (.int .i64 (l.length : Nat)) ∧ Below w.heap.size w w' := by
  obtain ⟨FV, BV, fs, bs, tv, tb, r, rfl, hy, hT⟩ := h
  refine (len_any base g m FV BV tv tb fs bs w r (by simp at hl; omega)).mono ?_
  rintro e w' ⟨rfl, n, rfl⟩
  exact ⟨by rw [List.length_append], Sh.below_drewN (Below.refl _ _) _⟩
end Go.Proofs.YtfamgaakcbinkaaDoor.Twc
