/-
  What the five methods of a window's column answer, whichever its way: what its numbers come to is what they are folded to. Conditions: as told in each.
-/
import Derived.Test.YtfamgaakcbinkaaDoorWnCol
namespace Go.Proofs.YtfamgaakcbinkaaDoor.Wn
open Go.Proofs.YtfamgaakcbinkaaDoor.Sh Go.Proofs.YtfamgaakcbinkaaDoor.St
open Go.RowKit
set_option linter.unusedVariables false

theorem way3 {c : Int} (h : wayN c = 3) : c = 7 ∨ c = 8 := by
  by_cases h7 : c = 7
  · exact .inl h7
  · by_cases h8 : c = 8
    · exact .inr h8
    · unfold wayN at h
      rw [Sc.picks_not h7 h8] at h
      simp at h
      split at h <;> omega
theorem fold_good (c : Int) (s : Bool) (hc : c = 7 ∨ c = 8) : ∀ l : List Int, 0 < l.length → Fd.foldI c s l ∈ l ∧ ∀ z ∈ l, Dq.goodB (decide (c = 8)) (Fd.foldI c s l) z
  | [], h => by simp at h
  | [x], _ => ⟨by simp [Fd.foldI], fun z hz => by
      simp at hz
      subst hz
      show Dq.goodB _ z z
      unfold Dq.goodB
      split <;> exact Int.le_refl _⟩
  | x :: y :: l, _ => by
    obtain ⟨i1, i2⟩ := fold_good c s hc (y :: l) (by simp)
    rw [Fd.foldI_cons c s x (by simp)]
    generalize Fd.foldI c s (y :: l) = F at *
    have key : (Sc.doI c s x F = x ∨ Sc.doI c s x F = F) ∧ Dq.goodB (decide (c = 8)) (Sc.doI c s x F) x ∧ Dq.goodB (decide (c = 8)) (Sc.doI c s x F) F := by
      rcases hc with rfl | rfl
      · have e1 : Sc.doI 7 s x F = max x F := by
          unfold Sc.doI
          split
          · rw [Sc.twoI_7]; omega
          · rw [Sc.twoI_7]
        rw [e1]
        simp only [Dq.goodB, show decide ((7 : Int) = 8) = false from rfl, Bool.false_eq_true, if_false]
        omega
      · have e1 : Sc.doI 8 s x F = min x F := by
          unfold Sc.doI
          split
          · rw [Sc.twoI_8]; omega
          · rw [Sc.twoI_8]
        have g8 : ∀ v z : Int, Dq.goodB (decide ((8 : Int) = 8)) v z = (v ≤ z) := fun _ _ => rfl
        rw [e1, g8, g8]
        omega
    obtain ⟨k1, k2, k3⟩ := key
    refine ⟨?_, fun z hz => ?_⟩
    · rcases k1 with k | k
      · rw [k]; simp
      · rw [k]; exact List.mem_cons_of_mem _ i1
    · rcases List.mem_cons.1 hz with rfl | hz
      · exact k2
      · have := i2 z hz
        generalize Sc.doI c s x F = G at *
        unfold Dq.goodB at *
        split at this <;> simp_all <;> omega
theorem best_fold {c : Int} (s : Bool) (hc : c = 7 ∨ c = 8) (l : List Int) : Dq.bestI (decide (c = 8)) l = Fd.foldI c s l := by
  rcases Nat.eq_zero_or_pos l.length with h | h
  · rw [List.eq_nil_of_length_eq_zero h]; rfl
  · obtain ⟨a1, a2⟩ := Dq.best_good (ls := decide (c = 8)) h
    obtain ⟨b1, b2⟩ := fold_good c s hc l h
    exact Dq.good_one (a2 _ b1) (b2 _ a1)
theorem jl_fold [J : Twc.Jc] : ∀ l : List Int, Twc.jl l = Fd.foldI J.c J.s l
  | [] => rfl
  | [x] => rfl
  | x :: y :: l => by
    rw [Twc.jl_cons x (by simp), Fd.foldI_cons _ _ x (by simp), jl_fold (y :: l)]
    rfl
/-- What numbers come to, of which there is one at least. -/
theorem rowV_fold {c : Int} {s : Bool} {l : List Int} (h2 : Sc.hasB c 2 = true) (h : 0 < l.length) : Fd.rowV c s l = Fd.foldI c s l := by
  unfold Fd.rowV Fd.rowI
  rw [if_pos h2, if_neg (by omega)]
theorem tab_turn {n₀ : Nat} {w w' : World} {S : Nat → Prop} (h0 : 0 < n₀) (hT : Sc.Tab w) (t : Turn S w w') (lS : ∀ b, S b → n₀ ≤ b) : Sc.Tab w' := fun k hk j hj => by
  rw [← hT k hk j hj]
  have hv : ∃ v, w.cell? ⟨0, 6 * k + j, none⟩ = some v := by
    rw [hT k hk j hj]
    match j, hj with
    | 0, _ => exact ⟨_, rfl⟩
    | 1, _ => exact ⟨_, rfl⟩
    | 2, _ => exact ⟨_, rfl⟩
    | 3, _ => exact ⟨_, rfl⟩
    | 4, _ => exact ⟨_, rfl⟩
    | 5, _ => exact ⟨_, rfl⟩
  obtain ⟨v, hv⟩ := hv
  rw [hv]
  exact t.cell (p := ⟨0, 6 * k + j, none⟩) (fun e => by have := lS _ e; simp only at this; omega) hv
theorem ColLeft.mono {n₀ m q : Nat} {c : Int} {s : Bool} {x : Value} {l : List Int} {T T' : Nat → Prop} {w w' : World} (h : ColLeft n₀ c s m q x l T w w') (hT : ∀ b, T b → T' b) : ColLeft n₀ c s m q x l T' w w' := by
  obtain ⟨T1, h1, h2, h3⟩ := h
  exact ⟨T1, h1, h2.mono hT, fun b k => (h3 b k).imp (hT b) id⟩
/-- What joins stays fit to be called. -/
theorem jb_turn [J : Twc.Jc] {n₀ base : Nat} {w w' : World} {S : Nat → Prop} {c : Int} {s : Bool} (jb : Twc.JB base w) (tab : Sc.Tab w') (fb : Bk 23 w J.g [.int .i64 c, .bool s]) (t : Turn S w w') (nJ : ¬ S J.g) : Twc.JB base w' ∧ Bk 23 w' J.g [.int .i64 c, .bool s] :=
  ⟨⟨⟨tab, t.cell (p := ⟨J.g, 0, none⟩) nJ jb.1.2.1, t.cell (p := ⟨J.g, 1, none⟩) nJ jb.1.2.2⟩, jb.2.1, jb.2.2.1, Nat.le_trans jb.2.2.2 t.size⟩, fb.turn t nJ⟩
theorem col_drop (n₀ : Nat) (c : Int) (s : Bool) (m q : Nat) (x : Value) (v : Int) (l : List Int) (T : Nat → Prop) (w : World) (h : Col n₀ c s m q w x (v :: l) T) (hq : q ≤ 999) :
    Calls Tryd.prog (m_drop (wayN c)) #[x] w fun e w' => e = .returned (.tuple #[]) ∧ ColLeft n₀ c s m q x l T w w' := by
  obtain ⟨T0, h, nf, hb⟩ := h.own
  have HT : ∀ b, T0 b → n₀ ≤ b := fun b k => (hb b k).2.2
  have HM : ∀ b, T0 b → T b := fun b k => (hb b k).1
  obtain ⟨h0, hT, hR, hm, h64, h⟩ := h
  have hR' : Fd.AllR l := fun z hz => hR z (List.mem_cons_of_mem _ hz)
  have hm' : l.length + 1 ≤ m := hm
  rcases h with ⟨hy, g, V, rfl, d, k⟩ | ⟨hy, J, g, base, ec, es, hbb, rfl, o, jb, fb⟩ | ⟨hy, g, V, f, rfl, d, hqf, k⟩
  · rw [hy]
    refine (drop_past n₀ g c s V v l w d (by omega)).mono ?_
    rintro e w' ⟨V', rfl, d', t, fr⟩
    refine ⟨rfl, ColLeft.mono ⟨Pt g V', ⟨h0, tab_turn h0 hT t fun b kb => (d.lt b kb).2, hR', by omega, h64, .inl ⟨hy, g, V', rfl, d', fun _ k => k⟩⟩, t, fun b kb => ?_⟩ fun b kb => HM b (k b kb)⟩
    rcases kb with rfl | kb
    · exact .inl (.inl rfl)
    · exact (fr b kb).imp .inr id
  · rw [hy]
    refine (drop_joined base g m l T0 v w o jb (by omega) hR).mono ?_
    rintro e w' ⟨rfl, T', o', t, fr⟩
    have tab := tab_turn h0 hT t HT
    obtain ⟨jb', fb'⟩ := jb_turn (n₀ := n₀) jb tab fb t fun e => nf _ e _ fb
    exact ⟨rfl, ColLeft.mono ⟨T', ⟨h0, tab, hR', by omega, h64, .inr (.inl ⟨hy, J, g, base, ec, es, hbb, rfl, o', jb', fb'⟩)⟩, t, fr⟩ HM⟩
  · rw [hy]
    have hl : f + l.length ≤ 999 := by simp at hqf; omega
    refine (drop_picked n₀ g V (decide (c = 8)) m f v l w d hl).mono ?_
    rintro e w' ⟨V', rfl, d', t, fr⟩
    refine ⟨rfl, ColLeft.mono ⟨Dq.Tq g V', ⟨h0, tab_turn h0 hT t fun b kb => (d.lt b kb).2, hR', by omega, h64, .inr (.inr ⟨hy, g, V', f + 1, rfl, d', by simp at hqf; omega, fun _ k => k⟩)⟩, t, fun b kb => ?_⟩ fun b kb => HM b (k b kb)⟩
    rcases kb with rfl | kb
    · exact .inl (.inl rfl)
    · exact (fr b kb).imp .inr id
theorem col_push (n₀ : Nat) (c : Int) (s : Bool) (m q : Nat) (x : Value) (v : Int) (l : List Int) (T : Nat → Prop) (w : World) (h : Col n₀ c s m q w x l T) (hv : Sc.InR v) (hl : l.length < m) (hq : q ≤ 999) :
    Calls Tryd.prog (m_push (wayN c)) #[x, .int .i64 v] w fun e w' => e = .returned (.tuple #[]) ∧ ColLeft n₀ c s m (q + 1) x (l ++ [v]) T w w' := by
  obtain ⟨T0, h, nf, hb⟩ := h.own
  have HT : ∀ b, T0 b → n₀ ≤ b := fun b k => (hb b k).2.2
  have HM : ∀ b, T0 b → T b := fun b k => (hb b k).1
  obtain ⟨h0, hT, hR, hm, h64, h⟩ := h
  have hR' : Fd.AllR (l ++ [v]) := fun z hz => by
    rcases List.mem_append.1 hz with hz | hz
    · exact hR z hz
    · simp at hz; subst hz; exact hv
  have hm' : (l ++ [v]).length ≤ m := by simp; omega
  rcases h with ⟨hy, g, V, rfl, d, k⟩ | ⟨hy, J, g, base, ec, es, hbb, rfl, o, jb, fb⟩ | ⟨hy, g, V, f, rfl, d, hqf, k⟩
  · rw [hy]
    refine (push_past n₀ g c s V l v w d (by omega)).mono ?_
    rintro e w' ⟨V', rfl, d', t, fr⟩
    refine ⟨rfl, ColLeft.mono ⟨Pt g V', ⟨h0, tab_turn h0 hT t fun b kb => (d.lt b kb).2, hR', hm', h64, .inl ⟨hy, g, V', rfl, d', fun _ k => k⟩⟩, t, fun b kb => ?_⟩ fun b kb => HM b (k b kb)⟩
    rcases kb with rfl | kb
    · exact .inl (.inl rfl)
    · exact (fr b kb).imp .inr id
  · rw [hy]
    refine (push_joined base g m l T0 v w o jb hl h64 hR').mono ?_
    rintro e w' ⟨rfl, T', o', t, fr⟩
    have tab := tab_turn h0 hT t HT
    obtain ⟨jb', fb'⟩ := jb_turn (n₀ := n₀) jb tab fb t fun e => nf _ e _ fb
    exact ⟨rfl, ColLeft.mono ⟨T', ⟨h0, tab, hR', hm', h64, .inr (.inl ⟨hy, J, g, base, ec, es, hbb, rfl, o', jb', fb'⟩)⟩, t, fr⟩ HM⟩
  · rw [hy]
    refine (push_picked n₀ g V (decide (c = 8)) m f l v w d (by omega) hl).mono ?_
    rintro e w' ⟨V', rfl, d', t, fr⟩
    refine ⟨rfl, ColLeft.mono ⟨Dq.Tq g V', ⟨h0, tab_turn h0 hT t fun b kb => (d.lt b kb).2, hR', hm', h64, .inr (.inr ⟨hy, g, V', f, rfl, d', by simp; omega, fun _ k => k⟩)⟩, t, fun b kb => ?_⟩ fun b kb => HM b (k b kb)⟩
    rcases kb with rfl | kb
    · exact .inl (.inl rfl)
    · exact (fr b kb).imp .inr id
theorem col_all (n₀ : Nat) (c : Int) (s : Bool) (m q : Nat) (x : Value) (l : List Int) (T : Nat → Prop) (w : World) (h : Col n₀ c s m q w x l T) (h2 : Sc.hasB c 2 = true) (hl : 0 < l.length) (hq : q ≤ 999) :
    Calls Tryd.prog (m_all (wayN c)) #[x] w fun e w' => e = .returned (.int .i64 (Fd.rowV c s l)) ∧ Below w.heap.size w w' := by
  obtain ⟨h0, hT, hR, hm, h64, h⟩ := h
  rcases h with ⟨hy, g, V, rfl, d, k⟩ | ⟨hy, J, g, base, ec, es, hbb, rfl, o, jb, fb⟩ | ⟨hy, g, V, f, rfl, d, hqf, k⟩
  · rw [hy]
    exact all_past n₀ g c s V l w hT hR d (by omega)
  · rw [hy, rowV_fold h2 hl, ← ec, ← es, ← jl_fold l]
    exact all_joined base g m l T w o jb (by omega) hR
  · rw [hy, rowV_fold h2 hl, ← best_fold s (way3 hy) l]
    exact all_picked n₀ g V (decide (c = 8)) m f l w d (by omega)
/-- How many words a column holds. -/
def wordsN (c : Int) (l : List Int) : Nat := if wayN c = 1 then l.length else if wayN c = 2 then 2 * l.length else 2 * (Dq.keptV (decide (c = 8)) l).length
theorem col_words (n₀ : Nat) (c : Int) (s : Bool) (m q : Nat) (x : Value) (l : List Int) (T : Nat → Prop) (w : World) (h : Col n₀ c s m q w x l T) :
    Calls Tryd.prog (m_words (wayN c)) #[x] w fun e w' => e = .returned (.int .i64 (wordsN c l : Nat)) ∧ Below w.heap.size w w' := by
  obtain ⟨h0, hT, hR, hm, h64, h⟩ := h
  unfold wordsN
  rcases h with ⟨hy, g, V, rfl, d, k⟩ | ⟨hy, J, g, base, ec, es, hbb, rfl, o, jb, fb⟩ | ⟨hy, g, V, f, rfl, d, hqf, k⟩
  · rw [hy]
    refine (words_past n₀ g c s V l w d (by omega)).mono ?_
    rintro e w' ⟨rfl, rfl⟩
    exact ⟨rfl, Below.refl _ _⟩
  · rw [hy]
    exact words_joined base g m l T w o (by omega)
  · rw [hy]
    exact words_picked n₀ g V (decide (c = 8)) m f l w d (by omega)
end Go.Proofs.YtfamgaakcbinkaaDoor.Wn
