/-
  A window's column as a value, whichever its way: what its five methods answer, called through the interface. Conditions: the table of traits holds what its text lays, the numbers are int64, no more than 1000 in all.
-/
import Derived.Test.YtfamgaakcbinkaaDoorWnPick
import Derived.Handy
namespace Go.Proofs.YtfamgaakcbinkaaDoor.Wn
open Go.Proofs.YtfamgaakcbinkaaDoor.Sh Go.Proofs.YtfamgaakcbinkaaDoor.St
open Go.RowKit
set_option linter.unusedVariables false

/-- The way of a function. -/
def wayN (c : Int) : Nat := if (Sc.trOf c).picks = true then 3 else if (Sc.trOf c).joins = true then 2 else 1
def colT (y : Nat) : TypeId := if y = 3 then 135 else if y = 2 then 140 else 141
def m_push (y : Nat) : FuncId := if y = 3 then 131 else if y = 2 then 149 else 164
theorem at_push (y : Nat) (x : Value) (W : World) : (method 297 (colT y) x "riffle/window.push").run Tryd.prog W = .ok (m_push y, x) W := by
  unfold colT m_push
  by_cases h3 : y = 3
  · simp only [if_pos h3]; kernel_rfl
  · by_cases h2 : y = 2
    · simp only [if_neg h3, if_pos h2]; kernel_rfl
    · simp only [if_neg h3, if_neg h2]; kernel_rfl
theorem in_push (y : Nat) (x v : Value) (W : World) : (callFunc (m_push y) #[x, v]).run Tryd.prog W = .ok (.enter (m_push y) #[x, v]) W := by
  unfold m_push
  by_cases h3 : y = 3
  · simp only [if_pos h3]; kernel_rfl
  · by_cases h2 : y = 2
    · simp only [if_neg h3, if_pos h2]; kernel_rfl
    · simp only [if_neg h3, if_neg h2]; kernel_rfl
def m_drop (y : Nat) : FuncId := if y = 3 then 130 else if y = 2 then 148 else 163
theorem at_drop (y : Nat) (x : Value) (W : World) : (method 297 (colT y) x "riffle/window.drop").run Tryd.prog W = .ok (m_drop y, x) W := by
  unfold colT m_drop
  by_cases h3 : y = 3
  · simp only [if_pos h3]; kernel_rfl
  · by_cases h2 : y = 2
    · simp only [if_neg h3, if_pos h2]; kernel_rfl
    · simp only [if_neg h3, if_neg h2]; kernel_rfl
theorem in_drop (y : Nat) (x : Value) (W : World) : (callFunc (m_drop y) #[x]).run Tryd.prog W = .ok (.enter (m_drop y) #[x]) W := by
  unfold m_drop
  by_cases h3 : y = 3
  · simp only [if_pos h3]; kernel_rfl
  · by_cases h2 : y = 2
    · simp only [if_neg h3, if_pos h2]; kernel_rfl
    · simp only [if_neg h3, if_neg h2]; kernel_rfl
def m_all (y : Nat) : FuncId := if y = 3 then 128 else if y = 2 then 146 else 161
theorem at_all (y : Nat) (x : Value) (W : World) : (method 297 (colT y) x "riffle/window.all").run Tryd.prog W = .ok (m_all y, x) W := by
  unfold colT m_all
  by_cases h3 : y = 3
  · simp only [if_pos h3]; kernel_rfl
  · by_cases h2 : y = 2
    · simp only [if_neg h3, if_pos h2]; kernel_rfl
    · simp only [if_neg h3, if_neg h2]; kernel_rfl
theorem in_all (y : Nat) (x : Value) (W : World) : (callFunc (m_all y) #[x]).run Tryd.prog W = .ok (.enter (m_all y) #[x]) W := by
  unfold m_all
  by_cases h3 : y = 3
  · simp only [if_pos h3]; kernel_rfl
  · by_cases h2 : y = 2
    · simp only [if_neg h3, if_pos h2]; kernel_rfl
    · simp only [if_neg h3, if_neg h2]; kernel_rfl
def m_words (y : Nat) : FuncId := if y = 3 then 132 else if y = 2 then 150 else 165
theorem at_words (y : Nat) (x : Value) (W : World) : (method 297 (colT y) x "riffle/window.words").run Tryd.prog W = .ok (m_words y, x) W := by
  unfold colT m_words
  by_cases h3 : y = 3
  · simp only [if_pos h3]; kernel_rfl
  · by_cases h2 : y = 2
    · simp only [if_neg h3, if_pos h2]; kernel_rfl
    · simp only [if_neg h3, if_neg h2]; kernel_rfl
theorem in_words (y : Nat) (x : Value) (W : World) : (callFunc (m_words y) #[x]).run Tryd.prog W = .ok (.enter (m_words y) #[x]) W := by
  unfold m_words
  by_cases h3 : y = 3
  · simp only [if_pos h3]; kernel_rfl
  · by_cases h2 : y = 2
    · simp only [if_neg h3, if_pos h2]; kernel_rfl
    · simp only [if_neg h3, if_neg h2]; kernel_rfl
def m_clone (y : Nat) : FuncId := if y = 3 then 129 else if y = 2 then 147 else 162
theorem at_clone (y : Nat) (x : Value) (W : World) : (method 297 (colT y) x "riffle/window.clone").run Tryd.prog W = .ok (m_clone y, x) W := by
  unfold colT m_clone
  by_cases h3 : y = 3
  · simp only [if_pos h3]; kernel_rfl
  · by_cases h2 : y = 2
    · simp only [if_neg h3, if_pos h2]; kernel_rfl
    · simp only [if_neg h3, if_neg h2]; kernel_rfl
theorem in_clone (y : Nat) (x : Value) (W : World) : (callFunc (m_clone y) #[x]).run Tryd.prog W = .ok (.enter (m_clone y) #[x]) W := by
  unfold m_clone
  by_cases h3 : y = 3
  · simp only [if_pos h3]; kernel_rfl
  · by_cases h2 : y = 2
    · simp only [if_neg h3, if_pos h2]; kernel_rfl
    · simp only [if_neg h3, if_neg h2]; kernel_rfl
/-- What a column's numbers come to. -/
def allI (c : Int) (s : Bool) (l : List Int) : Int := Fd.rowV c s l
/-- No box of a function is among the blocks. -/
def NF (w : World) (T : Nat → Prop) : Prop := ∀ b, T b → ∀ cs, ¬ Bk 23 w b cs
/-- The payload x of a column of function c, s, room m, to which q numbers came in all, holds the numbers l; what it may write is T; n₀ lies below all of that. -/
def Col (n₀ : Nat) (c : Int) (s : Bool) (m q : Nat) (w : World) (x : Value) (l : List Int) (T : Nat → Prop) : Prop :=
  0 < n₀ ∧ Sc.Tab w ∧ Fd.AllR l ∧ l.length ≤ m ∧ m ≤ 64 ∧
  ((wayN c = 1 ∧ ∃ g V, x = .pointer (some ⟨g, 0, none⟩) ∧ Past n₀ w g c s V l ∧ ∀ b, Pt g V b → T b) ∨
   (wayN c = 2 ∧ ∃ (J : Twc.Jc) (g base : Nat), J.c = c ∧ J.s = s ∧ n₀ ≤ base ∧ x = .agg #[.pointer (some ⟨g, 0, none⟩)] ∧ Twc.Ob base w g m l T ∧ Twc.JB base w ∧ Bk 23 w J.g [.int .i64 c, .bool s]) ∨
   (wayN c = 3 ∧ ∃ g V f, x = .agg #[.pointer (some ⟨g, 0, none⟩)] ∧ Dq.Deq n₀ w g V (decide (c = 8)) m f l ∧ f + l.length = q ∧ ∀ b, Dq.Tq g V b → T b))
section
variable {n₀ m q : Nat} {c : Int} {s : Bool} {w w' : World} {x : Value} {l : List Int} {T : Nat → Prop}
theorem Col.own (h : Col n₀ c s m q w x l T) : ∃ T0, Col n₀ c s m q w x l T0 ∧ NF w T0 ∧ ∀ b, T0 b → T b ∧ b < w.heap.size ∧ n₀ ≤ b := by
  obtain ⟨h0, hT, hR, hm, h64, ⟨hy, g, V, rfl, d, k⟩ | ⟨hy, J, g, base, ec, es, hb, rfl, o, jb, fb⟩ | ⟨hy, g, V, f, rfl, d, hq, k⟩⟩ := h
  · refine ⟨Pt g V, ⟨h0, hT, hR, hm, h64, .inl ⟨hy, g, V, rfl, d, fun _ k => k⟩⟩, fun b hb cs hk => ?_, fun b hb => ⟨k b hb, d.lt b hb⟩⟩
    rcases hb with rfl | hb
    · exact Bk.ne_ d.1 hk (by decide) rfl
    · exact own_bk_ne (t := 23) d.2.1 hk (by decide) hb.symm
  · obtain ⟨FV, BV, fs, bs, tv, tb, r, e, hyv, hT'⟩ := o
    refine ⟨Twc.Tt g FV BV, ⟨h0, hT, hR, hm, h64, .inr (.inl ⟨hy, J, g, base, ec, es, hb, rfl, ⟨FV, BV, fs, bs, tv, tb, r, e, hyv, fun _ k => k⟩, jb, fb⟩)⟩, fun b hb cs hk => ?_, fun b hb' => ⟨hT' b hb', (r.lt b hb').1, Nat.le_trans hb (r.lt b hb').2⟩⟩
    rcases hb with rfl | hb | hb
    · exact Bk.ne_ r.1 hk (by decide) rfl
    · exact own_bk_ne (t := 23) r.2.1 hk (by decide) hb.symm
    · exact own_bk_ne (t := 23) r.2.2.1 hk (by decide) hb.symm
  · refine ⟨Dq.Tq g V, ⟨h0, hT, hR, hm, h64, .inr (.inr ⟨hy, g, V, f, rfl, d, hq, fun _ k => k⟩)⟩, fun b hb cs hk => ?_, fun b hb => ⟨k b hb, d.lt b hb⟩⟩
    rcases hb with rfl | hb
    · exact Bk.ne_ d.1 hk (by decide) rfl
    · exact own_bk_ne (t := 23) d.2.1 hk (by decide) hb.symm
theorem Col.turn {S : Nat → Prop} (h : Col n₀ c s m q w x l T) (t : Turn S w w') (hS : ∀ b, T b → ¬ S b) (nS : NF w S) (lS : ∀ b, S b → n₀ ≤ b) : Col n₀ c s m q w' x l T := by
  obtain ⟨h0, hT, hR, hm, h64, h⟩ := h
  have tab : Sc.Tab w' := fun k hk j hj => by
    rw [← hT k hk j hj]
    have hv : ∃ v, w.cell? ⟨0, 6 * k + j, none⟩ = some v := by
      rw [hT k hk j hj]
      match j, hj with
      | 0, _ => exact ⟨_, rfl⟩
      | 1, _ => exact ⟨_, rfl⟩
      | 2, _ => exact ⟨_, rfl⟩
      | 3, _ => exact ⟨_, rfl⟩
      | 4, _ => exact ⟨_, rfl⟩
      | 5, _ => exact ⟨_, rfl⟩
    obtain ⟨v, hv⟩ := hv
    rw [hv]
    exact t.cell (p := ⟨0, 6 * k + j, none⟩) (fun e => by have := lS _ e; simp only at this; omega) hv
  refine ⟨h0, tab, hR, hm, h64, ?_⟩
  rcases h with ⟨hy, g, V, rfl, d, k⟩ | ⟨hy, J, g, base, ec, es, hb, rfl, o, jb, fb⟩ | ⟨hy, g, V, f, rfl, d, hq, k⟩
  · exact .inl ⟨hy, g, V, rfl, d.turn t fun b hb => hS b (k b hb), k⟩
  · have nJ : ¬ S J.g := fun e => nS _ e _ fb
    refine .inr (.inl ⟨hy, J, g, base, ec, es, hb, rfl, o.turn t hS, ⟨⟨tab, ?_, ?_⟩, jb.2.1, jb.2.2.1, Nat.le_trans jb.2.2.2 t.size⟩, fb.turn t nJ⟩)
    · exact t.cell (p := ⟨J.g, 0, none⟩) nJ jb.1.2.1
    · exact t.cell (p := ⟨J.g, 1, none⟩) nJ jb.1.2.2
  · exact .inr (.inr ⟨hy, g, V, f, rfl, d.turn t fun b hb => hS b (k b hb), hq, k⟩)
theorem Col.next (h : Col n₀ c s m q w x l T) (hb : Below w.heap.size w w') : Col n₀ c s m q w' x l T := h.turn (Turn.of_below (fun _ => False) hb) (fun _ _ k => k) (fun _ k => k.elim) fun _ k => k.elim
end
/-- What a deed on a column leaves. -/
def ColLeft (n₀ : Nat) (c : Int) (s : Bool) (m q : Nat) (x : Value) (l : List Int) (T : Nat → Prop) (w w' : World) : Prop :=
  ∃ T', Col n₀ c s m q w' x l T' ∧ Turn T w w' ∧ ∀ b, T' b → T b ∨ w.heap.size ≤ b
end Go.Proofs.YtfamgaakcbinkaaDoor.Wn
