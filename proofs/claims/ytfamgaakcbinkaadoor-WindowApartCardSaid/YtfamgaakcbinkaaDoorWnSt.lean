/-
  A window with the rows that came and the answers that were told: Push and Drain; rifflelaw15.lives is true. Conditions: the table of traits holds what its text lays; the rows have the window's width, at most 64; the numbers have 64 bits.
-/
import Derived.Test.YtfamgaakcbinkaaDoorWnRef
set_option maxRecDepth 100000
namespace Go.Proofs.YtfamgaakcbinkaaDoor.Wn
open Go.Proofs.YtfamgaakcbinkaaDoor.Sh Go.Proofs.YtfamgaakcbinkaaDoor.St Go.Proofs.YtfamgaakcbinkaaDoor.Fd
open Go.RowKit
set_option linter.unusedVariables false

/-- How many rows have gone. -/
def gone (told back : Nat) : Nat := told - 1 - back
/-- The numbers that the columns hold. -/
def held (rs : List (List Int)) (k : Nat) : Nat → List Int := fun i => colL i (rs.drop k)
/-- A window of width n to which the rows rs came, and which told so many answers. -/
def Wr (n₀ : Nat) (w : World) (g : Nat) (V : Value) (c : Int) (s : Bool) (n : Nat) (X : Nat → Value) (T : Nat → Nat → Prop) (back look : Nat) (rs : List (List Int)) (told : Nat) (over : Bool) : Prop :=
  Win n₀ w g V c s (back + look + 1) n X rs.length (held rs (gone told back)) T back look rs.length told over ∧ told ≤ rs.length ∧ rs.length ≤ told + look
section
variable {n₀ g n back look told : Nat} {c : Int} {s over : Bool} {V : Value} {w w' : World} {X : Nat → Value} {T : Nat → Nat → Prop} {S : Nat → Prop} {rs : List (List Int)}
theorem Wr.turn (d : Wr n₀ w g V c s n X T back look rs told over) (t : Turn S w w') (hS : ∀ b, Tw g V n T b → ¬ S b) (nS : NF w S) (lS : ∀ b, S b → n₀ ≤ b) : Wr n₀ w' g V c s n X T back look rs told over := ⟨d.1.turn t hS nS lS, d.2⟩
theorem Wr.next (d : Wr n₀ w g V c s n X T back look rs told over) (hb : Below w.heap.size w w') : Wr n₀ w' g V c s n X T back look rs told over := ⟨d.1.next hb, d.2⟩
theorem Wr.lt (d : Wr n₀ w g V c s n X T back look rs told over) : ∀ b, Tw g V n T b → b < w.heap.size ∧ n₀ ≤ b := d.1.lt
theorem more_held (rs : List (List Int)) (r : List Int) (k : Nat) (h : k ≤ rs.length) : more (held rs k) r = held (rs ++ [r]) k := by
  funext i
  simp only [more, held]
  rw [List.drop_append_of_le_length h, colL_app]
  rfl
theorem held_len (rs : List (List Int)) (k i : Nat) : (held rs k i).length = rs.length - k := by simp [held, colL_len]
theorem moved_held (n : Nat) {told back : Nat} {rs : List (List Int)} (h : told ≤ rs.length) : Moved n told back (held rs (gone told back)) (held rs (told - back)) := by
  refine ⟨fun ht i hi => ?_, fun ht i hi => ?_⟩
  · simp only [held, gone]
    rw [show told - back = 0 by omega, show told - 1 - back = 0 by omega]
  · simp only [held, gone]
    have e : told - back = told - 1 - back + 1 := by omega
    have hlt : told - 1 - back < rs.length := by omega
    rw [e, List.drop_eq_getElem_cons hlt]
    exact ⟨_, rfl⟩
end
theorem ansL_held (c : Int) (s : Bool) (n : Nat) (rs : List (List Int)) (k : Nat) : ansL c s n (held rs k) = ansI c s n (rs.drop k) := rfl
/-- What a deed leaves. -/
def WrL (n₀ : Nat) (g : Nat) (V : Value) (c : Int) (s : Bool) (n : Nat) (X : Nat → Value) (T : Nat → Nat → Prop) (back look : Nat) (rs : List (List Int)) (told : Nat) (over : Bool) (w w' : World) : Prop :=
  ∃ T', Wr n₀ w' g V c s n X T' back look rs told over ∧ Turn (Tw g V n T) w w' ∧ ∀ b, All n T' b → All n T b ∨ w.heap.size ≤ b
/-- An answer t is told, and what that leaves. -/
def RetDr (n₀ g : Nat) (V : Value) (c : Int) (s : Bool) (n : Nat) (X : Nat → Value) (T : Nat → Nat → Prop) (back look : Nat) (rs : List (List Int)) (told : Nat) (over : Bool) (t : List Int) (f : Value → Value) (w : World) (e : Ending) (w' : World) : Prop :=
  ∃ A cap, e = .returned (f (.slice A t.length cap)) ∧ MineT 2 w' w.heap.size (.slice A t.length cap) t ∧ ∃ T', Wr n₀ w' g V c s n X T' back look rs told over ∧ Turn (Tw g V n T) w w' ∧ (∀ b, All n T' b → All n T b ∨ w.heap.size ≤ b) ∧ ∀ b, (Value.slice A t.length cap).ownBlock = some b → ¬ Tw g V n T' b
theorem push_w_wait (n₀ g : Nat) (V : Value) (c : Int) (s : Bool) (n : Nat) (X : Nat → Value) (T : Nat → Nat → Prop) (back look : Nat) (rs : List (List Int)) (told : Nat) (S : Nat → Prop) (B : Option Addr) (cap : Nat) (r : List Int) (w : World) (d : Wr n₀ w g V c s n X T back look rs told false) (hi : SInts S w B r) (hS : ∀ b, S b → b < w.heap.size ∧ ¬ Tw g V n T b) (hr : r.length = n) (hR : AllR r) (hn : n ≤ 64) (hq : rs.length ≤ 900) (hd : rs.length < told + look) :
    Calls Tryd.prog 28 #[.pointer (some ⟨g, 0, none⟩), .slice B n cap] w fun e w' => e = .returned (.tuple #[.slice none 0 0, .bool false, .int .i64 0]) ∧ WrL n₀ g V c s n X T back look (rs ++ [r]) told false w w' := by
  have e : (rs ++ [r]).length = rs.length + 1 := by simp
  have h1 := d.2.1
  have h2 := d.2.2
  refine (push_wait n₀ g V c s (back + look + 1) n X rs.length (held rs (gone told back)) T back look rs.length told S B cap r w d.1 hi hS hr hR (by omega) hn (fun i hi => by rw [held_len]; unfold gone; omega) (by omega) (by omega) (by omega)).mono ?_
  rintro e' w' ⟨rfl, T', d', t', f'⟩
  rw [more_held _ _ _ (by unfold gone; omega)] at d'
  exact ⟨rfl, T', ⟨by rw [e]; exact d', by omega, by omega⟩, t', f'⟩
theorem push_w_due (n₀ g : Nat) (V : Value) (c : Int) (s : Bool) (n : Nat) (X : Nat → Value) (T : Nat → Nat → Prop) (back look : Nat) (rs : List (List Int)) (told : Nat) (S : Nat → Prop) (B : Option Addr) (cap : Nat) (r : List Int) (w : World) (d : Wr n₀ w g V c s n X T back look rs told false) (hi : SInts S w B r) (hS : ∀ b, S b → b < w.heap.size ∧ ¬ Tw g V n T b) (hr : r.length = n) (hR : AllR r) (h2 : Sc.hasB c 2 = true) (hn : n ≤ 64) (hq : rs.length ≤ 900) (hd : rs.length = told + look) (t : List Int) (ht : ansI c s n ((rs ++ [r]).drop (told - back)) = t) :
    Calls Tryd.prog 28 #[.pointer (some ⟨g, 0, none⟩), .slice B n cap] w (RetDr n₀ g V c s n X T back look (rs ++ [r]) (told + 1) false t (fun v => .tuple #[v, .bool true, .int .i64 0]) w) := by
  have e : (rs ++ [r]).length = rs.length + 1 := by simp
  have h1 := d.2.1
  have htl : t.length = n := by rw [← ht, ansI_len]
  refine (push_due n₀ g V c s (back + look + 1) n X rs.length (held rs (gone told back)) T back look rs.length told (held rs (told - back)) S B cap r w d.1 hi hS hr hR (by omega) hn (moved_held n h1) h2 (fun i hi => by rw [held_len]; omega) (by omega) (by omega) (by omega)).mono ?_
  rintro e' w' ⟨A, c', rfl, hm, T', d', t', f', ap⟩
  rw [more_held _ _ _ (by omega)] at d' hm
  rw [ansL_held, ht] at hm
  subst htl
  exact ⟨A, c', rfl, hm, T', ⟨by rw [e]; exact d', by omega, by omega⟩, t', f', ap⟩
theorem drain_w_some (n₀ g : Nat) (V : Value) (c : Int) (s : Bool) (n : Nat) (X : Nat → Value) (T : Nat → Nat → Prop) (back look : Nat) (rs : List (List Int)) (told : Nat) (over : Bool) (w : World) (d : Wr n₀ w g V c s n X T back look rs told over) (h2 : Sc.hasB c 2 = true) (hn : n ≤ 64) (hq : rs.length ≤ 900) (hd : told < rs.length) (t : List Int) (ht : ansI c s n (rs.drop (told - back)) = t) :
    Calls Tryd.prog 32 #[.pointer (some ⟨g, 0, none⟩)] w (RetDr n₀ g V c s n X T back look rs (told + 1) true t (fun v => .tuple #[v, .bool true]) w) := by
  have h1 := d.2.1
  have h3 := d.2.2
  have htl : t.length = n := by rw [← ht, ansI_len]
  refine (drain_some n₀ g V c s (back + look + 1) n X rs.length (held rs (gone told back)) T back look rs.length told (held rs (told - back)) over w d.1 hd (moved_held n h1) h2 (fun i hi => by rw [held_len]; omega) (by omega) hn (by omega)).mono ?_
  rintro e' w' ⟨A, c', rfl, hm, T', d', t', f', ap⟩
  rw [ansL_held, ht] at hm
  subst htl
  exact ⟨A, c', rfl, hm, T', ⟨d', by omega, by omega⟩, t', f', ap⟩
theorem drain_w_none (n₀ g : Nat) (V : Value) (c : Int) (s : Bool) (n : Nat) (X : Nat → Value) (T : Nat → Nat → Prop) (back look : Nat) (rs : List (List Int)) (told : Nat) (over : Bool) (w : World) (d : Wr n₀ w g V c s n X T back look rs told over) (hd : told = rs.length) :
    Calls Tryd.prog 32 #[.pointer (some ⟨g, 0, none⟩)] w fun e w' => e = .returned (.tuple #[.slice none 0 0, .bool false]) ∧ Wr n₀ w' g V c s n X T back look rs told true ∧ Turn (fun b => b = g) w w' := by
  refine (drain_none n₀ g V c s (back + look + 1) n X rs.length (held rs (gone told back)) T back look rs.length told over w d.1 hd).mono ?_
  rintro e' w' ⟨rfl, d', t'⟩
  exact ⟨rfl, ⟨d', d.2⟩, t'⟩
theorem words_w (n₀ g : Nat) (V : Value) (c : Int) (s : Bool) (n : Nat) (X : Nat → Value) (T : Nat → Nat → Prop) (back look : Nat) (rs : List (List Int)) (told : Nat) (over : Bool) (w : World) (d : Wr n₀ w g V c s n X T back look rs told over) (hn : n ≤ 64) :
    Calls Tryd.prog 35 #[.pointer (some ⟨g, 0, none⟩)] w fun e w' => e = .returned (.int .i64 (totN c n (rs.drop (gone told back)) : Nat)) ∧ Below w.heap.size w w' :=
  words_any n₀ g V c s (back + look + 1) n X rs.length (held rs (gone told back)) T back look rs.length told over w d.1 hn
theorem new_w {n₀ g : Nat} {V : Value} {c : Int} {s : Bool} {n : Nat} {X : Nat → Value} {T : Nat → Nat → Prop} {back look : Nat} {w : World} (d : Win n₀ w g V c s (back + look + 1) n X 0 (fun _ => []) T back look 0 0 false) : Wr n₀ w g V c s n X T back look [] 0 false :=
  ⟨⟨d.1, d.2.1, d.2.2.1.congr (fun _ _ => rfl) (fun i _ => by simp [held, colL]), d.2.2.2⟩, Nat.le_refl _, Nat.zero_le _⟩
/-- Numbers that stand in a new block. -/
theorem lit_seq (w : World) (xs : List Int) (hl : xs.length ≤ maxLen) : SInts (fun b => b = w.heap.size) (w.alloc (.cells (cellsI xs) 2)) (some ⟨w.heap.size, 0, none⟩) xs :=
  Ints.sints (MineT.new 2 w xs 0 (Nat.zero_le _) hl).ints' fun b off e _ => by injection e with e; injection e with e1 _; exact e1.symm
theorem wr_below {w0 w w' : World} {n₀ g : Nat} {V : Value} {c : Int} {s : Bool} {n : Nat} {X : Nat → Value} {T : Nat → Nat → Prop} {back look : Nat} {rs : List (List Int)} {told : Nat} {over : Bool} (hb : Below w0.heap.size w0 w) (he : w0.heap.size ≤ n₀) (d : Wr n₀ w g V c s n X T back look rs told over) (t : Turn (Tw g V n T) w w') : Below w0.heap.size w0 w' :=
  hb.trans (t.below hb.size fun i hi => Nat.le_trans he (d.lt i hi).2)
theorem nums_same (A : Option Addr) (c : Nat) (a : List Int) (B : Option Addr) (d : Nat) (w : World) (hl : a.length ≤ maxLen) (ha : Ints w A a) (hb : Ints w B a) :
    Calls Tryd.prog 29 #[.slice A a.length c, .slice B a.length d] w fun e w' => e = .returned (.bool true) ∧ Below w.heap.size w w' :=
  (nums_any A c a B d a w hl hl ha hb).mono fun e w' ⟨h1, n, h2⟩ => ⟨by simpa using h1, by rw [h2]; exact Sh.below_drewN (Below.refl _ _) n⟩
theorem allR_lit {l : List Int} (h : ∀ x ∈ l, 0 ≤ x ∧ x < 100) : AllR l := fun x hx => by have := h x hx; unfold Sc.InR; omega
theorem live_ans : ansI 1 false 1 (([[1]] ++ [[2]] : List (List Int)).drop (0 - 1)) = [3] ∧ ansI 1 false 1 (([[1]] ++ [[2]] ++ [[4]] : List (List Int)).drop (1 - 1)) = [7] ∧ ansI 1 false 1 (([[1]] ++ [[2]] ++ [[4]] : List (List Int)).drop (2 - 1)) = [6] := by
  have d : ∀ a b : Int, Sc.doI 1 false a b = wrap64 (a + b) := fun a b => rfl
  have hh : Sc.hasB 1 2 = true := by decide
  have f2 : rowV 1 false [1, 2] = 3 := by
    rw [rowV_fold hh (by simp)]
    show wrap64 (1 + 2) = 3
    rw [Sc.wrap_def]; decide
  have f3 : rowV 1 false [1, 2, 4] = 7 := by
    rw [rowV_fold hh (by simp)]
    show wrap64 (1 + wrap64 (2 + 4)) = 7
    rw [Sc.wrap_def, Sc.wrap_def]; decide
  have f4 : rowV 1 false [2, 4] = 6 := by
    rw [rowV_fold hh (by simp)]
    show wrap64 (2 + 4) = 6
    rw [Sc.wrap_def]; decide
  exact ⟨by show [rowV 1 false [1, 2]] = [3]; rw [f2], by show [rowV 1 false [1, 2, 4]] = [7]; rw [f3], by show [rowV 1 false [2, 4]] = [6]; rw [f4]⟩
end Go.Proofs.YtfamgaakcbinkaaDoor.Wn
