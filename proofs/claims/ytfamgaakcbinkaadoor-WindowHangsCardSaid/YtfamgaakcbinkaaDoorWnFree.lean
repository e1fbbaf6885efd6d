/-
  A window beside whatever lies in blocks of a set B: its deeds leave these. Conditions: the table of traits holds what its text lays; the rows have the window's width, at most 64.
-/
import Derived.Test.YtfamgaakcbinkaaDoorWnKeep
set_option maxRecDepth 100000
namespace Go.Proofs.YtfamgaakcbinkaaDoor.Wn
open Go.Proofs.YtfamgaakcbinkaaDoor.Sh Go.Proofs.YtfamgaakcbinkaaDoor.St Go.Proofs.YtfamgaakcbinkaaDoor.Fd
open Go.RowKit
set_option linter.unusedVariables false

/-- A window to which the rows rs came, which has no block of B. -/
def Kf (w1 w : World) (n₀ g : Nat) (V : Value) (c : Int) (s : Bool) (n : Nat) (Y : Nat → Value) (back look : Nat) (rs : List (List Int)) (told : Nat) (over : Bool) (B : Nat → Prop) : Prop :=
  ∃ T, Wr n₀ w g V c s n Y T back look rs told over ∧ (∀ b, B b → b < w.heap.size ∧ ¬ Tw g V n T b) ∧ Below n₀ w1 w
/-- What a deed on the window may turn. -/
def Fr (n₀ : Nat) (B : Nat → Prop) (b : Nat) : Prop := n₀ ≤ b ∧ ¬ B b
section
variable {n₀ g n back look told : Nat} {c : Int} {s over : Bool} {V : Value} {w0 w1 w w' : World} {Y : Nat → Value} {S B B' : Nat → Prop} {rs : List (List Int)} {r : List Int}
theorem Kf.b (k : Kf w1 w n₀ g V c s n Y back look rs told over B) : Below n₀ w1 w := by obtain ⟨T, d, a, h⟩ := k; exact h
theorem Kf.tolds (k : Kf w1 w n₀ g V c s n Y back look rs told over B) : told ≤ rs.length ∧ rs.length ≤ told + look := by obtain ⟨T, d, a, h⟩ := k; exact d.2
theorem Kf.size (k : Kf w1 w n₀ g V c s n Y back look rs told over B) : n₀ ≤ w.heap.size := by obtain ⟨T, d, a, h⟩ := k; have := d.lt g (.inl rfl); omega
theorem Kf.of {T : Nat → Nat → Prop} (d : Win n₀ w g V c s (back + look + 1) n Y 0 (fun _ => []) T back look 0 0 false) (hb : Below n₀ w1 w) (hB : ∀ b, B b → b < w.heap.size ∧ ¬ Tw g V n T b) : Kf w1 w n₀ g V c s n Y back look [] 0 false B := ⟨T, new_w d, hB, hb⟩
theorem Kf.next (k : Kf w1 w n₀ g V c s n Y back look rs told over B) (hb : Below w.heap.size w w') : Kf w1 w' n₀ g V c s n Y back look rs told over B := by
  have hz := k.size
  obtain ⟨T, d, a, h⟩ := k
  exact ⟨T, d.next hb, fun b hB => ⟨Nat.lt_of_lt_of_le (a b hB).1 hb.size, (a b hB).2⟩, h.trans (hb.mono hz)⟩
/-- Blocks of B alone have turned, and B' has new ones besides. -/
theorem Kf.turn (k : Kf w1 w n₀ g V c s n Y back look rs told over B) (t : Turn S w w') (hS : ∀ b, S b → B b) (nS : NF w S) (lS : ∀ b, S b → n₀ ≤ b) (hB : ∀ b, B' b → B b ∨ (w.heap.size ≤ b ∧ b < w'.heap.size)) : Kf w1 w' n₀ g V c s n Y back look rs told over B' := by
  have hz := k.size
  obtain ⟨T, d, a, h⟩ := k
  refine ⟨T, d.turn t (fun b hb h => (a b (hS b h)).2 hb) nS lS, fun b hb => ?_, h.trans (t.below hz lS)⟩
  rcases hB b hb with h | h
  · exact ⟨Nat.lt_of_lt_of_le (a b h).1 t.size, (a b h).2⟩
  · exact ⟨h.2, fun ht => by have := (d.lt b ht).1; omega⟩
/-- New blocks are taken into B. -/
theorem Kf.more (k : Kf w1 w0 n₀ g V c s n Y back look rs told over B) (hb : Below w0.heap.size w0 w) (hB : ∀ b, B' b → B b ∨ (w0.heap.size ≤ b ∧ b < w.heap.size)) : Kf w1 w n₀ g V c s n Y back look rs told over B' :=
  k.turn (Turn.of_below (fun _ => False) hb) (fun _ h => h.elim) (fun _ h => h.elim) (fun _ h => h.elim) hB
theorem kf_deed {T T' : Nat → Nat → Prop} {rs' : List (List Int)} {told' : Nat} {over' : Bool} (d : Wr n₀ w g V c s n Y T back look rs told over) (a : ∀ b, B b → b < w.heap.size ∧ ¬ Tw g V n T b) (h : Below n₀ w1 w)
    (d' : Wr n₀ w' g V c s n Y T' back look rs' told' over') (t : Turn (Tw g V n T) w w') (f : ∀ b, All n T' b → All n T b ∨ w.heap.size ≤ b) : Kf w1 w' n₀ g V c s n Y back look rs' told' over' B ∧ Turn (Fr n₀ B) w w' := by
  refine ⟨⟨T', d', fun b hb => ⟨Nat.lt_of_lt_of_le (a b hb).1 t.size, fun ht => ?_⟩, h.trans (t.below (by have := (d.lt g (.inl rfl)); omega) fun b hb => (d.lt b hb).2)⟩, t.mono fun b hb => ⟨(d.lt b hb).2, fun h => (a b h).2 hb⟩⟩
  rcases ht with h | h | h
  · exact (a b hb).2 (.inl h)
  · exact (a b hb).2 (.inr (.inl h))
  · rcases f b h with k | k
    · exact (a b hb).2 (.inr (.inr k))
    · have := (a b hb).1; omega
end
/-- What a deed leaves that tells an answer. -/
def RetF (w1 : World) (n₀ g : Nat) (V : Value) (c : Int) (s : Bool) (n : Nat) (Y : Nat → Value) (back look : Nat) (rs : List (List Int)) (told : Nat) (over : Bool) (B : Nat → Prop) (t : List Int) (f : Value → Value) (w : World) (e : Ending) (w' : World) : Prop :=
  ∃ A cap, e = .returned (f (.slice A t.length cap)) ∧ MineT 2 w' w.heap.size (.slice A t.length cap) t ∧ Kf w1 w' n₀ g V c s n Y back look rs told over B ∧ Turn (Fr n₀ B) w w'
section
variable (w1 w0 w : World) (n₀ g : Nat) (V : Value) (c : Int) (s : Bool) (n : Nat) (Y : Nat → Value) (back look : Nat) (rs : List (List Int)) (told : Nat) (B : Nat → Prop)
theorem push_f_wait (S : Nat → Prop) (P : Option Addr) (cap : Nat) (r : List Int) (k : Kf w1 w0 n₀ g V c s n Y back look rs told false B) (hb : Below w0.heap.size w0 w) (hi : SInts S w P r) (hS : ∀ b, S b → b < w.heap.size ∧ (b < n₀ ∨ w0.heap.size ≤ b ∨ B b)) (hr : r.length = n) (hR : AllR r) (hn : n ≤ 64) (hq : rs.length ≤ 900) (hd : rs.length < told + look) :
    Calls Tryd.prog 28 #[.pointer (some ⟨g, 0, none⟩), .slice P n cap] w fun e w' => e = .returned (.tuple #[.slice none 0 0, .bool false, .int .i64 0]) ∧ Kf w1 w' n₀ g V c s n Y back look (rs ++ [r]) told false B ∧ Turn (Fr n₀ B) w w' := by
  obtain ⟨T, d0, a, h3⟩ := k
  have d := d0.next hb
  have hg := (d0.lt g (.inl rfl))
  refine (push_w_wait n₀ g V c s n Y T back look rs told S P cap r w d hi (fun b h => ⟨(hS b h).1, fun ht => by have := d0.lt b ht; rcases (hS b h).2 with h2 | h2 | h2 <;> first | omega | exact (a b h2).2 ht⟩) hr hR hn hq hd).mono ?_
  rintro e w' ⟨rfl, T', d', t', f'⟩
  exact ⟨rfl, kf_deed d (fun b h => ⟨Nat.lt_of_lt_of_le (a b h).1 hb.size, (a b h).2⟩) (h3.trans (hb.mono (by omega))) d' t' f'⟩
theorem push_f_due (S : Nat → Prop) (P : Option Addr) (cap : Nat) (r : List Int) (k : Kf w1 w0 n₀ g V c s n Y back look rs told false B) (hb : Below w0.heap.size w0 w) (hi : SInts S w P r) (hS : ∀ b, S b → b < w.heap.size ∧ (b < n₀ ∨ w0.heap.size ≤ b ∨ B b)) (hr : r.length = n) (hR : AllR r) (hn : n ≤ 64) (hq : rs.length ≤ 900) (hd : rs.length = told + look) (h2 : Sc.hasB c 2 = true) (t : List Int) (ht : ansI c s n ((rs ++ [r]).drop (told - back)) = t) :
    Calls Tryd.prog 28 #[.pointer (some ⟨g, 0, none⟩), .slice P n cap] w (RetF w1 n₀ g V c s n Y back look (rs ++ [r]) (told + 1) false B t (fun v => .tuple #[v, .bool true, .int .i64 0]) w) := by
  obtain ⟨T, d0, a, h3⟩ := k
  have d := d0.next hb
  have hg := (d0.lt g (.inl rfl))
  refine (push_w_due n₀ g V c s n Y T back look rs told S P cap r w d hi (fun b h => ⟨(hS b h).1, fun ht => by have := d0.lt b ht; rcases (hS b h).2 with h2 | h2 | h2 <;> first | omega | exact (a b h2).2 ht⟩) hr hR h2 hn hq hd t ht).mono ?_
  rintro e w' ⟨A, c', rfl, hm, T', d', t', f', ap⟩
  exact ⟨A, c', rfl, hm, kf_deed d (fun b h => ⟨Nat.lt_of_lt_of_le (a b h).1 hb.size, (a b h).2⟩) (h3.trans (hb.mono (by omega))) d' t' f'⟩
theorem drain_f_some (over : Bool) (k : Kf w1 w n₀ g V c s n Y back look rs told over B) (h2 : Sc.hasB c 2 = true) (hn : n ≤ 64) (hq : rs.length ≤ 900) (hd : told < rs.length) (t : List Int) (ht : ansI c s n (rs.drop (told - back)) = t) :
    Calls Tryd.prog 32 #[.pointer (some ⟨g, 0, none⟩)] w (RetF w1 n₀ g V c s n Y back look rs (told + 1) true B t (fun v => .tuple #[v, .bool true]) w) := by
  obtain ⟨T, d, a, h3⟩ := k
  refine (drain_w_some n₀ g V c s n Y T back look rs told over w d h2 hn hq hd t ht).mono ?_
  rintro e w' ⟨A, c', rfl, hm, T', d', t', f', ap⟩
  exact ⟨A, c', rfl, hm, kf_deed d a h3 d' t' f'⟩
theorem drain_f_none (over : Bool) (k : Kf w1 w n₀ g V c s n Y back look rs told over B) (hd : told = rs.length) :
    Calls Tryd.prog 32 #[.pointer (some ⟨g, 0, none⟩)] w fun e w' => e = .returned (.tuple #[.slice none 0 0, .bool false]) ∧ Kf w1 w' n₀ g V c s n Y back look rs told true B ∧ Turn (Fr n₀ B) w w' := by
  obtain ⟨T, d, a, h3⟩ := k
  refine (drain_w_none n₀ g V c s n Y T back look rs told over w d hd).mono ?_
  rintro e w' ⟨rfl, d', t'⟩
  exact ⟨rfl, kf_deed d a h3 d' (t'.mono fun b k => .inl k) fun b hb => .inl hb⟩
theorem words_f (over : Bool) (k : Kf w1 w n₀ g V c s n Y back look rs told over B) (hn : n ≤ 64) :
    Calls Tryd.prog 35 #[.pointer (some ⟨g, 0, none⟩)] w fun e w' => e = .returned (.int .i64 (totN c n (rs.drop (gone told back)) : Nat)) ∧ Below w.heap.size w w' := by
  obtain ⟨T, d, a, h3⟩ := k
  exact words_w n₀ g V c s n Y T back look rs told over w d hn
end
theorem Kf.mono {w1 w : World} {n₀ g : Nat} {V : Value} {c : Int} {s : Bool} {n : Nat} {Y : Nat → Value} {back look : Nat} {rs : List (List Int)} {told : Nat} {over : Bool} {B B' : Nat → Prop} (k : Kf w1 w n₀ g V c s n Y back look rs told over B) (h : ∀ b, B' b → B b) : Kf w1 w n₀ g V c s n Y back look rs told over B' :=
  k.more (Below.refl _ _) fun b hb => .inl (h b hb)
/-- A row that lies in blocks of B has grown. -/
theorem Kf.app {w1 w w' : World} {n₀ g : Nat} {V : Value} {c : Int} {s : Bool} {n : Nat} {Y : Nat → Value} {back look : Nat} {rs : List (List Int)} {told : Nat} {over : Bool} {B : Nat → Prop} {e : TypeId} {O O' : Value} {m m' : Nat} {xs xs' : List Value} (k : Kf w1 w n₀ g V c s n Y back look rs told over B) (he : e ≠ 23) (ho : w.ownsRow n₀ e 1 O m xs) (hB : ∀ b, O.ownBlock = some b → B b) (hv : w'.ownsRow n₀ e 1 O' m' xs') (hg : w.grownBy w' O.ownBlock) (ha : O'.ownBlock = O.ownBlock ∨ O'.ownBlock = some w.heap.size) :
    Kf w1 w' n₀ g V c s n Y back look rs told over (fun b => B b ∨ O'.ownBlock = some b) := by
  refine k.turn (S := fun b => O.ownBlock = some b) (Turn.of_grown hg fun g e => e) hB (fun b hb cs hk => own_bk_ne (t := 23) ho hk he hb.symm) (fun b hb => own_base ho b hb) fun b hb => ?_
  rcases hb with h | h
  · exact .inl h
  · rcases ha with e1 | e1
    · exact .inl (hB b (e1.symm.trans h))
    · have h2 := own_lt hv b h
      rw [e1] at h
      injection h with h
      exact .inr ⟨by omega, h2⟩
end Go.Proofs.YtfamgaakcbinkaaDoor.Wn
