/-
  A window beside rows that a law copies, and whatever lies in blocks of a set B; a clone beside its window. Conditions: the table of traits holds what its text lays; the rows have the window's width, at most 64.
-/
import Derived.Test.YtfamgaakcbinkaaDoorWnAlike
set_option maxRecDepth 100000
namespace Go.Proofs.YtfamgaakcbinkaaDoor.Wn
open Go.Proofs.YtfamgaakcbinkaaDoor.Sh Go.Proofs.YtfamgaakcbinkaaDoor.St Go.Proofs.YtfamgaakcbinkaaDoor.Fd
open Go.RowKit
set_option linter.unusedVariables false

section
variable {n₀ n' g n m q back look told came : Nat} {c : Int} {s over : Bool} {V X X' x : Value} {w0 w1 w w' : World} {Y : Nat → Value} {L : Nat → List Int} {T0 : Nat → Prop} {T : Nat → Nat → Prop} {S B B1 : Nat → Prop} {xs rs : List (List Int)} {r l : List Int}
theorem Col.lo (h : Col n₀ c s m q w x l T0) (hn : n' ≤ n₀) (ht : 0 < n') : Col n' c s m q w x l T0 := by
  obtain ⟨h0, hT, hR, hm, h64, ⟨hy, g, V, e, d, k⟩ | ⟨hy, J, g, base, ec, es, hb, e, o, jb, fb⟩ | ⟨hy, g, V, f, e, d, hq, k⟩⟩ := h
  · exact ⟨ht, hT, hR, hm, h64, .inl ⟨hy, g, V, e, ⟨d.1, own_lo d.2.1 hn, Nat.le_trans hn d.2.2⟩, k⟩⟩
  · exact ⟨ht, hT, hR, hm, h64, .inr (.inl ⟨hy, J, g, base, ec, es, Nat.le_trans hn hb, e, o, jb, fb⟩)⟩
  · obtain ⟨k1, k2, k3, k4, k5⟩ := d
    exact ⟨ht, hT, hR, hm, h64, .inr (.inr ⟨hy, g, V, f, e, ⟨k1, Dq.RowK.mono k2 hn, k3, k4, Nat.le_trans hn k5⟩, hq, k⟩)⟩
theorem Win.lo {told : Nat} (d : Win n₀ w g V c s m n Y q L T back look came told over) (hn : n' ≤ n₀) (ht : 0 < n') : Win n' w g V c s m n Y q L T back look came told over :=
  ⟨d.1, own_lo d.2.1 hn, ⟨fun i hi => ⟨(d.2.2.1.1 i hi).1.lo hn ht, (d.2.2.1.1 i hi).2.1, fun b hb => ⟨((d.2.2.1.1 i hi).2.2 b hb).1, Nat.le_trans hn ((d.2.2.1.1 i hi).2.2 b hb).2⟩⟩, d.2.2.1.2⟩, d.2.2.2.1, Nat.le_trans hn d.2.2.2.2⟩
/-- Rows that stand in blocks of B. -/
def XB (n₀ : Nat) (B : Nat → Prop) (w : World) (X : Value) (xs : List (List Int)) : Prop := ∃ vs, w.ownsRow n₀ 27 1 X xs.length vs ∧ ∀ (t : Nat) (r : List Int), xs[t]? = some r → ∃ (P : Option Addr) (d : Nat), vs[t]? = some (Value.slice P r.length d) ∧ r.length ≤ d ∧ d ≤ maxLen ∧ SInts B w P r
theorem XB.turn (h : XB n₀ B w X xs) (hb : Turn S w w') (hX : ∀ b, X.ownBlock = some b → ¬ S b) (hB : ∀ b, B b → ¬ S b) : XB n₀ B w' X xs := by
  obtain ⟨vs, h1, h2⟩ := h
  refine ⟨vs, own_turn h1 hb hX, fun t r hr => ?_⟩
  obtain ⟨P, d, k1, k2, k3, k4⟩ := h2 t r hr
  exact ⟨P, d, k1, k2, k3, Seq.turn k4 hb hB⟩
theorem XB.mono (h : XB n₀ B w X xs) (hB : ∀ b, B b → B1 b) : XB n₀ B1 w X xs := by
  obtain ⟨vs, h1, h2⟩ := h
  refine ⟨vs, h1, fun t r hr => ?_⟩
  obtain ⟨P, d, k1, k2, k3, k4⟩ := h2 t r hr
  exact ⟨P, d, k1, k2, k3, Seq.mono k4 hB⟩
theorem XB.rows (h : XB n₀ B w X xs) : ∃ A e, X = .slice A xs.length e ∧ RwsIn (fun _ => True) w (.slice A xs.length e) xs := by
  obtain ⟨vs, h1, h2⟩ := h
  obtain ⟨A, c, rfl, hn, hm, hs⟩ := own_seq h1 (by decide)
  refine ⟨A, c, rfl, A, c, vs, rfl, hn, hm, by simpa using h1.1, hs.mono fun _ _ => trivial, fun t r hr => ?_⟩
  obtain ⟨B, d, k1, k2, k3, k4⟩ := h2 t r hr
  exact ⟨B, d, k1, k2, k3, Seq.mono k4 fun _ _ => trivial⟩
theorem XB.app {vs : List Value} {o : Obj} {P : Option Addr} {d : Nat} (h1 : w.ownsRow n₀ 27 1 X xs.length vs) (h2 : ∀ (t : Nat) (r : List Int), xs[t]? = some r → ∃ (P : Option Addr) (d : Nat), vs[t]? = some (Value.slice P r.length d) ∧ r.length ≤ d ∧ d ≤ maxLen ∧ SInts B w P r)
    (hi : SInts B w P r) (hd : r.length ≤ d) (hd2 : d ≤ maxLen) (hB : ∀ b, X.ownBlock = some b → ¬ B b) (hv : w'.ownsRow n₀ 27 1 X' (xs.length + 1) (vs ++ [.slice P r.length d])) (hg : (w.alloc o).grownBy w' X.ownBlock) : XB n₀ B w' X' (xs ++ [r]) := by
  have hvl : vs.length = xs.length := by simpa using h1.1
  have tn : Turn (fun b => X.ownBlock = some b) w w' := (Turn.of_below _ (below_new w o)).trans (Turn.of_grown hg fun g e => e)
  have hB' : ∀ b, B b → ¬ X.ownBlock = some b := fun b hb e => hB b e hb
  refine ⟨vs ++ [.slice P r.length d], by simpa using hv, fun t q hq => ?_⟩
  rcases Nat.lt_or_ge t xs.length with hlt | hge
  · rw [List.getElem?_append_left hlt] at hq
    obtain ⟨P', d', k1, k2, k3, k4⟩ := h2 t q hq
    exact ⟨P', d', by rw [List.getElem?_append_left (by omega)]; exact k1, k2, k3, Seq.turn k4 tn hB'⟩
  · rw [List.getElem?_append_right hge] at hq
    have ht : t - xs.length = 0 := by
      have := (List.getElem?_eq_some_iff.1 hq).1
      simp at this; omega
    rw [ht] at hq
    simp at hq
    subst hq
    exact ⟨P, d, by rw [List.getElem?_append_right (by omega), hvl, ht]; rfl, hd, hd2, Seq.turn hi tn hB'⟩
end
/-- A window beside the rows xs that a law copies, and blocks of B. -/
def Kx (w1 w : World) (n₀ g : Nat) (V : Value) (c : Int) (s : Bool) (n : Nat) (Y : Nat → Value) (back look : Nat) (X : Value) (xs rs : List (List Int)) (told : Nat) (over : Bool) (B : Nat → Prop) : Prop :=
  Kf w1 w n₀ g V c s n Y back look rs told over (fun b => X.ownBlock = some b ∨ B b) ∧ XB n₀ B w X xs ∧ (∀ b, X.ownBlock = some b → ¬ B b) ∧ (∀ r ∈ xs, r.length = n) ∧ ∀ r ∈ xs, AllR r
section
variable {n₀ g n back look told : Nat} {c : Int} {s over : Bool} {V X X' : Value} {w0 w1 w w' : World} {Y : Nat → Value} {S B B1 : Nat → Prop} {xs rs : List (List Int)} {r : List Int}
theorem Kx.next (k : Kx w1 w n₀ g V c s n Y back look X xs rs told over B) (hb : Below w.heap.size w w') : Kx w1 w' n₀ g V c s n Y back look X xs rs told over B :=
  ⟨k.1.next hb, k.2.1.turn (Turn.of_below (fun _ => False) hb) (fun _ _ h => h) (fun _ _ h => h), k.2.2⟩
theorem Kx.more (k : Kx w1 w n₀ g V c s n Y back look X xs rs told over B) (hb : Below w.heap.size w w') (hB : ∀ b, B1 b → B b ∨ (w.heap.size ≤ b ∧ b < w'.heap.size)) (hB1 : ∀ b, B b → B1 b) : Kx w1 w' n₀ g V c s n Y back look X xs rs told over B1 := by
  refine ⟨k.1.more hb fun b h => ?_, (k.2.1.turn (Turn.of_below (fun _ => False) hb) (fun _ _ h => h) (fun _ _ h => h)).mono hB1, fun b hb h => ?_, k.2.2.2⟩
  · rcases h with h | h
    · exact .inl (.inl h)
    · exact (hB b h).imp .inr id
  · rcases hB b h with h2 | h2
    · exact k.2.2.1 b hb h2
    · obtain ⟨vs, o1, _⟩ := k.2.1
      have := own_lt o1 b hb
      omega
theorem Kx.rows (k : Kx w1 w n₀ g V c s n Y back look X xs rs told over B) : ∃ A e, X = .slice A xs.length e ∧ RwsIn (fun _ => True) w (.slice A xs.length e) xs := k.2.1.rows
theorem Kx.lt (k : Kx w1 w n₀ g V c s n Y back look X xs rs told over B) {b : Nat} (hb : B b) : b < w.heap.size := by obtain ⟨T, d, a, h⟩ := k.1; exact (a b (.inr hb)).1
/-- Blocks of B alone have turned. -/
theorem Kx.turn (k : Kx w1 w n₀ g V c s n Y back look X xs rs told over B) (t : Turn S w w') (hS : ∀ b, S b → B b) (nS : NF w S) (lS : ∀ b, S b → n₀ ≤ b) (hX : xs = []) : Kx w1 w' n₀ g V c s n Y back look X xs rs told over B := by
  refine ⟨k.1.turn t (fun b h => .inr (hS b h)) nS lS fun b h => .inl h, ?_, k.2.2⟩
  obtain ⟨vs, h1, h2⟩ := k.2.1
  subst hX
  exact ⟨vs, own_turn h1 t fun b hb h => k.2.2.1 b hb (hS b h), fun t r hr => by simp at hr⟩
theorem Kx.app {vs : List Value} {o : Obj} {P : Option Addr} {d : Nat} (k : Kx w1 w n₀ g V c s n Y back look X xs rs told over B) (h1 : w.ownsRow n₀ 27 1 X xs.length vs) (h2 : ∀ (t : Nat) (r : List Int), xs[t]? = some r → ∃ (P : Option Addr) (d : Nat), vs[t]? = some (Value.slice P r.length d) ∧ r.length ≤ d ∧ d ≤ maxLen ∧ SInts B w P r)
    (hi : SInts B w P r) (hd : r.length ≤ d) (hd2 : d ≤ maxLen) (hr : r.length = n) (hR : AllR r) (hv : w'.ownsRow n₀ 27 1 X' (xs.length + 1) (vs ++ [.slice P r.length d])) (hg : (w.alloc o).grownBy w' X.ownBlock) (ha : X'.ownBlock = X.ownBlock ∨ X'.ownBlock = some (w.alloc o).heap.size) :
    Kx w1 w' n₀ g V c s n Y back look X' (xs ++ [r]) rs told over B := by
  have k0 := k.next (below_new w o)
  have o0 := World.ownsRow.alloc h1 o
  have hz : (w.alloc o).heap.size = w.heap.size + 1 := by simp
  refine ⟨(k0.1.app (by decide) o0 (fun b hb => .inl hb) hv hg ha).mono fun b hb => ?_, XB.app h1 h2 hi hd hd2 k.2.2.1 hv hg, fun b hb h => ?_, fun q hq => ?_, fun q hq => ?_⟩
  · rcases hb with hb | hb
    · exact .inr hb
    · exact .inl (.inr hb)
  · rcases ha with e | e
    · exact k.2.2.1 b (e.symm.trans hb) h
    · rw [e] at hb
      injection hb with hb
      have := k.lt h
      omega
  · rcases List.mem_append.1 hq with h | h
    · exact k.2.2.2.1 q h
    · simp at h; subst h; exact hr
  · rcases List.mem_append.1 hq with h | h
    · exact k.2.2.2.2 q h
    · simp at h; subst h; exact hR
theorem kx_left {rs' : List (List Int)} {told' : Nat} {over' : Bool} (k : Kx w1 w n₀ g V c s n Y back look X xs rs told over B) (k' : Kf w1 w' n₀ g V c s n Y back look rs' told' over' (fun b => X.ownBlock = some b ∨ B b)) (t : Turn (Fr n₀ fun b => X.ownBlock = some b ∨ B b) w w') : Kx w1 w' n₀ g V c s n Y back look X xs rs' told' over' B ∧ Turn (Fr n₀ B) w w' :=
  ⟨⟨k', k.2.1.turn t (fun b hb h => h.2 (.inl hb)) (fun b hb h => h.2 (.inr hb)), k.2.2⟩, t.mono fun b hb => ⟨hb.1, fun h => hb.2 (.inr h)⟩⟩
end
section
variable (w1 w : World) (n₀ g : Nat) (V : Value) (c : Int) (s : Bool) (n : Nat) (Y : Nat → Value) (back look : Nat) (X : Value) (xs rs : List (List Int)) (B : Nat → Prop)
/-- A row comes, whatever is told. -/
theorem push_x (S : Nat → Prop) (P : Option Addr) (cap : Nat) (r : List Int) (k : Kx w1 w n₀ g V c s n Y back look X xs rs (rs.length - look) false B) (hi : SInts S w P r) (hS : ∀ b, S b → b < w.heap.size ∧ B b) (hr : r.length = n) (hR : AllR r) (hn : n ≤ 64) (hq : rs.length ≤ 900) (h2 : Sc.hasB c 2 = true) :
    Calls Tryd.prog 28 #[.pointer (some ⟨g, 0, none⟩), .slice P n cap] w fun e w' => ∃ v, e = .returned v ∧ Kx w1 w' n₀ g V c s n Y back look X xs (rs ++ [r]) ((rs ++ [r]).length - look) false B ∧ Turn (Fr n₀ B) w w' := by
  have hl : (rs ++ [r]).length = rs.length + 1 := by simp
  have hS' : ∀ b, S b → b < w.heap.size ∧ (b < n₀ ∨ w.heap.size ≤ b ∨ (X.ownBlock = some b ∨ B b)) := fun b hb => ⟨(hS b hb).1, .inr (.inr (.inr (hS b hb).2))⟩
  by_cases hd : rs.length < look
  · refine (push_f_wait w1 w w n₀ g V c s n Y back look rs (rs.length - look) _ S P cap r k.1 (Below.refl _ _) hi hS' hr hR hn hq (by omega)).mono ?_
    rintro e w' ⟨rfl, k', t⟩
    rw [hl, show rs.length + 1 - look = rs.length - look by omega]
    exact ⟨_, rfl, kx_left k k' t⟩
  · refine (push_f_due w1 w w n₀ g V c s n Y back look rs (rs.length - look) _ S P cap r k.1 (Below.refl _ _) hi hS' hr hR hn hq (by omega) h2 _ rfl).mono ?_
    rintro e w' ⟨A, c', rfl, hm, k', t⟩
    rw [hl, show rs.length + 1 - look = rs.length - look + 1 by omega]
    exact ⟨_, rfl, kx_left k k' t⟩
theorem stands_f {rs : List (List Int)} {told : Nat} {over : Bool} {B : Nat → Prop} (A : Option Addr) (cA m : Nat) (k : Kf w1 w n₀ g V c s n Y back look rs told over B) (hV : RwsIn (fun _ => True) w (.slice A m cA) rs) (hm : rs.length = m) (hL : ∀ r ∈ rs, r.length = n) (hn : n ≤ 64) (hr : m ≤ 100) (hb : back ≤ 31) :
    Calls Tryd.prog 31 #[.pointer (some ⟨g, 0, none⟩), .agg #[.int .i64 c, .bool s, .int .i64 (back : Nat), .int .i64 (look : Nat), .int .i64 (n : Nat)], .slice A m cA, .int .i64 (told : Nat)] w fun e w' => e = .returned (.bool true) ∧ Below w.heap.size w w' := by
  subst hm
  obtain ⟨T, d, a, h⟩ := k
  exact stands_any n₀ g V c s n Y T back look rs told over (fun _ => True) A cA w d hV hL hn hr hb
/-- A clone beside the window as it was. -/
theorem clone_f {told : Nat} {over : Bool} (k : Kf w1 w n₀ g V c s n Y back look rs told over B) (hn : n ≤ 64) (hq : rs.length ≤ 900) :
    Calls Tryd.prog 36 #[.pointer (some ⟨g, 0, none⟩)] w fun e w' => ∃ g' V' Y', e = .returned (.pointer (some ⟨g', 0, none⟩)) ∧ Kf w1 w' n₀ g' V' c s n Y' back look rs told over (fun b => b < w.heap.size) ∧ Below w.heap.size w w' := by
  have hz := k.size
  obtain ⟨T, d, a, h⟩ := k
  refine (clone_any n₀ g V c s (back + look + 1) n Y rs.length (held rs (gone told back)) T back look rs.length told over w d.1 hn (by omega)).mono ?_
  rintro e w' ⟨g', V', Y', T', rfl, d', hb, hl⟩
  exact ⟨g', V', Y', rfl, ⟨T', ⟨d', d.2⟩, fun b hb2 => ⟨Nat.lt_of_lt_of_le hb2 hb.size, fun ht => by have := hl b ht; omega⟩, h.trans (hb.mono hz)⟩, hb⟩
end
theorem mine_cap {w : World} {base n c : Nat} {A : Option Addr} {r : List Int} (h : MineT 2 w base (.slice A n c) r) : n ≤ c ∧ c ≤ maxLen := by
  obtain ⟨A', c', e, h1, h2, _⟩ := own_seq h (by decide)
  injection e with e1 e2 e3
  subst e2 e3
  exact ⟨h1, h2⟩
theorem mine_in {w : World} {base n c : Nat} {A : Option Addr} {r : List Int} (h : MineT 2 w base (.slice A n c) r) : SInts (fun b => base ≤ b ∧ b < w.heap.size) w A r := fun hp => by
  obtain ⟨b, off, h1, h2, h3, h4⟩ := mine_S h hp
  exact ⟨b, off, h1, ⟨h2, h3⟩, h3, h4⟩
/-- What a push to a clone leaves of all that was there ahead of it. -/
def RetC2 (W : World) (dd : Bool) (t : List Int) (w : World) (e : Ending) (w' : World) : Prop :=
  ∃ x, e = .returned (.tuple #[x, .bool dd, .int .i64 0]) ∧ (dd = true → ∃ A cap, x = .slice A t.length cap ∧ MineT 2 w' w.heap.size (.slice A t.length cap) t) ∧ (dd = false → x = .slice none 0 0) ∧ Below W.heap.size W w'
theorem push_c (w1 W w : World) (n₀ g : Nat) (V : Value) (c : Int) (s : Bool) (n : Nat) (Y : Nat → Value) (back look : Nat) (rs : List (List Int)) (dd : Bool) (S : Nat → Prop) (P : Option Addr) (cap : Nat) (r : List Int) (k : Kf w1 w n₀ g V c s n Y back look rs (rs.length - look) false (fun b => b < W.heap.size)) (hb : Below W.heap.size W w) (hi : SInts S w P r) (hS : ∀ b, S b → b < W.heap.size) (hr : r.length = n) (hR : AllR r) (hn : n ≤ 64) (hq : rs.length ≤ 900) (h2 : Sc.hasB c 2 = true) (hdd : decide (look ≤ rs.length) = dd) (t : List Int) (ht : ansI c s n ((rs ++ [r]).drop (rs.length - look - back)) = t) :
    Calls Tryd.prog 28 #[.pointer (some ⟨g, 0, none⟩), .slice P n cap] w (RetC2 W dd t w) := by
  have hS' : ∀ b, S b → b < w.heap.size ∧ (b < n₀ ∨ w.heap.size ≤ b ∨ b < W.heap.size) := fun b hb2 => ⟨Nat.lt_of_lt_of_le (hS b hb2) hb.size, .inr (.inr (hS b hb2))⟩
  have tb : ∀ w', Turn (Fr n₀ fun b => b < W.heap.size) w w' → Below W.heap.size W w' := fun w' t => hb.trans (t.below hb.size fun i hi => Nat.le_of_not_lt hi.2)
  by_cases hd : rs.length < look
  · obtain rfl : dd = false := by rw [← hdd]; exact decide_eq_false (by omega)
    refine (push_f_wait w1 w w n₀ g V c s n Y back look rs (rs.length - look) _ S P cap r k (Below.refl _ _) hi hS' hr hR hn hq (by omega)).mono ?_
    rintro e w' ⟨rfl, k', t⟩
    exact ⟨_, rfl, (fun h => by cases h), fun _ => rfl, tb w' t⟩
  · obtain rfl : dd = true := by rw [← hdd]; exact decide_eq_true (by omega)
    refine (push_f_due w1 w w n₀ g V c s n Y back look rs (rs.length - look) _ S P cap r k (Below.refl _ _) hi hS' hr hR hn hq (by omega) h2 t ht).mono ?_
    rintro e w' ⟨A, c', rfl, hm, k', t⟩
    exact ⟨_, rfl, fun _ => ⟨A, c', rfl, hm⟩, (fun h => by cases h), tb w' t⟩
/-- append as one step of a region that draws, behind a guard that says yes. -/
theorem step_appG {t e : TypeId} {z : Value} {size bytes : Nat} (hinf : (Tryd.prog.info? e).map (fun i => (i.zero, i.size, i.bytes)) = some (some z, size, bytes)) (hzs : z.cells.size = size) (hsz : 0 < size) (hby : bytes ≤ 64) (ht : Tryd.prog.underlying t = some (.slice e)) {w : World} {ops : Array Oper} {o : Oper} {a : Act} {K : Act → World → Prop} {Q : Exit → Act → World → Prop} {E : Prop} (hgd : Region.wanted o (yielded ops a.tmps) = true) (s x : Operand)
    (ho : o.op = .call { callee := .builtin .append, args := #[s, x], argTypes := #[t, t] })
    (base : Nat) (v : Value) (n : Nat) (xs : List Value) (hs : a.eval s = v) (hown : w.ownsRow base e size v n xs) (S : Nat → Prop) (A : Option Addr) (m c : Nat) (news : List Value) (hx : a.eval x = .slice A m c) (hm : news.length = m * size) (hi : Seq S w A news)
    (h1 : ∀ u ∈ news, u.oneCell' = true) (hlen : n + m ≤ 100000) (hbase : base ≤ w.heap.size)
    (h : ∀ v' w', w'.ownsRow base e size v' (n + m) (xs ++ news) → w.grownBy w' v.ownBlock → (v'.ownBlock = v.ownBlock ∨ v'.ownBlock = some w.heap.size) → K (a.put o.dst v') w') :
    if Region.wanted o (yielded ops a.tmps) = true then Oper.wp Tryd.prog o a w K Q else E := by
  rw [if_pos hgd]
  exact wp_appS hinf hzs hsz hby ht s x ho base v n xs hs hown S A m c news hx hm hi h1 hlen hbase h
theorem xb_one {w : World} {B : Nat → Prop} {xs : List (List Int)} {vs : List Value} (hl : vs.length = xs.length) (h : ∀ (t : Nat) (r : List Int), xs[t]? = some r → ∃ (P : Option Addr) (d : Nat), vs[t]? = some (Value.slice P r.length d) ∧ r.length ≤ d ∧ d ≤ maxLen ∧ SInts B w P r) : ∀ u ∈ vs, u.oneCell' = true := fun u hu => by
  obtain ⟨t, ht⟩ := List.getElem?_of_mem hu
  have hlt := (List.getElem?_eq_some_iff.1 ht).1
  obtain ⟨r, hr⟩ : ∃ r, xs[t]? = some r := ⟨_, List.getElem?_eq_getElem (by omega)⟩
  obtain ⟨P, d, k, -⟩ := h t r hr
  rw [ht] at k
  injection k with k
  subst k
  rfl
/-- The rows, copied, and one more behind them. -/
theorem rows_two {w w' : World} {B S : Nat → Prop} {xs : List (List Int)} {vs : List Value} {base : Nat} {v' : Value} {P : Option Addr} {r : List Int} {m : Nat} (hl : vs.length = xs.length) (h : ∀ (t : Nat) (r : List Int), xs[t]? = some r → ∃ (P : Option Addr) (d : Nat), vs[t]? = some (Value.slice P r.length d) ∧ r.length ≤ d ∧ d ≤ maxLen ∧ SInts B w P r) (hb : Below w.heap.size w w') (hi : SInts S w P r) (hm : r.length = m) (hm2 : m ≤ maxLen)
    (hv : w'.ownsRow base 27 1 v' (0 + xs.length + 1) ([] ++ vs ++ [.slice P m m])) : ∃ A c, v' = .slice A (xs.length + 1) c ∧ RwsIn (fun _ => True) w' (.slice A (xs.length + 1) c) (xs ++ [r]) := by
  subst hm
  rw [Nat.zero_add, List.nil_append] at hv
  obtain ⟨A, c, rfl, hn, hm, hs⟩ := own_seq hv (by decide)
  have el : (xs ++ [r]).length = xs.length + 1 := by simp
  refine ⟨A, c, rfl, A, c, vs ++ [.slice P r.length r.length], by rw [el], by rw [el]; exact hn, hm, by simp [hl], hs.mono fun _ _ => trivial, fun t q hq => ?_⟩
  rcases Nat.lt_or_ge t xs.length with hlt | hge
  · rw [List.getElem?_append_left hlt] at hq
    obtain ⟨P', d', k1, k2, k3, k4⟩ := h t q hq
    exact ⟨P', d', by rw [List.getElem?_append_left (by omega)]; exact k1, k2, k3, Seq.mono (Seq.next k4 hb) fun _ _ => trivial⟩
  · rw [List.getElem?_append_right hge] at hq
    have ht : t - xs.length = 0 := by
      have := (List.getElem?_eq_some_iff.1 hq).1
      simp at this; omega
    rw [ht] at hq
    simp at hq
    subst hq
    exact ⟨P, r.length, by rw [List.getElem?_append_right (by omega), hl, ht]; rfl, Nat.le_refl _, hm2, Seq.mono (Seq.next hi hb) fun _ _ => trivial⟩
/-- What is new has grown. -/
theorem below_grown {W w w' : World} {row : Option Nat} {g : Nat} (hb : Below W.heap.size W w) (h : w.grownBy w' row) (hr : row = some g) (hg : W.heap.size ≤ g) : Below W.heap.size W w' :=
  hb.trans ((Turn.of_grown (T := fun b => b = g) h fun k e => by rw [hr] at e; injection e with e; exact e.symm).below hb.size fun i hi => by rw [hi]; exact hg)
theorem below_own {W w w' : World} {e : TypeId} {n : Nat} {v : Value} {xs : List Value} (hb : Below W.heap.size W w) (ho : w.ownsRow W.heap.size e 1 v n xs) (hg : w.grownBy w' v.ownBlock) : Below W.heap.size W w' :=
  hb.trans ((Turn.of_grown (T := fun b => v.ownBlock = some b) hg fun k h => h).below hb.size fun i hi => own_base ho i hi)
theorem seq_lit (w : World) (e : TypeId) (v : Value) (g : Nat) (hg : w.heap.size = g) : Seq (fun b => b = g) (w.alloc (.cells #[v] e)) (some ⟨g, 0, none⟩) [v] := by
  subst hg
  have h := Bk.new e w [v]
  exact fun _ => ⟨w.heap.size, 0, rfl, rfl, h.lt, fun j u hu => by rw [Nat.zero_add, h.c j]; exact hu⟩
/-- The document's answer over a row of m rows of two numbers. -/
theorem ranswer_2 (c : Int) (s : Bool) (A : Option Addr) (cA m : Nat) (rs : List (List Int)) (e back look : Nat) (t : List Int) (w : World) (hV : RwsIn (fun _ => True) w (.slice A m cA) rs) (hm : rs.length = m) (hL : ∀ r ∈ rs, r.length = 2) (hR : ∀ r ∈ rs, AllR r) (hr : m ≤ 100) (he : e ≤ 100) (hb : back ≤ 31) (hk : look ≤ 31) (hel : m ≤ e + look + 1) (ht : ansI c s 2 (rs.drop (e - back)) = t) :
    Calls Tryd.prog 30 #[.agg #[.int .i64 c, .bool s], .slice A m cA, .int .i64 2, .int .i64 (e : Nat), .int .i64 (back : Nat), .int .i64 (look : Nat)] w (RetL t w) := by
  subst hm
  have h := ranswer_any c s (fun _ => True) A cA rs 2 e back look w hV hL hR (by omega) hr he hb hk
  rw [show cut rs (e - back) (e + look) = rs.drop (e - back) by unfold cut; rw [List.take_of_length_le (by omega)], ht] at h
  exact h
end Go.Proofs.YtfamgaakcbinkaaDoor.Wn
