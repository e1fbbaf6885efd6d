/-
  Rows that a law keeps beside a window, and what the window's deeds leave of both; rifflelaw15.Great. Conditions: the table of traits holds what its text lays; the rows have the window's width, at most 64. What rifflelaw15.WindowPlays answers: true, whatever the window and the rows. Conditions: the table of traits holds what its text lays; the numbers have 64 bits; no more rows than fit into a machine. How the arguments of layer 15's laws read: a window's terms, rows of numbers, pairs of numbers; the world of their cards. No condition. A window beside whatever lies in blocks of a set B: its deeds leave these. Conditions: the table of traits holds what its text lays; the rows have the window's width, at most 64. What rifflelaw15.answers tells: all answers of a window of one number a row. Conditions: the table of traits holds what its text lays; at most 60 numbers of 64 bits. What rifflelaw15.WindowHangs answers: true, whatever the window, the numbers and the place. Conditions: the table of traits holds what its text lays; the numbers have 64 bits; no more numbers than fit into a machine. A window beside four rows of numbers that a law makes, and whatever lies in blocks of a set B0. Conditions: the table of traits holds what its text lays; the rows have the window's width, at most 64.
-/
import Derived.Test.YtfamgaakcbinkaaDoorWnStands
import Derived.Test.YtfamgaakcbinkaaDoorCards
import Derived.Test.YtfamgaakcbinkaaDoorTie
import Derived.Test.YtfamgaakcbinkaaDoorPkC
import Derived.Deep.SlicePairs
import Derived.Deep.DeepHandedRow
import Derived.Deep.DeepWitnessRowRef
import Derived.Lib.LaidIn
import Derived.SevenTiedPlain
-- WnKeep
set_option maxRecDepth 100000
namespace Go.Proofs.YtfamgaakcbinkaaDoor.Wn
open Go.Proofs.YtfamgaakcbinkaaDoor.Sh Go.Proofs.YtfamgaakcbinkaaDoor.St Go.Proofs.YtfamgaakcbinkaaDoor.Fd
open Go.RowKit
set_option linter.unusedVariables false

theorem row_at {S : Nat → Prop} {w : World} {A : Option Addr} {c m : Nat} {rs : List (List Int)} (h : RwsIn S w (.slice A m c) rs) {k : Nat} {r : List Int} (hk : rs[k]? = some r) :
    ∃ b off B d, A = some ⟨b, off, none⟩ ∧ w.cell? ⟨b, off + k, none⟩ = some (.slice B r.length d) ∧ r.length ≤ d ∧ d ≤ maxLen ∧ SInts S w B r := by
  obtain ⟨A', c', vs, e, h1, h2, h3, h4, h5⟩ := h
  injection e with e1 e2 e3
  subst e1
  obtain ⟨B, d, k1, k2, k3, k4⟩ := h5 k r hk
  obtain ⟨b, off, rfl, _, _, hc⟩ := h4.one k1
  exact ⟨b, off, B, d, rfl, hc, k2, k3, k4⟩
def GreatB (rs : List (List Int)) (w : World) (e : Ending) (w' : World) : Prop := ∃ b, e = .returned (.bool b) ∧ (b = false → rs.length ≤ 60 ∧ ∀ r ∈ rs, r.length ≤ 70) ∧ w = w'
set_option maxHeartbeats 2000000 in
theorem great_any (S : Nat → Prop) (A : Option Addr) (cA : Nat) (rs : List (List Int)) (w : World) (h : RwsIn S w (.slice A rs.length cA) rs) (hm : rs.length ≤ maxLen) (hmr : ∀ r ∈ rs, r.length ≤ maxLen) :
    Calls Tryd.prog 27 #[.slice A rs.length cA] w (GreatB rs w) := by
  unfold maxLen at hm hmr
  have HV := Lib.hid h
  have HM := Lib.hid hmr
  clear h hmr
  go_enter Tryd.func27, Tryd.ntmps27
  go_wp2
  go_loop [3] (fun i => ∃ k : Nat, k ≤ rs.length ∧ k ≤ 60 ∧ i = .int .i64 k ∧ Hid (∀ t r, t < k → rs[t]? = some r → r.length ≤ 70)) (fun i => rs.length - (intOf i).toNat)
  case atStart => exact ⟨0, Nat.zero_le _, Nat.zero_le _, rfl, Lib.hid (fun t r ht => by omega)⟩
  case round =>
    obtain ⟨k, hk, hk60, rfl, HP⟩ := hrel
    by_cases h1 : k < rs.length
    · have t1 : decide ((k : Int) < (rs.length : Int)) = true := decide_eq_true (by omega)
      by_cases h2 : k < 60
      · have t2 : decide ((k : Int) < (60 : Int)) = true := decide_eq_true (by omega)
        obtain ⟨r, hr⟩ : ∃ r, rs[k]? = some r := ⟨_, List.getElem?_eq_getElem h1⟩
        obtain ⟨b, off, B, d, rfl, q1, -, -, -⟩ := row_at HV.out hr
        have HK := Lib.hid hr
        have k0 : (0 : Int) ≤ (k : Int) := by omega
        have k1 : (k : Int) < (rs.length : Int) := by omega
        have hrm := HM.out r (List.mem_of_getElem? hr)
        clear hr
        by_cases h3 : r.length > 70
        · have t3 : decide ((r.length : Int) > (70 : Int)) = true := decide_eq_true (by omega)
          go_wp2
          go_ret
          exact ⟨true, rfl, (fun h => by cases h), rfl⟩
        · have t3 : decide ((r.length : Int) > (70 : Int)) = false := decide_eq_false (by omega)
          go_wp2
          go_round
          case rel => exact ⟨k + 1, by omega, by omega, by go_num, Lib.hid (fun t q ht hq => by
            rcases Nat.lt_or_ge t k with hlt | hge
            · exact HP.out t q hlt hq
            · obtain rfl : t = k := by omega
              rw [HK.out] at hq
              injection hq with hq
              subst hq
              omega)⟩
          case measure => simp [intOf]; omega
      · have t2 : decide ((k : Int) < (60 : Int)) = false := decide_eq_false (by omega)
        by_cases h4 : rs.length > 60
        · have t4 : decide ((rs.length : Int) > (60 : Int)) = true := decide_eq_true (by omega)
          go_wp2
          go_ret
          exact ⟨true, rfl, (fun h => by cases h), rfl⟩
        · omega
    · have t1 : decide ((k : Int) < (rs.length : Int)) = false := decide_eq_false (by omega)
      have h4 : ¬ rs.length > 60 := by omega
      have t4 : decide ((rs.length : Int) > (60 : Int)) = false := decide_eq_false (by omega)
      have hkl : k = rs.length := by omega
      have HF := Lib.hid (show rs.length ≤ 60 ∧ ∀ r ∈ rs, r.length ≤ 70 from ⟨by omega, fun r hr => by
        obtain ⟨t, ht⟩ := List.getElem?_of_mem hr
        exact HP.out t r (by have := (List.getElem?_eq_some_iff.1 ht).1; omega) ht⟩)
      go_wp2
      go_ret
      exact ⟨false, rfl, fun _ => HF.out, rfl⟩
/-- Rows that the law keeps: a row of its own, the rows' numbers where they came in. -/
def Xs (B0 : Nat) (w : World) (X : Value) (rs : List (List Int)) : Prop := ∃ vs, w.ownsRow B0 27 1 X rs.length vs ∧ ∀ (t : Nat) (r : List Int), rs[t]? = some r → ∃ (B : Option Addr) (d : Nat), vs[t]? = some (Value.slice B r.length d) ∧ r.length ≤ d ∧ d ≤ maxLen ∧ SInts (fun b => b < B0) w B r
section
variable {B0 : Nat} {w w' : World} {X X' : Value} {rs : List (List Int)} {T : Nat → Prop}
theorem Xs.none (B0 : Nat) (w : World) : Xs B0 w (.slice none 0 0) [] := ⟨[], World.ownsRow_nil _ _ _ _, fun t r h => by simp at h⟩
theorem Xs.turn (h : Xs B0 w X rs) (hb : Turn T w w') (hX : ∀ b, X.ownBlock = some b → ¬ T b) (hB : ∀ b, b < B0 → ¬ T b) : Xs B0 w' X rs := by
  obtain ⟨vs, h1, h2⟩ := h
  refine ⟨vs, own_turn h1 hb hX, fun t r hr => ?_⟩
  obtain ⟨B, d, k1, k2, k3, k4⟩ := h2 t r hr
  exact ⟨B, d, k1, k2, k3, Seq.turn k4 hb hB⟩
theorem Xs.next (h : Xs B0 w X rs) (hb : Below w.heap.size w w') : Xs B0 w' X rs := h.turn (Turn.of_below (fun _ => False) hb) (fun _ _ h => h) fun _ _ h => h
theorem Xs.base (h : Xs B0 w X rs) : ∀ b, X.ownBlock = some b → B0 ≤ b := by obtain ⟨vs, h1, _⟩ := h; exact own_base h1
theorem Xs.rows (h : Xs B0 w X rs) : ∃ A c, X = .slice A rs.length c ∧ RwsIn (fun _ => True) w (.slice A rs.length c) rs := by
  obtain ⟨vs, h1, h2⟩ := h
  obtain ⟨A, c, rfl, hn, hm, hs⟩ := own_seq h1 (by decide)
  refine ⟨A, c, rfl, A, c, vs, rfl, hn, hm, by simpa using h1.1, hs.mono fun _ _ => trivial, fun t r hr => ?_⟩
  obtain ⟨B, d, k1, k2, k3, k4⟩ := h2 t r hr
  exact ⟨B, d, k1, k2, k3, Seq.mono k4 fun _ _ => trivial⟩
theorem Xs.app {vs : List Value} {o : Obj} {B : Option Addr} {d : Nat} {r : List Int} (h1 : w.ownsRow B0 27 1 X rs.length vs) (h2 : ∀ (t : Nat) (r : List Int), rs[t]? = some r → ∃ (B : Option Addr) (d : Nat), vs[t]? = some (Value.slice B r.length d) ∧ r.length ≤ d ∧ d ≤ maxLen ∧ SInts (fun b => b < B0) w B r)
    (hi : SInts (fun b => b < B0) w B r) (hd : r.length ≤ d) (hd2 : d ≤ maxLen) (hv : w'.ownsRow B0 27 1 X' (rs.length + 1) (vs ++ [.slice B r.length d])) (hg : (w.alloc o).grownBy w' X.ownBlock) : Xs B0 w' X' (rs ++ [r]) := by
  have hvl : vs.length = rs.length := by simpa using h1.1
  have tn : Turn (fun b => X.ownBlock = some b) w w' := (Turn.of_below _ (below_new w o)).trans (Turn.of_grown hg fun g e => e)
  have hB : ∀ b, b < B0 → ¬ X.ownBlock = some b := fun b hb e => by have := own_base h1 b e; omega
  refine ⟨vs ++ [.slice B r.length d], by simpa using hv, fun t q hq => ?_⟩
  rcases Nat.lt_or_ge t rs.length with hlt | hge
  · rw [List.getElem?_append_left hlt] at hq
    obtain ⟨B', d', k1, k2, k3, k4⟩ := h2 t q hq
    exact ⟨B', d', by rw [List.getElem?_append_left (by omega)]; exact k1, k2, k3, Seq.turn k4 tn hB⟩
  · rw [List.getElem?_append_right hge] at hq
    have ht : t - rs.length = 0 := by
      have := (List.getElem?_eq_some_iff.1 hq).1
      simp at this; omega
    rw [ht] at hq
    simp at hq
    subst hq
    exact ⟨B, d, by rw [List.getElem?_append_right (by omega), hvl, ht]; rfl, hd, hd2, Seq.turn hi tn hB⟩
end
/-- A window to which the rows rs came, beside the rows xs that a law keeps in X. -/
def Kw (w1 w : World) (n₀ g : Nat) (V : Value) (c : Int) (s : Bool) (n : Nat) (Y : Nat → Value) (back look : Nat) (X : Value) (xs rs : List (List Int)) (told : Nat) (over : Bool) : Prop :=
  ∃ T, Wr n₀ w g V c s n Y T back look rs told over ∧ Xs n₀ w X xs ∧ (∀ b, X.ownBlock = some b → ¬ Tw g V n T b) ∧ (∀ r ∈ xs, r.length = n) ∧ (∀ r ∈ xs, AllR r) ∧ Below n₀ w1 w
section
variable {n₀ g n back look told : Nat} {c : Int} {s over : Bool} {V X X' : Value} {w0 w1 w w' : World} {Y : Nat → Value} {S : Nat → Prop} {xs rs : List (List Int)} {r : List Int}
theorem Kw.next (k : Kw w1 w n₀ g V c s n Y back look X xs rs told over) (hb : Below w.heap.size w w') : Kw w1 w' n₀ g V c s n Y back look X xs rs told over := by
  obtain ⟨T, d, x, a, h1, h2, h3⟩ := k
  exact ⟨T, d.next hb, x.next hb, a, h1, h2, h3.trans (hb.mono (by have := (d.lt g (.inl rfl)); omega))⟩
theorem Kw.b (k : Kw w1 w n₀ g V c s n Y back look X xs rs told over) : Below n₀ w1 w := by obtain ⟨T, d, x, a, h1, h2, h3⟩ := k; exact h3
theorem Kw.rows (k : Kw w1 w n₀ g V c s n Y back look X xs rs told over) : ∃ A e, X = .slice A xs.length e ∧ RwsIn (fun _ => True) w (.slice A xs.length e) xs ∧ (∀ r ∈ xs, r.length = n) ∧ ∀ r ∈ xs, AllR r := by
  obtain ⟨T, d, x, a, h1, h2, h3⟩ := k
  obtain ⟨A, e, rfl, hx⟩ := x.rows
  exact ⟨A, e, rfl, hx, h1, h2⟩
theorem Kw.kept (k : Kw w1 w n₀ g V c s n Y back look X xs rs told over) : ∃ vs, w.ownsRow n₀ 27 1 X xs.length vs ∧ ∀ (t : Nat) (r : List Int), xs[t]? = some r → ∃ (B : Option Addr) (d : Nat), vs[t]? = some (Value.slice B r.length d) ∧ r.length ≤ d ∧ d ≤ maxLen ∧ SInts (fun b => b < n₀) w B r := by
  obtain ⟨T, d, x, a, h1, h2, h3⟩ := k
  exact x
theorem Kw.tolds (k : Kw w1 w n₀ g V c s n Y back look X xs rs told over) : told ≤ rs.length ∧ rs.length ≤ told + look := by
  obtain ⟨T, d, x, a, h1, h2, h3⟩ := k
  exact d.2
theorem Kw.new {T : Nat → Nat → Prop} (d : Win n₀ w g V c s (back + look + 1) n Y 0 (fun _ => []) T back look 0 0 false) (hb : Below n₀ w1 w) : Kw w1 w n₀ g V c s n Y back look (.slice none 0 0) [] [] 0 false :=
  ⟨T, new_w d, Xs.none _ _, fun b h => by simp [Value.ownBlock] at h, fun r h => by simp at h, fun r h => by simp at h, hb⟩
theorem Kw.app {vs : List Value} {o : Obj} {B : Option Addr} {d : Nat} (k : Kw w1 w n₀ g V c s n Y back look X xs rs told over) (h1 : w.ownsRow n₀ 27 1 X xs.length vs) (h2 : ∀ (t : Nat) (r : List Int), xs[t]? = some r → ∃ (B : Option Addr) (d : Nat), vs[t]? = some (Value.slice B r.length d) ∧ r.length ≤ d ∧ d ≤ maxLen ∧ SInts (fun b => b < n₀) w B r)
    (hi : SInts (fun b => b < n₀) w B r) (hd : r.length ≤ d) (hd2 : d ≤ maxLen) (hr : r.length = n) (hR : AllR r) (hv : w'.ownsRow n₀ 27 1 X' (xs.length + 1) (vs ++ [.slice B r.length d])) (hg : (w.alloc o).grownBy w' X.ownBlock) (ha : X'.ownBlock = X.ownBlock ∨ X'.ownBlock = some (w.alloc o).heap.size) :
    Kw w1 w' n₀ g V c s n Y back look X' (xs ++ [r]) rs told over := by
  obtain ⟨T, d', x, a, k1, k2, k3⟩ := k
  have tn : Turn (fun b => X.ownBlock = some b) w w' := (Turn.of_below _ (below_new w o)).trans (Turn.of_grown hg fun g e => e)
  have lS : ∀ b, X.ownBlock = some b → n₀ ≤ b := fun b hb => own_base h1 b hb
  have nS : NF w (fun b => X.ownBlock = some b) := fun b hb cs hk => own_bk_ne (t := 23) h1 hk (by decide) hb.symm
  refine ⟨T, d'.turn tn (fun b hb e => a b e hb) nS lS, Xs.app h1 h2 hi hd hd2 hv hg, fun b hb ht => ?_, fun q hq => ?_, fun q hq => ?_, k3.trans (tn.below (by have := (d'.lt g (.inl rfl)); omega) lS)⟩
  · rcases ha with e | e
    · exact a b (e.symm.trans hb) ht
    · rw [e] at hb
      injection hb with hb
      have := (d'.lt b ht).1
      simp at hb
      omega
  · rcases List.mem_append.1 hq with h | h
    · exact k1 q h
    · simp at h; subst h; exact hr
  · rcases List.mem_append.1 hq with h | h
    · exact k2 q h
    · simp at h; subst h; exact hR
/-- A deed on the window is done. -/
theorem kw_deed {T T' : Nat → Nat → Prop} {rs' : List (List Int)} {told' : Nat} {over' : Bool} (d : Wr n₀ w g V c s n Y T back look rs told over) (x : Xs n₀ w X xs) (a : ∀ b, X.ownBlock = some b → ¬ Tw g V n T b) (h1 : ∀ r ∈ xs, r.length = n) (h2 : ∀ r ∈ xs, AllR r) (h3 : Below n₀ w1 w)
    (d' : Wr n₀ w' g V c s n Y T' back look rs' told' over') (t : Turn (Tw g V n T) w w') (f : ∀ b, All n T' b → All n T b ∨ w.heap.size ≤ b) : Kw w1 w' n₀ g V c s n Y back look X xs rs' told' over' := by
  have hlt : ∀ b, X.ownBlock = some b → b < w.heap.size := by obtain ⟨vs, o1, _⟩ := x; exact own_lt o1
  refine ⟨T', d', x.turn t a (fun b hb hb2 => by have := (d.lt b hb2).2; omega), fun b hb ht => ?_, h1, h2, h3.trans (t.below (by have := (d.lt g (.inl rfl)); omega) fun b hb => (d.lt b hb).2)⟩
  rcases ht with h | h | h
  · exact a b hb (.inl h)
  · exact a b hb (.inr (.inl h))
  · rcases f b h with k | k
    · exact a b hb (.inr (.inr k))
    · have := hlt b hb; omega
end
/-- What a push of a row leaves, an answer told. -/
def RetK (w1 : World) (n₀ g : Nat) (V : Value) (c : Int) (s : Bool) (n : Nat) (Y : Nat → Value) (back look : Nat) (X : Value) (xs rs : List (List Int)) (told : Nat) (over : Bool) (t : List Int) (f : Value → Value) (w : World) (e : Ending) (w' : World) : Prop :=
  ∃ A cap, e = .returned (f (.slice A t.length cap)) ∧ MineT 2 w' w.heap.size (.slice A t.length cap) t ∧ Kw w1 w' n₀ g V c s n Y back look X xs rs told over
section
variable (w1 w0 w : World) (n₀ g : Nat) (V : Value) (c : Int) (s : Bool) (n : Nat) (Y : Nat → Value) (back look : Nat) (X : Value) (xs rs : List (List Int)) (told : Nat)
theorem push_k_wait (S : Nat → Prop) (B : Option Addr) (cap : Nat) (r : List Int) (k : Kw w1 w0 n₀ g V c s n Y back look X xs rs told false) (hb : Below w0.heap.size w0 w) (hi : SInts S w B r) (hS : ∀ b, S b → b < w.heap.size ∧ (b < n₀ ∨ w0.heap.size ≤ b)) (hr : r.length = n) (hR : AllR r) (hn : n ≤ 64) (hq : rs.length ≤ 900) (hd : rs.length < told + look) :
    Calls Tryd.prog 28 #[.pointer (some ⟨g, 0, none⟩), .slice B n cap] w fun e w' => e = .returned (.tuple #[.slice none 0 0, .bool false, .int .i64 0]) ∧ Kw w1 w' n₀ g V c s n Y back look X xs (rs ++ [r]) told false := by
  obtain ⟨T, d0, x, a, h1, h2, h3⟩ := k
  have d := d0.next hb
  have hg := (d0.lt g (.inl rfl))
  refine (push_w_wait n₀ g V c s n Y T back look rs told S B cap r w d hi (fun b h => ⟨(hS b h).1, fun ht => by have := d0.lt b ht; have := (hS b h).2; omega⟩) hr hR hn hq hd).mono ?_
  rintro e w' ⟨rfl, T', d', t', f'⟩
  exact ⟨rfl, kw_deed d (x.next hb) a h1 h2 (h3.trans (hb.mono (by omega))) d' t' f'⟩
theorem push_k_due (S : Nat → Prop) (B : Option Addr) (cap : Nat) (r : List Int) (k : Kw w1 w0 n₀ g V c s n Y back look X xs rs told false) (hb : Below w0.heap.size w0 w) (hi : SInts S w B r) (hS : ∀ b, S b → b < w.heap.size ∧ (b < n₀ ∨ w0.heap.size ≤ b)) (hr : r.length = n) (hR : AllR r) (hn : n ≤ 64) (hq : rs.length ≤ 900) (hd : rs.length = told + look) (h2 : Sc.hasB c 2 = true) (t : List Int) (ht : ansI c s n ((rs ++ [r]).drop (told - back)) = t) :
    Calls Tryd.prog 28 #[.pointer (some ⟨g, 0, none⟩), .slice B n cap] w (RetK w1 n₀ g V c s n Y back look X xs (rs ++ [r]) (told + 1) false t (fun v => .tuple #[v, .bool true, .int .i64 0]) w) := by
  obtain ⟨T, d0, x, a, h1, h4, h3⟩ := k
  have d := d0.next hb
  have hg := (d0.lt g (.inl rfl))
  refine (push_w_due n₀ g V c s n Y T back look rs told S B cap r w d hi (fun b h => ⟨(hS b h).1, fun ht => by have := d0.lt b ht; have := (hS b h).2; omega⟩) hr hR h2 hn hq hd t ht).mono ?_
  rintro e w' ⟨A, c', rfl, hm, T', d', t', f', ap⟩
  exact ⟨A, c', rfl, hm, kw_deed d (x.next hb) a h1 h4 (h3.trans (hb.mono (by omega))) d' t' f'⟩
theorem drain_k_some (over : Bool) (k : Kw w1 w n₀ g V c s n Y back look X xs rs told over) (h2 : Sc.hasB c 2 = true) (hn : n ≤ 64) (hq : rs.length ≤ 900) (hd : told < rs.length) (t : List Int) (ht : ansI c s n (rs.drop (told - back)) = t) :
    Calls Tryd.prog 32 #[.pointer (some ⟨g, 0, none⟩)] w (RetK w1 n₀ g V c s n Y back look X xs rs (told + 1) true t (fun v => .tuple #[v, .bool true]) w) := by
  obtain ⟨T, d, x, a, h1, h4, h3⟩ := k
  refine (drain_w_some n₀ g V c s n Y T back look rs told over w d h2 hn hq hd t ht).mono ?_
  rintro e w' ⟨A, c', rfl, hm, T', d', t', f', ap⟩
  exact ⟨A, c', rfl, hm, kw_deed d x a h1 h4 h3 d' t' f'⟩
theorem drain_k_none (over : Bool) (k : Kw w1 w n₀ g V c s n Y back look X xs rs told over) (hd : told = rs.length) :
    Calls Tryd.prog 32 #[.pointer (some ⟨g, 0, none⟩)] w fun e w' => e = .returned (.tuple #[.slice none 0 0, .bool false]) ∧ Kw w1 w' n₀ g V c s n Y back look X xs rs told true := by
  obtain ⟨T, d, x, a, h1, h4, h3⟩ := k
  refine (drain_w_none n₀ g V c s n Y T back look rs told over w d hd).mono ?_
  rintro e w' ⟨rfl, d', t'⟩
  exact ⟨rfl, kw_deed d x a h1 h4 h3 d' (t'.mono fun b k => .inl k) fun b hb => .inl hb⟩
theorem push_k_over (A : Option Addr) (m cap : Nat) (k : Kw w1 w n₀ g V c s n Y back look X xs rs told true) :
    Calls Tryd.prog 28 #[.pointer (some ⟨g, 0, none⟩), .slice A m cap] w fun e w' => e = .returned (.tuple #[.slice none 0 0, .bool false, .int .i64 21]) ∧ w = w' := by
  obtain ⟨T, d, x, a, h1, h4, h3⟩ := k
  exact push_over n₀ g V c s (back + look + 1) n Y rs.length (held rs (gone told back)) T back look rs.length told A m cap w d.1
theorem push_k_len (A : Option Addr) (m cap : Nat) (k : Kw w1 w n₀ g V c s n Y back look X xs rs told false) (hm : ¬ m = n) :
    Calls Tryd.prog 28 #[.pointer (some ⟨g, 0, none⟩), .slice A m cap] w fun e w' => e = .returned (.tuple #[.slice none 0 0, .bool false, .int .i64 3]) ∧ w = w' := by
  obtain ⟨T, d, x, a, h1, h4, h3⟩ := k
  exact push_len n₀ g V c s (back + look + 1) n Y rs.length (held rs (gone told back)) T back look rs.length told A m cap w d.1 hm
theorem stands_k (over : Bool) (A : Option Addr) (cA m : Nat) (k : Kw w1 w n₀ g V c s n Y back look (.slice A m cA) rs rs told over) (hn : n ≤ 64) (hr : m ≤ 100) (hb : back ≤ 31) :
    Calls Tryd.prog 31 #[.pointer (some ⟨g, 0, none⟩), .agg #[.int .i64 c, .bool s, .int .i64 (back : Nat), .int .i64 (look : Nat), .int .i64 (n : Nat)], .slice A m cA, .int .i64 (told : Nat)] w fun e w' => e = .returned (.bool true) ∧ Below w.heap.size w w' := by
  obtain ⟨A', c', e, h1, h2, h3⟩ := k.rows
  injection e with e1 e2 e3
  subst e1 e2 e3
  obtain ⟨T, d, x, a, k1, k4, k3⟩ := k
  exact stands_any n₀ g V c s n Y T back look rs told over (fun _ => True) A cA w d h1 h2 hn hr hb
theorem ranswer_k (over : Bool) (A : Option Addr) (cA m : Nat) (k : Kw w1 w n₀ g V c s n Y back look (.slice A m cA) xs rs told over) (hn : n ≤ 64) (hr : m ≤ 100) (e : Nat) (he : e ≤ m) (hb : back ≤ 31) (hl : look ≤ 31) (hel : m ≤ e + look + 1) (t : List Int) (ht : ansI c s n (xs.drop (e - back)) = t) :
    Calls Tryd.prog 30 #[.agg #[.int .i64 c, .bool s], .slice A m cA, .int .i64 (n : Nat), .int .i64 (e : Nat), .int .i64 (back : Nat), .int .i64 (look : Nat)] w (RetL t w) := by
  obtain ⟨A', c', e', h1, h2, h3⟩ := k.rows
  injection e' with e1 e2 e3
  subst e1 e2 e3
  have h := ranswer_any c s (fun _ => True) A cA xs n e back look w h1 h2 h3 hn hr (by omega) hb hl
  rw [show cut xs (e - back) (e + look) = xs.drop (e - back) by unfold cut; rw [List.take_of_length_le (by omega)], ht] at h
  exact h
end
end Go.Proofs.YtfamgaakcbinkaaDoor.Wn
-- WnPlays
set_option maxRecDepth 100000
namespace Go.Proofs.YtfamgaakcbinkaaDoor.Wn
open Go.Proofs.YtfamgaakcbinkaaDoor.Sh Go.Proofs.YtfamgaakcbinkaaDoor.St Go.Proofs.YtfamgaakcbinkaaDoor.Fd
open Go.RowKit
set_option linter.unusedVariables false

theorem infoRw : (Tryd.prog.info? 27).map (fun i => (i.zero, i.size, i.bytes)) = some (some (.slice none 0 0), 1, 24) := by kernel_rfl
/-- The five cells of a window's terms. -/
theorem of_cells {w : World} {b : Nat} {c bk lk wd : Int} {s : Bool} (h : Bk 45 w b [.int .i64 c, .bool s, .int .i64 bk, .int .i64 lk, .int .i64 wd]) :
    w.cell? ⟨b, 0, none⟩ = some (.int .i64 c) ∧ w.cell? ⟨b, 1, none⟩ = some (.bool s) ∧ w.cell? ⟨b, 2, none⟩ = some (.int .i64 bk) ∧ w.cell? ⟨b, 3, none⟩ = some (.int .i64 lk) ∧ w.cell? ⟨b, 4, none⟩ = some (.int .i64 wd) := ⟨h.c 0, h.c 1, h.c 2, h.c 3, h.c 4⟩
/-- At the head of the loop over rows. -/
def PlayAt (w1 wr : World) (g : Nat) (V : Value) (c : Int) (s : Bool) (n : Nat) (Y : Nat → Value) (back look k : Nat) (X t : Value) : Prop :=
  ∃ rs, t = .int .i64 ((rs.length - look : Nat) : Int) ∧ Kw w1 wr w1.heap.size g V c s n Y back look X rs rs (rs.length - look) false ∧ rs.length ≤ k
/-- At the head of the loop over answers. -/
def DrainAt (w1 wr : World) (g : Nat) (V : Value) (c : Int) (s : Bool) (n : Nat) (Y : Nat → Value) (back look : Nat) (X : Value) (rs : List (List Int)) (told : Nat) : Prop :=
  ∃ over, Kw w1 wr w1.heap.size g V c s n Y back look X rs rs told over
set_option maxHeartbeats 8000000 in
theorem plays_yes (c : Int) (s : Bool) (n back look : Nat) (A : Option Addr) (cA : Nat) (ls : List (List Int)) (w : World) (h0 : 0 < w.heap.size) (hT : Sc.Tab w) (hV : RwsIn (fun b => b < w.heap.size) w (.slice A ls.length cA) ls) (hR : ∀ r ∈ ls, AllR r) (hml : ls.length ≤ maxLen) (hmr : ∀ r ∈ ls, r.length ≤ maxLen)
    (hn : n ≤ 64) (h2 : Sc.hasB c 2 = true) (hbl : back + look ≤ 31) (hw : whyW c (back : Nat) (look : Nat) (n : Nat) = 0) :
    Calls Tryd.prog 7 #[.agg #[.int .i64 c, .bool s, .int .i64 (back : Nat), .int .i64 (look : Nat), .int .i64 (n : Nat)], .slice A ls.length cA] w fun e w' => e = .returned (.bool true) ∧ Below w.heap.size w w' := by
  have b0 := below_new w (.cells #[.int .i64 c, .bool s, .int .i64 (back : Nat), .int .i64 (look : Nat), .int .i64 (n : Nat)] 45)
  have BN := Lib.hid (Bk.new 45 w [.int .i64 c, .bool s, .int .i64 (back : Nat), .int .i64 (look : Nat), .int .i64 (n : Nat)])
  have T1 := Lib.hid (hT.below b0)
  have V1 := Lib.hid ((hV.next b0).mono (S' := fun b => b < (w.alloc (.cells #[.int .i64 c, .bool s, .int .i64 (back : Nat), .int .i64 (look : Nat), .int .i64 (n : Nat)] 45)).heap.size) fun b hb => by simp; omega)
  have L0 := Lib.hid b0
  have H0 := Lib.hid (Nat.lt_of_lt_of_le h0 b0.size)
  have HR := Lib.hid hR
  have H2 := Lib.hid h2
  have HMR := Lib.hid hmr
  unfold maxLen at hml
  clear b0 h0 hT hV hR h2 hmr
  obtain ⟨x0, x1, x2, x3, x4⟩ := of_cells BN.out
  go_enter Tryd.func7, Tryd.ntmps7
  go_wp2_with fail
  generalize hW1 : w.alloc (.cells #[.int .i64 c, .bool s, .int .i64 (back : Nat), .int .i64 (look : Nat), .int .i64 (n : Nat)] 45) = w1 at *
  clear hW1
  refine (new_yes c s n back look w1 H0.out T1.out hn H2.out hbl).mono ?_
  rintro r w2 ⟨g, V, Y, T, rfl, d2, hb2⟩
  have K2 := Lib.hid (Kw.new d2 hb2)
  have L2 := Lib.hid hb2
  have MY := rmay_any c s (back : Nat) (look : Nat) (n : Nat) w2
  rw [hw] at MY
  have MYH := Lib.hid MY
  obtain ⟨y0, y1, y2, y3, y4⟩ := of_cells (BN.out.next hb2)
  clear d2 hb2 x0 x1 x2 x3 x4 MY hw
  go_wp2_with fail
  refine MYH.out.mono ?_
  rintro r w3 ⟨rfl, hb3⟩
  have K3 := Lib.hid (K2.out.next hb3)
  have L3 := Lib.hid (below_next L2.out hb3)
  have V3 := Lib.hid (V1.out.next L3.out)
  have B3 := Lib.hid (BN.out.next L3.out)
  have T3 := Lib.hid (T1.out.below L3.out)
  obtain ⟨x0, x1, x2, x3, x4⟩ := of_cells B3.out
  have WA := Lib.hid (fun W (h : Below w3.heap.size w3 W) => way_any c s W (T3.out.below h))
  have RA := Lib.hid (fun W => rway_any c s W)
  clear hb3 y0 y1 y2 y3 y4 K2 L2
  have S0 := Lib.hid (show w3.drew.cell? ⟨w.heap.size, 0, none⟩ = some (.int .i64 c) ∧ w3.drew.cell? ⟨w.heap.size, 1, none⟩ = some (.bool s) from ⟨B3.out.c 0, B3.out.c 1⟩)
  go_upto_region 5 with (fail)
  go_cut [70] (fun v wx => v = .bool false ∧ Hid (Below w3.heap.size w3 wx))
  case first =>
    go_region_held3 (fun w' => w'.cell? ⟨w.heap.size, 0, none⟩ = some (.int .i64 c) ∧ w'.cell? ⟨w.heap.size, 1, none⟩ = some (.bool s))
      (first
        | with_reducible exact KK.out
        | with_reducible exact S0.out
        | go_keep)
      (first
        | (go_at_call 25; (with_reducible refine (WA.out _ (Below.refl w3.heap.size w3).drew).mono ?_); rintro r w4 ⟨rfl, hb4⟩; have L4 := Lib.hid (below_next (Below.refl w3.heap.size w3).drew hb4); have X4 := Lib.hid (B3.out.next L4.out); have KK := Lib.hid (show w4.cell? ⟨w.heap.size, 0, none⟩ = some (.int .i64 c) ∧ w4.cell? ⟨w.heap.size, 1, none⟩ = some (.bool s) from ⟨X4.out.c 0, X4.out.c 1⟩); clear hb4)
        | (go_at_call 26; (with_reducible refine (RA.out w4).mono ?_); rintro r w5 ⟨rfl, hb5⟩; have L5 := Lib.hid (below_next L4.out hb5); have X5 := Lib.hid (B3.out.next L5.out); have KK := Lib.hid (show w5.cell? ⟨w.heap.size, 0, none⟩ = some (.int .i64 c) ∧ w5.cell? ⟨w.heap.size, 1, none⟩ = some (.bool s) from ⟨X5.out.c 0, X5.out.c 1⟩); clear hb5))
    all_goals
      go_wp2_with fail
      go_meet
      exact ⟨by simp, L5⟩
  case rest =>
    obtain ⟨rfl, L5⟩ := hcut
    have K5 := Lib.hid (K3.out.next L5.out)
    have V5 := Lib.hid (V3.out.next L5.out)
    clear x0 x1 x2 x3 x4 WA RA S0 MYH K3 V3 B3 T3
    generalize hwx : wc = w5 at *
    clear hwx
    go_wp2_with fail
    refine (great_any _ A cA ls w5 V5.out (by unfold maxLen; omega) HMR.out).mono ?_
    rintro r w6 ⟨b, rfl, hg, rfl⟩
    have L6 := Lib.hid (below_next L3.out L5.out)
    cases b with
    | true =>
      clear hg
      go_wp2_with fail
      refine (lives_any w5 (T1.out.below L6.out) (Nat.lt_of_lt_of_le H0.out L6.out.size)).mono ?_
      rintro r w7 ⟨rfl, hb7⟩
      have L7 := Lib.hid (below_next (below_next L0.out L6.out) hb7)
      clear hb7
      go_wp2
      go_ret
      exact ⟨rfl, L7.out⟩
    | false =>
      obtain ⟨g1, g2⟩ := hg rfl
      have G2 := Lib.hid g2
      have PA : Hid (PlayAt w1 w5 g V c s n Y back look 0 (.slice none 0 0) (.int .i64 0)) := Lib.hid ⟨[], by simp, by simpa using K5.out, by simp⟩
      clear hg g2 K5 L3 L5 L6
      go_wp2
      go_loopw [8, 9, 76] (fun s8 s9 i wr => ∃ (k : Nat) (X t : Value), X = s8 ∧ t = s9 ∧ k ≤ ls.length ∧ i = .int .i64 k ∧ Hid (PlayAt w1 wr g V c s n Y back look k X t)) (fun _ _ i _ => ls.length - (intOf i).toNat)
      case atStart => exact ⟨0, _, _, rfl, rfl, Nat.zero_le _, rfl, PA⟩
      case round =>
        obtain ⟨k, X, t, rfl, rfl, hk, rfl, HP⟩ := hrel
        by_cases hlt : k < ls.length
        · obtain ⟨rs, rfl, p2, p3⟩ := HP.out
          obtain ⟨r, hr⟩ : ∃ r, ls[k]? = some r := ⟨_, List.getElem?_eq_getElem hlt⟩
          have hmem := List.mem_of_getElem? hr
          have hrR := Lib.hid (HR.out r hmem)
          have hrl := G2.out r hmem
          have i1 : (k : Int) < (ls.length : Int) := by omega
          have i0 : (0 : Int) ≤ (k : Int) := by omega
          obtain ⟨b, off, B, d, rfl, q1, q2, q3, q4⟩ := row_at (V1.out.next p2.b) hr
          have hbn := q4
          have Q2 := Lib.hid q2
          have Q3 := Lib.hid q3
          have Q4 : Hid (SInts (fun b => b < w1.heap.size) w1 B r) := Lib.hid (by
            obtain ⟨b', off', B', d', e', q1', q2', q3', q4'⟩ := row_at V1.out hr
            injection e' with e'
            injection e' with e1' e2'
            subst e1' e2'
            have hc := q1'
            have hl1 := World.block_lt_of_cell? _ _ q1'
            rw [← p2.b.cell (p := ⟨b, off + k, none⟩) hl1, q1] at hc
            injection hc with hc
            injection hc with hc1 hc2 hc3
            subst hc1
            exact q4')
          have hbs : Hid (∀ b, b < w1.heap.size → b < wr.heap.size ∧ (b < w1.heap.size ∨ wr.heap.size ≤ b)) := Lib.hid fun b hb => ⟨Nat.lt_of_lt_of_le hb p2.b.size, .inl hb⟩
          have P2 := Lib.hid p2
          have HQ4 := Lib.hid q4
          obtain ⟨told, htd⟩ : ∃ told, rs.length - look = told := ⟨_, rfl⟩
          rw [htd] at P2
          have HTD := Lib.hid htd
          have ht6 : told ≤ 100 := by omega
          obtain ⟨m, hm⟩ : ∃ m, rs.length + 1 = m := ⟨_, rfl⟩
          have HM := Lib.hid hm
          have hm6 : m ≤ 100 := by omega
          have TN : Hid (rs.length + 1 ≤ 100000) := Lib.hid (by omega)
          have HP3 := Lib.hid p3
          clear hr hmem p2 q2 q3 q4 hbn HP PA
          by_cases hrn : r.length = n
          · have HRN := Lib.hid hrn
            rw [hrn] at q1
            by_cases hd : rs.length < look
            · have tD : decide (look < m) = false := decide_eq_false (by omega)
              have PU := Lib.hid (push_k_wait w1 wr wr w1.heap.size g V c s n Y back look X rs rs told (fun b => b < w1.heap.size) B d r P2.out (Below.refl _ _) HQ4.out hbs.out hrn hrR.out hn (by omega) (by omega))
              have HNX : Hid ((rs ++ [r]).length - look = told) := Lib.hid (by simp; omega)
              rw [htd]
              clear hrn hd htd hm
              go_wp2_with fail
              refine PU.out.mono ?_
              rintro r' w5 ⟨rfl, k5⟩
              obtain ⟨vs, o1, o2⟩ := k5.kept
              have O1 := Lib.hid o1
              have O2 := Lib.hid o2
              have O6 := Lib.hid (World.ownsRow.alloc o1 (.cells #[.slice B n d] 27))
              have L6 := Lib.hid (Nat.le_trans k5.b.size (below_new w5 (.cells #[.slice B n d] 27)).size)
              have Q5 := Lib.hid (Q4.out.next (show Below w1.heap.size w1 w5 from k5.b))
              obtain ⟨x0, x1, x2, x3, x4⟩ := of_cells (BN.out.next k5.b)
              have K5 := Lib.hid k5
              clear k5 o1 o2 PU
              go_wp2_with (at_builtin; refine wpList_appS infoRw rfl (by decide) (by decide) Tryd.underlying46 rfl (.tmp 102) (.tmp 104) rfl w1.heap.size _ rs.length vs rfl O6.out (fun _ => True) _ 1 1 [Value.slice B n d] rfl rfl (seq1 _ _ _) (one_sl _ _ _) TN.out L6.out ?_; intro v7 w7 hv7 hg7 ha7; have k7 := Kw.app K5.out O1.out O2.out Q5.out Q2.out Q3.out HRN.out hrR.out (by rw [HRN.out]; exact hv7) hg7 ha7; rw [HM.out] at hv7; obtain ⟨A7, c7, rfl, -⟩ := own_seq hv7 (by decide); have K7 := Lib.hid k7; obtain ⟨x0, x1, x2, x3, x4⟩ := of_cells (BN.out.next k7.b); clear hv7 hg7 ha7 k7)
              have ST := Lib.hid (stands_k w1 w7 w1.heap.size g V c s n Y back look (rs ++ [r]) told false A7 c7 m K7.out hn hm6 (by omega))
              go_wp2_with fail
              refine ST.out.mono ?_
              rintro r' w8 ⟨rfl, hb8⟩
              have PA : Hid (PlayAt w1 w8 g V c s n Y back look (k + 1) (.slice A7 m c7) (.int .i64 (told : Nat))) := Lib.hid ⟨rs ++ [r], by rw [HNX.out], by rw [HNX.out]; exact K7.out.next hb8, by simp; have := HP3.out; omega⟩
              clear hb8
              go_wp2
              exact ⟨⟨k + 1, _, _, rfl, rfl, by omega, by go_num, PA⟩, by simp [intOf]; omega⟩
            · have tD : decide (look < m) = true := decide_eq_true (by omega)
              obtain ⟨v, hv⟩ : ∃ v, ansI c s n ((rs ++ [r]).drop (told - back)) = v := ⟨_, rfl⟩
              have HVL := Lib.hid (show v.length = n by rw [← hv, ansI_len])
              have HV := Lib.hid hv
              have PU := Lib.hid (push_k_due w1 wr wr w1.heap.size g V c s n Y back look X rs rs told (fun b => b < w1.heap.size) B d r P2.out (Below.refl _ _) HQ4.out hbs.out hrn hrR.out hn (by omega) (by omega) H2.out v hv)
              have XL : Hid (∀ b, X.ownBlock = some b → b < wr.heap.size) := Lib.hid (by obtain ⟨vs, o1, _⟩ := P2.out.kept; exact own_lt o1)
              have HNX : Hid ((rs ++ [r]).length - look = told + 1) := Lib.hid (by simp; omega)
              have HMT : Hid (m ≤ told + look + 1 ∧ told ≤ m) := Lib.hid (by omega)
              rw [htd]
              clear hrn hd htd hm hv
              go_wp2_with fail
              refine PU.out.mono ?_
              rintro r' w5 ⟨A5, c5, rfl, m5, k5⟩
              have M5 := Lib.hid m5
              clear m5
              obtain ⟨vs, o1, o2⟩ := k5.kept
              have O1 := Lib.hid o1
              have O2 := Lib.hid o2
              have O6 := Lib.hid (World.ownsRow.alloc o1 (.cells #[.slice B n d] 27))
              have L6 := Lib.hid (Nat.le_trans k5.b.size (below_new w5 (.cells #[.slice B n d] 27)).size)
              have Q5 := Lib.hid (Q4.out.next (show Below w1.heap.size w1 w5 from k5.b))
              obtain ⟨x0, x1, x2, x3, x4⟩ := of_cells (BN.out.next k5.b)
              have K5 := Lib.hid k5
              clear k5 o1 o2 PU
              go_wp2_with (at_builtin; refine wpList_appS infoRw rfl (by decide) (by decide) Tryd.underlying46 rfl (.tmp 102) (.tmp 104) rfl w1.heap.size _ rs.length vs rfl O6.out (fun _ => True) _ 1 1 [Value.slice B n d] rfl rfl (seq1 _ _ _) (one_sl _ _ _) TN.out L6.out ?_; intro v7 w7 hv7 hg7 ha7; have k7 := Kw.app K5.out O1.out O2.out Q5.out Q2.out Q3.out HRN.out hrR.out (by rw [HRN.out]; exact hv7) hg7 ha7; have M7 := Lib.hid (own_turn M5.out ((Turn.of_below (fun b => X.ownBlock = some b) (below_new w5 _)).trans (Turn.of_grown hg7 fun g e => e)) (fun b hb hX => by have h1 := own_base M5.out b hb; have h2 := XL.out b hX; omega)); rw [HM.out] at hv7; obtain ⟨A7, c7, rfl, -⟩ := own_seq hv7 (by decide); have K7 := Lib.hid k7; obtain ⟨x0, x1, x2, x3, x4⟩ := of_cells (BN.out.next k7.b); clear hv7 hg7 ha7 k7)
              have AN := Lib.hid (ranswer_k w1 w7 w1.heap.size g V c s n Y back look (rs ++ [r]) (rs ++ [r]) (told + 1) false A7 c7 m K7.out hn hm6 told HMT.out.2 (by omega) (by omega) (by have := HMT.out.1; omega) v HV.out)
              go_wp2_with fail
              refine AN.out.mono ?_
              rintro r' w8 ⟨A8, c8, rfl, m8, hb8⟩
              have K8 := Lib.hid (K7.out.next hb8)
              have NM := Lib.hid (nums_same A5 c5 v A8 c8 w8 (by unfold maxLen; have := HVL.out; omega) (MineT.ints' (own_below M7.out hb8)) m8.ints')
              clear m8 hb8 AN x0 x1 x2 x3 x4
              go_wp2_with fail
              refine NM.out.mono ?_
              rintro r' w9 ⟨rfl, hb9⟩
              have K9 := Lib.hid (K8.out.next hb9)
              obtain ⟨x0, x1, x2, x3, x4⟩ := of_cells (BN.out.next K9.out.b)
              have ST := stands_k w1 w9 w1.heap.size g V c s n Y back look (rs ++ [r]) (told + 1) false A7 c7 m K9.out hn hm6 (by omega)
              rw [show ((told + 1 : Nat) : Int) = (told : Int) + 1 by omega] at ST
              have STH := Lib.hid ST
              clear hb9 ST NM
              go_wp2_with fail
              refine STH.out.mono ?_
              rintro r' w10 ⟨rfl, hb10⟩
              have PA : Hid (PlayAt w1 w10 g V c s n Y back look (k + 1) (.slice A7 m c7) (.int .i64 ((told : Int) + 1))) := Lib.hid ⟨rs ++ [r], by rw [HNX.out]; simp, by rw [HNX.out]; exact K9.out.next hb10, by simp; have := HP3.out; omega⟩
              clear hb10
              go_wp2
              exact ⟨⟨k + 1, _, _, rfl, rfl, by omega, by go_num, PA⟩, by simp [intOf]; omega⟩
          · have e1 : ((r.length : Int) != (n : Int)) = true := by simp; omega
            have PU := Lib.hid (push_k_len w1 wr w1.heap.size g V c s n Y back look X rs rs told B r.length d P2.out hrn)
            obtain ⟨x0, x1, x2, x3, x4⟩ := of_cells (BN.out.next P2.out.b)
            have PA : Hid (PlayAt w1 wr g V c s n Y back look (k + 1) X (.int .i64 (told : Nat))) := Lib.hid ⟨rs, by rw [htd], by rw [htd]; exact P2.out, by omega⟩
            rw [htd]
            clear hrn htd hm
            go_wp2_with fail
            refine PU.out.mono ?_
            rintro r' w5 ⟨rfl, rfl⟩
            go_wp2
            exact ⟨⟨k + 1, _, _, rfl, rfl, by omega, by go_num, PA⟩, by simp [intOf]; omega⟩
        · obtain rfl : k = ls.length := by omega
          obtain ⟨rs, rfl, p2, p3⟩ := HP.out
          obtain ⟨A7, c7, rfl, -⟩ := p2.rows
          have hm6 : rs.length ≤ 100 := by omega
          obtain ⟨told, htd⟩ : ∃ told, rs.length - look = told := ⟨_, rfl⟩
          have hmk := fun W => run_make_row' (P := Tryd.prog) 27 2 (.int .i64 0) 8 Tryd.underlying27 numL rfl .i64 .i64 n (by omega) (by omega) W
          rw [htd] at p2
          rw [htd]
          have PB : Hid (DrainAt w1 wr g V c s n Y back look (.slice A7 rs.length c7) rs told) := Lib.hid ⟨_, p2⟩
          clear p2 p3 HP PA htd
          go_wp2
          go_loopw [9] (fun s9 wr' => ∃ told : Nat, s9 = .int .i64 (told : Nat) ∧ Hid (DrainAt w1 wr' g V c s n Y back look (.slice A7 rs.length c7) rs told)) (fun s9 _ => rs.length - (intOf s9).toNat)
          case atStart => exact ⟨told, rfl, PB⟩
          case round =>
            obtain ⟨told, rfl, HD⟩ := hrel
            obtain ⟨over, kd⟩ := HD.out
            have htt := kd.tolds
            obtain ⟨x0, x1, x2, x3, x4⟩ := of_cells (BN.out.next kd.b)
            have KD := Lib.hid kd
            clear kd HD PB
            by_cases hlt : told < rs.length
            · have i1 : decide ((told : Int) < (rs.length : Int)) = true := decide_eq_true (by omega)
              have i2 : decide (told < rs.length) = true := decide_eq_true hlt
              obtain ⟨v, hv⟩ : ∃ v, ansI c s n (rs.drop (told - back)) = v := ⟨_, rfl⟩
              have HVL := Lib.hid (show v.length = n by rw [← hv, ansI_len])
              have HV := Lib.hid hv
              have PU := Lib.hid (drain_k_some w1 wr w1.heap.size g V c s n Y back look (.slice A7 rs.length c7) rs rs told over KD.out H2.out hn (by omega) hlt v hv)
              clear hv x0 x1 x2 x3 x4
              go_wp2_with fail
              refine PU.out.mono ?_
              rintro r' w5 ⟨A5, c5, rfl, m5, k5⟩
              have M5 := Lib.hid m5
              obtain ⟨x0, x1, x2, x3, x4⟩ := of_cells (BN.out.next k5.b)
              have K7 := Lib.hid k5
              have AN := Lib.hid (ranswer_k w1 w5 w1.heap.size g V c s n Y back look rs rs (told + 1) true A7 c7 rs.length K7.out hn hm6 told htt.1 (by omega) (by omega) (by omega) v HV.out)
              clear m5 k5 PU
              go_wp2_with fail
              refine AN.out.mono ?_
              rintro r' w8 ⟨A8, c8, rfl, m8, hb8⟩
              have K8 := Lib.hid (K7.out.next hb8)
              have NM := Lib.hid (nums_same A5 c5 v A8 c8 w8 (by unfold maxLen; have := HVL.out; omega) (MineT.ints' (own_below M5.out hb8)) m8.ints')
              clear m8 hb8 AN x0 x1 x2 x3 x4
              go_wp2_with fail
              refine NM.out.mono ?_
              rintro r' w9 ⟨rfl, hb9⟩
              have K9 := Lib.hid (K8.out.next hb9)
              obtain ⟨x0, x1, x2, x3, x4⟩ := of_cells (BN.out.next K9.out.b)
              have ST := stands_k w1 w9 w1.heap.size g V c s n Y back look rs (told + 1) true A7 c7 rs.length K9.out hn hm6 (by omega)
              rw [show ((told + 1 : Nat) : Int) = (told : Int) + 1 by omega] at ST
              have STH := Lib.hid ST
              clear hb9 ST NM
              go_wp2_with fail
              refine STH.out.mono ?_
              rintro r' w10 ⟨rfl, hb10⟩
              have PB : Hid (DrainAt w1 w10 g V c s n Y back look (.slice A7 rs.length c7) rs (told + 1)) := Lib.hid ⟨_, K9.out.next hb10⟩
              clear hb10
              go_wp2
              exact ⟨⟨told + 1, by go_num, PB⟩, by simp [intOf]; omega⟩
            · obtain rfl : told = rs.length := by omega
              have PU := Lib.hid (drain_k_none w1 wr w1.heap.size g V c s n Y back look (.slice A7 rs.length c7) rs rs rs.length over KD.out rfl)
              clear htt x0 x1 x2 x3 x4
              go_wp2_with fail
              refine PU.out.mono ?_
              rintro r' w5 ⟨rfl, k5⟩
              obtain ⟨x0, x1, x2, x3, x4⟩ := of_cells (BN.out.next k5.b)
              have K6 := Lib.hid (k5.next (show Below w5.heap.size w5 (w5.alloc (.cells (madeCells #[Value.int .i64 0] n) 2)) from below_new _ _))
              have PV := Lib.hid (push_k_over w1 (w5.alloc (.cells (madeCells #[Value.int .i64 0] n) 2)) w1.heap.size g V c s n Y back look (.slice A7 rs.length c7) rs rs rs.length (some ⟨w5.heap.size, 0, none⟩) n n K6.out)
              clear k5 PU
              go_wp2_with fail
              refine PV.out.mono ?_
              rintro r' w7 ⟨rfl, rfl⟩
              have LV := Lib.hid (lives_any _ (T1.out.below K6.out.b) (Nat.lt_of_lt_of_le H0.out K6.out.b.size))
              go_wp2_with fail
              refine LV.out.mono ?_
              rintro r' w9 ⟨rfl, hb9⟩
              have L9 := Lib.hid (below_next (below_next L0.out K6.out.b) hb9)
              clear hb9
              go_wp2
              go_ret
              exact ⟨rfl, L9.out⟩
set_option maxHeartbeats 4000000 in
theorem plays_no (c : Int) (s : Bool) (bk lk wd : Int) (V : Value) (w : World) (h0 : 0 < w.heap.size) (hT : Sc.Tab w) (hbR : Sc.InR bk) (hw : whyW c bk lk wd ≠ 0) :
    Calls Tryd.prog 7 #[.agg #[.int .i64 c, .bool s, .int .i64 bk, .int .i64 lk, .int .i64 wd], V] w fun e w' => e = .returned (.bool true) ∧ Below w.heap.size w w' := by
  have b0 := below_new w (.cells #[.int .i64 c, .bool s, .int .i64 bk, .int .i64 lk, .int .i64 wd] 45)
  have BN := Lib.hid (Bk.new 45 w [.int .i64 c, .bool s, .int .i64 bk, .int .i64 lk, .int .i64 wd])
  have T1 := Lib.hid (hT.below b0)
  have L0 := Lib.hid b0
  have H0 := Lib.hid h0
  have NN := Lib.hid (fun W (h : Sc.Tab W) => new_no c s bk lk wd W h hbR hw)
  have MM := Lib.hid (fun W => rmay_any c s bk lk wd W)
  obtain ⟨y, hy⟩ : ∃ y, whyW c bk lk wd = y := ⟨_, rfl⟩
  rw [hy] at NN MM hw
  have e1 : (y != 0) = true := by simpa using hw
  clear b0 h0 hT hw hy hbR
  obtain ⟨x0, x1, x2, x3, x4⟩ := of_cells BN.out
  go_enter Tryd.func7, Tryd.ntmps7
  go_wp2_with fail
  refine (NN.out _ T1.out).mono ?_
  rintro r w2 ⟨rfl, hb2⟩
  have L2 := Lib.hid (below_next L0.out hb2)
  have T2 := Lib.hid (T1.out.below hb2)
  obtain ⟨y0, y1, y2, y3, y4⟩ := of_cells (BN.out.next hb2)
  clear hb2 x0 x1 x2 x3 x4
  go_wp2_with fail
  refine (MM.out _).mono ?_
  rintro r w3 ⟨rfl, hb3⟩
  have L3 := Lib.hid (below_next L2.out hb3)
  have T3 := Lib.hid (T2.out.below hb3)
  clear hb3 y0 y1 y2 y3 y4
  go_wp2_with fail
  refine (lives_any _ T3.out (Nat.lt_of_lt_of_le H0.out L3.out.size)).mono ?_
  rintro r w5 ⟨rfl, hb5⟩
  have L5 := Lib.hid (below_next L3.out hb5)
  clear hb5
  go_wp2
  go_ret
  exact ⟨rfl, L5.out⟩
theorem plays_any (c : Int) (s : Bool) (bk lk wd : Int) (A : Option Addr) (cA : Nat) (ls : List (List Int)) (w : World) (h0 : 0 < w.heap.size) (hT : Sc.Tab w) (hbR : Sc.InR bk) (hV : RwsIn (fun b => b < w.heap.size) w (.slice A ls.length cA) ls) (hR : ∀ r ∈ ls, AllR r) (hml : ls.length ≤ maxLen) (hmr : ∀ r ∈ ls, r.length ≤ maxLen) :
    Calls Tryd.prog 7 #[.agg #[.int .i64 c, .bool s, .int .i64 bk, .int .i64 lk, .int .i64 wd], .slice A ls.length cA] w fun e w' => e = .returned (.bool true) ∧ Below w.heap.size w w' := by
  by_cases hw : whyW c bk lk wd = 0
  · obtain ⟨h1, h2, h3, h4, h5, h6⟩ := why_yes hw
    obtain ⟨n, rfl⟩ : ∃ k : Nat, wd = k := ⟨wd.toNat, by omega⟩
    obtain ⟨back, rfl⟩ : ∃ k : Nat, bk = k := ⟨bk.toNat, by omega⟩
    obtain ⟨look, rfl⟩ : ∃ k : Nat, lk = k := ⟨lk.toNat, by omega⟩
    exact plays_yes c s n back look A cA ls w h0 hT hV hR hml hmr (by omega) h3 (by omega) hw
  · exact plays_no c s bk lk wd _ w h0 hT hbR hw
end Go.Proofs.YtfamgaakcbinkaaDoor.Wn
-- WnArg
set_option maxRecDepth 100000
namespace Go.Proofs.YtfamgaakcbinkaaDoor.Wn
open Go.Proofs.YtfamgaakcbinkaaDoor.Sh Go.Proofs.YtfamgaakcbinkaaDoor.St Go.Proofs.YtfamgaakcbinkaaDoor.Fd
open Go.Joins Go.ChangeShapes Go.WideShapes Go.ChangeAt Go.RowKit Go.Deep
set_option linter.unusedVariables false

theorem tab_met {W : World} (hL : laidMetH Tryd.prog Rows.windowPlaysRow.laid W) : Sc.Tab W := by
  have h := Lib.laidMet.reads hL (.head _)
  rw [Sc.laidEq] at h
  exact Sc.tab_of h
theorem tab_lt {w : World} (h : Sc.Tab w) : 0 < w.heap.size := by
  have h0 := h 0 (by omega) 0 (by omega)
  have hs : (w.cell? ⟨0, 6 * 0 + 0, none⟩).isSome := by rw [h0]; decide
  obtain ⟨v, hv⟩ := Option.isSome_iff_exists.1 hs
  exact World.block_lt_of_cell? w _ hv
/-- A world for the witness: the settled one, the table holding what its initialiser lays. -/
noncomputable def laidWorld (os : Os) : World :=
  let w0 := World.holding Tryd.prog os ⟨#[], #[], []⟩
  { w0 with heap := w0.heap.modify 0 fun
    | .cells _ t frozen => .cells (Sc.trL.flatMap Sc.Tr.vals).toArray t frozen
    | o => o }
theorem laid_met (os : Os) (args : Array Value) : laidMet Tryd.prog Rows.windowPlaysRow.laid ((laidWorld os).forCall (fun _ _ => 0) ⟨#[], args, []⟩).memory :=
  (LaidIn.of_run (l := Rows.windowPlaysRow.laid) [0] 8 (by kernel_rfl) (by kernel_rfl) (by kernel_rfl) (by kernel_rfl)).met
theorem inR_of {n : Int} (h : (Lit.int .i64 n).wf = true) : Sc.InR n := by
  simp only [Lit.wf, IntKind.min, IntKind.max, IntKind.signed, IntKind.bits, Bool.and_eq_true, decide_eq_true_eq, if_true] at h
  unfold Sc.InR
  omega
theorem allR_of {l : List Int} (h : WfL l) : AllR l := fun x hx => inR_of (h x hx)
section
variable {H : Type} {enc : TypeId × Value → H} {w : World} {v : Value} {d : DataW H} {p : List MemPlace} {r : Reach} {b0 base : Nat}
theorem rows_arg (hok : Value.okWide Tryd.prog w r b0 46 v) (h : DataW.Trod enc Tryd.prog w base (fun _ => true) true 46 v d p) :
    ∃ (A : Option Addr) (c : Nat) (rs : List (List Int)), v = .slice A rs.length c ∧ RwsIn (fun b => b < w.heap.size) w (.slice A rs.length c) rs ∧ (∀ q ∈ rs, WfL q ∧ q.length ≤ maxLen) ∧ rs.length ≤ maxLen := by
  obtain ⟨a, len, cap, rfl⟩ := okWide_slice Tryd.underlying46 hok
  obtain ⟨fuel, hf⟩ := h
  rcases open_slice Tryd.underlying46 hf with ⟨hcs, _⟩ | ⟨x, l, c, m, n, D, Pl, hcs, _, hl, hm, hmm, _, hx⟩
  · simp [Value.cells] at hcs
    obtain ⟨rfl, rfl, rfl⟩ := hcs
    exact ⟨none, 0, [], rfl, RwsIn.none _ _, fun q hq => by simp at hq, by simp⟩
  · simp [Value.cells] at hcs
    obtain ⟨rfl, rfl, rfl⟩ := hcs
    have hlm : len ≤ m := by rw [hmm]; split <;> omega
    have ce : Tryd.prog.cellsOf 27 = 1 := by kernel_rfl
    have each : ∀ i, i < len → ∃ q : List Int, ∃ B cB, w.cell? (x.add i) = some (.slice B q.length cB) ∧ IntsC w B cB q := by
      intro i hi
      obtain ⟨cs', h1, h2⟩ := hx i (by omega)
      rw [ce] at h1
      obtain ⟨_, hlen, hcell⟩ := World.cells?_some h1
      match cs', hlen with
      | [v0], _ =>
        obtain ⟨B, cB, row, rfl, hrow⟩ := row_of Tryd.underlying27 Tryd.underlying2 (by kernel_rfl) h2
        have e0 := hcell 0 (by omega)
        rw [add_add] at e0
        exact ⟨row, B, cB, by simpa using e0, hrow⟩
    obtain ⟨q, hq⟩ := choose_lt each
    have hL : ((List.range len).map q).length = len := by simp
    refine ⟨some x, cap, (List.range len).map q, by simp, ?_, fun r hr => ?_, by simp; omega⟩
    · refine ⟨some x, cap, (List.range len).map fun i => (w.cell? (x.add i)).getD default, by simp, by rw [hL]; exact hl, hm, by simp, fun hp => ?_, fun t r hr => ?_⟩
      · have hp' : 0 < len := by simpa using hp
        obtain ⟨B, cB, h0, _⟩ := hq 0 hp'
        obtain ⟨bb, off, spot⟩ := x
        have hspot : spot = none := by simpa [Addr.add] using World.cell?_spot h0
        subst hspot
        have hlt := World.block_lt_of_cell? w ⟨bb, off, none⟩ (by simpa [Addr.add] using h0)
        refine ⟨bb, off, rfl, hlt, hlt, fun j u hu => ?_⟩
        have hj : j < len := by have := (List.getElem?_eq_some_iff.1 hu).1; simpa using this
        rw [List.getElem?_map, List.getElem?_range hj] at hu
        simp only [Option.map_some, Option.some.injEq] at hu
        obtain ⟨B, cB, h1, _⟩ := hq j hj
        rw [h1] at hu
        simp only [Option.getD_some] at hu
        subst hu
        rw [Go.WideShapes.add_plain] at h1
        exact h1
      · have ht : t < len := by have := (List.getElem?_eq_some_iff.1 hr).1; simpa using this
        rw [List.getElem?_map, List.getElem?_range ht] at hr
        simp only [Option.map_some, Option.some.injEq] at hr
        subst hr
        obtain ⟨B, cB, h1, h2⟩ := hq t ht
        exact ⟨B, cB, by rw [List.getElem?_map, List.getElem?_range ht]; simp [h1], h2.2.1, h2.2.2.1, Ints.sints h2.1 fun b off _ hb => hb⟩
    · obtain ⟨i, hi, rfl⟩ := List.mem_map.1 hr
      obtain ⟨B, cB, _, h2⟩ := hq i (by simpa using hi)
      exact ⟨h2.2.2.2.2, h2.2.2.2.1⟩
theorem two_cells {fuel : Nat} {held : Bool} {b : Nat} {sp : Nat → Bool} {x : DataW H × List MemPlace} {c0 c1 : Value} (hf : DataW.trod enc Tryd.prog w b sp held fuel 62 [c0, c1] = some x) :
    ∃ a e : Int, c0 = .int .i64 a ∧ c1 = .int .i64 e ∧ Sc.InR a ∧ Sc.InR e := by
  have ce : Tryd.prog.cellsOf 2 = 1 := by kernel_rfl
  obtain ⟨xs, m, _, _, _, hl, hat⟩ := DataW.trod_array Tryd.underlying62 hf
  rw [ce] at hat
  have h0 := hat 0 (by omega)
  have h1 := hat 1 (by omega)
  match xs, hl with
  | [y0, y1], _ =>
    obtain ⟨n0, e0, _, w0⟩ := DataW.trod_int Tryd.underlying2 h0
    obtain ⟨n1, e1, _, w1⟩ := DataW.trod_int Tryd.underlying2 h1
    simp at e0 e1
    exact ⟨n0, n1, e0, e1, inR_of w0, inR_of w1⟩
theorem pair_arg (hv : Value.okWide Tryd.prog w r b0 62 v) (h : DataW.Trod enc Tryd.prog w base (fun _ => true) true 62 v d p) : ∃ x y : Int, v = .agg #[.int .i64 x, .int .i64 y] ∧ Sc.InR x ∧ Sc.InR y := by
  simp only [Value.okWide, Tryd.underlying62] at hv
  obtain ⟨cs, rfl, hsz, _⟩ := hv
  have ce : Tryd.prog.cellsOf 62 = 2 := by kernel_rfl
  rw [ce] at hsz
  obtain ⟨l⟩ := cs
  match l, hsz with
  | [c0, c1], _ =>
    obtain ⟨fuel, hf⟩ := h
    obtain ⟨a, e, rfl, rfl, h1, h2⟩ := two_cells (by simpa [Value.cells] using hf)
    exact ⟨a, e, rfl, h1, h2⟩
theorem array5 {α : Type} {cs : Array α} (h : cs.size = 5) : ∃ c0 c1 c2 c3 c4, cs = #[c0, c1, c2, c3, c4] := by
  obtain ⟨l⟩ := cs
  match l, h with
  | [c0, c1, c2, c3, c4], _ => exact ⟨c0, c1, c2, c3, c4, rfl⟩
theorem of_arg (hok : Value.okWide Tryd.prog w r b0 45 v) (h : DataW.Trod enc Tryd.prog w base (fun _ => true) true 45 v d p) :
    ∃ (c : Int) (s : Bool) (bk lk wd : Int), v = .agg #[.int .i64 c, .bool s, .int .i64 bk, .int .i64 lk, .int .i64 wd] ∧ Sc.InR bk ∧ Sc.InR lk ∧ Sc.InR wd := by
  have ce : Tryd.prog.cellsOf 45 = 5 := by kernel_rfl
  have cf : Tryd.prog.cellsOf 23 = 2 := by kernel_rfl
  have ci : Tryd.prog.cellsOf 3 = 1 := by kernel_rfl
  have cb : Tryd.prog.cellsOf 4 = 1 := by kernel_rfl
  obtain ⟨cs, rfl, hsz⟩ := okWide_struct Tryd.underlying45 hok
  obtain ⟨c0, c1, c2, c3, c4, rfl⟩ := array5 (hsz.trans ce)
  obtain ⟨fuel, hf⟩ := h
  obtain ⟨y0, y1, y2, y3, n, hx, _, h0, h1, h2, h3⟩ := trod_struct4 Tryd.underlying45 hf
  simp only [Value.cells, cf, ci, List.drop, List.take] at h0 h1 h2 h3
  obtain ⟨z0, z1, m, hz, _, k0, k1⟩ := trod_struct2 Tryd.underlying23 h0
  simp only [cb, ci, List.drop, List.take] at k0 k1
  obtain ⟨a0, e0, _, w0⟩ := DataW.trod_int Tryd.underlying3 k0
  obtain ⟨a1, e1, _⟩ := DataW.trod_bool Tryd.underlying4 k1
  obtain ⟨a2, e2, _, w2⟩ := DataW.trod_int Tryd.underlying3 h1
  obtain ⟨a3, e3, _, w3⟩ := DataW.trod_int Tryd.underlying3 h2
  obtain ⟨a4, e4, _, w4⟩ := DataW.trod_int Tryd.underlying3 h3
  simp at e0 e1 e2 e3 e4
  subst e0 e1 e2 e3 e4
  exact ⟨a0, a1, a2, a3, a4, rfl, inR_of w2, inR_of w3, inR_of w4⟩
/-- Pairs of numbers in memory. -/
def Prs (w : World) (A : Option Addr) (ps : List (Int × Int)) : Prop := 0 < ps.length → ∃ b off, A = some ⟨b, off, none⟩ ∧ b < w.heap.size ∧ ∀ (k : Nat) (d : Int × Int), ps[k]? = some d → w.cell? ⟨b, off + k * 2, none⟩ = some (.int .i64 d.1) ∧ w.cell? ⟨b, off + k * 2 + 1, none⟩ = some (.int .i64 d.2)
theorem Prs.turn {T : Nat → Prop} {w w' : World} {A : Option Addr} {ds : List (Int × Int)} {B0 : Nat} (h : Prs w A ds) (hb : Below w.heap.size w w') : Prs w' A ds := fun hp => by
  obtain ⟨b, off, e, hlt, hc⟩ := h hp
  exact ⟨b, off, e, Nat.lt_of_lt_of_le hlt hb.size, fun k d hd => ⟨(hb.cell (p := ⟨b, _, none⟩) hlt).trans (hc k d hd).1, (hb.cell (p := ⟨b, _, none⟩) hlt).trans (hc k d hd).2⟩⟩
theorem Prs.next {w w' : World} {A : Option Addr} {ds : List (Int × Int)} (h : Prs w A ds) (hb : Below w.heap.size w w') : Prs w' A ds := Prs.turn (T := fun _ => True) (B0 := 0) h hb
theorem pairs_arg (hok : Value.okWide Tryd.prog w r b0 61 v) (h : DataW.Trod enc Tryd.prog w base (fun _ => true) true 61 v d p) :
    ∃ (A : Option Addr) (c : Nat) (ps : List (Int × Int)), v = .slice A ps.length c ∧ Prs w A ps ∧ (∀ q ∈ ps, Sc.InR q.1 ∧ Sc.InR q.2) ∧ ps.length ≤ maxLen := by
  obtain ⟨a, len, cap, rfl⟩ := okWide_slice Tryd.underlying61 hok
  obtain ⟨fuel, hf⟩ := h
  rcases open_slice Tryd.underlying61 hf with ⟨hcs, _⟩ | ⟨x, l, c, m, n, D, Pl, hcs, _, hl, hm, hmm, _, hx⟩
  · simp [Value.cells] at hcs
    obtain ⟨rfl, rfl, rfl⟩ := hcs
    exact ⟨none, 0, [], rfl, fun hp => absurd hp (by simp), fun q hq => by simp at hq, by simp⟩
  · simp [Value.cells] at hcs
    obtain ⟨rfl, rfl, rfl⟩ := hcs
    have hlm : len ≤ m := by rw [hmm]; split <;> omega
    have ce : Tryd.prog.cellsOf 62 = 2 := by kernel_rfl
    have each : ∀ i, i < len → ∃ q : Int × Int, w.cell? (x.add (i * 2)) = some (.int .i64 q.1) ∧ w.cell? (x.add (i * 2 + 1)) = some (.int .i64 q.2) ∧ Sc.InR q.1 ∧ Sc.InR q.2 := by
      intro i hi
      obtain ⟨cs', h1, h2⟩ := hx i (by omega)
      rw [ce] at h1
      obtain ⟨_, hlen, hcell⟩ := World.cells?_some h1
      match cs', hlen with
      | [v0, v1], _ =>
        obtain ⟨a, e, rfl, rfl, r1, r2⟩ := two_cells h2
        have e0 := hcell 0 (by omega)
        have e1 := hcell 1 (by omega)
        rw [add_add] at e0 e1
        exact ⟨(a, e), by simpa using e0, by simpa using e1, r1, r2⟩
    obtain ⟨q, hq⟩ := choose_lt each
    refine ⟨some x, cap, (List.range len).map q, by simp, fun hp => ?_, fun r hr => ?_, by simp; omega⟩
    · have hp' : 0 < len := by simpa using hp
      obtain ⟨bb, off, spot⟩ := x
      have h0 := (hq 0 hp').1
      have hspot : spot = none := by simpa [Addr.add] using World.cell?_spot h0
      subst hspot
      refine ⟨bb, off, rfl, World.block_lt_of_cell? w ⟨bb, off, none⟩ (by simpa [Addr.add] using h0), fun k dd hd => ?_⟩
      have hk : k < len := by have := (List.getElem?_eq_some_iff.1 hd).1; simpa using this
      rw [List.getElem?_map, List.getElem?_range hk] at hd
      simp only [Option.map_some, Option.some.injEq] at hd
      subst hd
      obtain ⟨k0, k1, _⟩ := hq k hk
      rw [Go.WideShapes.add_plain] at k0 k1
      exact ⟨k0, by rw [Nat.add_assoc]; exact k1⟩
    · obtain ⟨i, hi, rfl⟩ := List.mem_map.1 hr
      exact (hq i (by simpa using hi)).2.2
end
end Go.Proofs.YtfamgaakcbinkaaDoor.Wn
-- WnFree
set_option maxRecDepth 100000
namespace Go.Proofs.YtfamgaakcbinkaaDoor.Wn
open Go.Proofs.YtfamgaakcbinkaaDoor.Sh Go.Proofs.YtfamgaakcbinkaaDoor.St Go.Proofs.YtfamgaakcbinkaaDoor.Fd
open Go.RowKit
set_option linter.unusedVariables false

/-- A window to which the rows rs came, which has no block of B. -/
def Kf (w1 w : World) (n₀ g : Nat) (V : Value) (c : Int) (s : Bool) (n : Nat) (Y : Nat → Value) (back look : Nat) (rs : List (List Int)) (told : Nat) (over : Bool) (B : Nat → Prop) : Prop :=
  ∃ T, Wr n₀ w g V c s n Y T back look rs told over ∧ (∀ b, B b → b < w.heap.size ∧ ¬ Tw g V n T b) ∧ Below n₀ w1 w
/-- What a deed on the window may turn. -/
def Fr (n₀ : Nat) (B : Nat → Prop) (b : Nat) : Prop := n₀ ≤ b ∧ ¬ B b
section
variable {n₀ g n back look told : Nat} {c : Int} {s over : Bool} {V : Value} {w0 w1 w w' : World} {Y : Nat → Value} {S B B' : Nat → Prop} {rs : List (List Int)} {r : List Int}
theorem Kf.b (k : Kf w1 w n₀ g V c s n Y back look rs told over B) : Below n₀ w1 w := by obtain ⟨T, d, a, h⟩ := k; exact h
theorem Kf.tolds (k : Kf w1 w n₀ g V c s n Y back look rs told over B) : told ≤ rs.length ∧ rs.length ≤ told + look := by obtain ⟨T, d, a, h⟩ := k; exact d.2
theorem Kf.size (k : Kf w1 w n₀ g V c s n Y back look rs told over B) : n₀ ≤ w.heap.size := by obtain ⟨T, d, a, h⟩ := k; have := d.lt g (.inl rfl); omega
theorem Kf.of {T : Nat → Nat → Prop} (d : Win n₀ w g V c s (back + look + 1) n Y 0 (fun _ => []) T back look 0 0 false) (hb : Below n₀ w1 w) (hB : ∀ b, B b → b < w.heap.size ∧ ¬ Tw g V n T b) : Kf w1 w n₀ g V c s n Y back look [] 0 false B := ⟨T, new_w d, hB, hb⟩
theorem Kf.next (k : Kf w1 w n₀ g V c s n Y back look rs told over B) (hb : Below w.heap.size w w') : Kf w1 w' n₀ g V c s n Y back look rs told over B := by
  have hz := k.size
  obtain ⟨T, d, a, h⟩ := k
  exact ⟨T, d.next hb, fun b hB => ⟨Nat.lt_of_lt_of_le (a b hB).1 hb.size, (a b hB).2⟩, h.trans (hb.mono hz)⟩
/-- Blocks of B alone have turned, and B' has new ones besides. -/
theorem Kf.turn (k : Kf w1 w n₀ g V c s n Y back look rs told over B) (t : Turn S w w') (hS : ∀ b, S b → B b) (nS : NF w S) (lS : ∀ b, S b → n₀ ≤ b) (hB : ∀ b, B' b → B b ∨ (w.heap.size ≤ b ∧ b < w'.heap.size)) : Kf w1 w' n₀ g V c s n Y back look rs told over B' := by
  have hz := k.size
  obtain ⟨T, d, a, h⟩ := k
  refine ⟨T, d.turn t (fun b hb h => (a b (hS b h)).2 hb) nS lS, fun b hb => ?_, h.trans (t.below hz lS)⟩
  rcases hB b hb with h | h
  · exact ⟨Nat.lt_of_lt_of_le (a b h).1 t.size, (a b h).2⟩
  · exact ⟨h.2, fun ht => by have := (d.lt b ht).1; omega⟩
/-- New blocks are taken into B. -/
theorem Kf.more (k : Kf w1 w0 n₀ g V c s n Y back look rs told over B) (hb : Below w0.heap.size w0 w) (hB : ∀ b, B' b → B b ∨ (w0.heap.size ≤ b ∧ b < w.heap.size)) : Kf w1 w n₀ g V c s n Y back look rs told over B' :=
  k.turn (Turn.of_below (fun _ => False) hb) (fun _ h => h.elim) (fun _ h => h.elim) (fun _ h => h.elim) hB
theorem kf_deed {T T' : Nat → Nat → Prop} {rs' : List (List Int)} {told' : Nat} {over' : Bool} (d : Wr n₀ w g V c s n Y T back look rs told over) (a : ∀ b, B b → b < w.heap.size ∧ ¬ Tw g V n T b) (h : Below n₀ w1 w)
    (d' : Wr n₀ w' g V c s n Y T' back look rs' told' over') (t : Turn (Tw g V n T) w w') (f : ∀ b, All n T' b → All n T b ∨ w.heap.size ≤ b) : Kf w1 w' n₀ g V c s n Y back look rs' told' over' B ∧ Turn (Fr n₀ B) w w' := by
  refine ⟨⟨T', d', fun b hb => ⟨Nat.lt_of_lt_of_le (a b hb).1 t.size, fun ht => ?_⟩, h.trans (t.below (by have := (d.lt g (.inl rfl)); omega) fun b hb => (d.lt b hb).2)⟩, t.mono fun b hb => ⟨(d.lt b hb).2, fun h => (a b h).2 hb⟩⟩
  rcases ht with h | h | h
  · exact (a b hb).2 (.inl h)
  · exact (a b hb).2 (.inr (.inl h))
  · rcases f b h with k | k
    · exact (a b hb).2 (.inr (.inr k))
    · have := (a b hb).1; omega
end
/-- What a deed leaves that tells an answer. -/
def RetF (w1 : World) (n₀ g : Nat) (V : Value) (c : Int) (s : Bool) (n : Nat) (Y : Nat → Value) (back look : Nat) (rs : List (List Int)) (told : Nat) (over : Bool) (B : Nat → Prop) (t : List Int) (f : Value → Value) (w : World) (e : Ending) (w' : World) : Prop :=
  ∃ A cap, e = .returned (f (.slice A t.length cap)) ∧ MineT 2 w' w.heap.size (.slice A t.length cap) t ∧ Kf w1 w' n₀ g V c s n Y back look rs told over B ∧ Turn (Fr n₀ B) w w'
section
variable (w1 w0 w : World) (n₀ g : Nat) (V : Value) (c : Int) (s : Bool) (n : Nat) (Y : Nat → Value) (back look : Nat) (rs : List (List Int)) (told : Nat) (B : Nat → Prop)
theorem push_f_wait (S : Nat → Prop) (P : Option Addr) (cap : Nat) (r : List Int) (k : Kf w1 w0 n₀ g V c s n Y back look rs told false B) (hb : Below w0.heap.size w0 w) (hi : SInts S w P r) (hS : ∀ b, S b → b < w.heap.size ∧ (b < n₀ ∨ w0.heap.size ≤ b ∨ B b)) (hr : r.length = n) (hR : AllR r) (hn : n ≤ 64) (hq : rs.length ≤ 900) (hd : rs.length < told + look) :
    Calls Tryd.prog 28 #[.pointer (some ⟨g, 0, none⟩), .slice P n cap] w fun e w' => e = .returned (.tuple #[.slice none 0 0, .bool false, .int .i64 0]) ∧ Kf w1 w' n₀ g V c s n Y back look (rs ++ [r]) told false B ∧ Turn (Fr n₀ B) w w' := by
  obtain ⟨T, d0, a, h3⟩ := k
  have d := d0.next hb
  have hg := (d0.lt g (.inl rfl))
  refine (push_w_wait n₀ g V c s n Y T back look rs told S P cap r w d hi (fun b h => ⟨(hS b h).1, fun ht => by have := d0.lt b ht; rcases (hS b h).2 with h2 | h2 | h2 <;> first | omega | exact (a b h2).2 ht⟩) hr hR hn hq hd).mono ?_
  rintro e w' ⟨rfl, T', d', t', f'⟩
  exact ⟨rfl, kf_deed d (fun b h => ⟨Nat.lt_of_lt_of_le (a b h).1 hb.size, (a b h).2⟩) (h3.trans (hb.mono (by omega))) d' t' f'⟩
theorem push_f_due (S : Nat → Prop) (P : Option Addr) (cap : Nat) (r : List Int) (k : Kf w1 w0 n₀ g V c s n Y back look rs told false B) (hb : Below w0.heap.size w0 w) (hi : SInts S w P r) (hS : ∀ b, S b → b < w.heap.size ∧ (b < n₀ ∨ w0.heap.size ≤ b ∨ B b)) (hr : r.length = n) (hR : AllR r) (hn : n ≤ 64) (hq : rs.length ≤ 900) (hd : rs.length = told + look) (h2 : Sc.hasB c 2 = true) (t : List Int) (ht : ansI c s n ((rs ++ [r]).drop (told - back)) = t) :
    Calls Tryd.prog 28 #[.pointer (some ⟨g, 0, none⟩), .slice P n cap] w (RetF w1 n₀ g V c s n Y back look (rs ++ [r]) (told + 1) false B t (fun v => .tuple #[v, .bool true, .int .i64 0]) w) := by
  obtain ⟨T, d0, a, h3⟩ := k
  have d := d0.next hb
  have hg := (d0.lt g (.inl rfl))
  refine (push_w_due n₀ g V c s n Y T back look rs told S P cap r w d hi (fun b h => ⟨(hS b h).1, fun ht => by have := d0.lt b ht; rcases (hS b h).2 with h2 | h2 | h2 <;> first | omega | exact (a b h2).2 ht⟩) hr hR h2 hn hq hd t ht).mono ?_
  rintro e w' ⟨A, c', rfl, hm, T', d', t', f', ap⟩
  exact ⟨A, c', rfl, hm, kf_deed d (fun b h => ⟨Nat.lt_of_lt_of_le (a b h).1 hb.size, (a b h).2⟩) (h3.trans (hb.mono (by omega))) d' t' f'⟩
theorem drain_f_some (over : Bool) (k : Kf w1 w n₀ g V c s n Y back look rs told over B) (h2 : Sc.hasB c 2 = true) (hn : n ≤ 64) (hq : rs.length ≤ 900) (hd : told < rs.length) (t : List Int) (ht : ansI c s n (rs.drop (told - back)) = t) :
    Calls Tryd.prog 32 #[.pointer (some ⟨g, 0, none⟩)] w (RetF w1 n₀ g V c s n Y back look rs (told + 1) true B t (fun v => .tuple #[v, .bool true]) w) := by
  obtain ⟨T, d, a, h3⟩ := k
  refine (drain_w_some n₀ g V c s n Y T back look rs told over w d h2 hn hq hd t ht).mono ?_
  rintro e w' ⟨A, c', rfl, hm, T', d', t', f', ap⟩
  exact ⟨A, c', rfl, hm, kf_deed d a h3 d' t' f'⟩
theorem drain_f_none (over : Bool) (k : Kf w1 w n₀ g V c s n Y back look rs told over B) (hd : told = rs.length) :
    Calls Tryd.prog 32 #[.pointer (some ⟨g, 0, none⟩)] w fun e w' => e = .returned (.tuple #[.slice none 0 0, .bool false]) ∧ Kf w1 w' n₀ g V c s n Y back look rs told true B ∧ Turn (Fr n₀ B) w w' := by
  obtain ⟨T, d, a, h3⟩ := k
  refine (drain_w_none n₀ g V c s n Y T back look rs told over w d hd).mono ?_
  rintro e w' ⟨rfl, d', t'⟩
  exact ⟨rfl, kf_deed d a h3 d' (t'.mono fun b k => .inl k) fun b hb => .inl hb⟩
theorem words_f (over : Bool) (k : Kf w1 w n₀ g V c s n Y back look rs told over B) (hn : n ≤ 64) :
    Calls Tryd.prog 35 #[.pointer (some ⟨g, 0, none⟩)] w fun e w' => e = .returned (.int .i64 (totN c n (rs.drop (gone told back)) : Nat)) ∧ Below w.heap.size w w' := by
  obtain ⟨T, d, a, h3⟩ := k
  exact words_w n₀ g V c s n Y T back look rs told over w d hn
end
theorem Kf.mono {w1 w : World} {n₀ g : Nat} {V : Value} {c : Int} {s : Bool} {n : Nat} {Y : Nat → Value} {back look : Nat} {rs : List (List Int)} {told : Nat} {over : Bool} {B B' : Nat → Prop} (k : Kf w1 w n₀ g V c s n Y back look rs told over B) (h : ∀ b, B' b → B b) : Kf w1 w n₀ g V c s n Y back look rs told over B' :=
  k.more (Below.refl _ _) fun b hb => .inl (h b hb)
/-- A row that lies in blocks of B has grown. -/
theorem Kf.app {w1 w w' : World} {n₀ g : Nat} {V : Value} {c : Int} {s : Bool} {n : Nat} {Y : Nat → Value} {back look : Nat} {rs : List (List Int)} {told : Nat} {over : Bool} {B : Nat → Prop} {e : TypeId} {O O' : Value} {m m' : Nat} {xs xs' : List Value} (k : Kf w1 w n₀ g V c s n Y back look rs told over B) (he : e ≠ 23) (ho : w.ownsRow n₀ e 1 O m xs) (hB : ∀ b, O.ownBlock = some b → B b) (hv : w'.ownsRow n₀ e 1 O' m' xs') (hg : w.grownBy w' O.ownBlock) (ha : O'.ownBlock = O.ownBlock ∨ O'.ownBlock = some w.heap.size) :
    Kf w1 w' n₀ g V c s n Y back look rs told over (fun b => B b ∨ O'.ownBlock = some b) := by
  refine k.turn (S := fun b => O.ownBlock = some b) (Turn.of_grown hg fun g e => e) hB (fun b hb cs hk => own_bk_ne (t := 23) ho hk he hb.symm) (fun b hb => own_base ho b hb) fun b hb => ?_
  rcases hb with h | h
  · exact .inl h
  · rcases ha with e1 | e1
    · exact .inl (hB b (e1.symm.trans h))
    · have h2 := own_lt hv b h
      rw [e1] at h
      injection h with h
      exact .inr ⟨by omega, h2⟩
end Go.Proofs.YtfamgaakcbinkaaDoor.Wn
-- WnAnsw
set_option maxRecDepth 100000
namespace Go.Proofs.YtfamgaakcbinkaaDoor.Wn
open Go.Proofs.YtfamgaakcbinkaaDoor.Sh Go.Proofs.YtfamgaakcbinkaaDoor.St Go.Proofs.YtfamgaakcbinkaaDoor.Fd
open Go.RowKit
set_option linter.unusedVariables false

theorem mine_S {w : World} {base n c : Nat} {A : Option Addr} {r : List Int} (h : MineT 2 w base (.slice A n c) r) : SInts (fun b => base ≤ b) w A r := by
  obtain ⟨B, d, e, h1, h2, h3⟩ := mine_row h
  injection e with e1 e2 e3
  subst e1
  exact h3
theorem own_more {w : World} {base k m : Nat} {v : Value} {xs ys : List Int} (h : w.ownsRow base 2 1 v (k + m) (xs.map (Value.int .i64) ++ ys.map (Value.int .i64))) (hk : xs.length = k) (hm : ys.length = m) : MineT 2 w base v (xs ++ ys) := by
  subst hk hm
  show w.ownsRow base 2 1 v (xs ++ ys).length ((xs ++ ys).map (Value.int .i64))
  rw [List.length_append, List.map_append]
  exact h
/-- The answer to the row e of numbers l. -/
def ansN (c : Int) (s : Bool) (back look : Nat) (l : List Int) (e : Nat) : Int := rowV c s ((l.take (e + look + 1)).drop (e - back))
def allN (c : Int) (s : Bool) (back look : Nat) (l : List Int) (k : Nat) : List Int := (List.range k).map (ansN c s back look l)
theorem allN_len (c : Int) (s : Bool) (back look : Nat) (l : List Int) (k : Nat) : (allN c s back look l k).length = k := by simp [allN]
theorem allN_succ (c : Int) (s : Bool) (back look : Nat) (l : List Int) (k : Nat) : allN c s back look l (k + 1) = allN c s back look l k ++ [ansN c s back look l k] := by simp [allN, List.range_succ]
def one (l : List Int) : List (List Int) := l.map fun x => [x]
theorem one_len (l : List Int) : (one l).length = l.length := by simp [one]
theorem one_ans (c : Int) (s : Bool) (l : List Int) (k : Nat) : ansI c s 1 ((one l).drop k) = [rowV c s (l.drop k)] := by
  have h : colL 0 ((one l).drop k) = l.drop k := by
    unfold colL one
    rw [← List.map_drop, List.map_map]
    exact (List.map_congr_left fun x _ => rfl).trans (List.map_id _)
  show [rowV c s (colL 0 ((one l).drop k))] = _
  rw [h]
theorem one_snoc {l : List Int} {k : Nat} {x : Int} (h : l[k]? = some x) : one (l.take k) ++ [[x]] = one (l.take (k + 1)) := by
  have hk := (List.getElem?_eq_some_iff.1 h).1
  rw [List.take_add_one, h]
  simp [one]
theorem tot_one (c : Int) (l : List Int) (f m : Nat) (h : l.length ≤ f + m) : totN c 1 ((one l).drop f) ≤ 2 * m := by
  have h1 := wordsN_le c (colL 0 ((one l).drop f))
  have h2 : (colL 0 ((one l).drop f)).length ≤ m := by rw [colL_len, List.length_drop, one_len]; omega
  show (0 + wordsN c (colL 0 ((one l).drop f))) ≤ _ 
  omega
/-- What answers tells. -/
def RetAw (c : Int) (s : Bool) (back look : Nat) (l : List Int) (w : World) (e : Ending) (w' : World) : Prop :=
  ∃ A' cap mo, e = .returned (.tuple #[.slice A' l.length cap, .int .i64 (mo : Nat), .bool true]) ∧ MineT 2 w' w.heap.size (.slice A' l.length cap) (allN c s back look l l.length) ∧ mo ≤ 2 * (back + look + 1) ∧ Below w.heap.size w w'
/-- At the head of the loop over numbers. -/
def AnsAt (w1 wr : World) (g : Nat) (V : Value) (c : Int) (s : Bool) (Y : Nat → Value) (back look : Nat) (l : List Int) (k : Nat) (O : Value) : Prop :=
  Kf w1 wr w1.heap.size g V c s 1 Y back look (one (l.take k)) (k - look) false (fun b => O.ownBlock = some b) ∧ MineT 2 wr w1.heap.size O (allN c s back look l (k - look))
/-- At the head of the loop over answers. -/
def EndAt (w1 wr : World) (g : Nat) (V : Value) (c : Int) (s : Bool) (Y : Nat → Value) (back look : Nat) (l : List Int) (told : Nat) (O : Value) : Prop :=
  (∃ over, Kf w1 wr w1.heap.size g V c s 1 Y back look (one l) told over (fun b => O.ownBlock = some b)) ∧ MineT 2 wr w1.heap.size O (allN c s back look l told)
theorem infoN : (Tryd.prog.info? 2).map (fun i => (i.zero, i.size, i.bytes)) = some (some (.int .i64 0), 1, 8) := by kernel_rfl
theorem ints_one (l : List Int) : ∀ u ∈ l.map (Value.int .i64), u.oneCell' = true := by
  intro u hu
  obtain ⟨x, -, rfl⟩ := List.mem_map.1 hu
  rfl
set_option maxHeartbeats 8000000 in
theorem answers_yes (c : Int) (s : Bool) (back look : Nat) (wd : Int) (A : Option Addr) (cA : Nat) (l : List Int) (w : World) (h0 : 0 < w.heap.size) (hT : Sc.Tab w) (hV : SInts (fun b => b < w.heap.size) w A l) (hR : AllR l) (hl : l.length ≤ 60) (h2 : Sc.hasB c 2 = true) (hbl : back + look ≤ 31) :
    Calls Tryd.prog 37 #[.agg #[.int .i64 c, .bool s, .int .i64 (back : Nat), .int .i64 (look : Nat), .int .i64 wd], .slice A l.length cA] w (RetAw c s back look l w) := by
  have b0 := below_new w (.cells #[.int .i64 c, .bool s, .int .i64 (back : Nat), .int .i64 (look : Nat), .int .i64 wd] 45)
  have BN := Lib.hid (Bk.new 45 w [.int .i64 c, .bool s, .int .i64 (back : Nat), .int .i64 (look : Nat), .int .i64 wd])
  have T1 := Lib.hid (hT.below b0)
  have V1 := Lib.hid (hV.next b0)
  have L0 := Lib.hid b0
  have H0 := Lib.hid (Nat.lt_of_lt_of_le h0 b0.size)
  have HR := Lib.hid hR
  have H2 := Lib.hid h2
  clear b0 h0 hT hV hR h2
  obtain ⟨x0, x1, x2, x3, x4⟩ := of_cells BN.out
  go_enter Tryd.func37, Tryd.ntmps37
  go_wp2_with fail
  generalize hW1 : w.alloc (.cells #[.int .i64 c, .bool s, .int .i64 (back : Nat), .int .i64 (look : Nat), .int .i64 wd] 45) = w1 at *
  clear hW1
  have NW := Lib.hid (show Calls Tryd.prog 22 #[.agg #[.int .i64 c, .bool s], .int .i64 (back : Nat), .int .i64 (look : Nat), .int .i64 1] w1 (RetNew c s 1 back look w1) from new_yes c s 1 back look w1 H0.out T1.out (by omega) H2.out hbl)
  refine NW.out.mono ?_
  rintro r w2 ⟨g, V, Y, T, rfl, d2, hb2⟩
  have PA : Hid (AnsAt w1 w2 g V c s Y back look l 0 (.slice none 0 0)) := Lib.hid ⟨by rw [Nat.zero_sub]; exact Kf.of d2 hb2 (fun b h => by simp [Value.ownBlock] at h), by rw [Nat.zero_sub]; exact MineT.nil _ _ _⟩
  have HG := Lib.hid hb2
  clear d2 hb2 x0 x1 x2 x3 x4 NW
  go_wp2
  go_loopw [9, 10, 36] (fun s9 s10 i wr => ∃ (k mo : Nat) (O : Value), O = s9 ∧ s10 = .int .i64 (mo : Nat) ∧ k ≤ l.length ∧ i = .int .i64 k ∧ mo ≤ 2 * (back + look + 1) ∧ Hid (AnsAt w1 wr g V c s Y back look l k O)) (fun _ _ i _ => l.length - (intOf i).toNat)
  case atStart => exact ⟨0, 0, _, rfl, rfl, Nat.zero_le _, rfl, Nat.zero_le _, PA⟩
  case round =>
    obtain ⟨k, mo, O, rfl, rfl, hk, rfl, hmo, HP⟩ := hrel
    by_cases hlt : k < l.length
    · obtain ⟨p1, p2⟩ := HP.out
      obtain ⟨x, hx⟩ : ∃ x, l[k]? = some x := ⟨_, List.getElem?_eq_getElem hlt⟩
      have i1 : (k : Int) < (l.length : Int) := by omega
      have i0 : (0 : Int) ≤ (k : Int) := by omega
      obtain ⟨b, off, rfl, -, -, hc⟩ := (Seq.next V1.out p1.b).one (j := k) (u := .int .i64 x) (by rw [List.getElem?_map, hx]; rfl)
      have P1 := Lib.hid p1
      have P2 := Lib.hid p2
      have HX := Lib.hid hx
      have XR : Hid (AllR [x]) := Lib.hid fun y hy => by simp at hy; subst hy; exact HR.out _ (List.mem_of_getElem? hx)
      have SN := Lib.hid (one_snoc hx)
      have HLN := Lib.hid (show (one (l.take k)).length = k by rw [one_len, List.length_take]; omega)
      have SQ := Lib.hid (lit_seq wr [x] (by unfold maxLen; simp))
      have ap : ∀ b, b = wr.heap.size → b < (wr.alloc (.cells #[.int .i64 x] 2)).heap.size ∧ (b < w1.heap.size ∨ wr.heap.size ≤ b ∨ O.ownBlock = some b) := fun b hb => ⟨by subst hb; simp, .inr (.inl (by omega))⟩
      have AP := Lib.hid ap
      clear p1 p2 HP PA hx ap
      by_cases hd : k < look
      · have PU := push_f_wait w1 wr (wr.alloc (.cells #[.int .i64 x] 2)) w1.heap.size g V c s 1 Y back look (one (l.take k)) (k - look) (fun b => O.ownBlock = some b) (fun b => b = wr.heap.size) (some ⟨wr.heap.size, 0, none⟩) 1 [x] P1.out (below_new _ _) SQ.out AP.out rfl XR.out (by omega) (by rw [HLN.out]; omega) (by rw [HLN.out]; omega)
        rw [SN.out] at PU
        have PUH := Lib.hid PU
        have TD := Lib.hid (show k + 1 - look = k - look by omega)
        have HD := Lib.hid hd
        clear PU hd
        go_wp2_with fail
        refine PUH.out.mono ?_
        rintro r w5 ⟨rfl, k5, t5⟩
        have K5 := Lib.hid k5
        have M5 := Lib.hid (own_turn P2.out ((Turn.of_below (Fr w1.heap.size fun b => O.ownBlock = some b) (below_new _ _)).trans t5) (fun b hb hf => hf.2 hb))
        have WF := words_f w1 w5 w1.heap.size g V c s 1 Y back look (one (l.take (k + 1))) (k - look) (fun b => O.ownBlock = some b) false k5 (by omega)
        obtain ⟨q, hq⟩ : ∃ q, totN c 1 ((one (l.take (k + 1))).drop (gone (k - look) back)) = q := ⟨_, rfl⟩
        have hqm : q ≤ 2 * (back + look + 1) := by rw [← hq]; exact tot_one c _ _ _ (by rw [List.length_take]; have := HD.out; unfold gone; omega)
        rw [hq] at WF
        have WFH := Lib.hid WF
        clear k5 t5 WF hq PUH
        go_wp2_with fail
        refine WFH.out.mono ?_
        rintro r w6 ⟨rfl, hb6⟩
        have PA : Hid (AnsAt w1 w6 g V c s Y back look l (k + 1) O) := Lib.hid ⟨by rw [TD.out]; exact K5.out.next hb6, by rw [TD.out]; exact own_below M5.out hb6⟩
        clear hb6
        go_wp2
        exact ⟨⟨k + 1, max mo q, O, rfl, congrArg _ (by omega), by omega, by go_num, by omega, PA⟩, by simp [intOf]; omega⟩
      · obtain ⟨told, htd⟩ : ∃ told, k - look = told := ⟨_, rfl⟩
        obtain ⟨v, hv⟩ : ∃ v, [ansN c s back look l told] = v := ⟨_, rfl⟩
        have HVL := Lib.hid (show v.length = 1 by rw [← hv]; rfl)
        have HV := Lib.hid hv
        have hv2 : ansI c s 1 ((one (l.take k) ++ [[x]]).drop (told - back)) = v := by
          rw [SN.out, one_ans, ← hv]
          unfold ansN
          rw [show k + 1 = told + look + 1 by omega]
        have PU := push_f_due w1 wr (wr.alloc (.cells #[.int .i64 x] 2)) w1.heap.size g V c s 1 Y back look (one (l.take k)) told (fun b => O.ownBlock = some b) (fun b => b = wr.heap.size) (some ⟨wr.heap.size, 0, none⟩) 1 [x] (by rw [← htd]; exact P1.out) (below_new _ _) SQ.out AP.out rfl XR.out (by omega) (by rw [HLN.out]; omega) (by rw [HLN.out]; omega) H2.out v hv2
        rw [SN.out] at PU
        have PUH := Lib.hid PU
        have TD := Lib.hid (show k + 1 - look = told + 1 by omega)
        have P2 : Hid (MineT 2 wr w1.heap.size O (allN c s back look l told)) := Lib.hid (by rw [← htd]; exact P2.out)
        have HD := Lib.hid (show k = told + look by omega)
        have TN : Hid (told + v.length ≤ 100000) := Lib.hid (by have := HVL.out; omega)
        clear PU hd hv hv2 htd
        go_wp2_with fail
        refine PUH.out.mono ?_
        rintro r w5 ⟨A5, c5, rfl, m5, k5, t5⟩
        have K5 := Lib.hid k5
        have M5 := Lib.hid (own_turn P2.out ((Turn.of_below (Fr w1.heap.size fun b => O.ownBlock = some b) (below_new _ _)).trans t5) (fun b hb hf => hf.2 hb))
        have O5 := Lib.hid (show w5.ownsRow w1.heap.size 2 1 O told ((allN c s back look l told).map (Value.int .i64)) by have h := M5.out; rw [allN_len] at h; exact h)
        have S5 := Lib.hid (mine_S m5)
        have Z5 := Lib.hid k5.size
        clear k5 m5 t5 PUH P1 P2
        go_wp2_with (at_builtin; refine wpList_appS infoN rfl (by decide) (by decide) Tryd.underlying27 rfl (.tmp 49) (.tmp 50) rfl w1.heap.size _ told _ rfl O5.out _ _ v.length c5 (v.map (Value.int .i64)) rfl (by simp) S5.out (ints_one v) TN.out Z5.out ?_; intro v7 w7 hv7 hg7 ha7; have k7 := (Kf.app K5.out (by decide) O5.out (fun b h => h) hv7 hg7 ha7).mono (B' := fun b => v7.ownBlock = some b) (fun b h => .inr h); have K7 := Lib.hid k7; have M7 : Hid (MineT 2 w7 w1.heap.size v7 (allN c s back look l (told + 1))) := Lib.hid (by rw [allN_succ, HV.out]; exact own_more hv7 (allN_len _ _ _ _ _ _) rfl); clear hv7 hg7 ha7 k7)
        have WF := words_f w1 w7 w1.heap.size g V c s 1 Y back look (one (l.take (k + 1))) (told + 1) (fun b => v7.ownBlock = some b) false K7.out (by omega)
        obtain ⟨q, hq⟩ : ∃ q, totN c 1 ((one (l.take (k + 1))).drop (gone (told + 1) back)) = q := ⟨_, rfl⟩
        have hqm : q ≤ 2 * (back + look + 1) := by rw [← hq]; exact tot_one c _ _ _ (by rw [List.length_take]; have := HD.out; unfold gone; omega)
        rw [hq] at WF
        have WFH := Lib.hid WF
        clear WF hq
        go_wp2_with fail
        refine WFH.out.mono ?_
        rintro r w8 ⟨rfl, hb8⟩
        have PA : Hid (AnsAt w1 w8 g V c s Y back look l (k + 1) v7) := Lib.hid ⟨by rw [TD.out]; exact K7.out.next hb8, by rw [TD.out]; exact own_below M7.out hb8⟩
        clear hb8
        go_wp2
        exact ⟨⟨k + 1, max mo q, v7, rfl, congrArg _ (by omega), by omega, by go_num, by omega, PA⟩, by simp [intOf]; omega⟩
    · obtain rfl : k = l.length := by omega
      obtain ⟨p1, p2⟩ := HP.out
      obtain ⟨told, htd⟩ : ∃ told, l.length - look = told := ⟨_, rfl⟩
      rw [List.take_length, htd] at p1
      rw [htd] at p2
      have PB : Hid (EndAt w1 wr g V c s Y back look l told O) := Lib.hid ⟨⟨_, p1⟩, p2⟩
      have HTD := Lib.hid htd
      clear p1 p2 HP PA htd
      go_wp2
      go_loopw [9, 59] (fun s9 i wr' => ∃ (j : Nat) (O : Value), O = s9 ∧ j ≤ l.length ∧ i = .int .i64 j ∧ Hid (EndAt w1 wr' g V c s Y back look l (min (told + j) l.length) O)) (fun _ i _ => l.length - (intOf i).toNat)
      case atStart => exact ⟨0, O, rfl, Nat.zero_le _, rfl, by rw [show min (told + 0) l.length = told by have := HTD.out; omega]; exact PB⟩
      case round =>
        clear PB
        obtain ⟨j, O, rfl, hj, rfl, HE⟩ := hrel
        by_cases hlt : j < l.length
        · have i1 : (j : Int) < (l.length : Int) := by omega
          obtain ⟨⟨over, p1⟩, p2⟩ := HE.out
          have P1 := Lib.hid p1
          have P2 := Lib.hid p2
          clear p1 p2 HE
          by_cases hd : told + j < l.length
          · obtain ⟨e, he⟩ : ∃ e, told + j = e := ⟨_, rfl⟩
            have HE := Lib.hid he
            have hm : min (told + j) l.length = e := by omega
            have hm2 : min (told + (j + 1)) l.length = e + 1 := by omega
            rw [hm] at P1 P2
            have HM2 := Lib.hid hm2
            obtain ⟨v, hv⟩ : ∃ v, [ansN c s back look l e] = v := ⟨_, rfl⟩
            have HVL := Lib.hid (show v.length = 1 by rw [← hv]; rfl)
            have HV := Lib.hid hv
            have hv2 : ansI c s 1 ((one l).drop (e - back)) = v := by
              rw [one_ans, ← hv]
              unfold ansN
              rw [List.take_of_length_le (by have := HTD.out; omega)]
            have PUH := Lib.hid (drain_f_some w1 wr w1.heap.size g V c s 1 Y back look (one l) e (fun b => O.ownBlock = some b) over P1.out H2.out (by omega) (by rw [one_len]; omega) (by rw [one_len]; omega) v hv2)
            have TN : Hid (e + v.length ≤ 100000) := Lib.hid (by have := HVL.out; omega)
            clear hv hv2 hd he hm hm2
            go_wp2_with fail
            refine PUH.out.mono ?_
            rintro r w5 ⟨A5, c5, rfl, m5, k5, t5⟩
            have K5 := Lib.hid k5
            have M5 := Lib.hid (own_turn P2.out t5 (fun b hb hf => hf.2 hb))
            have O5 := Lib.hid (show w5.ownsRow w1.heap.size 2 1 O e ((allN c s back look l e).map (Value.int .i64)) by have h := M5.out; rw [allN_len] at h; exact h)
            have S5 := Lib.hid (mine_S m5)
            have Z5 := Lib.hid k5.size
            clear k5 m5 t5 PUH P1 P2
            go_wp2_with (at_builtin; refine wpList_appS infoN rfl (by decide) (by decide) Tryd.underlying27 rfl (.tmp 67) (.tmp 68) rfl w1.heap.size _ e _ rfl O5.out _ _ v.length c5 (v.map (Value.int .i64)) rfl (by simp) S5.out (ints_one v) TN.out Z5.out ?_; intro v7 w7 hv7 hg7 ha7; have k7 := (Kf.app K5.out (by decide) O5.out (fun b h => h) hv7 hg7 ha7).mono (B' := fun b => v7.ownBlock = some b) (fun b h => .inr h); have PB : Hid (EndAt w1 w7 g V c s Y back look l (min (told + (j + 1)) l.length) v7) := Lib.hid ⟨⟨_, by rw [HM2.out]; exact k7⟩, by rw [HM2.out, allN_succ, HV.out]; exact own_more hv7 (allN_len _ _ _ _ _ _) rfl⟩; clear hv7 hg7 ha7 k7)
            exact ⟨⟨j + 1, v7, rfl, by omega, by go_num, PB⟩, by simp [intOf]; omega⟩
          · have hm : min (told + j) l.length = l.length := by omega
            have hm2 : min (told + (j + 1)) l.length = l.length := by omega
            rw [hm] at P1 P2
            have HM2 := Lib.hid hm2
            have PUH := Lib.hid (drain_f_none w1 wr w1.heap.size g V c s 1 Y back look (one l) l.length (fun b => O.ownBlock = some b) over P1.out (by rw [one_len]))
            clear hd hm hm2
            go_wp2_with fail
            refine PUH.out.mono ?_
            rintro r w5 ⟨rfl, k5, t5⟩
            have PB : Hid (EndAt w1 w5 g V c s Y back look l (min (told + (j + 1)) l.length) O) := Lib.hid ⟨⟨_, by rw [HM2.out]; exact k5⟩, by rw [HM2.out]; exact own_turn P2.out t5 (fun b hb hf => hf.2 hb)⟩
            clear k5 t5
            go_wp2
            exact ⟨⟨j + 1, O, rfl, by omega, by go_num, PB⟩, by simp [intOf]; omega⟩
        · obtain rfl : j = l.length := by omega
          obtain ⟨⟨over, p1⟩, p2⟩ := HE.out
          rw [show min (told + l.length) l.length = l.length by omega] at p1 p2
          obtain ⟨A9, c9, rfl, hc9⟩ : ∃ A9 c9, O = .slice A9 l.length c9 ∧ l.length ≤ c9 := by
            obtain ⟨A9, c9, e9, h1, h2, h3⟩ := own_seq p2 (by decide)
            rw [allN_len] at e9 h1
            exact ⟨A9, c9, e9, h1⟩
          have P2 := Lib.hid p2
          have L9 := Lib.hid (below_next L0.out p1.b)
          have HMO := Lib.hid hmo
          have HZ := Lib.hid (Nat.le_of_lt BN.out.lt)
          clear p1 p2 HE
          go_wp2
          go_ret3
          exact ⟨A9, c9, mo, by simp, own_lo P2.out HZ.out, HMO.out, L9.out⟩
end Go.Proofs.YtfamgaakcbinkaaDoor.Wn
-- WnHangs
set_option maxRecDepth 100000
namespace Go.Proofs.YtfamgaakcbinkaaDoor.Wn
open Go.Proofs.YtfamgaakcbinkaaDoor.Sh Go.Proofs.YtfamgaakcbinkaaDoor.St Go.Proofs.YtfamgaakcbinkaaDoor.Fd
open Go.RowKit
set_option linter.unusedVariables false

set_option maxHeartbeats 4000000 in
theorem answers_no (c : Int) (s : Bool) (bk lk wd : Int) (V : Value) (w : World) (hT : Sc.Tab w) (hbR : Sc.InR bk) (hw : whyW c bk lk 1 ≠ 0) :
    Calls Tryd.prog 37 #[.agg #[.int .i64 c, .bool s, .int .i64 bk, .int .i64 lk, .int .i64 wd], V] w fun e w' => e = .returned (.tuple #[.slice none 0 0, .int .i64 0, .bool false]) ∧ Below w.heap.size w w' := by
  have b0 := below_new w (.cells #[.int .i64 c, .bool s, .int .i64 bk, .int .i64 lk, .int .i64 wd] 45)
  have BN := Lib.hid (Bk.new 45 w [.int .i64 c, .bool s, .int .i64 bk, .int .i64 lk, .int .i64 wd])
  have T1 := Lib.hid (hT.below b0)
  have L0 := Lib.hid b0
  have NN := Lib.hid (fun W (h : Sc.Tab W) => new_no c s bk lk 1 W h hbR hw)
  obtain ⟨y, hy⟩ : ∃ y, whyW c bk lk 1 = y := ⟨_, rfl⟩
  rw [hy] at NN hw
  have e1 : (y != 0) = true := by simpa using hw
  clear b0 hT hw hy hbR
  obtain ⟨x0, x1, x2, x3, x4⟩ := of_cells BN.out
  go_enter Tryd.func37, Tryd.ntmps37
  go_wp2_with fail
  refine (NN.out _ T1.out).mono ?_
  rintro r w2 ⟨rfl, hb2⟩
  have L2 := Lib.hid (below_next L0.out hb2)
  clear hb2
  go_wp2
  go_ret3
  exact ⟨rfl, L2.out⟩
theorem own_put {w : World} {base : Nat} {e : TypeId} {V : Value} {n i : Nat} {xs : List Value} (h : w.ownsRow base e 1 V n xs) (hi : i < n) : ∃ b c, V = .slice (some ⟨b, 0, none⟩) n c ∧ base ≤ b ∧ w.cell? ⟨b, i, none⟩ = xs[i]? ∧ w.frozen? ⟨b, i, none⟩ = false ∧ b < w.heap.size ∧ ∀ u, (w.setCell ⟨b, i, none⟩ u).ownsRow base e 1 V n (xs.set i u) := by
  rcases h.2 with ⟨_, h0⟩ | ⟨b, c, cur, rfl, hb, hg, hn, hm, hs, ht⟩
  · omega
  have hB : Bk e w b cur.toList := by unfold Bk; simpa using hg
  refine ⟨b, c, rfl, hb, ?_, hB.f i, hB.lt, fun u => ?_⟩
  · rw [hB.c, ← ht, List.getElem?_take_of_lt (by omega)]
  · refine ⟨by rw [List.length_set]; exact h.1, .inr ⟨b, c, (cur.toList.set i u).toArray, rfl, hb, hB.set_ i u, hn, hm, by simp; simpa using hs, ?_⟩⟩
    rw [List.toList_toArray, ← ht, List.take_set]
theorem seq_lt {S : Nat → Prop} {w : World} {A : Option Addr} {vs : List Value} (h : Seq S w A vs) : Seq (fun b => b < w.heap.size) w A vs := fun hp => by
  obtain ⟨b, off, h1, h2, h3, h4⟩ := h hp
  exact ⟨b, off, h1, h3, h3, h4⟩
theorem mine_lt {w : World} {base n c : Nat} {A : Option Addr} {r : List Int} (h : MineT 2 w base (.slice A n c) r) : SInts (fun b => b < w.heap.size) w A r := seq_lt (mine_S h)
/-- The numbers with the one at k made greater by one. -/
def inc (l : List Int) (k : Nat) : List Int := l.set k (wrap64 (l.getD k 0 + 1))
theorem inc_len (l : List Int) (k : Nat) : (inc l k).length = l.length := by simp [inc]
theorem inc_R {l : List Int} (h : AllR l) (k : Nat) : AllR (inc l k) := fun x hx => by
  rcases List.mem_or_eq_of_mem_set hx with h1 | h1
  · exact h x h1
  · subst h1
    rw [Sc.wrap_def]
    unfold Sc.InR
    omega
theorem ans_far {c : Int} {s : Bool} {back look : Nat} {l : List Int} {k e : Nat} (h : e + look < k ∨ k + back < e) : ansN c s back look (inc l k) e = ansN c s back look l e := by
  unfold ansN inc
  rcases h with h | h
  · rw [List.take_set_of_le (by omega)]
  · rw [List.take_set, List.drop_set_of_lt (by omega)]
theorem lit_grown {w w' : World} {o : Obj} {n c : Nat} (h : (w.alloc o).grownBy w' (Value.slice (some ⟨w.heap.size, 0, none⟩) n c).ownBlock) : Below w.heap.size w w' :=
  ((Turn.of_below (fun b => b = w.heap.size) (below_new w o)).trans (Turn.of_grown h fun g e => by simp [Value.ownBlock] at e; exact e.symm)).below (Nat.le_refl _) fun i hi => Nat.le_of_eq hi.symm
theorem inc_map {l : List Int} {k : Nat} {x : Int} (h : l.getD k 0 = x) : (l.map (Value.int .i64)).set k (.int .i64 (wrap64 (x + 1))) = (inc l k).map (Value.int .i64) := by
  unfold inc
  rw [h, List.map_set]
/-- The number at a place of a row of one's own. -/
theorem mine_at {w : World} {base n c : Nat} {A : Option Addr} {r : List Int} (h : MineT 2 w base (.slice A n c) r) {j : Nat} {x : Int} (hj : r[j]? = some x) : ∃ b off, A = some ⟨b, off, none⟩ ∧ w.cell? ⟨b, off + j, none⟩ = some (.int .i64 x) := by
  obtain ⟨b, off, h1, h2, h3, h4⟩ := (mine_S h).one (j := j) (u := .int .i64 x) (by rw [List.getElem?_map, hj]; rfl)
  exact ⟨b, off, h1, h4⟩
theorem allN_at {c : Int} {s : Bool} {back look : Nat} {l : List Int} {n j : Nat} (h : j < n) : (allN c s back look l n)[j]? = some (ansN c s back look l j) := by simp [allN, h]
set_option maxHeartbeats 8000000 in
theorem hangs_yes (c : Int) (s : Bool) (back look : Nat) (wd : Int) (A : Option Addr) (cA : Nat) (l : List Int) (u : Int) (w : World) (h0 : 0 < w.heap.size) (hT : Sc.Tab w) (hV : SInts (fun b => b < w.heap.size) w A l) (hR : AllR l) (hl : l.length ≤ 60) (hl0 : 0 < l.length) (hu0 : 0 ≤ u) (hu1 : u < 18446744073709551616) (h2 : Sc.hasB c 2 = true) (hbl : back + look ≤ 31) :
    Calls Tryd.prog 9 #[.agg #[.int .i64 c, .bool s, .int .i64 (back : Nat), .int .i64 (look : Nat), .int .i64 wd], .slice A l.length cA, .int .u64 u] w fun e w' => e = .returned (.bool true) ∧ Below w.heap.size w w' := by
  have b0 := below_new w (.cells #[.int .i64 c, .bool s, .int .i64 (back : Nat), .int .i64 (look : Nat), .int .i64 wd] 45)
  have BN := Lib.hid (Bk.new 45 w [.int .i64 c, .bool s, .int .i64 (back : Nat), .int .i64 (look : Nat), .int .i64 wd])
  have T1 := Lib.hid (hT.below b0)
  have V1 := Lib.hid (seq_lt (hV.next b0))
  have L0 := Lib.hid b0
  have H0 := Lib.hid (Nat.lt_of_lt_of_le h0 b0.size)
  have HR := Lib.hid hR
  have H2 := Lib.hid h2
  have t1 : decide ((l.length : Int) > 60) = false := decide_eq_false (by omega)
  have e0 : ((l.length : Int) == 0) = false := by simp; intro h; simp [h] at hl0
  obtain ⟨k, hk⟩ : ∃ k : Nat, u.tmod (l.length : Int) = k := ⟨(u.tmod l.length).toNat, by rw [Int.tmod_eq_emod_of_nonneg hu0]; have := Int.emod_nonneg u (show (l.length : Int) ≠ 0 by omega); omega⟩
  have hkl : k < l.length := by rw [Int.tmod_eq_emod_of_nonneg hu0] at hk; have := Int.emod_lt_of_pos u (show (0 : Int) < l.length by omega); omega
  have HK := Lib.hid hk
  clear b0 h0 hT hV hR h2
  obtain ⟨x0, x1, x2, x3, x4⟩ := of_cells BN.out
  go_enter Tryd.func9, Tryd.ntmps9
  go_wp2_with fail
  generalize hW1 : w.alloc (.cells #[.int .i64 c, .bool s, .int .i64 (back : Nat), .int .i64 (look : Nat), .int .i64 wd] 45) = w1 at *
  clear hW1
  refine (answers_yes c s back look wd A cA l w1 H0.out T1.out V1.out HR.out hl H2.out hbl).mono ?_
  rintro r w2 ⟨A2, c2, mo, rfl, m2, hmo, hb2⟩
  have M2 := Lib.hid m2
  have L2 := Lib.hid hb2
  have J2 := Lib.hid (own_empty w2 2 1 w2.heap.size w2.heap.size rfl (Nat.le_refl _))
  have V2 := Lib.hid ((Seq.next V1.out hb2).next (below_new w2 (.cells #[] 2)))
  have TN : Hid (0 + l.length ≤ 100000) := Lib.hid (by omega)
  have LB : Hid (w2.heap.size ≤ (w2.alloc (.cells #[] 2)).heap.size) := Lib.hid (by simp)
  obtain ⟨x, hx⟩ : ∃ x, l.getD k 0 = x := ⟨_, rfl⟩
  have HX : Hid ((l.map (Value.int .i64))[k]? = some (.int .i64 x)) := Lib.hid (by rw [List.getElem?_map, ← hx, List.getD_eq_getElem?_getD, List.getElem?_eq_getElem hkl]; rfl)
  have HXE := Lib.hid hx
  have k0 : (0 : Int) ≤ (k : Int) := by omega
  have k1 : (k : Int) < (l.length : Int) := by omega
  clear m2 hb2 x0 x1 x2 x3 x4 t1 e0 hx
  go_wp2_with (at_builtin; refine wpList_appS infoN rfl (by decide) (by decide) Tryd.underlying27 rfl (.tmp 57) (.tmp 58) rfl w2.heap.size _ 0 [] rfl J2.out _ A l.length cA (l.map (Value.int .i64)) rfl (by simp) V2.out (ints_one l) TN.out LB.out ?_; intro v4 w4 hv4 hg4 ha4; rw [Nat.zero_add, List.nil_append] at hv4; obtain ⟨b4, d4, rfl, hb4, hc4, hf4, hlt4, hs4⟩ := own_put hv4 (i := k) hkl; rw [HX.out] at hc4; have S4 := Lib.hid hs4; have G4 := Lib.hid (lit_grown hg4); have B4 := Lib.hid hb4; have q1 : ¬ w.heap.size = b4 := (by have h1 := BN.out.lt; have h2 := L2.out.size; omega); have q2 : ¬ b4 = w.heap.size := (fun e => q1 e.symm); obtain ⟨x0, x1, x2, x3, x4⟩ := of_cells (BN.out.next (below_next L2.out G4.out)); clear hv4 hg4 ha4 hs4 hb4)
  have hg : Below w2.heap.size w2 (w4.setCell ⟨b4, k, none⟩ (.int .i64 (wrap64 (x + 1)))) := G4.out.setCell (p := ⟨b4, k, none⟩) B4.out _
  have MI := Lib.hid (show MineT 2 (w4.setCell ⟨b4, k, none⟩ (.int .i64 (wrap64 (x + 1)))) w2.heap.size (.slice (some ⟨b4, 0, none⟩) l.length d4) (inc l k) by
    have h := S4.out (.int .i64 (wrap64 (x + 1)))
    rw [inc_map HXE.out] at h
    show World.ownsRow _ _ _ _ _ (inc l k).length _
    rw [inc_len]
    exact h)
  have L6 := Lib.hid (below_next L2.out hg)
  have M6 := Lib.hid (own_below M2.out hg)
  generalize w4.setCell ⟨b4, k, none⟩ (.int .i64 (wrap64 (x + 1))) = w6 at *
  have AN := answers_yes c s back look wd (some ⟨b4, 0, none⟩) d4 (inc l k) w6 (Nat.lt_of_lt_of_le H0.out L6.out.size) (T1.out.below L6.out) (mine_lt MI.out) (inc_R HR.out k) (by rw [inc_len]; exact hl) H2.out hbl
  unfold RetAw at AN
  rw [inc_len] at AN
  have ANH := Lib.hid AN
  clear AN S4 G4 x0 x1 x2 x3 x4 q1 q2 hg
  go_wp2_with fail
  refine ANH.out.mono ?_
  rintro r w7 ⟨A7, c7, mo7, rfl, m7, -, hb7⟩
  have M7 := Lib.hid m7
  have M67 := Lib.hid (own_below M6.out hb7)
  have L7 := Lib.hid (below_next L6.out hb7)
  obtain ⟨x0, x1, x2, x3, x4⟩ := of_cells (BN.out.next L7.out)
  have tm : decide ((mo : Int) > 2 * ((back : Int) + (look : Int) + 1)) = false := decide_eq_false (by omega)
  have tm2 : decide (2 * ((back : Int) + (look : Int) + 1) < (mo : Int)) = false := decide_eq_false (by omega)
  have tm3 : decide (2 * (back + look + 1) < mo) = false := decide_eq_false (by omega)
  have PA : Hid (Below w7.heap.size w7 w7) := Lib.hid (Below.refl _ _)
  have e5 : IntKind.i64.wrap ((k : Int) - (look : Int)) = (k : Int) - (look : Int) := IntWalk.i64_in _ (by omega)
  have e6 : IntKind.i64.wrap ((k : Int) + (back : Int)) = (k : Int) + (back : Int) := IntWalk.i64_in _ (by omega)
  clear m7 hb7 ANH MI M6
  go_wp2
  clear tm tm2 tm3
  go_loopw [17] (fun i wr => ∃ j : Nat, j ≤ l.length ∧ i = .int .i64 j ∧ Hid (Below w7.heap.size w7 wr)) (fun i _ => l.length - (intOf i).toNat)
  case atStart => exact ⟨0, Nat.zero_le _, rfl, PA⟩
  case round =>
    obtain ⟨j, hj, rfl, HB⟩ := hrel
    clear PA
    by_cases hlt : j < l.length
    · have i1 : (j : Int) < (l.length : Int) := by omega
      have i0 : (0 : Int) ≤ (j : Int) := by omega
      obtain ⟨p, hp⟩ : ∃ p, ansN c s back look l j = p := ⟨_, rfl⟩
      obtain ⟨q, hq⟩ : ∃ q, ansN c s back look (inc l k) j = q := ⟨_, rfl⟩
      obtain ⟨ba, oa, rfl, ca⟩ := mine_at (own_below M67.out HB.out) (j := j) (x := p) (by rw [allN_at hlt, hp])
      obtain ⟨bb, ob, rfl, cb⟩ := mine_at (own_below M7.out HB.out) (j := j) (x := q) (by rw [allN_at hlt, hq])
      obtain ⟨y0, y1, y2, y3, y4⟩ := of_cells (BN.out.next (below_next L7.out HB.out))
      clear x0 x1 x2 x3 x4
      by_cases hne : p = q
      · have e1 : (p != q) = false := by simp [hne]
        clear hp hq hne
        go_wp2_with fail
        go_region
        all_goals
          have PA := Lib.hid HB.out.drew
          go_wp2
          exact ⟨⟨j + 1, by omega, by go_num, PA⟩, by simp [intOf]; omega⟩
      · have e1 : (p != q) = true := by simp [hne]
        have hf : ¬ (j + look < k ∨ k + back < j) := fun h => hne (by rw [← hp, ← hq]; exact (ans_far h).symm)
        have t2 : decide ((j : Int) < (k : Int) - (look : Int)) = false := decide_eq_false (by omega)
        have t3 : decide ((j : Int) > (k : Int) + (back : Int)) = false := decide_eq_false (by omega)
        clear hp hq hne hf
        go_wp2_with fail
        go_region
        all_goals
          have PA := Lib.hid HB.out.drew
          go_wp2
          exact ⟨⟨j + 1, by omega, by go_num, PA⟩, by simp [intOf]; omega⟩
    · obtain rfl : j = l.length := by omega
      have L8 := Lib.hid (below_next L7.out HB.out)
      clear HB
      go_wp2_with fail
      refine (lives_any _ (T1.out.below L8.out) (Nat.lt_of_lt_of_le H0.out L8.out.size)).mono ?_
      rintro r w9 ⟨rfl, hb9⟩
      have L9 := Lib.hid (below_next (below_next L0.out L8.out) hb9)
      clear hb9
      go_wp2
      go_ret
      exact ⟨rfl, L9.out⟩
set_option maxHeartbeats 2000000 in
theorem hangs_small (c : Int) (s : Bool) (bk lk wd : Int) (A : Option Addr) (cA : Nat) (l : List Int) (u : Int) (w : World) (h0 : 0 < w.heap.size) (hT : Sc.Tab w) (h : decide ((l.length : Int) > 60) = true ∨ (decide ((l.length : Int) > 60) = false ∧ ((l.length : Int) == 0) = true)) :
    Calls Tryd.prog 9 #[.agg #[.int .i64 c, .bool s, .int .i64 bk, .int .i64 lk, .int .i64 wd], .slice A l.length cA, .int .u64 u] w fun e w' => e = .returned (.bool true) ∧ Below w.heap.size w w' := by
  have b0 := below_new w (.cells #[.int .i64 c, .bool s, .int .i64 bk, .int .i64 lk, .int .i64 wd] 45)
  have T1 := Lib.hid (hT.below b0)
  have L0 := Lib.hid b0
  have H0 := Lib.hid (Nat.lt_of_lt_of_le h0 b0.size)
  clear b0 h0 hT
  rcases h with t1 | ⟨t1, t2⟩
  all_goals
    go_enter Tryd.func9, Tryd.ntmps9
    go_wp2_with fail
    refine (lives_any _ T1.out H0.out).mono ?_
    rintro r w5 ⟨rfl, hb5⟩
    have L5 := Lib.hid (below_next L0.out hb5)
    clear hb5
    go_wp2
    go_ret
    exact ⟨rfl, L5.out⟩
set_option maxHeartbeats 2000000 in
theorem hangs_none (c : Int) (s : Bool) (bk lk wd : Int) (A : Option Addr) (cA : Nat) (l : List Int) (u : Int) (w : World) (h0 : 0 < w.heap.size) (hT : Sc.Tab w) (hbR : Sc.InR bk) (hw : whyW c bk lk 1 ≠ 0) (t1 : decide ((l.length : Int) > 60) = false) (t2 : ((l.length : Int) == 0) = false) :
    Calls Tryd.prog 9 #[.agg #[.int .i64 c, .bool s, .int .i64 bk, .int .i64 lk, .int .i64 wd], .slice A l.length cA, .int .u64 u] w fun e w' => e = .returned (.bool true) ∧ Below w.heap.size w w' := by
  have b0 := below_new w (.cells #[.int .i64 c, .bool s, .int .i64 bk, .int .i64 lk, .int .i64 wd] 45)
  have BN := Lib.hid (Bk.new 45 w [.int .i64 c, .bool s, .int .i64 bk, .int .i64 lk, .int .i64 wd])
  have T1 := Lib.hid (hT.below b0)
  have L0 := Lib.hid b0
  have H0 := Lib.hid (Nat.lt_of_lt_of_le h0 b0.size)
  have AN := Lib.hid (fun V W (h : Sc.Tab W) => answers_no c s bk lk wd V W h hbR hw)
  have NN := Lib.hid (fun W (h : Sc.Tab W) => new_no c s bk lk 1 W h hbR hw)
  obtain ⟨y, hy⟩ : ∃ y, whyW c bk lk 1 = y := ⟨_, rfl⟩
  rw [hy] at NN hw
  have e1 : (y != 0) = true := by simpa using hw
  clear b0 h0 hT hw hy hbR
  obtain ⟨x0, x1, x2, x3, x4⟩ := of_cells BN.out
  go_enter Tryd.func9, Tryd.ntmps9
  go_wp2_with fail
  refine (AN.out _ _ T1.out).mono ?_
  rintro r w2 ⟨rfl, hb2⟩
  have L2 := Lib.hid (below_next L0.out hb2)
  have T2 := Lib.hid (T1.out.below hb2)
  have H2 := Lib.hid (Nat.lt_of_lt_of_le H0.out hb2.size)
  obtain ⟨y0, y1, y2, y3, y4⟩ := of_cells (BN.out.next hb2)
  clear hb2 x0 x1 x2 x3 x4
  go_wp2_with fail
  refine (NN.out _ T2.out).mono ?_
  rintro r w3 ⟨rfl, hb3⟩
  have L3 := Lib.hid (below_next L2.out hb3)
  have LV := Lib.hid (lives_any _ (T2.out.below hb3) (Nat.lt_of_lt_of_le H2.out hb3.size))
  clear hb3 y0 y1 y2 y3 y4
  go_wp2_with fail
  refine LV.out.mono ?_
  rintro r w5 ⟨rfl, hb5⟩
  have L5 := Lib.hid (below_next L3.out hb5)
  clear hb5
  go_wp2
  go_ret
  exact ⟨rfl, L5.out⟩
theorem hangs_any (c : Int) (s : Bool) (bk lk wd : Int) (A : Option Addr) (cA : Nat) (l : List Int) (u : Int) (w : World) (h0 : 0 < w.heap.size) (hT : Sc.Tab w) (hbR : Sc.InR bk) (hV : SInts (fun b => b < w.heap.size) w A l) (hR : AllR l) (hm : l.length ≤ maxLen) (hu0 : 0 ≤ u) (hu1 : u < 18446744073709551616) :
    Calls Tryd.prog 9 #[.agg #[.int .i64 c, .bool s, .int .i64 bk, .int .i64 lk, .int .i64 wd], .slice A l.length cA, .int .u64 u] w fun e w' => e = .returned (.bool true) ∧ Below w.heap.size w w' := by
  by_cases h1 : l.length > 60
  · exact hangs_small c s bk lk wd A cA l u w h0 hT (.inl (decide_eq_true (by omega)))
  · have t1 : decide ((l.length : Int) > 60) = false := decide_eq_false (by omega)
    by_cases h2 : l.length = 0
    · exact hangs_small c s bk lk wd A cA l u w h0 hT (.inr ⟨t1, by simp [h2]⟩)
    · have t2 : ((l.length : Int) == 0) = false := by simp; intro h; exact h2 (by simp [h])
      by_cases hw : whyW c bk lk 1 = 0
      · obtain ⟨_, _, h3, h4, h5, h6⟩ := why_yes hw
        obtain ⟨back, rfl⟩ : ∃ k : Nat, bk = k := ⟨bk.toNat, by omega⟩
        obtain ⟨look, rfl⟩ : ∃ k : Nat, lk = k := ⟨lk.toNat, by omega⟩
        exact hangs_yes c s back look wd A cA l u w h0 hT hV hR (by omega) (by omega) hu0 hu1 h3 (by omega)
      · exact hangs_none c s bk lk wd A cA l u w h0 hT hbR hw t1 t2
theorem ints_lt {w : World} {A : Option Addr} {l : List Int} (h : Ints w A l) : SInts (fun b => b < w.heap.size) w A l := Ints.sints h fun b off _ hb => hb
theorem uint_bd {n : Int} (h : (Lit.int .u64 n).wf = true) : 0 ≤ n ∧ n < 18446744073709551616 := by
  simp [Lit.wf, IntKind.min, IntKind.max, IntKind.signed, IntKind.bits, Bool.and_eq_true, decide_eq_true_eq] at h
  omega
end Go.Proofs.YtfamgaakcbinkaaDoor.Wn
-- WnFour
set_option maxRecDepth 100000
namespace Go.Proofs.YtfamgaakcbinkaaDoor.Wn
open Go.Proofs.YtfamgaakcbinkaaDoor.Sh Go.Proofs.YtfamgaakcbinkaaDoor.St Go.Proofs.YtfamgaakcbinkaaDoor.Fd
open Go.RowKit
set_option linter.unusedVariables false

/-- Rows in blocks apart. -/
def Dj (X Y : Value) : Prop := ∀ b, X.ownBlock = some b → Y.ownBlock ≠ some b
theorem Dj.sy {X Y : Value} (h : Dj X Y) : Dj Y X := fun b h1 h2 => h b h2 h1
/-- Four rows of the law's own, in blocks apart. -/
def Four (w : World) (n₀ : Nat) (X1 X2 X3 X4 : Value) (l1 l2 l3 l4 : List Int) : Prop :=
  MineT 2 w n₀ X1 l1 ∧ MineT 2 w n₀ X2 l2 ∧ MineT 2 w n₀ X3 l3 ∧ MineT 2 w n₀ X4 l4 ∧ Dj X1 X2 ∧ Dj X1 X3 ∧ Dj X1 X4 ∧ Dj X2 X3 ∧ Dj X2 X4 ∧ Dj X3 X4
def Own4 (X1 X2 X3 X4 : Value) (b : Nat) : Prop := X1.ownBlock = some b ∨ X2.ownBlock = some b ∨ X3.ownBlock = some b ∨ X4.ownBlock = some b
/-- A window beside four rows, and blocks B0 apart from both. -/
def Al (w1 w : World) (n₀ g : Nat) (V : Value) (c : Int) (s : Bool) (n : Nat) (Y : Nat → Value) (back look : Nat) (rs : List (List Int)) (told : Nat) (over : Bool) (B0 : Nat → Prop) (X1 X2 X3 X4 : Value) (l1 l2 l3 l4 : List Int) : Prop :=
  Kf w1 w n₀ g V c s n Y back look rs told over (fun b => Own4 X1 X2 X3 X4 b ∨ B0 b) ∧ Four w n₀ X1 X2 X3 X4 l1 l2 l3 l4 ∧ ∀ b, Own4 X1 X2 X3 X4 b → ¬ B0 b
section
variable {n₀ g n back look told m : Nat} {c : Int} {s over : Bool} {V X1 X2 X3 X4 v' : Value} {w0 w1 w w' : World} {Y : Nat → Value} {S B0 B1 : Nat → Prop} {rs : List (List Int)} {r l1 l2 l3 l4 ys : List Int}
theorem Four.turn (h : Four w n₀ X1 X2 X3 X4 l1 l2 l3 l4) (t : Turn S w w') (hS : ∀ b, Own4 X1 X2 X3 X4 b → ¬ S b) : Four w' n₀ X1 X2 X3 X4 l1 l2 l3 l4 :=
  ⟨own_turn h.1 t fun b hb => hS b (.inl hb), own_turn h.2.1 t fun b hb => hS b (.inr (.inl hb)), own_turn h.2.2.1 t fun b hb => hS b (.inr (.inr (.inl hb))), own_turn h.2.2.2.1 t fun b hb => hS b (.inr (.inr (.inr hb))), h.2.2.2.2⟩
theorem Four.lt (h : Four w n₀ X1 X2 X3 X4 l1 l2 l3 l4) : ∀ b, Own4 X1 X2 X3 X4 b → b < w.heap.size ∧ n₀ ≤ b := fun b hb => by
  rcases hb with k | k | k | k
  · exact ⟨own_lt h.1 b k, own_base h.1 b k⟩
  · exact ⟨own_lt h.2.1 b k, own_base h.2.1 b k⟩
  · exact ⟨own_lt h.2.2.1 b k, own_base h.2.2.1 b k⟩
  · exact ⟨own_lt h.2.2.2.1 b k, own_base h.2.2.2.1 b k⟩
theorem Four.nil (w : World) (n₀ : Nat) : Four w n₀ (.slice none 0 0) (.slice none 0 0) (.slice none 0 0) (.slice none 0 0) [] [] [] [] :=
  ⟨MineT.nil _ _ _, MineT.nil _ _ _, MineT.nil _ _ _, MineT.nil _ _ _, by refine ⟨?_, ?_, ?_, ?_, ?_, ?_⟩ <;> (intro b hb; simp [Value.ownBlock] at hb)⟩
theorem own4_nil (b : Nat) : ¬ Own4 (.slice none 0 0) (.slice none 0 0) (.slice none 0 0) (.slice none 0 0) b := fun h => by simp [Own4, Value.ownBlock] at h
theorem Al.rot (h : Al w1 w n₀ g V c s n Y back look rs told over B0 X1 X2 X3 X4 l1 l2 l3 l4) : Al w1 w n₀ g V c s n Y back look rs told over B0 X2 X3 X4 X1 l2 l3 l4 l1 := by
  have e : ∀ b, Own4 X2 X3 X4 X1 b → Own4 X1 X2 X3 X4 b := fun b hb => by
    rcases hb with k | k | k | k
    · exact .inr (.inl k)
    · exact .inr (.inr (.inl k))
    · exact .inr (.inr (.inr k))
    · exact .inl k
  obtain ⟨k, ⟨a1, a2, a3, a4, d12, d13, d14, d23, d24, d34⟩, ap⟩ := h
  exact ⟨k.mono fun b hb => hb.imp (e b) id, ⟨a2, a3, a4, a1, d23, d24, d12.sy, d34, d13.sy, d14.sy⟩, fun b hb => ap b (e b hb)⟩
theorem Al.next (h : Al w1 w n₀ g V c s n Y back look rs told over B0 X1 X2 X3 X4 l1 l2 l3 l4) (hb : Below w.heap.size w w') : Al w1 w' n₀ g V c s n Y back look rs told over B0 X1 X2 X3 X4 l1 l2 l3 l4 :=
  ⟨h.1.next hb, h.2.1.turn (Turn.of_below (fun _ => False) hb) fun _ _ k => k, h.2.2⟩
/-- New blocks are taken into B0. -/
theorem Al.more (h : Al w1 w n₀ g V c s n Y back look rs told over B0 X1 X2 X3 X4 l1 l2 l3 l4) (hb : Below w.heap.size w w') (hB : ∀ b, B1 b → B0 b ∨ (w.heap.size ≤ b ∧ b < w'.heap.size)) : Al w1 w' n₀ g V c s n Y back look rs told over B1 X1 X2 X3 X4 l1 l2 l3 l4 := by
  refine ⟨h.1.more hb fun b k => ?_, h.2.1.turn (Turn.of_below (fun _ => False) hb) fun _ _ k => k, fun b k k1 => ?_⟩
  · rcases k with k | k
    · exact .inl (.inl k)
    · exact (hB b k).imp .inr id
  · rcases hB b k1 with k2 | k2
    · exact h.2.2 b k k2
    · have := (h.2.1.lt b k).1; omega
/-- One of the rows has grown. -/
theorem Al.app {o : Obj} (h : Al w1 w n₀ g V c s n Y back look rs told over B0 X1 X2 X3 X4 l1 l2 l3 l4) (hv : w'.ownsRow n₀ 2 1 v' (l1.length + m) (l1.map (Value.int .i64) ++ ys.map (Value.int .i64))) (hm : ys.length = m) (hg : (w.alloc o).grownBy w' X1.ownBlock) (ha : v'.ownBlock = X1.ownBlock ∨ v'.ownBlock = some (w.alloc o).heap.size) :
    Al w1 w' n₀ g V c s n Y back look rs told over B0 v' X2 X3 X4 (l1 ++ ys) l2 l3 l4 ∧ Turn (Fr n₀ B0) w w' := by
  have h0 := h.next (below_new w o)
  have hz : (w.alloc o).heap.size = w.heap.size + 1 := by simp
  obtain ⟨k, f, ap⟩ := h0
  have flt := f.lt
  have fw := h.2.1.lt
  obtain ⟨a1, a2, a3, a4, d12, d13, d14, d23, d24, d34⟩ := f
  have tg : Turn (fun b => X1.ownBlock = some b) (w.alloc o) w' := Turn.of_grown hg fun g e => e
  have nd : ∀ (X : Value), Dj X1 X → (∀ b, X.ownBlock = some b → b < (w.alloc o).heap.size) → Dj v' X := fun X d hl b hb hX => by
    rcases ha with e | e
    · exact d b (e.symm.trans hb) hX
    · rw [e] at hb
      injection hb with hb
      have := hl b hX
      omega
  have oo : ∀ b, Own4 v' X2 X3 X4 b → Own4 X1 X2 X3 X4 b ∨ b = (w.alloc o).heap.size := fun b hb => by
    rcases hb with k | k
    · rcases ha with e | e
      · exact .inl (.inl (e.symm.trans k))
      · rw [e] at k; injection k with k; exact .inr k.symm
    · exact .inl (.inr k)
  refine ⟨⟨(k.app (by decide) a1 (fun b hb => .inl (.inl hb)) hv hg ha).mono fun b hb => ?_, ⟨own_more hv rfl hm, own_turn a2 tg fun b hb hX => d12 b hX hb, own_turn a3 tg fun b hb hX => d13 b hX hb, own_turn a4 tg fun b hb hX => d14 b hX hb, nd X2 d12 fun b hb => (flt b (.inr (.inl hb))).1, nd X3 d13 fun b hb => (flt b (.inr (.inr (.inl hb)))).1, nd X4 d14 fun b hb => (flt b (.inr (.inr (.inr hb)))).1, d23, d24, d34⟩, fun b hb h2 => ?_⟩, ?_⟩
  · rcases hb with hb | hb
    · rcases hb with k | k
      · exact .inr k
      · exact .inl (.inl (.inr k))
    · exact .inl (.inr hb)
  · rcases oo b hb with k1 | k1
    · exact ap b k1 h2
    · obtain ⟨T, _, aT, _⟩ := k
      have := (aT b (.inr h2)).1
      omega
  · exact (Turn.of_below _ (below_new w o)).trans (tg.mono fun b hb => ⟨own_base a1 b hb, ap b (.inl hb)⟩)
end
section
variable (w1 w : World) (n₀ g : Nat) (V : Value) (c : Int) (s : Bool) (n : Nat) (Y : Nat → Value) (back look : Nat) (rs : List (List Int)) (told : Nat) (B0 : Nat → Prop) (X1 X2 X3 X4 : Value) (l1 l2 l3 l4 : List Int)
theorem al_left {w w' : World} {rs' : List (List Int)} {told' : Nat} {over over' : Bool} (h : Al w1 w n₀ g V c s n Y back look rs told over B0 X1 X2 X3 X4 l1 l2 l3 l4) (k : Kf w1 w' n₀ g V c s n Y back look rs' told' over' (fun b => Own4 X1 X2 X3 X4 b ∨ B0 b)) (t : Turn (Fr n₀ fun b => Own4 X1 X2 X3 X4 b ∨ B0 b) w w') : Al w1 w' n₀ g V c s n Y back look rs' told' over' B0 X1 X2 X3 X4 l1 l2 l3 l4 ∧ Turn (Fr n₀ B0) w w' :=
  ⟨⟨k, h.2.1.turn t fun b hb hf => hf.2 (.inl hb), h.2.2⟩, t.mono fun b hb => ⟨hb.1, fun h => hb.2 (.inr h)⟩⟩
theorem push_a_wait (S : Nat → Prop) (P : Option Addr) (cap : Nat) (r : List Int) (h : Al w1 w n₀ g V c s n Y back look rs told false B0 X1 X2 X3 X4 l1 l2 l3 l4) (hi : SInts S w P r) (hS : ∀ b, S b → b < w.heap.size ∧ B0 b) (hr : r.length = n) (hR : AllR r) (hn : n ≤ 64) (hq : rs.length ≤ 900) (hd : rs.length < told + look) :
    Calls Tryd.prog 28 #[.pointer (some ⟨g, 0, none⟩), .slice P n cap] w fun e w' => e = .returned (.tuple #[.slice none 0 0, .bool false, .int .i64 0]) ∧ Al w1 w' n₀ g V c s n Y back look (rs ++ [r]) told false B0 X1 X2 X3 X4 l1 l2 l3 l4 ∧ Turn (Fr n₀ B0) w w' := by
  refine (push_f_wait w1 w w n₀ g V c s n Y back look rs told _ S P cap r h.1 (Below.refl _ _) hi (fun b hb => ⟨(hS b hb).1, .inr (.inr (.inr (hS b hb).2))⟩) hr hR hn hq hd).mono ?_
  rintro e w' ⟨rfl, k, t⟩
  exact ⟨rfl, al_left w1 n₀ g V c s n Y back look rs told B0 X1 X2 X3 X4 l1 l2 l3 l4 h k t⟩
/-- What a deed leaves that tells an answer. -/
def RetA (rs' : List (List Int)) (told' : Nat) (over' : Bool) (t : List Int) (f : Value → Value) (w : World) (e : Ending) (w' : World) : Prop :=
  ∃ A cap, e = .returned (f (.slice A t.length cap)) ∧ MineT 2 w' w.heap.size (.slice A t.length cap) t ∧ Al w1 w' n₀ g V c s n Y back look rs' told' over' B0 X1 X2 X3 X4 l1 l2 l3 l4 ∧ Turn (Fr n₀ B0) w w'
theorem push_a_due (S : Nat → Prop) (P : Option Addr) (cap : Nat) (r : List Int) (h : Al w1 w n₀ g V c s n Y back look rs told false B0 X1 X2 X3 X4 l1 l2 l3 l4) (hi : SInts S w P r) (hS : ∀ b, S b → b < w.heap.size ∧ B0 b) (hr : r.length = n) (hR : AllR r) (hn : n ≤ 64) (hq : rs.length ≤ 900) (hd : rs.length = told + look) (h2 : Sc.hasB c 2 = true) (t : List Int) (ht : ansI c s n ((rs ++ [r]).drop (told - back)) = t) :
    Calls Tryd.prog 28 #[.pointer (some ⟨g, 0, none⟩), .slice P n cap] w (RetA w1 n₀ g V c s n Y back look B0 X1 X2 X3 X4 l1 l2 l3 l4 (rs ++ [r]) (told + 1) false t (fun v => .tuple #[v, .bool true, .int .i64 0]) w) := by
  refine (push_f_due w1 w w n₀ g V c s n Y back look rs told _ S P cap r h.1 (Below.refl _ _) hi (fun b hb => ⟨(hS b hb).1, .inr (.inr (.inr (hS b hb).2))⟩) hr hR hn hq hd h2 t ht).mono ?_
  rintro e w' ⟨A, c', rfl, hm, k, t⟩
  exact ⟨A, c', rfl, hm, al_left w1 n₀ g V c s n Y back look rs told B0 X1 X2 X3 X4 l1 l2 l3 l4 h k t⟩
theorem drain_a_some (over : Bool) (h : Al w1 w n₀ g V c s n Y back look rs told over B0 X1 X2 X3 X4 l1 l2 l3 l4) (h2 : Sc.hasB c 2 = true) (hn : n ≤ 64) (hq : rs.length ≤ 900) (hd : told < rs.length) (t : List Int) (ht : ansI c s n (rs.drop (told - back)) = t) :
    Calls Tryd.prog 32 #[.pointer (some ⟨g, 0, none⟩)] w (RetA w1 n₀ g V c s n Y back look B0 X1 X2 X3 X4 l1 l2 l3 l4 rs (told + 1) true t (fun v => .tuple #[v, .bool true]) w) := by
  refine (drain_f_some w1 w n₀ g V c s n Y back look rs told _ over h.1 h2 hn hq hd t ht).mono ?_
  rintro e w' ⟨A, c', rfl, hm, k, t⟩
  exact ⟨A, c', rfl, hm, al_left w1 n₀ g V c s n Y back look rs told B0 X1 X2 X3 X4 l1 l2 l3 l4 h k t⟩
theorem drain_a_none (over : Bool) (h : Al w1 w n₀ g V c s n Y back look rs told over B0 X1 X2 X3 X4 l1 l2 l3 l4) (hd : told = rs.length) :
    Calls Tryd.prog 32 #[.pointer (some ⟨g, 0, none⟩)] w fun e w' => e = .returned (.tuple #[.slice none 0 0, .bool false]) ∧ Al w1 w' n₀ g V c s n Y back look rs told true B0 X1 X2 X3 X4 l1 l2 l3 l4 ∧ Turn (Fr n₀ B0) w w' := by
  refine (drain_f_none w1 w n₀ g V c s n Y back look rs told _ over h.1 hd).mono ?_
  rintro e w' ⟨rfl, k, t⟩
  exact ⟨rfl, al_left w1 n₀ g V c s n Y back look rs told B0 X1 X2 X3 X4 l1 l2 l3 l4 h k t⟩
end
end Go.Proofs.YtfamgaakcbinkaaDoor.Wn
