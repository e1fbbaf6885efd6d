/-
  Rows that a law keeps beside a window, and what the window's deeds leave of both; rifflelaw15.Great. Conditions: the table of traits holds what its text lays; the rows have the window's width, at most 64.
-/
import Derived.Test.YtfamgaakcbinkaaDoorWnStands
set_option maxRecDepth 100000
namespace Go.Proofs.YtfamgaakcbinkaaDoor.Wn
open Go.Proofs.YtfamgaakcbinkaaDoor.Sh Go.Proofs.YtfamgaakcbinkaaDoor.St Go.Proofs.YtfamgaakcbinkaaDoor.Fd
open Go.RowKit
set_option linter.unusedVariables false

theorem row_at {S : Nat → Prop} {w : World} {A : Option Addr} {c m : Nat} {rs : List (List Int)} (h : RwsIn S w (.slice A m c) rs) {k : Nat} {r : List Int} (hk : rs[k]? = some r) :
    ∃ b off B d, A = some ⟨b, off, none⟩ ∧ w.cell? ⟨b, off + k, none⟩ = some (.slice B r.length d) ∧ r.length ≤ d ∧ d ≤ maxLen ∧ SInts S w B r := by
  obtain ⟨A', c', vs, e, h1, h2, h3, h4, h5⟩ := h
  injection e with e1 e2 e3
  subst e1
  obtain ⟨B, d, k1, k2, k3, k4⟩ := h5 k r hk
  obtain ⟨b, off, rfl, _, _, hc⟩ := h4.one k1
  exact ⟨b, off, B, d, rfl, hc, k2, k3, k4⟩
def GreatB (rs : List (List Int)) (w : World) (e : Ending) (w' : World) : Prop := ∃ b, e = .returned (.bool b) ∧ (b = false → rs.length ≤ 60 ∧ ∀ r ∈ rs, r.length ≤ 70) ∧ w = w'
set_option maxHeartbeats 2000000 in
theorem great_any (S : Nat → Prop) (A : Option Addr) (cA : Nat) (rs : List (List Int)) (w : World) (h : RwsIn S w (.slice A rs.length cA) rs) (hm : rs.length ≤ maxLen) (hmr : ∀ r ∈ rs, r.length ≤ maxLen) :
    Calls Tryd.prog 27 #[.slice A rs.length cA] w (GreatB rs w) := by
  unfold maxLen at hm hmr
  have HV := Lib.hid h
  have HM := Lib.hid hmr
  clear h hmr
  go_enter Tryd.func27, Tryd.ntmps27
  go_wp2
  go_loop [3] (fun i => ∃ k : Nat, k ≤ rs.length ∧ k ≤ 60 ∧ i = .int .i64 k ∧ Hid (∀ t r, t < k → rs[t]? = some r → r.length ≤ 70)) (fun i => rs.length - (intOf i).toNat)
  case atStart => exact ⟨0, Nat.zero_le _, Nat.zero_le _, rfl, Lib.hid (fun t r ht => by omega)⟩
  case round =>
    obtain ⟨k, hk, hk60, rfl, HP⟩ := hrel
    by_cases h1 : k < rs.length
    · have t1 : decide ((k : Int) < (rs.length : Int)) = true := decide_eq_true (by omega)
      by_cases h2 : k < 60
      · have t2 : decide ((k : Int) < (60 : Int)) = true := decide_eq_true (by omega)
        obtain ⟨r, hr⟩ : ∃ r, rs[k]? = some r := ⟨_, List.getElem?_eq_getElem h1⟩
        obtain ⟨b, off, B, d, rfl, q1, -, -, -⟩ := row_at HV.out hr
        have HK := Lib.hid hr
        have k0 : (0 : Int) ≤ (k : Int) := by omega
        have k1 : (k : Int) < (rs.length : Int) := by omega
        have hrm := HM.out r (List.mem_of_getElem? hr)
        clear hr
        by_cases h3 : r.length > 70
        · have t3 : decide ((r.length : Int) > (70 : Int)) = true := decide_eq_true (by omega)
          go_wp2
          go_ret
          exact ⟨true, rfl, (fun h => by cases h), rfl⟩
        · have t3 : decide ((r.length : Int) > (70 : Int)) = false := decide_eq_false (by omega)
          go_wp2
          go_round
          case rel => exact ⟨k + 1, by omega, by omega, by go_num, Lib.hid (fun t q ht hq => by
            rcases Nat.lt_or_ge t k with hlt | hge
            · exact HP.out t q hlt hq
            · obtain rfl : t = k := by omega
              rw [HK.out] at hq
              injection hq with hq
              subst hq
              omega)⟩
          case measure => simp [intOf]; omega
      · have t2 : decide ((k : Int) < (60 : Int)) = false := decide_eq_false (by omega)
        by_cases h4 : rs.length > 60
        · have t4 : decide ((rs.length : Int) > (60 : Int)) = true := decide_eq_true (by omega)
          go_wp2
          go_ret
          exact ⟨true, rfl, (fun h => by cases h), rfl⟩
        · omega
    · have t1 : decide ((k : Int) < (rs.length : Int)) = false := decide_eq_false (by omega)
      have h4 : ¬ rs.length > 60 := by omega
      have t4 : decide ((rs.length : Int) > (60 : Int)) = false := decide_eq_false (by omega)
      have hkl : k = rs.length := by omega
      have HF := Lib.hid (show rs.length ≤ 60 ∧ ∀ r ∈ rs, r.length ≤ 70 from ⟨by omega, fun r hr => by
        obtain ⟨t, ht⟩ := List.getElem?_of_mem hr
        exact HP.out t r (by have := (List.getElem?_eq_some_iff.1 ht).1; omega) ht⟩)
      go_wp2
      go_ret
      exact ⟨false, rfl, fun _ => HF.out, rfl⟩
/-- Rows that the law keeps: a row of its own, the rows' numbers where they came in. -/
def Xs (B0 : Nat) (w : World) (X : Value) (rs : List (List Int)) : Prop := ∃ vs, w.ownsRow B0 27 1 X rs.length vs ∧ ∀ (t : Nat) (r : List Int), rs[t]? = some r → ∃ (B : Option Addr) (d : Nat), vs[t]? = some (Value.slice B r.length d) ∧ r.length ≤ d ∧ d ≤ maxLen ∧ SInts (fun b => b < B0) w B r
section
variable {B0 : Nat} {w w' : World} {X X' : Value} {rs : List (List Int)} {T : Nat → Prop}
theorem Xs.none (B0 : Nat) (w : World) : Xs B0 w (.slice none 0 0) [] := ⟨[], World.ownsRow_nil _ _ _ _, fun t r h => by simp at h⟩
theorem Xs.turn (h : Xs B0 w X rs) (hb : Turn T w w') (hX : ∀ b, X.ownBlock = some b → ¬ T b) (hB : ∀ b, b < B0 → ¬ T b) : Xs B0 w' X rs := by
  obtain ⟨vs, h1, h2⟩ := h
  refine ⟨vs, own_turn h1 hb hX, fun t r hr => ?_⟩
  obtain ⟨B, d, k1, k2, k3, k4⟩ := h2 t r hr
  exact ⟨B, d, k1, k2, k3, Seq.turn k4 hb hB⟩
theorem Xs.next (h : Xs B0 w X rs) (hb : Below w.heap.size w w') : Xs B0 w' X rs := h.turn (Turn.of_below (fun _ => False) hb) (fun _ _ h => h) fun _ _ h => h
theorem Xs.base (h : Xs B0 w X rs) : ∀ b, X.ownBlock = some b → B0 ≤ b := by obtain ⟨vs, h1, _⟩ := h; exact own_base h1
theorem Xs.rows (h : Xs B0 w X rs) : ∃ A c, X = .slice A rs.length c ∧ RwsIn (fun _ => True) w (.slice A rs.length c) rs := by
  obtain ⟨vs, h1, h2⟩ := h
  obtain ⟨A, c, rfl, hn, hm, hs⟩ := own_seq h1 (by decide)
  refine ⟨A, c, rfl, A, c, vs, rfl, hn, hm, by simpa using h1.1, hs.mono fun _ _ => trivial, fun t r hr => ?_⟩
  obtain ⟨B, d, k1, k2, k3, k4⟩ := h2 t r hr
  exact ⟨B, d, k1, k2, k3, Seq.mono k4 fun _ _ => trivial⟩
theorem Xs.app {vs : List Value} {o : Obj} {B : Option Addr} {d : Nat} {r : List Int} (h1 : w.ownsRow B0 27 1 X rs.length vs) (h2 : ∀ (t : Nat) (r : List Int), rs[t]? = some r → ∃ (B : Option Addr) (d : Nat), vs[t]? = some (Value.slice B r.length d) ∧ r.length ≤ d ∧ d ≤ maxLen ∧ SInts (fun b => b < B0) w B r)
    (hi : SInts (fun b => b < B0) w B r) (hd : r.length ≤ d) (hd2 : d ≤ maxLen) (hv : w'.ownsRow B0 27 1 X' (rs.length + 1) (vs ++ [.slice B r.length d])) (hg : (w.alloc o).grownBy w' X.ownBlock) : Xs B0 w' X' (rs ++ [r]) := by
  have hvl : vs.length = rs.length := by simpa using h1.1
  have tn : Turn (fun b => X.ownBlock = some b) w w' := (Turn.of_below _ (below_new w o)).trans (Turn.of_grown hg fun g e => e)
  have hB : ∀ b, b < B0 → ¬ X.ownBlock = some b := fun b hb e => by have := own_base h1 b e; omega
  refine ⟨vs ++ [.slice B r.length d], by simpa using hv, fun t q hq => ?_⟩
  rcases Nat.lt_or_ge t rs.length with hlt | hge
  · rw [List.getElem?_append_left hlt] at hq
    obtain ⟨B', d', k1, k2, k3, k4⟩ := h2 t q hq
    exact ⟨B', d', by rw [List.getElem?_append_left (by omega)]; exact k1, k2, k3, Seq.turn k4 tn hB⟩
  · rw [List.getElem?_append_right hge] at hq
    have ht : t - rs.length = 0 := by
      have := (List.getElem?_eq_some_iff.1 hq).1
      simp at this; omega
    rw [ht] at hq
    simp at hq
    subst hq
    exact ⟨B, d, by rw [List.getElem?_append_right (by omega), hvl, ht]; rfl, hd, hd2, Seq.turn hi tn hB⟩
end
/-- A window to which the rows rs came, beside the rows xs that a law keeps in X. -/
def Kw (w1 w : World) (n₀ g : Nat) (V : Value) (c : Int) (s : Bool) (n : Nat) (Y : Nat → Value) (back look : Nat) (X : Value) (xs rs : List (List Int)) (told : Nat) (over : Bool) : Prop :=
  ∃ T, Wr n₀ w g V c s n Y T back look rs told over ∧ Xs n₀ w X xs ∧ (∀ b, X.ownBlock = some b → ¬ Tw g V n T b) ∧ (∀ r ∈ xs, r.length = n) ∧ (∀ r ∈ xs, AllR r) ∧ Below n₀ w1 w
section
variable {n₀ g n back look told : Nat} {c : Int} {s over : Bool} {V X X' : Value} {w0 w1 w w' : World} {Y : Nat → Value} {S : Nat → Prop} {xs rs : List (List Int)} {r : List Int}
theorem Kw.next (k : Kw w1 w n₀ g V c s n Y back look X xs rs told over) (hb : Below w.heap.size w w') : Kw w1 w' n₀ g V c s n Y back look X xs rs told over := by
  obtain ⟨T, d, x, a, h1, h2, h3⟩ := k
  exact ⟨T, d.next hb, x.next hb, a, h1, h2, h3.trans (hb.mono (by have := (d.lt g (.inl rfl)); omega))⟩
theorem Kw.b (k : Kw w1 w n₀ g V c s n Y back look X xs rs told over) : Below n₀ w1 w := by obtain ⟨T, d, x, a, h1, h2, h3⟩ := k; exact h3
theorem Kw.rows (k : Kw w1 w n₀ g V c s n Y back look X xs rs told over) : ∃ A e, X = .slice A xs.length e ∧ RwsIn (fun _ => True) w (.slice A xs.length e) xs ∧ (∀ r ∈ xs, r.length = n) ∧ ∀ r ∈ xs, AllR r := by
  obtain ⟨T, d, x, a, h1, h2, h3⟩ := k
  obtain ⟨A, e, rfl, hx⟩ := x.rows
  exact ⟨A, e, rfl, hx, h1, h2⟩
theorem Kw.kept (k : Kw w1 w n₀ g V c s n Y back look X xs rs told over) : ∃ vs, w.ownsRow n₀ 27 1 X xs.length vs ∧ ∀ (t : Nat) (r : List Int), xs[t]? = some r → ∃ (B : Option Addr) (d : Nat), vs[t]? = some (Value.slice B r.length d) ∧ r.length ≤ d ∧ d ≤ maxLen ∧ SInts (fun b => b < n₀) w B r := by
  obtain ⟨T, d, x, a, h1, h2, h3⟩ := k
  exact x
theorem Kw.tolds (k : Kw w1 w n₀ g V c s n Y back look X xs rs told over) : told ≤ rs.length ∧ rs.length ≤ told + look := by
  obtain ⟨T, d, x, a, h1, h2, h3⟩ := k
  exact d.2
theorem Kw.new {T : Nat → Nat → Prop} (d : Win n₀ w g V c s (back + look + 1) n Y 0 (fun _ => []) T back look 0 0 false) (hb : Below n₀ w1 w) : Kw w1 w n₀ g V c s n Y back look (.slice none 0 0) [] [] 0 false :=
  ⟨T, new_w d, Xs.none _ _, fun b h => by simp [Value.ownBlock] at h, fun r h => by simp at h, fun r h => by simp at h, hb⟩
theorem Kw.app {vs : List Value} {o : Obj} {B : Option Addr} {d : Nat} (k : Kw w1 w n₀ g V c s n Y back look X xs rs told over) (h1 : w.ownsRow n₀ 27 1 X xs.length vs) (h2 : ∀ (t : Nat) (r : List Int), xs[t]? = some r → ∃ (B : Option Addr) (d : Nat), vs[t]? = some (Value.slice B r.length d) ∧ r.length ≤ d ∧ d ≤ maxLen ∧ SInts (fun b => b < n₀) w B r)
    (hi : SInts (fun b => b < n₀) w B r) (hd : r.length ≤ d) (hd2 : d ≤ maxLen) (hr : r.length = n) (hR : AllR r) (hv : w'.ownsRow n₀ 27 1 X' (xs.length + 1) (vs ++ [.slice B r.length d])) (hg : (w.alloc o).grownBy w' X.ownBlock) (ha : X'.ownBlock = X.ownBlock ∨ X'.ownBlock = some (w.alloc o).heap.size) :
    Kw w1 w' n₀ g V c s n Y back look X' (xs ++ [r]) rs told over := by
  obtain ⟨T, d', x, a, k1, k2, k3⟩ := k
  have tn : Turn (fun b => X.ownBlock = some b) w w' := (Turn.of_below _ (below_new w o)).trans (Turn.of_grown hg fun g e => e)
  have lS : ∀ b, X.ownBlock = some b → n₀ ≤ b := fun b hb => own_base h1 b hb
  have nS : NF w (fun b => X.ownBlock = some b) := fun b hb cs hk => own_bk_ne (t := 23) h1 hk (by decide) hb.symm
  refine ⟨T, d'.turn tn (fun b hb e => a b e hb) nS lS, Xs.app h1 h2 hi hd hd2 hv hg, fun b hb ht => ?_, fun q hq => ?_, fun q hq => ?_, k3.trans (tn.below (by have := (d'.lt g (.inl rfl)); omega) lS)⟩
  · rcases ha with e | e
    · exact a b (e.symm.trans hb) ht
    · rw [e] at hb
      injection hb with hb
      have := (d'.lt b ht).1
      simp at hb
      omega
  · rcases List.mem_append.1 hq with h | h
    · exact k1 q h
    · simp at h; subst h; exact hr
  · rcases List.mem_append.1 hq with h | h
    · exact k2 q h
    · simp at h; subst h; exact hR
/-- A deed on the window is done. -/
theorem kw_deed {T T' : Nat → Nat → Prop} {rs' : List (List Int)} {told' : Nat} {over' : Bool} (d : Wr n₀ w g V c s n Y T back look rs told over) (x : Xs n₀ w X xs) (a : ∀ b, X.ownBlock = some b → ¬ Tw g V n T b) (h1 : ∀ r ∈ xs, r.length = n) (h2 : ∀ r ∈ xs, AllR r) (h3 : Below n₀ w1 w)
    (d' : Wr n₀ w' g V c s n Y T' back look rs' told' over') (t : Turn (Tw g V n T) w w') (f : ∀ b, All n T' b → All n T b ∨ w.heap.size ≤ b) : Kw w1 w' n₀ g V c s n Y back look X xs rs' told' over' := by
  have hlt : ∀ b, X.ownBlock = some b → b < w.heap.size := by obtain ⟨vs, o1, _⟩ := x; exact own_lt o1
  refine ⟨T', d', x.turn t a (fun b hb hb2 => by have := (d.lt b hb2).2; omega), fun b hb ht => ?_, h1, h2, h3.trans (t.below (by have := (d.lt g (.inl rfl)); omega) fun b hb => (d.lt b hb).2)⟩
  rcases ht with h | h | h
  · exact a b hb (.inl h)
  · exact a b hb (.inr (.inl h))
  · rcases f b h with k | k
    · exact a b hb (.inr (.inr k))
    · have := hlt b hb; omega
end
/-- What a push of a row leaves, an answer told. -/
def RetK (w1 : World) (n₀ g : Nat) (V : Value) (c : Int) (s : Bool) (n : Nat) (Y : Nat → Value) (back look : Nat) (X : Value) (xs rs : List (List Int)) (told : Nat) (over : Bool) (t : List Int) (f : Value → Value) (w : World) (e : Ending) (w' : World) : Prop :=
  ∃ A cap, e = .returned (f (.slice A t.length cap)) ∧ MineT 2 w' w.heap.size (.slice A t.length cap) t ∧ Kw w1 w' n₀ g V c s n Y back look X xs rs told over
section
variable (w1 w0 w : World) (n₀ g : Nat) (V : Value) (c : Int) (s : Bool) (n : Nat) (Y : Nat → Value) (back look : Nat) (X : Value) (xs rs : List (List Int)) (told : Nat)
theorem push_k_wait (S : Nat → Prop) (B : Option Addr) (cap : Nat) (r : List Int) (k : Kw w1 w0 n₀ g V c s n Y back look X xs rs told false) (hb : Below w0.heap.size w0 w) (hi : SInts S w B r) (hS : ∀ b, S b → b < w.heap.size ∧ (b < n₀ ∨ w0.heap.size ≤ b)) (hr : r.length = n) (hR : AllR r) (hn : n ≤ 64) (hq : rs.length ≤ 900) (hd : rs.length < told + look) :
    Calls Tryd.prog 28 #[.pointer (some ⟨g, 0, none⟩), .slice B n cap] w fun e w' => e = .returned (.tuple #[.slice none 0 0, .bool false, .int .i64 0]) ∧ Kw w1 w' n₀ g V c s n Y back look X xs (rs ++ [r]) told false := by
  obtain ⟨T, d0, x, a, h1, h2, h3⟩ := k
  have d := d0.next hb
  have hg := (d0.lt g (.inl rfl))
  refine (push_w_wait n₀ g V c s n Y T back look rs told S B cap r w d hi (fun b h => ⟨(hS b h).1, fun ht => by have := d0.lt b ht; have := (hS b h).2; omega⟩) hr hR hn hq hd).mono ?_
  rintro e w' ⟨rfl, T', d', t', f'⟩
  exact ⟨rfl, kw_deed d (x.next hb) a h1 h2 (h3.trans (hb.mono (by omega))) d' t' f'⟩
theorem push_k_due (S : Nat → Prop) (B : Option Addr) (cap : Nat) (r : List Int) (k : Kw w1 w0 n₀ g V c s n Y back look X xs rs told false) (hb : Below w0.heap.size w0 w) (hi : SInts S w B r) (hS : ∀ b, S b → b < w.heap.size ∧ (b < n₀ ∨ w0.heap.size ≤ b)) (hr : r.length = n) (hR : AllR r) (hn : n ≤ 64) (hq : rs.length ≤ 900) (hd : rs.length = told + look) (h2 : Sc.hasB c 2 = true) (t : List Int) (ht : ansI c s n ((rs ++ [r]).drop (told - back)) = t) :
    Calls Tryd.prog 28 #[.pointer (some ⟨g, 0, none⟩), .slice B n cap] w (RetK w1 n₀ g V c s n Y back look X xs (rs ++ [r]) (told + 1) false t (fun v => .tuple #[v, .bool true, .int .i64 0]) w) := by
  obtain ⟨T, d0, x, a, h1, h4, h3⟩ := k
  have d := d0.next hb
  have hg := (d0.lt g (.inl rfl))
  refine (push_w_due n₀ g V c s n Y T back look rs told S B cap r w d hi (fun b h => ⟨(hS b h).1, fun ht => by have := d0.lt b ht; have := (hS b h).2; omega⟩) hr hR h2 hn hq hd t ht).mono ?_
  rintro e w' ⟨A, c', rfl, hm, T', d', t', f', ap⟩
  exact ⟨A, c', rfl, hm, kw_deed d (x.next hb) a h1 h4 (h3.trans (hb.mono (by omega))) d' t' f'⟩
theorem drain_k_some (over : Bool) (k : Kw w1 w n₀ g V c s n Y back look X xs rs told over) (h2 : Sc.hasB c 2 = true) (hn : n ≤ 64) (hq : rs.length ≤ 900) (hd : told < rs.length) (t : List Int) (ht : ansI c s n (rs.drop (told - back)) = t) :
    Calls Tryd.prog 32 #[.pointer (some ⟨g, 0, none⟩)] w (RetK w1 n₀ g V c s n Y back look X xs rs (told + 1) true t (fun v => .tuple #[v, .bool true]) w) := by
  obtain ⟨T, d, x, a, h1, h4, h3⟩ := k
  refine (drain_w_some n₀ g V c s n Y T back look rs told over w d h2 hn hq hd t ht).mono ?_
  rintro e w' ⟨A, c', rfl, hm, T', d', t', f', ap⟩
  exact ⟨A, c', rfl, hm, kw_deed d x a h1 h4 h3 d' t' f'⟩
theorem drain_k_none (over : Bool) (k : Kw w1 w n₀ g V c s n Y back look X xs rs told over) (hd : told = rs.length) :
    Calls Tryd.prog 32 #[.pointer (some ⟨g, 0, none⟩)] w fun e w' => e = .returned (.tuple #[.slice none 0 0, .bool false]) ∧ Kw w1 w' n₀ g V c s n Y back look X xs rs told true := by
  obtain ⟨T, d, x, a, h1, h4, h3⟩ := k
  refine (drain_w_none n₀ g V c s n Y T back look rs told over w d hd).mono ?_
  rintro e w' ⟨rfl, d', t'⟩
  exact ⟨rfl, kw_deed d x a h1 h4 h3 d' (t'.mono fun b k => .inl k) fun b hb => .inl hb⟩
theorem push_k_over (A : Option Addr) (m cap : Nat) (k : Kw w1 w n₀ g V c s n Y back look X xs rs told true) :
    Calls Tryd.prog 28 #[.pointer (some ⟨g, 0, none⟩), .slice A m cap] w fun e w' => e = .returned (.tuple #[.slice none 0 0, .bool false, .int .i64 21]) ∧ w = w' := by
  obtain ⟨T, d, x, a, h1, h4, h3⟩ := k
  exact push_over n₀ g V c s (back + look + 1) n Y rs.length (held rs (gone told back)) T back look rs.length told A m cap w d.1
theorem push_k_len (A : Option Addr) (m cap : Nat) (k : Kw w1 w n₀ g V c s n Y back look X xs rs told false) (hm : ¬ m = n) :
    Calls Tryd.prog 28 #[.pointer (some ⟨g, 0, none⟩), .slice A m cap] w fun e w' => e = .returned (.tuple #[.slice none 0 0, .bool false, .int .i64 3]) ∧ w = w' := by
  obtain ⟨T, d, x, a, h1, h4, h3⟩ := k
  exact push_len n₀ g V c s (back + look + 1) n Y rs.length (held rs (gone told back)) T back look rs.length told A m cap w d.1 hm
theorem stands_k (over : Bool) (A : Option Addr) (cA m : Nat) (k : Kw w1 w n₀ g V c s n Y back look (.slice A m cA) rs rs told over) (hn : n ≤ 64) (hr : m ≤ 100) (hb : back ≤ 31) :
    Calls Tryd.prog 31 #[.pointer (some ⟨g, 0, none⟩), .agg #[.int .i64 c, .bool s, .int .i64 (back : Nat), .int .i64 (look : Nat), .int .i64 (n : Nat)], .slice A m cA, .int .i64 (told : Nat)] w fun e w' => e = .returned (.bool true) ∧ Below w.heap.size w w' := by
  obtain ⟨A', c', e, h1, h2, h3⟩ := k.rows
  injection e with e1 e2 e3
  subst e1 e2 e3
  obtain ⟨T, d, x, a, k1, k4, k3⟩ := k
  exact stands_any n₀ g V c s n Y T back look rs told over (fun _ => True) A cA w d h1 h2 hn hr hb
theorem ranswer_k (over : Bool) (A : Option Addr) (cA m : Nat) (k : Kw w1 w n₀ g V c s n Y back look (.slice A m cA) xs rs told over) (hn : n ≤ 64) (hr : m ≤ 100) (e : Nat) (he : e ≤ m) (hb : back ≤ 31) (hl : look ≤ 31) (hel : m ≤ e + look + 1) (t : List Int) (ht : ansI c s n (xs.drop (e - back)) = t) :
    Calls Tryd.prog 30 #[.agg #[.int .i64 c, .bool s], .slice A m cA, .int .i64 (n : Nat), .int .i64 (e : Nat), .int .i64 (back : Nat), .int .i64 (look : Nat)] w (RetL t w) := by
  obtain ⟨A', c', e', h1, h2, h3⟩ := k.rows
  injection e' with e1 e2 e3
  subst e1 e2 e3
  have h := ranswer_any c s (fun _ => True) A cA xs n e back look w h1 h2 h3 hn hr (by omega) hb hl
  rw [show cut xs (e - back) (e + look) = xs.drop (e - back) by unfold cut; rw [List.take_of_length_le (by omega)], ht] at h
  exact h
end
end Go.Proofs.YtfamgaakcbinkaaDoor.Wn
