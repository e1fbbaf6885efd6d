/-
  A tape as it lies in memory, and what New, First, End, Words, Row, piece, Clone and Forget of package tape do. Conditions: as told in each.
-/
import Derived.Test.YtakoehgjgdcmmaaTpLib
set_option maxRecDepth 100000
namespace Go.Proofs.Ytakoehgjgdcmmaa.Tp
open Go.Proofs.Ytakoehgjgdcmmaa.Sh Go.Proofs.Ytakoehgjgdcmmaa.St
open Go.RowKit
set_option linter.unusedVariables false

/-- The parts of a tape. -/
def TapF (w : World) (g : Nat) (V : Value) (wd f e : Nat) : Prop := Bk 52 w g [V, .int .i64 wd, .int .i64 f, .int .i64 e]
section
variable {w w' : World} {g : Nat} {V : Value} {wd f e : Nat} {T : Nat → Prop}
theorem TapF.all (d : TapF w g V wd f e) : w.cell? ⟨g, 0, none⟩ = some V ∧ w.cell? ⟨g, 1, none⟩ = some (.int .i64 wd) ∧ w.cell? ⟨g, 2, none⟩ = some (.int .i64 f) ∧ w.cell? ⟨g, 3, none⟩ = some (.int .i64 e) :=
  ⟨Bk.c d 0, Bk.c d 1, Bk.c d 2, Bk.c d 3⟩
theorem TapF.froz (d : TapF w g V wd f e) : w.frozen? ⟨g, 0, none⟩ = false ∧ w.frozen? ⟨g, 2, none⟩ = false ∧ w.frozen? ⟨g, 3, none⟩ = false := ⟨Bk.f d 0, Bk.f d 2, Bk.f d 3⟩
theorem TapF.lt (d : TapF w g V wd f e) : g < w.heap.size := Bk.lt d
theorem TapF.next (d : TapF w g V wd f e) (hb : Below w.heap.size w w') : TapF w' g V wd f e := Bk.next d hb
theorem TapF.turn (d : TapF w g V wd f e) (hb : Turn T w w') (hg : ¬ T g) : TapF w' g V wd f e := Bk.turn d hb hg
end
/-- Behind the pointer to block g is a tape of width wd that has these rows, the first f forgotten; its numbers lie behind V. -/
def Tap (base : Nat) (w : World) (g : Nat) (V : Value) (wd f : Nat) (rows : List (List Int)) : Prop :=
  TapF w g V wd f rows.length ∧ MineT 2 w base V (rows.drop f).flatten ∧ f ≤ rows.length ∧ (∀ r ∈ rows, r.length = wd) ∧ wd ≤ 64 ∧ base ≤ g ∧ rows.length ≤ 900
/-- The blocks of a tape. -/
def Tq (g : Nat) (V : Value) (b : Nat) : Prop := b = g ∨ V.ownBlock = some b
/-- What V' lies in is what V lay in, or new. -/
def Fresh (w : World) (V V' : Value) : Prop := ∀ k, V'.ownBlock = some k → V.ownBlock = some k ∨ w.heap.size ≤ k
theorem Fresh.refl (w : World) (V : Value) : Fresh w V V := fun k h => .inl h
section
variable {base : Nat} {w w' : World} {g : Nat} {V : Value} {wd f : Nat} {rows : List (List Int)} {T : Nat → Prop}
theorem Tap.turn (d : Tap base w g V wd f rows) (hb : Turn T w w') (hT : ∀ b, Tq g V b → ¬ T b) : Tap base w' g V wd f rows :=
  ⟨d.1.turn hb (hT g (.inl rfl)), own_turn d.2.1 hb fun k hk => hT k (.inr hk), d.2.2⟩
theorem Tap.next (d : Tap base w g V wd f rows) (hb : Below w.heap.size w w') : Tap base w' g V wd f rows := d.turn (Turn.of_below (fun _ => False) hb) fun _ _ h => h
theorem Tap.ne (d : Tap base w g V wd f rows) : V.ownBlock ≠ some g := fun e => own_bk_ne (t := 52) d.2.1 d.1 (by decide) e.symm
theorem Tap.lt (d : Tap base w g V wd f rows) : ∀ b, Tq g V b → b < w.heap.size ∧ base ≤ b := fun b hb => by
  rcases hb with rfl | hb
  · exact ⟨d.1.lt, d.2.2.2.2.2.1⟩
  · exact ⟨MineT.lt d.2.1 b hb, own_base d.2.1 b hb⟩
end
theorem flat_len {wd : Nat} : ∀ {rs : List (List Int)}, (∀ r ∈ rs, r.length = wd) → rs.flatten.length = rs.length * wd
  | [], _ => by simp
  | r :: rs, h => by
    rw [List.flatten_cons, List.length_append, flat_len fun x hx => h x (List.mem_cons_of_mem _ hx), h r List.mem_cons_self, List.length_cons, Nat.succ_mul]
    omega
theorem flat_at {wd : Nat} : ∀ {rs : List (List Int)} {j : Nat} {r : List Int}, (∀ r ∈ rs, r.length = wd) → rs[j]? = some r → ∀ (t : Nat) (x : Int), r[t]? = some x → rs.flatten[j * wd + t]? = some x
  | [], j, r, _, h, _, _, _ => by simp at h
  | y :: rs, 0, r, hl, h, t, x, hx => by
    obtain rfl : y = r := by simpa using h
    rw [List.flatten_cons, Nat.zero_mul, Nat.zero_add, List.getElem?_append_left (List.getElem?_eq_some_iff.1 hx).1]
    exact hx
  | y :: rs, j + 1, r, hl, h, t, x, hx => by
    have hy := hl y List.mem_cons_self
    rw [List.flatten_cons, List.getElem?_append_right (by rw [hy, Nat.succ_mul]; omega), hy, show (j + 1) * wd + t - wd = j * wd + t by rw [Nat.succ_mul]; omega]
    exact flat_at (fun x hx => hl x (List.mem_cons_of_mem _ hx)) (by simpa using h) t x hx
theorem flat_take {wd : Nat} : ∀ {rs : List (List Int)} (k : Nat), (∀ r ∈ rs, r.length = wd) → rs.flatten.take (k * wd) = (rs.take k).flatten
  | [], k, _ => by simp
  | r :: rs, 0, _ => by simp
  | r :: rs, k + 1, h => by
    have hr := h r List.mem_cons_self
    rw [List.take_succ_cons, List.flatten_cons, List.flatten_cons, List.take_append, List.take_of_length_le (by rw [hr, Nat.succ_mul]; omega), hr, show (k + 1) * wd - wd = k * wd by rw [Nat.succ_mul]; omega, flat_take k fun x hx => h x (List.mem_cons_of_mem _ hx)]
theorem flat_drop {wd : Nat} : ∀ {rs : List (List Int)} (k : Nat), (∀ r ∈ rs, r.length = wd) → rs.flatten.drop (k * wd) = (rs.drop k).flatten
  | [], k, _ => by simp
  | r :: rs, 0, _ => by simp
  | r :: rs, k + 1, h => by
    have hr := h r List.mem_cons_self
    rw [List.drop_succ_cons, List.flatten_cons, List.drop_append, List.drop_of_length_le (by rw [hr, Nat.succ_mul]; omega), hr, show (k + 1) * wd - wd = k * wd by rw [Nat.succ_mul]; omega, flat_drop k fun x hx => h x (List.mem_cons_of_mem _ hx)]
    rfl
theorem bd {a wd : Nat} (ha : a ≤ 900) (hw : wd ≤ 64) : a * wd ≤ 57600 := by
  have := Nat.mul_le_mul ha hw
  omega
def mayW (n : Int) : Bool := decide (0 ≤ n ∧ n ≤ 64)
set_option maxHeartbeats 1000000 in
theorem new_no (n : Int) (w : World) (h : n < 0 ∨ n > 64) :
    Calls Try.prog 6 #[.int .i64 n] w fun e w' => e = .returned (.tuple #[.pointer none, .int .i64 1]) ∧ w = w' := by
  by_cases h1 : n < 0
  · have t1 : decide (n < 0) = true := decide_eq_true h1
    clear h
    go_enter Try.func6, Try.ntmps6
    go_wp2
    go_ret2
    exact ⟨rfl, rfl⟩
  · have t1 : decide (n < 0) = false := decide_eq_false h1
    have t2 : decide (n > 64) = true := decide_eq_true (by omega)
    clear h
    go_enter Try.func6, Try.ntmps6
    go_wp2
    go_ret2
    exact ⟨rfl, rfl⟩
def RetNew (wd : Nat) (w : World) (e : Ending) (w' : World) : Prop := ∃ g, e = .returned (.tuple #[.pointer (some ⟨g, 0, none⟩), .int .i64 0]) ∧ Tap w.heap.size w' g (.slice none 0 0) wd 0 [] ∧ Below w.heap.size w w'
set_option maxHeartbeats 1000000 in
theorem new_yes (wd : Nat) (w : World) (h : wd ≤ 64) : Calls Try.prog 6 #[.int .i64 wd] w (RetNew wd w) := by
  have t1 : decide ((wd : Int) < 0) = false := decide_eq_false (by omega)
  have t2 : decide ((wd : Int) > 64) = false := decide_eq_false (by omega)
  go_enter Try.func6, Try.ntmps6
  go_wp2
  go_ret2
  exact ⟨w.heap.size, rfl, ⟨Bk.new 52 w [.slice none 0 0, .int .i64 wd, .int .i64 0, .int .i64 0], MineT.nil _ _ _, Nat.le_refl _, fun r h => by simp at h, h, Nat.le_refl _, by simp⟩, below_new _ _⟩
theorem first_nil (w : World) : Calls Try.prog 14 #[.pointer none] w fun e w' => e = .returned (.int .i64 0) ∧ w = w' := by
  go_enter Try.func14, Try.ntmps14
  go_wp2
  go_ret
  exact ⟨rfl, rfl⟩
theorem first_any (g : Nat) (V : Value) (wd f e : Nat) (w : World) (d : TapF w g V wd f e) : Calls Try.prog 14 #[.pointer (some ⟨g, 0, none⟩)] w fun r w' => r = .returned (.int .i64 f) ∧ w = w' := by
  obtain ⟨-, -, c2, -⟩ := d.all
  clear d
  go_enter Try.func14, Try.ntmps14
  go_wp2
  go_ret
  exact ⟨rfl, rfl⟩
theorem end_nil (w : World) : Calls Try.prog 15 #[.pointer none] w fun e w' => e = .returned (.int .i64 0) ∧ w = w' := by
  go_enter Try.func15, Try.ntmps15
  go_wp2
  go_ret
  exact ⟨rfl, rfl⟩
theorem end_any (g : Nat) (V : Value) (wd f e : Nat) (w : World) (d : TapF w g V wd f e) : Calls Try.prog 15 #[.pointer (some ⟨g, 0, none⟩)] w fun r w' => r = .returned (.int .i64 e) ∧ w = w' := by
  obtain ⟨-, -, -, c3⟩ := d.all
  clear d
  go_enter Try.func15, Try.ntmps15
  go_wp2
  go_ret
  exact ⟨rfl, rfl⟩
theorem words_nil (w : World) : Calls Try.prog 16 #[.pointer none] w fun e w' => e = .returned (.int .i64 0) ∧ w = w' := by
  go_enter Try.func16, Try.ntmps16
  go_wp2
  go_ret
  exact ⟨rfl, rfl⟩
theorem words_any (base g : Nat) (V : Value) (wd f : Nat) (rows : List (List Int)) (w : World) (d : Tap base w g V wd f rows) : Calls Try.prog 16 #[.pointer (some ⟨g, 0, none⟩)] w fun r w' => r = .returned (.int .i64 (((rows.length - f) * wd : Nat) : Int)) ∧ w = w' := by
  obtain ⟨c0, -, -, -⟩ := d.1.all
  have hl := flat_len (rs := rows.drop f) (wd := wd) (fun r hr => d.2.2.2.1 r (List.mem_of_mem_drop hr))
  obtain ⟨A, c, rfl, -, -, -⟩ := own_seq d.2.1 (by decide)
  rw [hl, List.length_drop] at c0
  generalize (rows.length - f) * wd = m at *
  clear d hl
  go_enter Try.func16, Try.ntmps16
  go_wp2
  go_ret
  exact ⟨rfl, rfl⟩
/-- A row of a tape, as it lies there. -/
def RetPc (wd : Nat) (r : List Int) (V : Value) (w : World) (e : Ending) (w' : World) : Prop := ∃ A, e = .returned (.slice A wd wd) ∧ SInts (fun b => V.ownBlock = some b) w' A r ∧ ∃ n, w' = w.drewN n
theorem ret_sl {A : Option Addr} {m n s : Nat} (h : m = s) (hn : n = s) : Ending.returned (.slice A m n) = .returned (.slice A s s) := by rw [h, hn]
set_option maxHeartbeats 2000000 in
theorem piece_any (base g : Nat) (V : Value) (wd f : Nat) (rows : List (List Int)) (i : Nat) (r : List Int) (w : World) (d : Tap base w g V wd f rows) (hi : f ≤ i) (hr : rows[i]? = some r) :
    Calls Try.prog 28 #[.pointer (some ⟨g, 0, none⟩), .int .i64 i] w (RetPc wd r V w) := by
  obtain ⟨c0, c1, c2, -⟩ := d.1.all
  have hall : ∀ x ∈ rows.drop f, x.length = wd := fun x hx => d.2.2.2.1 x (List.mem_of_mem_drop hx)
  have hil := (List.getElem?_eq_some_iff.1 hr).1
  obtain ⟨j, hj⟩ : ∃ j, i - f = j := ⟨_, rfl⟩
  have hjr : (rows.drop f)[j]? = some r := by rw [List.getElem?_drop, show f + j = i by omega]; exact hr
  have hrl : r.length = wd := d.2.2.2.1 r (List.mem_of_getElem? hr)
  have hfl := flat_len hall
  rw [List.length_drop] at hfl
  have hjl : j * wd + wd ≤ (rows.length - f) * wd := by
    have := Nat.mul_le_mul_right wd (show j + 1 ≤ rows.length - f by omega)
    rw [Nat.succ_mul] at this
    exact this
  have hbd := bd (show rows.length - f ≤ 900 by have := d.2.2.2.2.2.2; omega) d.2.2.2.2.1
  have hwd := d.2.2.2.2.1
  have hi9 : i ≤ 900 := by have := d.2.2.2.2.2.2; omega
  obtain ⟨A, c, rfl, hc, hm, hs⟩ := own_seq d.2.1 (by decide)
  have w1 : IntKind.i64.wrap ((i : Int) - (f : Int)) = (j : Int) := by rw [IntWalk.i64_in _ (by omega)]; omega
  obtain ⟨p, hp⟩ : ∃ p, j * wd = p := ⟨_, rfl⟩
  have w2 : IntKind.i64.wrap ((j : Int) * (wd : Int)) = (p : Int) := by rw [← Int.natCast_mul, hp]; exact IntWalk.i64_in _ (by omega)
  rw [hfl] at c0 hc
  obtain ⟨n, hn⟩ : ∃ n, (rows.length - f) * wd = n := ⟨_, rfl⟩
  rw [hn] at c0 hc hbd hjl
  rw [hp] at hjl
  have w3 : IntKind.i64.wrap ((p : Int) + (wd : Int)) = (p : Int) + (wd : Int) := IntWalk.i64_in _ (by omega)
  unfold maxLen at hm
  have HR := Lib.hid hrl
  have HF := Lib.hid hfl
  rcases Nat.eq_zero_or_pos wd with h0 | h0
  · subst h0
    obtain rfl : p = 0 := by omega
    obtain rfl : r = [] := List.eq_nil_of_length_eq_zero hrl
    clear d hall hr hjr hfl hs hrl hp hn hj
    rcases A with _ | ⟨b, o, s⟩
    · go_enter Try.func28, Try.ntmps28
      go_wp2_with fail
      go_quiet (fail)
      go_wp2
      go_ret
      exact ⟨_, by first | rfl | simp, Seq.nil _ _ _, nq, rfl⟩
    · go_enter Try.func28, Try.ntmps28
      go_wp2_with fail
      go_quiet (fail)
      go_wp2
      go_ret
      exact ⟨_, by first | rfl | simp, Seq.nil _ _ _, nq, rfl⟩
  · have hpos : 0 < n := by omega
    obtain ⟨b, o, rfl, hsb, hlt, hcs⟩ := hs (by rw [List.length_map, hfl, hn]; exact hpos)
    have ho : o = 0 := by
      rcases d.2.1.2 with ⟨e1, _⟩ | ⟨g', cap, cur, e1, _⟩
      · cases e1
      · injection e1 with e1; injection e1 with e1; injection e1
    subst ho
    have HV : Hid (SInts (fun x => (Value.slice (some ⟨b, 0, none⟩) (rows.drop f).flatten.length c).ownBlock = some x) w (some ⟨b, p, none⟩) r) := Lib.hid fun _ => ⟨b, p, rfl, rfl, hlt, fun t u hu => by
      rw [List.getElem?_map] at hu
      obtain ⟨x, hx, rfl⟩ : ∃ x, r[t]? = some x ∧ .int .i64 x = u := by
        cases hrt : r[t]? with
        | none => rw [hrt] at hu; simp at hu
        | some x => rw [hrt] at hu; exact ⟨x, rfl, by simpa using hu⟩
      have := hcs (p + t) (.int .i64 x) (by rw [List.getElem?_map, ← hp, flat_at hall hjr t x hx]; rfl)
      rwa [Nat.zero_add] at this⟩
    have hq : Hid (p + wd - p = wd) := Lib.hid (by omega)
    have hne : ¬ p + wd = p := by omega
    clear d hall hr hjr hfl hs hrl hp hn hj hcs
    go_enter Try.func28, Try.ntmps28
    go_wp2_with fail
    go_quiet (fail)
    go_wp2
    go_ret
    exact ⟨_, ret_sl hq.out hq.out, HV.out, nq, rfl⟩
end Go.Proofs.Ytakoehgjgdcmmaa.Tp
