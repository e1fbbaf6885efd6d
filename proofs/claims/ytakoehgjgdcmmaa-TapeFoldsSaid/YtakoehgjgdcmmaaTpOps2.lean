/-
  What Row, Clone, Forget and change of package tape do. Conditions: as told in each.
-/
import Derived.Test.YtakoehgjgdcmmaaTpOps
set_option maxRecDepth 100000
namespace Go.Proofs.Ytakoehgjgdcmmaa.Tp
open Go.Proofs.Ytakoehgjgdcmmaa.Sh Go.Proofs.Ytakoehgjgdcmmaa.St
open Go.RowKit
set_option linter.unusedVariables false

/-- What Row tells. -/
def rowB (f n : Nat) (i : Int) : Bool := decide ((f : Int) ≤ i ∧ i < n)
def rowL (f : Nat) (rows : List (List Int)) (i : Int) : List Int := if rowB f rows.length i = true then rows.getD i.toNat [] else []
def RetRow (l : List Int) (b : Bool) (w : World) (e : Ending) (w' : World) : Prop := ∃ A c, e = .returned (.tuple #[.slice A l.length c, .bool b]) ∧ SInts (w.heap.size ≤ ·) w' A l ∧ l.length ≤ c ∧ c ≤ maxLen ∧ Below w.heap.size w w'
theorem mine_sints {w : World} {base : Nat} {A : Option Addr} {n c : Nat} {d : List Int} (h : MineT 2 w base (.slice A n c) d) : SInts (base ≤ ·) w A d ∧ n ≤ c ∧ c ≤ maxLen := by
  obtain ⟨A', c', e, h1, h2, h3⟩ := own_seq h (by decide)
  injection e with e1 e2 e3
  subst e1 e3
  rw [e2]
  exact ⟨h3, h1, h2⟩
theorem cl_s (A : Option Addr) (c s : Nat) (d : List Int) (w : World) (hs : d.length = s) (hl : s ≤ 60000) (hi : Ints w A d) : Calls Try.prog 27 #[.slice A s c] w fun e w' => ∃ B c, e = .returned (.slice B s c) ∧ MineT 2 w' w.heap.size (.slice B s c) d ∧ Below w.heap.size w w' := by
  subst hs
  exact cl64_any A c d w hl hi
theorem row_nil (i : Int) (w : World) : Calls Try.prog 13 #[.pointer none, .int .i64 i] w (RetRow [] false w) := by
  by_cases h : i < 0
  · have t1 : decide (i < 0) = true := decide_eq_true h
    clear h
    go_enter Try.func13, Try.ntmps13
    go_wp2_with (go_at_call 14; (with_reducible refine (first_nil _).mono ?_); rintro r w1 ⟨rfl, rfl⟩)
    go_ret2
    exact ⟨none, 0, rfl, Seq.nil _ _ _, Nat.le_refl _, by simp [maxLen], Below.refl _ _⟩
  · have t1 : decide (i < 0) = false := decide_eq_false h
    have t2 : decide (i ≥ 0) = true := decide_eq_true (by omega)
    clear h
    go_enter Try.func13, Try.ntmps13
    go_wp2_with (first
      | (go_at_call 14; (with_reducible refine (first_nil _).mono ?_); rintro r w1 ⟨rfl, rfl⟩)
      | (go_at_call 15; (with_reducible refine (end_nil _).mono ?_); rintro r w1 ⟨rfl, rfl⟩))
    go_ret2
    exact ⟨none, 0, rfl, Seq.nil _ _ _, Nat.le_refl _, by simp [maxLen], Below.refl _ _⟩
set_option maxHeartbeats 2000000 in
theorem row_any (base g : Nat) (V : Value) (wd f : Nat) (rows : List (List Int)) (i : Int) (w : World) (d : Tap base w g V wd f rows) :
    Calls Try.prog 13 #[.pointer (some ⟨g, 0, none⟩), .int .i64 i] w (RetRow (rowL f rows i) (rowB f rows.length i) w) := by
  have FI := Lib.hid (first_any g V wd f rows.length w d.1)
  have EN := Lib.hid (end_any g V wd f rows.length w d.1)
  by_cases hb : rowB f rows.length i = true
  · have hb' : (f : Int) ≤ i ∧ i < rows.length := by simpa [rowB] using hb
    obtain ⟨k, rfl⟩ : ∃ k : Nat, i = k := ⟨i.toNat, by omega⟩
    obtain ⟨r, hr⟩ : ∃ r, rows[k]? = some r := ⟨_, List.getElem?_eq_getElem (by omega)⟩
    have hl : rowL f rows (k : Int) = r := by unfold rowL; rw [if_pos hb]; simp [List.getD, hr]
    rw [hb, hl]
    have PC := Lib.hid (piece_any base g V wd f rows k r w d (by omega) hr)
    have HRL := Lib.hid (d.2.2.2.1 r (List.mem_of_getElem? hr))
    have hwd := d.2.2.2.2.1
    have t1 : decide ((k : Int) < (f : Int)) = false := decide_eq_false (by omega)
    have t2 : decide ((k : Int) ≥ (rows.length : Int)) = false := decide_eq_false (by omega)
    have t1' : decide (k < f) = false := decide_eq_false (by omega)
    have t2' : decide (rows.length ≤ k) = false := decide_eq_false (by omega)
    clear hb hl hb' hr d
    go_enter Try.func13, Try.ntmps13
    go_wp2_with (first
      | (go_at_call 14; (with_reducible refine (FI.out).mono ?_); rintro r w1 ⟨rfl, rfl⟩)
      | (go_at_call 15; (with_reducible refine (EN.out).mono ?_); rintro r w1 ⟨rfl, rfl⟩)
      | (go_at_call 28; (with_reducible refine (PC.out).mono ?_); rintro r1 w2 ⟨A, rfl, hs2, n2, hw2⟩; have B2 := Lib.hid (show Below w.heap.size w w2 by rw [hw2]; exact below_drewN (Below.refl _ _) _); have S2 := Lib.hid hs2.ints; clear hs2 hw2)
      | (go_at_call 27; (with_reducible refine (cl_s _ _ _ _ _ HRL.out (by omega) S2.out).mono ?_); rintro r2 w3 ⟨A3, c3, rfl, hm3, hb3⟩; have M3 := Lib.hid (MineT.mono hm3 B2.out.size); have B3 := Lib.hid (below_next B2.out hb3); clear hm3 hb3))
    refine bodyPost_ret (v := .tuple #[.slice A3 wd c3, .bool true]) (by simp [results, Try.results13, go_sem]) rfl ?_
    obtain ⟨m1, m2, m3⟩ := mine_sints M3.out
    exact ⟨A3, c3, by rw [HRL.out], m1, by rw [HRL.out]; exact m2, m3, B3.out⟩
  · have hb0 : rowB f rows.length i = false := by simpa using hb
    have hl : rowL f rows i = [] := by unfold rowL; rw [if_neg hb]
    have hb' : ¬ ((f : Int) ≤ i ∧ i < rows.length) := by simpa [rowB] using hb0
    rw [hb0, hl]
    clear hb hb0 hl d
    by_cases h : i < (f : Int)
    · have t1 : decide (i < (f : Int)) = true := decide_eq_true h
      clear h hb'
      go_enter Try.func13, Try.ntmps13
      go_wp2_with (go_at_call 14; (with_reducible refine (FI.out).mono ?_); rintro r w1 ⟨rfl, rfl⟩)
      go_ret2
      exact ⟨none, 0, rfl, Seq.nil _ _ _, Nat.le_refl _, by simp [maxLen], Below.refl _ _⟩
    · have t1 : decide (i < (f : Int)) = false := decide_eq_false h
      have t2 : decide (i ≥ (rows.length : Int)) = true := decide_eq_true (by omega)
      clear h hb'
      go_enter Try.func13, Try.ntmps13
      go_wp2_with (first
        | (go_at_call 14; (with_reducible refine (FI.out).mono ?_); rintro r w1 ⟨rfl, rfl⟩)
        | (go_at_call 15; (with_reducible refine (EN.out).mono ?_); rintro r w1 ⟨rfl, rfl⟩))
      go_ret2
      exact ⟨none, 0, rfl, Seq.nil _ _ _, Nat.le_refl _, by simp [maxLen], Below.refl _ _⟩
theorem clone_nil (w : World) : Calls Try.prog 17 #[.pointer none] w fun e w' => e = .returned (.pointer none) ∧ w = w' := by
  go_enter Try.func17, Try.ntmps17
  go_wp2
  go_ret
  exact ⟨rfl, rfl⟩
def RetClone (wd f : Nat) (rows : List (List Int)) (w : World) (e : Ending) (w' : World) : Prop := ∃ g V, e = .returned (.pointer (some ⟨g, 0, none⟩)) ∧ Tap w.heap.size w' g V wd f rows ∧ Below w.heap.size w w'
set_option maxHeartbeats 2000000 in
theorem clone_any (base g : Nat) (V : Value) (wd f : Nat) (rows : List (List Int)) (w : World) (d : Tap base w g V wd f rows) :
    Calls Try.prog 17 #[.pointer (some ⟨g, 0, none⟩)] w (RetClone wd f rows w) := by
  have D0 := Lib.hid d
  have d1 := d.1
  have b1 := below_new w (.cells #[V, .int .i64 wd, .int .i64 f, .int .i64 rows.length] 52)
  have B1 := Lib.hid b1
  have BX := Lib.hid (Bk.new 52 w [V, .int .i64 wd, .int .i64 f, .int .i64 rows.length])
  have hll := flat_len (rs := rows.drop f) (wd := wd) (fun r hr => d.2.2.2.1 r (List.mem_of_mem_drop hr))
  have hbd := bd (show rows.length - f ≤ 900 by have := d.2.2.2.2.2.2; omega) d.2.2.2.2.1
  obtain ⟨A, c, rfl, hi⟩ := (d.next b1).2.1.ints
  have CL := Lib.hid (cl64_any A c (rows.drop f).flatten _ (by rw [hll, List.length_drop]; omega) hi)
  obtain ⟨c0, c1, c2, c3⟩ := d1.all
  obtain ⟨y0, y1, y2, y3⟩ := (d1.next b1).all
  have hgl : g < w.heap.size := d1.lt
  obtain ⟨m, hm⟩ : ∃ m, (rows.drop f).flatten.length = m := ⟨_, rfl⟩
  rw [hm] at CL BX B1 c0 y0
  have HM := Lib.hid hm
  clear d d1 b1 hi hll hbd hm
  go_enter Try.func17, Try.ntmps17
  go_wp2_with fail
  refine CL.out.mono ?_
  rintro r w2 ⟨A2, c2', rfl, r2, hb2⟩
  rw [HM.out] at r2 ⊢
  have R2 := Lib.hid r2
  have K2 := Lib.hid (below_next B1.out hb2)
  have X2 := Lib.hid (BX.out.next hb2)
  have x1 := X2.out.c 0
  have xf := X2.out.f 0
  clear r2 hb2 y0 y1 y2 y3
  go_wp2
  go_ret
  have hne : (Value.slice A2 m c2').ownBlock ≠ some w.heap.size := fun e => own_bk_ne (t := 52) R2.out X2.out (by decide) e.symm
  exact ⟨w.heap.size, _, rfl, ⟨Bk.set_ X2.out 0 _, (MineT.setCell R2.out (p := ⟨w.heap.size, 0, none⟩) hne _).mono (by simp), D0.out.2.2.1, D0.out.2.2.2.1, D0.out.2.2.2.2.1, Nat.le_refl _, D0.out.2.2.2.2.2.2⟩, K2.out.setCell (Nat.le_refl _) _⟩
theorem forget_nil (i : Int) (w : World) : Calls Try.prog 11 #[.pointer none, .int .i64 i] w fun e w' => e = .returned (.tuple #[]) ∧ w = w' := by
  go_enter Try.func11, Try.ntmps11
  go_wp2
  refine bodyPost_ret (v := .tuple #[]) (by simp [results, Try.results11, go_sem]) rfl ?_
  exact ⟨rfl, rfl⟩
/-- The first place behind Forget. -/
def forgN (f n : Nat) (i : Int) : Nat := if i ≤ f then f else (min i n).toNat
def RetF (base g : Nat) (V : Value) (wd f' : Nat) (rows : List (List Int)) (w : World) (e : Ending) (w' : World) : Prop := ∃ V', e = .returned (.tuple #[]) ∧ Tap base w' g V' wd f' rows ∧ Turn (Tq g V) w w' ∧ Fresh w V V'
theorem del_s (base : Nat) (V : Value) (l : List Int) (k m : Nat) (l' : List Int) (w : World) (h : MineT 2 w base V l) (hk : k ≤ l.length) (hl : l.length ≤ 60000) (he : l.drop k = l') (hm : l'.length = m) :
    Calls Try.prog 23 #[V, .int .i64 0, .int .i64 (k : Int)] w fun e w' => ∃ A c, e = .returned (.slice A m c) ∧ MineT 2 w' base (.slice A m c) l' ∧ (Value.slice A m c).ownBlock = V.ownBlock ∧ Turn (fun i => V.ownBlock = some i) w w' := by
  subst he
  subst hm
  refine (del_any base V l k w h hk hl).mono ?_
  rintro e w' ⟨V', rfl, m5, o5, t5⟩
  obtain ⟨A, c, rfl, -⟩ := m5.ints
  exact ⟨A, c, rfl, m5, o5, t5⟩
set_option maxHeartbeats 4000000 in
theorem forget_any (base g : Nat) (V : Value) (wd f : Nat) (rows : List (List Int)) (i : Int) (w : World) (d : Tap base w g V wd f rows) :
    Calls Try.prog 11 #[.pointer (some ⟨g, 0, none⟩), .int .i64 i] w (RetF base g V wd (forgN f rows.length i) rows w) := by
  obtain ⟨c0, c1, c2, c3⟩ := d.1.all
  by_cases hi : i ≤ f
  · have e : forgN f rows.length i = f := by unfold forgN; rw [if_pos hi]
    have t1 : decide (i ≤ (f : Int)) = true := decide_eq_true hi
    rw [e]
    have D := Lib.hid d
    clear e hi d
    go_enter Try.func11, Try.ntmps11
    go_wp2
    refine bodyPost_ret (v := .tuple #[]) (by simp [results, Try.results11, go_sem]) rfl ?_
    exact ⟨V, rfl, D.out, Turn.refl _ _, Fresh.refl _ _⟩
  · have hfr := d.2.2.1
    obtain ⟨t, ht⟩ : ∃ t : Nat, min i (rows.length : Int) = t := ⟨(min i (rows.length : Int)).toNat, by omega⟩
    have e : forgN f rows.length i = t := by unfold forgN; rw [if_neg hi, ht]; rfl
    have t1 : decide (i ≤ (f : Int)) = false := decide_eq_false hi
    have hft : f ≤ t ∧ t ≤ rows.length := by omega
    rw [e]
    obtain ⟨k, hk⟩ : ∃ k, t - f = k := ⟨_, rfl⟩
    have hall : ∀ x ∈ rows.drop f, x.length = wd := fun x hx => d.2.2.2.1 x (List.mem_of_mem_drop hx)
    have hll := flat_len hall
    rw [List.length_drop] at hll
    have hbd := bd (show rows.length - f ≤ 900 by have := d.2.2.2.2.2.2; omega) d.2.2.2.2.1
    have hle : k * wd ≤ (rows.length - f) * wd := Nat.mul_le_mul_right wd (by omega)
    have hdr := flat_drop (wd := wd) k hall
    rw [List.drop_drop, show f + k = t by omega] at hdr
    have hr9 := d.2.2.2.2.2.2
    obtain ⟨p, hp⟩ : ∃ p, k * wd = p := ⟨_, rfl⟩
    rw [hp] at hle hdr
    have w1 : IntKind.i64.wrap ((t : Int) - (f : Int)) = (k : Int) := by rw [IntWalk.i64_in _ (by omega)]; omega
    have w2 : IntKind.i64.wrap ((k : Int) * (wd : Int)) = (p : Int) := by rw [← Int.natCast_mul, hp]; exact IntWalk.i64_in _ (by omega)
    obtain ⟨m, hm⟩ : ∃ m, (rows.drop t).flatten.length = m := ⟨_, rfl⟩
    have DE := Lib.hid (fun W (hb : Below w.heap.size w W) => del_s base V (rows.drop f).flatten p m _ W (d.next hb).2.1 (by rw [hll]; exact hle) (by rw [hll]; omega) hdr hm)
    have D := Lib.hid d
    have HT := Lib.hid hft
    clear e hi d hfr hall hll hbd hle hdr hr9 hp hk hft hm
    go_enter Try.func11, Try.ntmps11
    go_wp2_with fail
    go_region_with (go_at_call 23; (with_reducible refine (DE.out _ (Below.refl w.heap.size w).drew).mono ?_); rintro r w5 ⟨A5, c5, rfl, m5, o5, t5⟩; have M5 := Lib.hid m5; have O5 := Lib.hid o5; have T5 := Lib.hid t5; have X5 := Lib.hid (D.out.1.turn (T := fun i => V.ownBlock = some i) t5 (fun h => D.out.ne h)); have x0 := X5.out.c 0; have x2 := X5.out.c 2; have z0 := X5.out.f 0; have z2 := X5.out.f 2; clear m5 o5 t5)
    all_goals
      go_wp2
      refine bodyPost_ret (v := .tuple #[]) (by simp [results, Try.results11, go_sem]) rfl ?_
      have hne := fun e => D.out.ne (O5.out.symm.trans e)
      refine ⟨_, rfl, ⟨Bk.set_ (Bk.set_ X5.out 0 _) 2 (.int .i64 t), MineT.setCell (MineT.setCell M5.out (p := ⟨g, 0, none⟩) hne _) (p := ⟨g, 2, none⟩) hne _, HT.out.2, D.out.2.2.2⟩, ?_, fun k hk => .inl (by rw [← O5.out]; exact hk)⟩
      exact (Turn.setCell (p := ⟨g, 0, none⟩) (T5.out.mono fun i hi => .inr hi) (.inl (.inl rfl)) _).setCell (p := ⟨g, 2, none⟩) (.inl (.inl rfl)) _
theorem equal_s (A : Option Addr) (n : Nat) (a : List Int) (B : Option Addr) (d : Nat) (b : List Int) (w : World) (hn : a.length = n) (hl : n ≤ 1000) (hl2 : b.length ≤ maxLen) (ha : Ints w A a) (hb : Ints w B b) :
    Calls Try.prog 34 #[.slice A n n, .slice B b.length d] w fun e w' => e = .returned (.bool (decide (a = b))) ∧ Below w.heap.size w w' := by
  subst hn
  exact equal64_b A a.length a B d b w (by unfold maxLen; omega) hl2 ha hb
/-- What becomes of the j-th place from p on, as a number. -/
def kindN (rows news : List (List Int)) (p j : Nat) : Int := if news.length ≤ j then 2 else if rows.length ≤ p + j then 3 else if rows.getD (p + j) [] = news.getD j [] then 0 else 1
set_option maxHeartbeats 2000000 in
theorem change_any (base g : Nat) (V : Value) (wd f : Nat) (rows news : List (List Int)) (p j : Nat) (S : Nat → Prop) (U : Value) (w : World) (d : Tap base w g V wd f rows) (hf : f ≤ p) (hp : p ≤ rows.length) (hn : RwsIn S w U news) (hj : j ≤ 1000) (hnl : news.length ≤ 1000) :
    Calls Try.prog 31 #[.pointer (some ⟨g, 0, none⟩), .int .i64 p, U, .int .i64 j] w fun e w' => e = .returned (.int .i64 (kindN rows news p j)) ∧ Below w.heap.size w w' := by
  obtain ⟨-, -, -, c3⟩ := d.1.all
  have hr9 := d.2.2.2.2.2.2
  obtain ⟨A, c, vs, rfl, _, _, hvl, hs, hrr⟩ := hn
  have HS := Lib.hid hs
  have w1 : IntKind.i64.wrap ((p : Int) + (j : Int)) = (p : Int) + (j : Int) := IntWalk.i64_in _ (by omega)
  by_cases h1 : news.length ≤ j
  · have e : kindN rows news p j = 2 := by unfold kindN; rw [if_pos h1]
    have t1 : decide ((j : Int) ≥ (news.length : Int)) = true := decide_eq_true (by omega)
    have t1' : decide (news.length ≤ j) = true := decide_eq_true h1
    rw [e]
    clear e h1 hs hrr d
    go_enter Try.func31, Try.ntmps31
    go_wp2
    go_ret
    exact ⟨rfl, Below.refl _ _⟩
  · have t1 : decide ((j : Int) ≥ (news.length : Int)) = false := decide_eq_false (by omega)
    have t1' : decide (news.length ≤ j) = false := decide_eq_false h1
    by_cases h2 : rows.length ≤ p + j
    · have e : kindN rows news p j = 3 := by unfold kindN; rw [if_neg h1, if_pos h2]
      have t2 : decide ((p : Int) + (j : Int) ≥ (rows.length : Int)) = true := decide_eq_true (by omega)
      have t2' : decide ((rows.length : Int) ≤ (p : Int) + (j : Int)) = true := decide_eq_true (by omega)
      rw [e]
      clear e h1 hs hrr d
      go_enter Try.func31, Try.ntmps31
      go_wp2
      go_ret
      exact ⟨rfl, Below.refl _ _⟩
    · have t2 : decide ((p : Int) + (j : Int) ≥ (rows.length : Int)) = false := decide_eq_false (by omega)
      have t2' : decide ((rows.length : Int) ≤ (p : Int) + (j : Int)) = false := decide_eq_false (by omega)
      obtain ⟨r, hr⟩ : ∃ r, rows[p + j]? = some r := ⟨_, List.getElem?_eq_getElem (by omega)⟩
      obtain ⟨s, hns⟩ : ∃ s, news[j]? = some s := ⟨_, List.getElem?_eq_getElem (by omega)⟩
      have e : kindN rows news p j = if decide (r = s) = true then 0 else 1 := by
        unfold kindN
        rw [if_neg h1, if_neg h2]
        simp [List.getD, hr, hns]
      obtain ⟨B, b, hvk, hb1, hb2, hsb⟩ := hrr j s hns
      obtain ⟨bb, off, rfl, -, hlt, hck⟩ := hs.one hvk
      have hrl := d.2.2.2.1 r (List.mem_of_getElem? hr)
      have hwd := d.2.2.2.2.1
      have PC := Lib.hid (fun W (hb : Below w.heap.size w W) => piece_any base g V wd f rows (p + j) r W (d.next hb) (by omega) hr)
      have HRL := Lib.hid hrl
      have SB := Lib.hid hsb
      have i1 : (j : Int) < (news.length : Int) := by omega
      have CK := Lib.hid hck
      have LWD := Lib.hid (show Below w.heap.size w w.drew from (Below.refl w.heap.size w).drew)
      have CKD := Lib.hid (show w.drew.cell? ⟨bb, off + j, none⟩ = some (.slice B s.length b) from hck)
      have HLT := Lib.hid hlt
      have HB := Lib.hid (Nat.le_trans hb1 hb2)
      have EQ := fun W w' A1 (hW : Below w.heap.size w W) (h1 : SInts (fun b => V.ownBlock = some b) W A1 r) => equal64_any A1 wd r B b s W (by rw [hrl]; unfold maxLen; omega) (Nat.le_trans hb1 hb2) h1.ints (Seq.next hsb hW |> SInts.ints)
      rw [e]
      have E := Lib.hid e
      have cst : ((p + j : Nat) : Int) = (p : Int) + (j : Int) := by omega
      rw [cst] at PC
      clear e hr hns hvk hsb hs hrr d hck hlt hrl EQ
      cases hd : decide (r = s)
      all_goals
        have HD := Lib.hid hd
        clear hd
        go_enter Try.func31, Try.ntmps31
        go_wp2_with fail
        go_region_held3 (fun w' => w'.cell? ⟨bb, off + j, none⟩ = some (.slice B s.length b))
          (first
            | with_reducible exact KK8.out
            | with_reducible exact KK.out
            | with_reducible exact CKD.out
            | go_keep)
          (first
            | (go_at_call 28; (with_reducible refine (PC.out _ LWD.out).mono ?_); rintro r7 w7 ⟨A1, rfl, hs7, n7, hw7⟩; have B7 := Lib.hid (show Below w.heap.size w w7 by rw [hw7]; exact below_drewN (Below.refl _ _).drew _); have KK := Lib.hid ((B7.out.cell (p := ⟨bb, off + j, none⟩) HLT.out).trans CK.out); have S7 := Lib.hid hs7.ints; have SB7 := Lib.hid (SInts.ints (Seq.next SB.out B7.out)); clear hs7 hw7)
            | (go_at_call 34; (with_reducible refine (equal_s A1 wd r B b s _ HRL.out (by omega) HB.out S7.out SB7.out).mono ?_); rintro r8 w8 ⟨rfl, hb8⟩; rw [HD.out]; have B8 := Lib.hid (below_next B7.out hb8); have KK8 := Lib.hid ((B8.out.cell (p := ⟨bb, off + j, none⟩) HLT.out).trans CK.out); clear hb8))
        all_goals
          go_wp2
          go_ret
          exact ⟨rfl, B8.out⟩
end Go.Proofs.Ytakoehgjgdcmmaa.Tp
