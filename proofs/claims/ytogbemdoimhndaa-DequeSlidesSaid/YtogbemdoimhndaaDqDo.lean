/-
  What rifflelaw13.same and does tell of a window and the document's list with the same numbers: that they tell the same. Conditions: at most 64 numbers, at most 1000 came.
-/
import Derived.Test.YtogbemdoimhndaaDqRef
import Derived.Deep.RegionHeld3
set_option maxRecDepth 100000
namespace Go.Proofs.Ytogbemdoimhndaa.Dq
open Go.Proofs.Ytogbemdoimhndaa.Sh Go.Proofs.Ytogbemdoimhndaa.St
open Go.RowKit
set_option linter.unusedVariables false

theorem nums_same (A : Option Addr) (c : Nat) (a : List Int) (B : Option Addr) (d : Nat) (w : World) (hl : a.length ≤ maxLen) (ha : Ints w A a) (hb : Ints w B a) :
    Calls Try.prog 44 #[.slice A a.length c, .slice B a.length d] w fun e w' => e = .returned (.bool true) ∧ Below w.heap.size w w' :=
  (nums_any A c a B d a w hl hl ha hb).mono fun e w' ⟨h1, n, h2⟩ => ⟨by simpa using h1, by rw [h2]; exact below_drewN (Below.refl _ _) n⟩
set_option maxHeartbeats 4000000 in
theorem same_any (base g : Nat) (V : Value) (ls : Bool) (n f : Nat) (l : List Int) (A : Option Addr) (c : Nat) (w : World) (d : Deq base w g V ls n f l) (hi : Ints w A l) (hs : f + l.length ≤ 1000) :
    Calls Try.prog 29 #[.pointer (some ⟨g, 0, none⟩), .slice A l.length c, .bool ls] w fun e w' => e = .returned (.bool true) ∧ Below w.heap.size w w' := by
  have BE := Lib.hid (best_any base g V ls n f l w d hs)
  have RB := Lib.hid (fun W (h : Ints W A l) => rbest_any ls A c l W h (by omega))
  have RK := Lib.hid (fun W (h : Ints W A l) => rkept_any ls A c l W h (by omega))
  have KE := Lib.hid (fun W (hb : Below w.heap.size w W) => kept_any base g V ls n f l W (d.next hb) (by omega))
  have LN := Lib.hid (fun W (hb : Below w.heap.size w W) => len_any g V ls n f l.length W (d.next hb).1 (by omega))
  have I0 := Lib.hid hi
  have hkl : (keptV ls l).length ≤ 1000 := Nat.le_trans (keptV_len ls l) (by omega)
  have HK := Lib.hid (fun W A1 c1 A2 c2 (h1 : Ints W A1 (keptV ls l)) (h2 : Ints W A2 (keptV ls l)) => nums_same A1 c1 (keptV ls l) A2 c2 W (by unfold maxLen; omega) h1 h2)
  generalize bestI ls l = B at *
  generalize decide (0 < l.length) = b at *
  generalize keptV ls l = K at *
  have hbb : (b == b) = true := by cases b <;> rfl
  clear d hi hs
  go_enter Try.func29, Try.ntmps29
  go_wp2_with fail
  refine BE.out.mono ?_
  rintro r w1 ⟨rfl, hb1⟩
  have L1 := Lib.hid hb1
  have I1 := Lib.hid (I0.out.below hb1)
  clear hb1
  go_wp2_with fail
  refine (RB.out _ I1.out).mono ?_
  rintro r w2 ⟨rfl, rfl⟩
  go_wp2_with fail
  refine (LN.out _ L1.out).mono ?_
  rintro r w3 ⟨rfl, m, hm⟩
  have b3 : Below w1.heap.size w1 w3 := by rw [hm]; exact below_drewN (Below.refl _ _) _
  have L3 := Lib.hid (below_next L1.out b3)
  have I3 := Lib.hid (I1.out.below b3)
  clear hm b3
  go_wp2_with fail
  refine (KE.out _ L3.out).mono ?_
  rintro r w4 ⟨A4, c4, rfl, h4, -, -, hb4⟩
  have L4 := Lib.hid (below_next L3.out hb4)
  have I4 := Lib.hid (I3.out.below hb4)
  have S4 := Lib.hid h4
  clear hb4 h4
  go_wp2_with fail
  refine (RK.out _ I4.out).mono ?_
  rintro r w5 ⟨A5, c5, rfl, h5, -, -, hb5⟩
  have L5 := Lib.hid (below_next L4.out hb5)
  have N5 := Lib.hid (HK.out w5 A4 c4 A5 c5 (SInts.ints (S4.out.next hb5)) h5.ints)
  clear hb5 h5
  go_wp2_with fail
  refine N5.out.mono ?_
  rintro r w6 ⟨rfl, hb6⟩
  have L6 := Lib.hid (below_next L5.out hb6)
  clear hb6
  go_wp2
  go_ret
  exact ⟨rfl, L6.out⟩

/-- A deed: whether the first number goes, and the number that comes. -/
abbrev Deed := Bool × Int
def doL (n : Nat) (l : List Int) (d : Deed) : List Int := if d.1 = true then l.tail else if l.length = n then l else l ++ [d.2]
def doF (f : Nat) (l : List Int) (d : Deed) : Nat := if d.1 = true ∧ 0 < l.length then f + 1 else f
/-- What a deed with both leaves: a window and a list with the same numbers, in blocks of S and new ones. -/
def RetDo (S : Nat → Prop) (base g : Nat) (V : Value) (ls : Bool) (n f : Nat) (l : List Int) (w : World) (e : Ending) (w' : World) : Prop :=
  ∃ A c V', e = .returned (.tuple #[.slice A l.length c, .bool true]) ∧ Deq base w' g V' ls n f l ∧ SInts (fun b => (S b ∨ w.heap.size ≤ b) ∧ ¬ Tq g V' b) w' A l ∧ l.length ≤ c ∧ c ≤ maxLen ∧ Turn (Tq g V) w w' ∧ Fresh w V V'
theorem seq_bound {S : Nat → Prop} {w : World} {A : Option Addr} {vs : List Value} (h : Seq S w A vs) : Seq (fun b => S b ∧ b < w.heap.size) w A vs := fun hp => by
  obtain ⟨b, off, e, h1, h2, h3⟩ := h hp
  exact ⟨b, off, e, ⟨h1, h2⟩, h2, h3⟩
/-- An old list stays apart from what is turned. -/
theorem old_list {S : Nat → Prop} {g : Nat} {V V' : Value} {w w0 w' : World} {A : Option Addr} {l : List Int} (h : SInts S w A l) (hS : ∀ b, (S b ∨ w.heap.size ≤ b) → ¬ Tq g V b) (t : Turn (Tq g V) w w') (f : Fresh w0 V V') (hs : w.heap.size ≤ w0.heap.size) : SInts (fun b => (S b ∨ w.heap.size ≤ b) ∧ ¬ Tq g V' b) w' A l :=
  Seq.mono (Seq.turn (seq_bound h) t fun b hb => hS b (.inl hb.1)) fun b hb => ⟨.inl hb.1, fun ht => by
    rcases ht with ht | ht
    · exact hS b (.inl hb.1) (.inl ht)
    · rcases f b ht with h | h
      · exact hS b (.inl hb.1) (.inr h)
      · omega⟩
theorem seq_tail {S : Nat → Prop} {w : World} {b off : Nat} {x : Int} {l : List Int} (h : SInts S w (some ⟨b, off, none⟩) (x :: l)) : SInts S w (some ⟨b, off + 1, none⟩) l := fun hp => by
  obtain ⟨b', off', e, h1, h2, h3⟩ := h (by simp)
  injection e with e
  injection e with e1 e2
  subst e1 e2
  refine ⟨b, off + 1, rfl, h1, h2, fun j u hu => ?_⟩
  have := h3 (j + 1) u (by simpa using hu)
  rw [show off + 1 + j = off + (j + 1) by omega]
  exact this
theorem apart_S {S : Nat → Prop} {base g : Nat} {V : Value} {ls : Bool} {n f : Nat} {l : List Int} {w : World} (d : Deq base w g V ls n f l) (hS : ∀ b, S b → ¬ Tq g V b) : ∀ b, (S b ∨ w.heap.size ≤ b) → ¬ Tq g V b := fun b hb ht => by
  rcases hb with hb | hb
  · exact hS b hb ht
  · have := (d.lt b ht).1; omega
set_option maxHeartbeats 4000000 in
theorem does_drop (S : Nat → Prop) (base g : Nat) (V : Value) (ls : Bool) (n f : Nat) (l : List Int) (A : Option Addr) (c : Nat) (N : Int) (w : World) (d : Deq base w g V ls n f l) (hi : SInts S w A l) (hS : ∀ b, S b → ¬ Tq g V b) (hlc : l.length ≤ c) (hcm : c ≤ maxLen) (hs : f + l.length ≤ 1000) :
    Calls Try.prog 28 #[.pointer (some ⟨g, 0, none⟩), .slice A l.length c, .int .i64 n, .agg #[.bool true, .int .i64 N]] w (RetDo S base g V ls n (doF f l (true, N)) (doL n l (true, N)) w) := by
  have L0 := Lib.hid (below_new w (.cells #[.bool true, .int .i64 N] 58))
  have AS := Lib.hid (apart_S d hS)
  have HI := Lib.hid hi
  have HCM := Lib.hid hcm
  unfold maxLen at hcm
  cases l with
  | nil =>
    have e1 : doF f [] (true, N) = f := by simp [doF]
    have e2 : doL n [] (true, N) = [] := by simp [doL]
    rw [e1, e2]
    have DR := Lib.hid (drop_none base g V ls n f _ (d.next L0.out) (by simpa using hs))
    have d0 := Lib.hid d
    clear d hi hS e1 e2
    go_enter Try.func28, Try.ntmps28
    go_wp2_with fail
    refine DR.out.mono ?_
    rintro r w1 ⟨V', rfl, d1, t1, f1⟩
    have H1 := Lib.hid (And.intro d1 (And.intro t1 f1))
    clear d1 t1 f1
    go_wp2
    go_ret2
    obtain ⟨d1, t1, f1⟩ := H1.out
    exact ⟨A, c, V', rfl, d1, Seq.nil _ _ _, Nat.zero_le _, HCM.out, (Turn.of_below _ L0.out).trans t1, fun k hk => (f1 k hk).imp id fun h => Nat.le_trans L0.out.size h⟩
  | cons x t =>
    have e1 : doF f (x :: t) (true, N) = f + 1 := by simp [doF]
    have e2 : doL n (x :: t) (true, N) = t := by simp [doL]
    rw [e1, e2]
    have DR := Lib.hid (drop_some base g V ls n f x t _ (d.next L0.out) (by simp at hs; omega))
    obtain ⟨b, off, rfl, hSb, hbl, hcs⟩ := hi (by simp)
    have i1 : (1 : Int) ≤ (t.length : Int) + 1 := by omega
    have i2 : (t.length : Int) + 1 ≤ (c : Int) := by simp at hlc; omega
    have i3 : (1 : Int) ≤ (c : Int) := by omega
    have e3 : (((t.length : Int) + 1) == 0) = false := by simp; omega
    obtain ⟨A', hA', hA2⟩ : ∃ A' : Option Addr, (if c = 1 then some (⟨b, off, none⟩ : Addr) else some ⟨b, off + 1, none⟩) = A' ∧ Hid (0 < t.length → A' = some ⟨b, off + 1, none⟩) := by
      by_cases h1 : c = 1
      · refine ⟨_, rfl, fun h => ?_⟩
        simp at hlc; omega
      · exact ⟨_, rfl, fun _ => by rw [if_neg h1]⟩
    have HLC := Lib.hid hlc
    clear d hi hS e1 e2 hcs hlc
    go_enter Try.func28, Try.ntmps28
    go_wp2_with fail
    refine DR.out.mono ?_
    rintro r w1 ⟨V', rfl, d1, t1, f1⟩
    have H1 := Lib.hid (And.intro d1 (And.intro t1 f1))
    clear d1 t1 f1
    go_wp2
    go_ret2
    obtain ⟨d1, t1, f1⟩ := H1.out
    have tt := (Turn.of_below (Tq g V) L0.out).trans t1
    refine ⟨A', c - 1, V', rfl, d1, ?_, by have := HLC.out; simp at this; omega, by have := HCM.out; omega, tt, fun k hk => (f1 k hk).imp id fun h => Nat.le_trans L0.out.size h⟩
    have h2 : SInts S w A' t := by
      rcases Nat.eq_zero_or_pos t.length with h0 | h0
      · rw [List.eq_nil_of_length_eq_zero h0]; exact Seq.nil _ _ _
      · rw [hA2.out h0]; exact seq_tail HI.out
    exact old_list h2 AS.out tt f1 L0.out.size
set_option maxHeartbeats 4000000 in
theorem does_full (S : Nat → Prop) (base g : Nat) (V : Value) (ls : Bool) (n f : Nat) (l : List Int) (A : Option Addr) (c : Nat) (N : Int) (w : World) (d : Deq base w g V ls n f l) (hi : SInts S w A l) (hS : ∀ b, S b → ¬ Tq g V b) (hlc : l.length ≤ c) (hcm : c ≤ maxLen) (hs : f + l.length ≤ 1000) (hf : l.length = n) :
    Calls Try.prog 28 #[.pointer (some ⟨g, 0, none⟩), .slice A l.length c, .int .i64 n, .agg #[.bool false, .int .i64 N]] w (RetDo S base g V ls n f l w) := by
  have L0 := Lib.hid (below_new w (.cells #[.bool false, .int .i64 N] 58))
  have AS := Lib.hid (apart_S d hS)
  have HI := Lib.hid hi
  have PU := Lib.hid (push_full base g V ls n f l N _ (d.next L0.out) hs hf)
  have e1 : (((l.length : Nat) : Int) == (n : Int)) = true := by simp [hf]
  have HC := Lib.hid (And.intro hlc hcm)
  clear d hi hS hf hlc hcm
  go_enter Try.func28, Try.ntmps28
  go_wp2_with fail
  refine PU.out.mono ?_
  rintro r w1 ⟨V', rfl, d1, t1, f1⟩
  have H1 := Lib.hid (And.intro d1 (And.intro t1 f1))
  clear d1 t1 f1
  go_wp2
  go_ret2
  obtain ⟨d1, t1, f1⟩ := H1.out
  have tt := (Turn.of_below (Tq g V) L0.out).trans t1
  exact ⟨A, c, V', rfl, d1, old_list HI.out AS.out tt f1 L0.out.size, HC.out.1, HC.out.2, tt, fun k hk => (f1 k hk).imp id fun h => Nat.le_trans L0.out.size h⟩
theorem kbox {w w' : World} {b k : Nat} {u : Value} (hb : Below b w w') (q : w.cell? ⟨b, k, none⟩ = some u) (h : w'.heap[b]? = w.heap[b]?) : w'.cell? ⟨b, k, none⟩ = some u := (World.cell?_of_block (a := ⟨b, k, none⟩) h).trans q
theorem room_end {S : Nat → Prop} {base g n f : Nat} {V V' : Value} {ls : Bool} {l : List Int} {N : Int} {w w8 w7 : World} {A8 : Option Addr} {c8 : Nat} (L8 : Below w.heap.size w w8) (M8 : MineT 2 w8 w.heap.size (.slice A8 (l ++ [N]).length c8) (l ++ [N])) (d7 : Deq base w7 g V' ls n f (l ++ [N])) (t7 : Turn (Tq g V) w8 w7) (f7 : Fresh w8 V V') (d : Deq base w g V ls n f l) (hS : ∀ b, (S b ∨ w.heap.size ≤ b) → ¬ Tq g V b) :
    RetDo S base g V ls n f (l ++ [N]) w (.returned (.tuple #[.slice A8 (l.length + 1) c8, .bool true])) w7 := by
  obtain ⟨A', c', e, h1, h2, h3⟩ := own_seq M8 (by decide)
  injection e with e1 e2 e3
  subst e1 e3
  refine ⟨A8, c8, V', by rw [List.length_append]; rfl, d7, ?_, h1, h2, (Turn.of_below _ L8).trans t7, fun k hk => (f7 k hk).imp id fun h => Nat.le_trans L8.size h⟩
  refine Seq.mono (Seq.turn (seq_bound h3) t7 fun b hb => hS b (.inr hb.1)) fun b hb => ⟨.inr hb.1, fun ht => ?_⟩
  rcases ht with ht | ht
  · exact hS b (.inr hb.1) (.inl ht)
  · rcases f7 b ht with h | h
    · exact hS b (.inr hb.1) (.inr h)
    · have := hb.2; omega
set_option maxHeartbeats 4000000 in
theorem does_room (S : Nat → Prop) (base g : Nat) (V : Value) (ls : Bool) (n f : Nat) (l : List Int) (A : Option Addr) (c : Nat) (N : Int) (w : World) (d : Deq base w g V ls n f l) (hi : SInts S w A l) (hS : ∀ b, S b → ¬ Tq g V b) (hs : f + l.length ≤ 1000) (hf : l.length < n) :
    Calls Try.prog 28 #[.pointer (some ⟨g, 0, none⟩), .slice A l.length c, .int .i64 n, .agg #[.bool false, .int .i64 N]] w (RetDo S base g V ls n f (l ++ [N]) w) := by
  have b0 := below_new w (.cells #[.bool false, .int .i64 N] 58)
  have L0 := Lib.hid b0
  have AS := Lib.hid (apart_S d hS)
  have PU := Lib.hid (fun W (hb : Below w.heap.size w W) => push_room base g V ls n f l N W (d.next hb) hs hf)
  have D0 := Lib.hid d
  have hgl := (d.lt g (.inl rfl)).1
  have e1 : (((l.length : Nat) : Int) == (n : Int)) = false := by simp; omega
  have IV := Lib.hid (Ints.below hi.ints b0)
  have BX := Lib.hid (Bk.new 58 w [.bool false, .int .i64 N])
  have hsz : (w.alloc (.cells #[.bool false, .int .i64 N] 58)).heap.size = w.heap.size + 1 := by simp
  have HSZ := Lib.hid hsz
  clear d hi hS b0 hsz hf
  go_enter Try.func28, Try.ntmps28
  go_wp2_with fail
  generalize w.alloc (.cells #[.bool false, .int .i64 N] 58) = wb at *
  have hle : w.heap.size ≤ wb.heap.size := L0.out.size
  have hlt : w.heap.size < wb.heap.size := by rw [HSZ.out]; omega
  have q0 : wb.cell? ⟨w.heap.size, 1, none⟩ = some (.int .i64 N) := BX.out.c 1
  have LA := Lib.hid (show Below w.heap.size w (wb.alloc (.cells #[] 2)).drew from (below_next L0.out (below_new wb _)).drew)
  have LB := Lib.hid (show Below w.heap.size w ((wb.alloc (.cells #[.int .i64 N] 2)).alloc (.cells #[] 2)).drew from (below_next (below_next L0.out (below_new wb _)) (below_new _ _)).drew)
  have LC := Lib.hid (show Below w.heap.size w ((wb.alloc (.cells #[] 2)).alloc (.cells #[.int .i64 N] 2)).drew from (below_next (below_next L0.out (below_new wb _)) (below_new _ _)).drew)
  have ZA := Lib.hid (show MineT 2 (wb.alloc (.cells #[] 2)).drew w.heap.size (.slice (some ⟨wb.heap.size, 0, none⟩) 0 0) [] from MineT.new 2 wb [] w.heap.size hle (by simp))
  have ZB := Lib.hid (show MineT 2 ((wb.alloc (.cells #[.int .i64 N] 2)).alloc (.cells #[] 2)).drew w.heap.size (.slice (some ⟨wb.heap.size + 1, 0, none⟩) 0 0) [] from by have := MineT.new 2 (wb.alloc (.cells #[.int .i64 N] 2)) [] w.heap.size (by simp; omega) (by simp); rw [show (wb.alloc (.cells #[.int .i64 N] 2)).heap.size = wb.heap.size + 1 from by simp] at this; exact this)
  have ZC := Lib.hid (show MineT 2 ((wb.alloc (.cells #[] 2)).alloc (.cells #[.int .i64 N] 2)).drew w.heap.size (.slice (some ⟨wb.heap.size, 0, none⟩) 0 0) [] from (MineT.new 2 wb [] w.heap.size hle (by simp)).alloc _)
  have IB := Lib.hid (show MineT 2 ((wb.alloc (.cells #[.int .i64 N] 2)).alloc (.cells #[] 2)).drew w.heap.size (.slice (some ⟨wb.heap.size, 0, none⟩) 1 1) [N] from (MineT.new 2 wb [N] w.heap.size hle (by unfold maxLen; simp)).alloc _)
  have IC := Lib.hid (show MineT 2 ((wb.alloc (.cells #[] 2)).alloc (.cells #[.int .i64 N] 2)).drew w.heap.size (.slice (some ⟨wb.heap.size + 1, 0, none⟩) 1 1) [N] from by have := MineT.new 2 (wb.alloc (.cells #[] 2)) [N] w.heap.size (by simp; omega) (by unfold maxLen; simp); rw [show (wb.alloc (.cells #[] 2)).heap.size = wb.heap.size + 1 from by simp] at this; exact this)
  have YA := Lib.hid (show Ints (wb.alloc (.cells #[] 2)).drew A l from IV.out.below (below_new wb _).drew)
  have YB := Lib.hid (show Ints ((wb.alloc (.cells #[.int .i64 N] 2)).alloc (.cells #[] 2)).drew A l from (IV.out.below (below_new wb _)).below (below_new _ _).drew)
  have YC := Lib.hid (show Ints ((wb.alloc (.cells #[] 2)).alloc (.cells #[.int .i64 N] 2)).drew A l from (IV.out.below (below_new wb _)).below (below_new _ _).drew)
  have XA := Lib.hid (show Bk 58 (wb.alloc (.cells #[] 2)).drew w.heap.size [.bool false, .int .i64 N] from BX.out.next (below_new wb _).drew)
  have XB := Lib.hid (show Bk 58 ((wb.alloc (.cells #[.int .i64 N] 2)).alloc (.cells #[] 2)).drew w.heap.size [.bool false, .int .i64 N] from (BX.out.next (below_new wb _)).next (below_new _ _).drew)
  have XC := Lib.hid (show Bk 58 ((wb.alloc (.cells #[] 2)).alloc (.cells #[.int .i64 N] 2)).drew w.heap.size [.bool false, .int .i64 N] from (BX.out.next (below_new wb _)).next (below_new _ _).drew)
  go_region_held3 (fun w' => w'.cell? ⟨w.heap.size, 1, none⟩ = some (.int .i64 N))
    (first
      | with_reducible exact KK7.out
      | with_reducible exact KK8.out
      | with_reducible exact KX.out
      | with_reducible exact KK.out
      | go_keep)
    (first
      | ((with_reducible refine step_appI numL Try.underlying43 rfl (.tmp 34) (.tmp 35) rfl w.heap.size (.slice (some ⟨wb.heap.size, 0, none⟩) 0 0) [] (by simp [Act.eval]) ZA.out A c l (by simp [Act.eval]) YA.out (by simp; omega) (by simp; omega) ?_); intro V9 w9 hm9 hg9 ha9; have L9 := Lib.hid (LA.out.grown hg9 LA.out.size (fun k hk => own_base ZA.out k hk)); have X9 := Lib.hid (XA.out.grown hg9 (own_bk_ne ZA.out XA.out (by decide))); have M9 := Lib.hid (show MineT 2 w9 w.heap.size V9 l from hm9); clear hm9 hg9 ha9; obtain ⟨A9, c9, rfl, -⟩ := M9.out.ints; have KK := Lib.hid (show w9.cell? ⟨w.heap.size, 1, none⟩ = some (.int .i64 N) from X9.out.c 1); have MX9 := Lib.hid (M9.out.alloc (.cells #[.int .i64 N] 2)); have YX9 := Lib.hid (show Ints (w9.alloc (.cells #[.int .i64 N] 2)) (some ⟨w9.heap.size, 0, none⟩) [N] from (MineT.new 2 w9 [N] 0 (Nat.zero_le _) (by unfold maxLen; simp)).ints'); have LX9 := Lib.hid (below_next L9.out (below_new w9 (.cells #[.int .i64 N] 2))); have XX9 := Lib.hid (X9.out.alloc (.cells #[.int .i64 N] 2)); have KX := Lib.hid (show (w9.alloc (.cells #[.int .i64 N] 2)).cell? ⟨w.heap.size, 1, none⟩ = some (.int .i64 N) from XX9.out.c 1))
      | ((with_reducible refine step_appI numL Try.underlying43 rfl (.tmp 34) (.tmp 35) rfl w.heap.size (.slice (some ⟨wb.heap.size + 1, 0, none⟩) 0 0) [] (by simp [Act.eval]) ZB.out A c l (by simp [Act.eval]) YB.out (by simp; omega) (by simp; omega) ?_); intro V9 w9 hm9 hg9 ha9; have IX9 := Lib.hid (IB.out.keep fun g' hg' => hg9.block g' (IB.out.lt g' hg') (fun e => by simp [Value.ownBlock] at e hg'; omega)); have L9 := Lib.hid (LB.out.grown hg9 LB.out.size (fun k hk => own_base ZB.out k hk)); have X9 := Lib.hid (XB.out.grown hg9 (own_bk_ne ZB.out XB.out (by decide))); have M9 := Lib.hid (show MineT 2 w9 w.heap.size V9 l from hm9); clear hm9 hg9 ha9; obtain ⟨A9, c9, rfl, -⟩ := M9.out.ints; have KK := Lib.hid (show w9.cell? ⟨w.heap.size, 1, none⟩ = some (.int .i64 N) from X9.out.c 1))
      | ((with_reducible refine step_appI numL Try.underlying43 rfl (.tmp 34) (.tmp 35) rfl w.heap.size (.slice (some ⟨wb.heap.size, 0, none⟩) 0 0) [] (by simp [Act.eval]) ZC.out A c l (by simp [Act.eval]) YC.out (by simp; omega) (by simp; omega) ?_); intro V9 w9 hm9 hg9 ha9; have IX9 := Lib.hid (IC.out.keep fun g' hg' => hg9.block g' (IC.out.lt g' hg') (fun e => by simp [Value.ownBlock] at e hg'; omega)); have L9 := Lib.hid (LC.out.grown hg9 LC.out.size (fun k hk => own_base ZC.out k hk)); have X9 := Lib.hid (XC.out.grown hg9 (own_bk_ne ZC.out XC.out (by decide))); have M9 := Lib.hid (show MineT 2 w9 w.heap.size V9 l from hm9); clear hm9 hg9 ha9; obtain ⟨A9, c9, rfl, -⟩ := M9.out.ints; have KK := Lib.hid (show w9.cell? ⟨w.heap.size, 1, none⟩ = some (.int .i64 N) from X9.out.c 1))
      | ((with_reducible refine step_appI numL Try.underlying43 rfl (.tmp 36) (.tmp 39) rfl w.heap.size (.slice A9 l.length c9) l (by simp [Act.eval]) MX9.out (some ⟨w9.heap.size, 0, none⟩) 1 [N] (by simp [Act.eval]) YX9.out (by simp; omega) LX9.out.size ?_); intro V8 w8 hm8 hg8 ha8; have L8 := Lib.hid (LX9.out.grown hg8 LX9.out.size (fun k hk => own_base MX9.out k hk)); have X8 := Lib.hid (XX9.out.grown hg8 (own_bk_ne MX9.out XX9.out (by decide))); have M8 := Lib.hid (show MineT 2 w8 w.heap.size V8 (l ++ [N]) from hm8); clear hm8 hg8 ha8; obtain ⟨A8, c8, rfl, -⟩ := M8.out.ints; have KK8 := Lib.hid (show w8.cell? ⟨w.heap.size, 1, none⟩ = some (.int .i64 N) from X8.out.c 1))
      | ((with_reducible refine step_appI numL Try.underlying43 rfl (.tmp 36) (.tmp 39) rfl w.heap.size (.slice A9 l.length c9) l (by simp [Act.eval]) M9.out (some ⟨wb.heap.size, 0, none⟩) 1 [N] (by simp [Act.eval]) IX9.out.ints' (by simp; omega) L9.out.size ?_); intro V8 w8 hm8 hg8 ha8; have L8 := Lib.hid (L9.out.grown hg8 L9.out.size (fun k hk => own_base M9.out k hk)); have X8 := Lib.hid (X9.out.grown hg8 (own_bk_ne M9.out X9.out (by decide))); have M8 := Lib.hid (show MineT 2 w8 w.heap.size V8 (l ++ [N]) from hm8); clear hm8 hg8 ha8; obtain ⟨A8, c8, rfl, -⟩ := M8.out.ints; have KK8 := Lib.hid (show w8.cell? ⟨w.heap.size, 1, none⟩ = some (.int .i64 N) from X8.out.c 1))
      | ((with_reducible refine step_appI numL Try.underlying43 rfl (.tmp 36) (.tmp 39) rfl w.heap.size (.slice A9 l.length c9) l (by simp [Act.eval]) M9.out (some ⟨wb.heap.size + 1, 0, none⟩) 1 [N] (by simp [Act.eval]) IX9.out.ints' (by simp; omega) L9.out.size ?_); intro V8 w8 hm8 hg8 ha8; have L8 := Lib.hid (L9.out.grown hg8 L9.out.size (fun k hk => own_base M9.out k hk)); have X8 := Lib.hid (X9.out.grown hg8 (own_bk_ne M9.out X9.out (by decide))); have M8 := Lib.hid (show MineT 2 w8 w.heap.size V8 (l ++ [N]) from hm8); clear hm8 hg8 ha8; obtain ⟨A8, c8, rfl, -⟩ := M8.out.ints; have KK8 := Lib.hid (show w8.cell? ⟨w.heap.size, 1, none⟩ = some (.int .i64 N) from X8.out.c 1))
      | ((go_at_call 34; (with_reducible refine (PU.out _ L8.out).mono ?_); rintro r w7 ⟨V7, rfl, d7, t7, f7⟩; have H7 := Lib.hid (And.intro d7 (And.intro t7 f7)); have KK7 := Lib.hid (t7.cell (p := ⟨w.heap.size, 1, none⟩) (fun e => AS.out w.heap.size (.inr (Nat.le_refl _)) e) KK8.out); clear d7 t7 f7)))
  all_goals
    go_wp2
    go_ret2
    exact room_end L8.out M8.out H7.out.1 H7.out.2.1 H7.out.2.2 D0.out AS.out
theorem does_any (S : Nat → Prop) (base g : Nat) (V : Value) (ls : Bool) (n f : Nat) (l : List Int) (A : Option Addr) (c : Nat) (d : Deed) (w : World) (q : Deq base w g V ls n f l) (hi : SInts S w A l) (hS : ∀ b, S b → ¬ Tq g V b) (hlc : l.length ≤ c) (hcm : c ≤ maxLen) (hs : f + l.length ≤ 1000) :
    Calls Try.prog 28 #[.pointer (some ⟨g, 0, none⟩), .slice A l.length c, .int .i64 n, .agg #[.bool d.1, .int .i64 d.2]] w (RetDo S base g V ls n (doF f l d) (doL n l d) w) := by
  obtain ⟨b, N⟩ := d
  cases b with
  | true => exact does_drop S base g V ls n f l A c N w q hi hS hlc hcm hs
  | false =>
    have e1 : doF f l (false, N) = f := by simp [doF]
    rw [e1]
    by_cases hf : l.length = n
    · have e2 : doL n l (false, N) = l := by simp [doL, hf]
      rw [e2]
      exact does_full S base g V ls n f l A c N w q hi hS hlc hcm hs hf
    · have e2 : doL n l (false, N) = l ++ [N] := by simp [doL, hf]
      rw [e2]
      exact does_room S base g V ls n f l A c N w q hi hS hs (by have := q.2.2.1; omega)
theorem do_came (n f : Nat) (l : List Int) (d : Deed) : doF f l d + (doL n l d).length ≤ f + l.length + 1 := by
  obtain ⟨b, N⟩ := d
  cases b with
  | true =>
    cases l with
    | nil => simp [doF, doL]
    | cons x t =>
      have h1 : doF f (x :: t) (true, N) = f + 1 := by simp [doF]
      have h2 : doL n (x :: t) (true, N) = t := by simp [doL]
      rw [h1, h2, List.length_cons]; omega
  | false =>
    have h1 : doF f l (false, N) = f := by simp [doF]
    rw [h1]
    by_cases h : l.length = n
    · have h2 : doL n l (false, N) = l := by simp [doL, h]
      rw [h2]; omega
    · have h2 : doL n l (false, N) = l ++ [N] := by simp [doL, h]
      rw [h2, List.length_append]; simp; omega
end Go.Proofs.Ytogbemdoimhndaa.Dq
