/-
  A tape as its rows with a set of blocks that holds its own; rifflelaw16.does: a deed of both. Conditions: as told in each.
-/
import Derived.Test.YtakoehgjgdcmmaaTpRef2
set_option maxRecDepth 100000
namespace Go.Proofs.Ytakoehgjgdcmmaa.Tp
open Go.Proofs.Ytakoehgjgdcmmaa.Sh Go.Proofs.Ytakoehgjgdcmmaa.St
open Go.RowKit
set_option linter.unusedVariables false

/-- The tape behind block g has these rows, the first f forgotten; its blocks are among T. -/
def Ob (base : Nat) (w : World) (g wd f : Nat) (rows : List (List Int)) (T : Nat → Prop) : Prop := ∃ V, Tap base w g V wd f rows ∧ ∀ b, Tq g V b → T b
/-- Rows that lie in no block of T. -/
def Rws (T : Nat → Prop) (w : World) (V : Value) (rows : List (List Int)) : Prop := RwsIn (fun b => ¬ T b) w V rows
section
variable {base : Nat} {w w' : World} {g wd f : Nat} {rows : List (List Int)} {T T' : Nat → Prop} {V : Value}
theorem Ob.next (h : Ob base w g wd f rows T) (hb : Below w.heap.size w w') : Ob base w' g wd f rows T := by
  obtain ⟨V, d, hT⟩ := h
  exact ⟨V, d.next hb, hT⟩
theorem Ob.turn (h : Ob base w g wd f rows T) {S : Nat → Prop} (hb : Turn S w w') (hS : ∀ b, T b → ¬ S b) : Ob base w' g wd f rows T := by
  obtain ⟨V, d, hT⟩ := h
  exact ⟨V, d.turn hb fun b k => hS b (hT b k), hT⟩
theorem Rws.left (h : Rws T w V rows) (ht : Turn T w w') (hT : ∀ b, T' b → T b ∨ w.heap.size ≤ b) : Rws T' w' V rows := by
  refine ((rws_cut h).turn ht fun i hi => hi.1).mono fun i hi k => ?_
  rcases hT i k with k | k
  · exact hi.1 k
  · omega
theorem Rws.next (h : Rws T w V rows) (hb : Below w.heap.size w w') : Rws T w' V rows := RwsIn.next h hb
theorem Rws.sub (h : Rws T w V rows) (hT : ∀ b, T' b → T b) : Rws T' w V rows := RwsIn.mono h fun i hi k => hi (hT i k)
end
/-- The boxes of does: the document's tape, the deed, the answer. -/
def DoB (w0 w : World) (RV : Value) (f wd : Nat) (db : Bool) (i : Int) (U : Value) : Prop :=
  Bk 31 w w0.heap.size [RV, .int .i64 f, .int .i64 wd] ∧ Bk 33 w (w0.heap.size + 1) [.bool db, .int .i64 i, U] ∧ Bk 31 w (w0.heap.size + 1 + 1) [.slice none 0 0, .int .i64 0, .int .i64 0] ∧ w0.heap.size + 1 + 1 + 1 ≤ w.heap.size
section
variable {w0 w w' : World} {RV U : Value} {f wd : Nat} {db : Bool} {i : Int}
theorem DoB.new (w : World) (RV : Value) (f wd : Nat) (db : Bool) (i : Int) (U : Value) : DoB w (((w.alloc (.cells #[RV, .int .i64 f, .int .i64 wd] 31)).alloc (.cells #[.bool db, .int .i64 i, U] 33)).alloc (.cells #[.slice none 0 0, .int .i64 0, .int .i64 0] 31)) RV f wd db i U := by
  have h1 := Bk.new 31 w [RV, .int .i64 f, .int .i64 wd]
  have h2 := Bk.new 33 (w.alloc (.cells #[RV, .int .i64 f, .int .i64 wd] 31)) [.bool db, .int .i64 i, U]
  have h3 := Bk.new 31 ((w.alloc (.cells #[RV, .int .i64 f, .int .i64 wd] 31)).alloc (.cells #[.bool db, .int .i64 i, U] 33)) [.slice none 0 0, .int .i64 0, .int .i64 0]
  rw [show (w.alloc (.cells #[RV, .int .i64 f, .int .i64 wd] 31)).heap.size = w.heap.size + 1 from by simp] at h2
  rw [show ((w.alloc (.cells #[RV, .int .i64 f, .int .i64 wd] 31)).alloc (.cells #[.bool db, .int .i64 i, U] 33)).heap.size = w.heap.size + 1 + 1 from by simp] at h3
  exact ⟨(h1.alloc _).alloc _, h2.alloc _, h3, by simp⟩
theorem DoB.turn {T : Nat → Prop} (b : DoB w0 w RV f wd db i U) (ht : Turn T w w') (hT : ∀ i, T i → i < w0.heap.size) : DoB w0 w' RV f wd db i U :=
  ⟨b.1.turn ht fun h => by have := hT _ h; omega, b.2.1.turn ht fun h => by have := hT _ h; omega, b.2.2.1.turn ht fun h => by have := hT _ h; omega, Nat.le_trans b.2.2.2 ht.size⟩
theorem DoB.next (b : DoB w0 w RV f wd db i U) (hb : Below w.heap.size w w') : DoB w0 w' RV f wd db i U := b.turn (Turn.of_below (fun _ => False) hb) fun _ h => h.elim
theorem DoB.c1 (b : DoB w0 w RV f wd db i U) : w.cell? ⟨w0.heap.size, 0, none⟩ = some RV ∧ w.cell? ⟨w0.heap.size, 1, none⟩ = some (.int .i64 f) ∧ w.cell? ⟨w0.heap.size, 2, none⟩ = some (.int .i64 wd) := ⟨b.1.c 0, b.1.c 1, b.1.c 2⟩
theorem DoB.c2 (b : DoB w0 w RV f wd db i U) : w.cell? ⟨w0.heap.size + 1, 0, none⟩ = some (.bool db) ∧ w.cell? ⟨w0.heap.size + 1, 1, none⟩ = some (.int .i64 i) ∧ w.cell? ⟨w0.heap.size + 1, 2, none⟩ = some U := ⟨b.2.1.c 0, b.2.1.c 1, b.2.1.c 2⟩
theorem DoB.c3 (b : DoB w0 w RV f wd db i U) : w.cell? ⟨w0.heap.size + 1 + 1, 0, none⟩ = some (.slice none 0 0) ∧ w.cell? ⟨w0.heap.size + 1 + 1, 1, none⟩ = some (.int .i64 0) ∧ w.cell? ⟨w0.heap.size + 1 + 1, 2, none⟩ = some (.int .i64 0) := ⟨b.2.2.1.c 0, b.2.2.1.c 1, b.2.2.1.c 2⟩
theorem DoB.f3 (b : DoB w0 w RV f wd db i U) : w.frozen? ⟨w0.heap.size + 1 + 1, 0, none⟩ = false ∧ w.frozen? ⟨w0.heap.size + 1 + 1, 1, none⟩ = false ∧ w.frozen? ⟨w0.heap.size + 1 + 1, 2, none⟩ = false := ⟨b.2.2.1.f 0, b.2.2.1.f 1, b.2.2.1.f 2⟩
end
/-- What a deed leaves of both. -/
def RetDo (base g wd f' : Nat) (rows' : List (List Int)) (V : Value) (T : Nat → Prop) (w : World) (e : Ending) (w' : World) : Prop := ∃ A c V', e = .returned (.tuple #[tv (.slice A rows'.length c) f' wd, .bool true]) ∧ Tap base w' g V' wd f' rows' ∧ RwsIn (fun b => ¬ T b ∧ ¬ Tq g V' b) w' (.slice A rows'.length c) rows' ∧ Turn (Tq g V) w w' ∧ ∀ b, Tq g V' b → Tq g V b ∨ w.heap.size ≤ b
/-- The answer is laid. -/
theorem do_end {base g wd f' : Nat} {rows' : List (List Int)} {V V' : Value} {T : Nat → Prop} {w w1 w6 : World} {A : Option Addr} {c : Nat} (B1 : Below w.heap.size w w1) (h1 : w.heap.size + 1 + 1 + 1 ≤ w1.heap.size) (hV : ∀ b, Tq g V b → T b ∧ b < w.heap.size) (d : Tap base w6 g V' wd f' rows') (hF : Fresh w1 V V')
    (hx : RwsIn (fun b => ¬ T b ∧ b ≠ w.heap.size + 1 + 1 ∧ ¬ Tq g V' b) w6 (.slice A rows'.length c) rows') (ht : Turn (Tq g V) w1 w6) (x y z : Value) :
    RetDo base g wd f' rows' V T w (.returned (.tuple #[tv (.slice A rows'.length c) f' wd, .bool true])) (((w6.setCell ⟨w.heap.size + 1 + 1, 0, none⟩ x).setCell ⟨w.heap.size + 1 + 1, 1, none⟩ y).setCell ⟨w.heap.size + 1 + 1, 2, none⟩ z) := by
  have hs := B1.size
  have hT : Turn (fun i => i = w.heap.size + 1 + 1) w6 (((w6.setCell ⟨w.heap.size + 1 + 1, 0, none⟩ x).setCell ⟨w.heap.size + 1 + 1, 1, none⟩ y).setCell ⟨w.heap.size + 1 + 1, 2, none⟩ z) :=
    Turn.setCell (p := ⟨w.heap.size + 1 + 1, 2, none⟩) (Turn.setCell (p := ⟨w.heap.size + 1 + 1, 1, none⟩) (Turn.setCell (p := ⟨w.heap.size + 1 + 1, 0, none⟩) (Turn.refl (fun i => i = w.heap.size + 1 + 1) w6) (.inl rfl) x) (.inl rfl) y) (.inl rfl) z
  have hq : ∀ b, Tq g V' b → Tq g V b ∨ w1.heap.size ≤ b := fun b hb => by
    rcases hb with hb | hb
    · exact .inl (.inl hb)
    · exact (hF b hb).imp .inr id
  have hn : ∀ b, Tq g V' b → ¬ b = w.heap.size + 1 + 1 := fun b hb e => by
    rcases hq b hb with k | k
    · have := (hV b k).2; omega
    · omega
  refine ⟨A, c, V', rfl, d.turn hT hn, (RwsIn.turn hx hT fun i hi => hi.2.1).mono fun i hi => ⟨hi.1, hi.2.2⟩, ?_, fun b hb => ?_⟩
  · have h2 : Turn (Tq g V) w w6 := (Turn.of_below _ B1).trans ht
    have hle : ∀ k, w.heap.size ≤ (⟨w.heap.size + 1 + 1, k, none⟩ : Addr).block := fun k => by show w.heap.size ≤ w.heap.size + 1 + 1; omega
    exact ((h2.setCell (p := ⟨w.heap.size + 1 + 1, 0, none⟩) (.inr (hle 0)) x).setCell (p := ⟨w.heap.size + 1 + 1, 1, none⟩) (.inr (hle 1)) y).setCell (p := ⟨w.heap.size + 1 + 1, 2, none⟩) (.inr (hle 2)) z
  · rcases hq b hb with k | k
    · exact .inl k
    · exact .inr (by omega)
set_option maxHeartbeats 8000000 in
theorem does_forget (base g wd f : Nat) (V : Value) (T : Nat → Prop) (A : Option Addr) (c : Nat) (rows : List (List Int)) (i : Int) (U : Value) (w : World) (d : Tap base w g V wd f rows) (hV : ∀ b, Tq g V b → T b) (hL : Rws T w (.slice A rows.length c) rows) (hU : ∃ B n m, U = .slice B n m) :
    Calls Try.prog 9 #[.pointer (some ⟨g, 0, none⟩), tv (.slice A rows.length c) f wd, .agg #[.bool true, .int .i64 i, U]] w (RetDo base g wd (forgN f rows.length i) rows V T w) := by
  have HV := Lib.hid (fun b (hb : Tq g V b) => And.intro (hV b hb) (d.lt b hb).1)
  have B0 := Lib.hid (DoB.new w (.slice A rows.length c) f wd true i U)
  have L0 := Lib.hid (below_next (below_next (below_new w (.cells #[.slice A rows.length c, .int .i64 f, .int .i64 wd] 31)) (below_new _ (.cells #[.bool true, .int .i64 i, U] 33))) (below_new _ (.cells #[.slice none 0 0, .int .i64 0, .int .i64 0] 31)))
  obtain ⟨W1, hW1⟩ : ∃ W1, (((w.alloc (.cells #[.slice A rows.length c, .int .i64 f, .int .i64 wd] 31)).alloc (.cells #[.bool true, .int .i64 i, U] 33)).alloc (.cells #[.slice none 0 0, .int .i64 0, .int .i64 0] 31)) = W1 := ⟨_, rfl⟩
  have FO := Lib.hid (forget_any base g V wd f rows i _ (d.next L0.out))
  have HL := Lib.hid (rws_cut hL)
  have hfr := d.2.2.1
  obtain ⟨N, hN⟩ : ∃ N, rows.length = N := ⟨_, rfl⟩
  rw [hN] at B0 L0 FO HL hfr hW1
  have RF := Lib.hid (fun W => rforget_any A N c f wd i W hfr)
  have HN := Lib.hid hN
  obtain ⟨q, hq⟩ : ∃ q, forgN f N i = q := ⟨_, rfl⟩
  have HQ := Lib.hid hq
  rw [hq] at FO RF
  rw [hW1] at B0 L0 FO
  obtain ⟨b0, b1, b2⟩ := B0.out.c2
  obtain ⟨UB, Un, Um, rfl⟩ := hU
  rw [hN, hq]
  clear d hL hfr hq hN hV
  unfold tv at *
  go_enter Try.func9, Try.ntmps9
  go_wp2_with (first
    | (go_at_call 11; (with_reducible refine (FO.out).mono ?_); rintro r w2 ⟨V2, rfl, d2, t2, f2⟩; have D2 := Lib.hid d2; have T2 := Lib.hid t2; have F2 := Lib.hid f2; have B2 := Lib.hid (B0.out.turn t2 fun x hx => (HV.out x hx).2); obtain ⟨x0, x1, x2⟩ := B2.out.c1; obtain ⟨y0, y1, y2⟩ := B2.out.c2; clear d2 t2 f2)
    | (go_at_call 20; (with_reducible refine (RF.out _).mono ?_); rintro r w3 ⟨rfl, hb3⟩; have B3 := Lib.hid (B2.out.next hb3); have D3 := Lib.hid (D2.out.next hb3); have T3 := Lib.hid (T2.out.next hb3); obtain ⟨z0, z1, z2⟩ := B3.out.c3; obtain ⟨g0, g1, g2⟩ := B3.out.f3; clear hb3))
  refine bodyPost_ret (v := .tuple #[.agg #[.slice A N c, .int .i64 q, .int .i64 wd], .bool true]) (by simp [results, Try.results9, go_sem, z0, z1, z2]) rfl ?_
  have hw1 := B0.out.2.2.2
  have := do_end (A := A) (c := c) L0.out hw1 HV.out D3.out F2.out ?_ T3.out (.slice A N c) (.int .i64 q) (.int .i64 wd)
  · rw [HN.out] at this
    exact this
  · rw [HN.out]
    refine ((RwsIn.turn (T := fun b => T b ∨ w.heap.size ≤ b) HL.out ((Turn.of_below _ L0.out).trans (T3.out.mono fun i hi => .inl (HV.out i hi).1)) fun i hi h => by
      rcases h with h | h
      · exact hi.1 h
      · omega)).mono fun i hi => ⟨hi.1, by omega, fun h => ?_⟩
    rcases h with h | h
    · exact hi.1 (HV.out i (.inl h)).1
    · rcases F2.out i h with h | h
      · exact hi.1 (HV.out i (.inr h)).1
      · omega
/-- The box of a tape that was told. -/
theorem tenth {w w5 : World} {V : Value} {f wd : Nat} (W : World) (h : W = w5.alloc (.cells #[V, .int .i64 f, .int .i64 wd] 31)) : Bk 31 W w5.heap.size [V, .int .i64 f, .int .i64 wd] := by
  subst h; exact Bk.new _ _ _
theorem far3 {t : TypeId} {w : World} {g n : Nat} {xs : List Value} (h : Bk t w g xs) (hn : g ≠ n) (a b c : Value) : Bk t (((w.setCell ⟨n, 0, none⟩ a).setCell ⟨n, 1, none⟩ b).setCell ⟨n, 2, none⟩ c) g xs :=
  ((h.far (p := ⟨n, 0, none⟩) hn a).far (p := ⟨n, 1, none⟩) hn b).far (p := ⟨n, 2, none⟩) hn c
theorem dls_nil (w : World) : Dls w (.slice none 0 0) [] := ⟨none, 0, [], rfl, Seq.nil _ _ _, fun q h => by simp at h, rfl⟩
set_option maxHeartbeats 8000000 in
theorem does_err (E : Int) (base g wd f : Nat) (V : Value) (T : Nat → Prop) (A : Option Addr) (c : Nat) (rows : List (List Int)) (i : Int) (UB : Option Addr) (Un Um : Nat) (w : World) (d : Tap base w g V wd f rows) (hV : ∀ b, Tq g V b → T b) (hL : Rws T w (.slice A rows.length c) rows)
    (hP : ∀ W, Below w.heap.size w W → Calls Try.prog 12 #[.pointer (some ⟨g, 0, none⟩), .int .i64 i, .slice UB Un Um] W fun e w' => e = .returned (.tuple #[.slice none 0 0, .int .i64 E]) ∧ W = w')
    (hR : ∀ W, Below w.heap.size w W → Calls Try.prog 21 #[tv (.slice A rows.length c) f wd, .int .i64 i, .slice UB Un Um] W fun e w' => e = .returned (.tuple #[tv (.slice A rows.length c) f wd, .slice none 0 0, .int .i64 E]) ∧ Below W.heap.size W w') :
    Calls Try.prog 9 #[.pointer (some ⟨g, 0, none⟩), tv (.slice A rows.length c) f wd, .agg #[.bool false, .int .i64 i, .slice UB Un Um]] w (RetDo base g wd f rows V T w) := by
  have HV := Lib.hid (fun b (hb : Tq g V b) => And.intro (hV b hb) (d.lt b hb).1)
  have D0 := Lib.hid d
  obtain ⟨N, hN⟩ : ∃ N, rows.length = N := ⟨_, rfl⟩
  rw [hN] at hL hR ⊢
  have HN := Lib.hid hN
  have B0 := Lib.hid (DoB.new w (.slice A N c) f wd false i (.slice UB Un Um))
  have L0 := Lib.hid (below_next (below_next (below_new w (.cells #[.slice A N c, .int .i64 f, .int .i64 wd] 31)) (below_new _ (.cells #[.bool false, .int .i64 i, .slice UB Un Um] 33))) (below_new _ (.cells #[.slice none 0 0, .int .i64 0, .int .i64 0] 31)))
  obtain ⟨W1, hW1⟩ : ∃ W1, (((w.alloc (.cells #[.slice A N c, .int .i64 f, .int .i64 wd] 31)).alloc (.cells #[.bool false, .int .i64 i, .slice UB Un Um] 33)).alloc (.cells #[.slice none 0 0, .int .i64 0, .int .i64 0] 31)) = W1 := ⟨_, rfl⟩
  rw [hW1] at B0 L0
  have HP := Lib.hid hP
  have HR := Lib.hid hR
  have HL := Lib.hid (rws_cut hL)
  obtain ⟨x0, x1, x2⟩ := B0.out.c1
  obtain ⟨b0, b1, b2⟩ := B0.out.c2
  clear d hL hN hV hP hR
  unfold tv at *
  go_enter Try.func9, Try.ntmps9
  go_wp2_with (first
    | (go_at_call 12; (with_reducible refine (HP.out _ L0.out).mono ?_); rintro r w2 ⟨rfl, rfl⟩)
    | (go_at_call 21; (with_reducible refine (HR.out _ L0.out).mono ?_); rintro r w3 ⟨rfl, hb3⟩; have B3 := Lib.hid (B0.out.next hb3); have L3 := Lib.hid hb3; clear hb3))
  have K4 := Lib.hid (below_new w3 (.cells #[.slice A N c, .int .i64 f, .int .i64 wd] 31))
  have T4 := Lib.hid (Bk.new 31 w3 [.slice A N c, .int .i64 f, .int .i64 wd])
  have B4 := Lib.hid (B3.out.next K4.out)
  have L4 := Lib.hid (below_next L3.out K4.out)
  obtain ⟨W4, hW4⟩ : ∃ W4, w3.alloc (.cells #[.slice A N c, .int .i64 f, .int .i64 wd] 31) = W4 := ⟨_, rfl⟩
  have DR := Lib.hid (show Below w3.heap.size w3 (w3.alloc (.cells #[.slice A N c, .int .i64 f, .int .i64 wd] 31)).drew from K4.out.drew)
  have SM := Lib.hid (fun (w0 W : World) (h : Below w0.heap.size w0 W) => same_ds (.slice none 0 0) (.slice none 0 0) [] W (dls_nil W) (dls_nil W) (by simp))
  rw [hW4] at DR K4 T4 B4 L4 ⊢
  have NE : Hid (w3.heap.size ≠ w.heap.size + 1 + 1) := Lib.hid (by have := B3.out.2.2.2; omega)
  obtain ⟨z0, z1, z2⟩ := B4.out.c3
  obtain ⟨g0, g1, g2⟩ := B4.out.f3
  have hs0 := T4.out.c 0
  have hs1 := T4.out.c 1
  have hs2 := T4.out.c 2
  have LZ := Lib.hid (show W4.drew.cell? ⟨w3.heap.size, 0, none⟩ = some (.slice A N c) ∧ W4.drew.cell? ⟨w3.heap.size, 1, none⟩ = some (.int .i64 f) ∧ W4.drew.cell? ⟨w3.heap.size, 2, none⟩ = some (.int .i64 wd) from ⟨hs0, hs1, hs2⟩)
  clear hW4 hW1 x0 x1 x2 b0 b1 b2
  go_region_held3 (fun w' => w'.cell? ⟨w3.heap.size, 0, none⟩ = some (.slice A N c) ∧ w'.cell? ⟨w3.heap.size, 1, none⟩ = some (.int .i64 f) ∧ w'.cell? ⟨w3.heap.size, 2, none⟩ = some (.int .i64 wd))
    (first
      | with_reducible exact KZ.out
      | with_reducible exact KK.out
      | with_reducible exact LZ.out
      | go_keep)
    (first
      | (go_at_call 22; (with_reducible refine (SM.out _ _ DR.out).mono ?_); rintro r w7 ⟨rfl, hb7⟩; have B7 := Lib.hid (B4.out.next (below_next (Below.refl _ W4).drew hb7)); have L7 := Lib.hid (below_next (Below.refl _ W4).drew hb7); have T7 := Lib.hid (T4.out.next L7.out); have KK := Lib.hid (show w7.cell? ⟨w3.heap.size, 0, none⟩ = some (.slice A N c) ∧ w7.cell? ⟨w3.heap.size, 1, none⟩ = some (.int .i64 f) ∧ w7.cell? ⟨w3.heap.size, 2, none⟩ = some (.int .i64 wd) from ⟨T7.out.c 0, T7.out.c 1, T7.out.c 2⟩); have T8 := Lib.hid (far3 T7.out NE.out (.slice A N c) (.int .i64 f) (.int .i64 wd)); have KZ := Lib.hid (show (((w7.setCell ⟨w.heap.size + 1 + 1, 0, none⟩ (.slice A N c)).setCell ⟨w.heap.size + 1 + 1, 1, none⟩ (.int .i64 f)).setCell ⟨w.heap.size + 1 + 1, 2, none⟩ (.int .i64 wd)).cell? ⟨w3.heap.size, 0, none⟩ = some (.slice A N c) ∧ (((w7.setCell ⟨w.heap.size + 1 + 1, 0, none⟩ (.slice A N c)).setCell ⟨w.heap.size + 1 + 1, 1, none⟩ (.int .i64 f)).setCell ⟨w.heap.size + 1 + 1, 2, none⟩ (.int .i64 wd)).cell? ⟨w3.heap.size, 1, none⟩ = some (.int .i64 f) ∧ (((w7.setCell ⟨w.heap.size + 1 + 1, 0, none⟩ (.slice A N c)).setCell ⟨w.heap.size + 1 + 1, 1, none⟩ (.int .i64 f)).setCell ⟨w.heap.size + 1 + 1, 2, none⟩ (.int .i64 wd)).cell? ⟨w3.heap.size, 2, none⟩ = some (.int .i64 wd) from ⟨T8.out.c 0, T8.out.c 1, T8.out.c 2⟩); obtain ⟨z0, z1, z2⟩ := B7.out.c3; obtain ⟨g0, g1, g2⟩ := B7.out.f3; clear hb7))
  all_goals
    go_wp2_with fail
    refine bodyPost_ret (v := .tuple #[.agg #[.slice A N c, .int .i64 f, .int .i64 wd], .bool true]) (by simp [results, Try.results9, go_sem, z0, z1, z2]) rfl ?_
    have L17 := below_next L4.out L7.out
    have := do_end (rows' := rows) (A := A) (c := c) L0.out B0.out.2.2.2 HV.out (D0.out.next (below_next L0.out L17)) (Fresh.refl _ _) ?_ (Turn.of_below _ L17) (.slice A N c) (.int .i64 f) (.int .i64 wd)
    · rw [HN.out] at this
      exact this
    · rw [HN.out]
      exact (RwsIn.next HL.out (below_next L0.out L17)).mono fun i hi => ⟨hi.1, by omega, fun h => hi.1 (HV.out i h).1⟩
set_option maxHeartbeats 8000000 in
theorem does_ok (base g wd f p : Nat) (V : Value) (T : Nat → Prop) (A : Option Addr) (c : Nat) (rows news : List (List Int)) (UB : Option Addr) (Un Um : Nat) (w : World) (d : Tap base w g V wd f rows) (hV : ∀ b, Tq g V b → T b) (hL : Rws T w (.slice A rows.length c) rows) (hU : Rws T w (.slice UB Un Um) news)
    (hf : f ≤ p) (hp : p ≤ rows.length) (hu : unfitB wd news = false) (hnl : p + news.length ≤ 900) (hTl : ∀ b, T b → b < w.heap.size) :
    Calls Try.prog 9 #[.pointer (some ⟨g, 0, none⟩), tv (.slice A rows.length c) f wd, .agg #[.bool false, .int .i64 p, .slice UB Un Um]] w (RetDo base g wd f (setL rows news p) V T w) := by
  have HV := Lib.hid (fun b (hb : Tq g V b) => And.intro (hV b hb) (d.lt b hb).1)
  have HL := Lib.hid (rws_cut hL)
  have HUU := Lib.hid (rws_cut hU)
  have hb0 : base ≤ w.heap.size := by have := d.1.lt; have := d.2.2.2.2.2.1; omega
  have hr9 := d.2.2.2.2.2.2
  have HTL := Lib.hid hTl
  clear hTl
  have HSA := Lib.hid (fun W (hb : Below w.heap.size w W) => set_any base g V wd f rows news p _ _ W (d.next hb) hf hp (RwsIn.next HUU.out hb) (fun b hb hq => hb.1 (HV.out b hq).1) hu hnl (Nat.le_trans hb0 hb.size))
  have HRS := Lib.hid (fun W (hr0 : RwsIn (fun b => ¬ T b ∧ b < w.heap.size) W (.slice A rows.length c) rows) (hn : RwsIn (fun b => ¬ T b ∧ b < w.heap.size) W (.slice UB Un Um) news) => rset_ok _ A c f wd p _ rows news W hr0 hf hp hn (by omega) (by omega) hu)
  have HDE := Lib.hid (deltas_eq rows news p hp)
  have HDL := Lib.hid (show (changesL rows news p).length ≤ 100000 by
    have := acc_len (f := f2 rows news p) (k := min (rows.length - p) news.length)
    unfold changesL
    simp only [List.length_append, gone, come, List.length_map, List.length_range]
    omega)
  obtain ⟨is, hIS⟩ : ∃ is, setL rows news p = is := ⟨_, rfl⟩
  have HLI := Lib.hid (setL_len (news := news) hp)
  unfold RetSet at HSA
  unfold RetRs at HRS
  rw [hIS] at HSA HRS HLI ⊢
  obtain ⟨L, hLL⟩ : ∃ L, changesL rows news p = L := ⟨_, rfl⟩
  rw [hLL] at HRS HDE HDL
  obtain ⟨N, hN⟩ : ∃ N, rows.length = N := ⟨_, rfl⟩
  have HN := Lib.hid hN
  rw [hN] at HL HRS ⊢
  obtain ⟨M, hM⟩ : ∃ M, is.length = M := ⟨_, rfl⟩
  have HM := Lib.hid hM
  rw [hM] at HRS
  have B0 := Lib.hid (DoB.new w (.slice A N c) f wd false p (.slice UB Un Um))
  have L0 := Lib.hid (below_next (below_next (below_new w (.cells #[.slice A N c, .int .i64 f, .int .i64 wd] 31)) (below_new _ (.cells #[.bool false, .int .i64 p, .slice UB Un Um] 33))) (below_new _ (.cells #[.slice none 0 0, .int .i64 0, .int .i64 0] 31)))
  obtain ⟨W1, hW1⟩ : ∃ W1, (((w.alloc (.cells #[.slice A N c, .int .i64 f, .int .i64 wd] 31)).alloc (.cells #[.bool false, .int .i64 p, .slice UB Un Um] 33)).alloc (.cells #[.slice none 0 0, .int .i64 0, .int .i64 0] 31)) = W1 := ⟨_, rfl⟩
  rw [hW1] at B0 L0
  obtain ⟨x0, x1, x2⟩ := B0.out.c1
  obtain ⟨b0, b1, b2⟩ := B0.out.c2
  clear d hL hU hV hf hp hu hnl hb0 hr9 hIS hLL hN hM
  unfold tv at *
  go_enter Try.func9, Try.ntmps9
  go_wp2_with (first
    | (go_at_call 12; (with_reducible refine (HSA.out _ L0.out).mono ?_); rintro r w2 ⟨Vd, qs, V2, rfl, l2, e2, d2, t2, f2, o2⟩; have L2 := Lib.hid (l2.dls e2); have D2 := Lib.hid d2; have T2 := Lib.hid t2; have F2 := Lib.hid f2; have B2 := Lib.hid (B0.out.turn t2 fun x hx => (HV.out x hx).2); obtain ⟨x0, x1, x2⟩ := B2.out.c1; obtain ⟨b0, b1, b2⟩ := B2.out.c2; have TT := Lib.hid (((Turn.of_below _ L0.out).trans (T2.out.mono (T' := fun b => T b ∨ w.heap.size ≤ b) fun i hi => .inl (HV.out i hi).1))); have R2 := Lib.hid (RwsIn.turn HL.out TT.out (fun i hi h => (by rcases h with h | h; exact hi.1 h; omega))); have U2 := Lib.hid (RwsIn.turn HUU.out TT.out (fun i hi h => (by rcases h with h | h; exact hi.1 h; omega))); clear l2 e2 d2 t2 f2 o2)
    | (go_at_call 21; (with_reducible refine (HRS.out _ R2.out U2.out).mono ?_); rintro r w3 ⟨A3, c3, Vd3, rfl, r3, ds3, hb3⟩; have R3 := Lib.hid r3; have S3 := Lib.hid ds3; have B3 := Lib.hid (B2.out.next hb3); have L3 := Lib.hid hb3; have DL3 := Lib.hid (L2.out.next hb3); clear r3 ds3 hb3))
  have K4 := Lib.hid (below_new w3 (.cells #[.slice A3 M c3, .int .i64 f, .int .i64 wd] 31))
  have T4 := Lib.hid (Bk.new 31 w3 [.slice A3 M c3, .int .i64 f, .int .i64 wd])
  have B4 := Lib.hid (B3.out.next K4.out)
  have L4 := Lib.hid (below_next L3.out K4.out)
  obtain ⟨W4, hW4⟩ : ∃ W4, w3.alloc (.cells #[.slice A3 M c3, .int .i64 f, .int .i64 wd] 31) = W4 := ⟨_, rfl⟩
  have DR := Lib.hid (show Below w3.heap.size w3 (w3.alloc (.cells #[.slice A3 M c3, .int .i64 f, .int .i64 wd] 31)).drew from K4.out.drew)
  have SM := Lib.hid (fun (W : World) (h : Below w3.heap.size w3 W) => same_ds Vd Vd3 L W (by rw [← HDE.out]; exact DL3.out.next h) (S3.out.next h) HDL.out)
  rw [hW4] at DR K4 T4 B4 L4 ⊢
  have NE : Hid (w3.heap.size ≠ w.heap.size + 1 + 1) := Lib.hid (by have := B3.out.2.2.2; omega)
  obtain ⟨z0, z1, z2⟩ := B4.out.c3
  obtain ⟨g0, g1, g2⟩ := B4.out.f3
  have hs0 := T4.out.c 0
  have hs1 := T4.out.c 1
  have hs2 := T4.out.c 2
  have LZ := Lib.hid (show W4.drew.cell? ⟨w3.heap.size, 0, none⟩ = some (.slice A3 M c3) ∧ W4.drew.cell? ⟨w3.heap.size, 1, none⟩ = some (.int .i64 f) ∧ W4.drew.cell? ⟨w3.heap.size, 2, none⟩ = some (.int .i64 wd) from ⟨hs0, hs1, hs2⟩)
  clear hW4 hW1 x0 x1 x2 b0 b1 b2
  go_region_held3 (fun w' => w'.cell? ⟨w3.heap.size, 0, none⟩ = some (.slice A3 M c3) ∧ w'.cell? ⟨w3.heap.size, 1, none⟩ = some (.int .i64 f) ∧ w'.cell? ⟨w3.heap.size, 2, none⟩ = some (.int .i64 wd))
    (first
      | with_reducible exact KZ.out
      | with_reducible exact KK.out
      | with_reducible exact LZ.out
      | go_keep)
    (first
      | (go_at_call 22; (with_reducible refine (SM.out _ DR.out).mono ?_); rintro r w7 ⟨rfl, hb7⟩; have B7 := Lib.hid (B4.out.next (below_next (Below.refl _ W4).drew hb7)); have L7 := Lib.hid (below_next (Below.refl _ W4).drew hb7); have T7 := Lib.hid (T4.out.next L7.out); have KK := Lib.hid (show w7.cell? ⟨w3.heap.size, 0, none⟩ = some (.slice A3 M c3) ∧ w7.cell? ⟨w3.heap.size, 1, none⟩ = some (.int .i64 f) ∧ w7.cell? ⟨w3.heap.size, 2, none⟩ = some (.int .i64 wd) from ⟨T7.out.c 0, T7.out.c 1, T7.out.c 2⟩); have T8 := Lib.hid (far3 T7.out NE.out (.slice A3 M c3) (.int .i64 f) (.int .i64 wd)); have KZ := Lib.hid (show (((w7.setCell ⟨w.heap.size + 1 + 1, 0, none⟩ (.slice A3 M c3)).setCell ⟨w.heap.size + 1 + 1, 1, none⟩ (.int .i64 f)).setCell ⟨w.heap.size + 1 + 1, 2, none⟩ (.int .i64 wd)).cell? ⟨w3.heap.size, 0, none⟩ = some (.slice A3 M c3) ∧ (((w7.setCell ⟨w.heap.size + 1 + 1, 0, none⟩ (.slice A3 M c3)).setCell ⟨w.heap.size + 1 + 1, 1, none⟩ (.int .i64 f)).setCell ⟨w.heap.size + 1 + 1, 2, none⟩ (.int .i64 wd)).cell? ⟨w3.heap.size, 1, none⟩ = some (.int .i64 f) ∧ (((w7.setCell ⟨w.heap.size + 1 + 1, 0, none⟩ (.slice A3 M c3)).setCell ⟨w.heap.size + 1 + 1, 1, none⟩ (.int .i64 f)).setCell ⟨w.heap.size + 1 + 1, 2, none⟩ (.int .i64 wd)).cell? ⟨w3.heap.size, 2, none⟩ = some (.int .i64 wd) from ⟨T8.out.c 0, T8.out.c 1, T8.out.c 2⟩); obtain ⟨z0, z1, z2⟩ := B7.out.c3; obtain ⟨g0, g1, g2⟩ := B7.out.f3; clear hb7))
  all_goals
    go_wp2_with fail
    refine bodyPost_ret (v := .tuple #[.agg #[.slice A3 M c3, .int .i64 f, .int .i64 wd], .bool true]) (by simp [results, Try.results9, go_sem, z0, z1, z2]) rfl ?_
    have L27 := below_next L4.out L7.out
    have := do_end (rows' := is) (A := A3) (c := c3) L0.out B0.out.2.2.2 HV.out (D2.out.next L27) F2.out ?_ (T2.out.next L27) (.slice A3 M c3) (.int .i64 f) (.int .i64 wd)
    · rw [HM.out] at this
      exact this
    · rw [HM.out]
      have hW := B0.out.2.2.2
      have hW2 := T2.out.size
      refine (RwsIn.next R3.out (below_next K4.out L7.out)).mono fun i hi => ⟨fun h => ?_, ?_, fun h => ?_⟩
      · rcases hi with hi | hi
        · exact hi.1 h
        · have := HTL.out i h
          omega
      · rcases hi with hi | hi
        · omega
        · omega
      · rcases hi with hi | hi
        · rcases h with h | h
          · exact hi.1 (HV.out i (.inl h)).1
          · rcases F2.out i h with h | h
            · exact hi.1 (HV.out i (.inr h)).1
            · omega
        · have := (D2.out.lt i h).1
          omega
/-- A deed: Forget, or Set of rows from a place on. -/
abbrev Deed : Type := Bool × Int × List (List Int)
/-- What a deed makes of the rows, and of how many are forgotten. -/
def step (wd : Nat) (s : List (List Int) × Nat) (d : Deed) : List (List Int) × Nat :=
  if d.1 = true then (s.1, forgN s.2 s.1.length d.2.1) else if d.2.1 < s.2 ∨ (s.1.length : Int) < d.2.1 then s else if unfitB wd d.2.2 = true then s else (setL s.1 d.2.2 d.2.1.toNat, s.2)
theorem does_any (base g wd f : Nat) (V : Value) (T : Nat → Prop) (A : Option Addr) (c : Nat) (rows : List (List Int)) (d : Deed) (U : Value) (w : World) (h : Tap base w g V wd f rows) (hV : ∀ b, Tq g V b → T b) (hL : Rws T w (.slice A rows.length c) rows) (hU : Rws T w U d.2.2) (hTl : ∀ b, T b → b < w.heap.size) (hnl : rows.length + d.2.2.length ≤ 900) :
    Calls Try.prog 9 #[.pointer (some ⟨g, 0, none⟩), tv (.slice A rows.length c) f wd, .agg #[.bool d.1, .int .i64 d.2.1, U]] w (RetDo base g wd (step wd (rows, f) d).2 (step wd (rows, f) d).1 V T w) := by
  obtain ⟨db, i, news⟩ := d
  simp only at hU hnl ⊢
  obtain ⟨UB, Um, vs, rfl, hrest⟩ := hU
  have hU' : Rws T w (.slice UB news.length Um) news := ⟨UB, Um, vs, rfl, hrest⟩
  cases db with
  | true =>
    have e : step wd (rows, f) (true, i, news) = (rows, forgN f rows.length i) := by unfold step; rw [if_pos rfl]
    rw [e]
    exact does_forget base g wd f V T A c rows i _ w h hV hL ⟨_, _, _, rfl⟩
  | false =>
    by_cases h1 : i < f ∨ (rows.length : Int) < i
    · have e : step wd (rows, f) (false, i, news) = (rows, f) := by unfold step; rw [if_neg (by simp), if_pos h1]
      rw [e]
      exact does_err 1 base g wd f V T A c rows i UB news.length Um w h hV hL (fun W hb => set_out g V wd f rows.length i UB news.length Um W (h.1.next hb) h1) (fun W hb => rset_out A rows.length c f wd i UB news.length Um W h1)
    · obtain ⟨p, rfl⟩ : ∃ p : Nat, i = p := ⟨i.toNat, by omega⟩
      by_cases h2 : unfitB wd news = true
      · have e : step wd (rows, f) (false, (p : Int), news) = (rows, f) := by unfold step; rw [if_neg (by simp), if_neg h1, if_pos h2]
        rw [e]
        exact does_err 3 base g wd f V T A c rows p UB news.length Um w h hV hL (fun W hb => set_unfit _ g V wd f rows.length p _ news W (h.1.next hb) (by omega) (by omega) (RwsIn.next hU' hb) (by omega) h2) (fun W hb => rset_unfit _ A rows.length c f wd p _ news W (by omega) (by omega) (RwsIn.next hU' hb) (by omega) h2)
      · have e : step wd (rows, f) (false, (p : Int), news) = (setL rows news p, f) := by unfold step; rw [if_neg (by simp), if_neg h1, if_neg h2]; rfl
        rw [e]
        exact does_ok base g wd f p V T A c rows news UB news.length Um w h hV hL hU' (by omega) (by omega) (by simpa using h2) (by omega) hTl
theorem step_len {wd : Nat} {s : List (List Int) × Nat} {d : Deed} {K : Nat} (h : s.1.length ≤ K) (hd : d.2.2.length ≤ 20) : (step wd s d).1.length ≤ K + 20 := by
  unfold step
  split
  · exact Nat.le_trans h (Nat.le_add_right _ _)
  · split
    · omega
    · split
      · omega
      · next h1 h2 =>
        have hp : d.2.1.toNat ≤ s.1.length := by omega
        simp only
        rw [setL_len hp]
        omega
end Go.Proofs.Ytakoehgjgdcmmaa.Tp
