/-
  A window as an object: its block, the row of its columns, and these; what moveOn leaves. Conditions: as told in each.
-/
import Derived.Test.YtfamgaakcbinkaaDoorWnNew
namespace Go.Proofs.YtfamgaakcbinkaaDoor.Wn
open Go.Proofs.YtfamgaakcbinkaaDoor.Sh Go.Proofs.YtfamgaakcbinkaaDoor.St
open Go.RowKit
set_option linter.unusedVariables false

/-- The columns as values. -/
def colV (c : Int) (X : Nat → Value) (n : Nat) : List Value := (List.range n).map fun i => .iface (colT (wayN c)) (X i)
theorem colV_len (c : Int) (X : Nat → Value) (n : Nat) : (colV c X n).length = n := by simp [colV]
theorem colV_at (c : Int) (X : Nat → Value) {n i : Nat} (h : i < n) : (colV c X n)[i]? = some (.iface (colT (wayN c)) (X i)) := by simp [colV, h]
theorem colV_succ (c : Int) (X : Nat → Value) (n : Nat) : colV c X (n + 1) = colV c X n ++ [.iface (colT (wayN c)) (X n)] := by simp [colV, List.range_succ]
/-- A window's blocks. -/
def Tw (g : Nat) (V : Value) (n : Nat) (T : Nat → Nat → Prop) (b : Nat) : Prop := b = g ∨ V.ownBlock = some b ∨ All n T b
/-- A window of n columns of function c, s, of room m, to each of which q numbers came, and which hold the numbers L. -/
def Win (n₀ : Nat) (w : World) (g : Nat) (V : Value) (c : Int) (s : Bool) (m n : Nat) (X : Nat → Value) (q : Nat) (L : Nat → List Int) (T : Nat → Nat → Prop) (back look came told : Nat) (over : Bool) : Prop :=
  Bk 105 w g [V, .int .i64 (back : Nat), .int .i64 (look : Nat), .int .i64 (came : Nat), .int .i64 (told : Nat), .bool over] ∧ w.ownsRow n₀ 107 1 V n (colV c X n) ∧ Cols n₀ c s m w n X (fun _ => q) L T ∧ (∀ b, All n T b → b ≠ g ∧ V.ownBlock ≠ some b) ∧ n₀ ≤ g
section
variable {n₀ g m n q back look came told : Nat} {c : Int} {s over : Bool} {V : Value} {w w' : World} {X : Nat → Value} {L L' : Nat → List Int} {T : Nat → Nat → Prop} {S : Nat → Prop}
theorem Win.ne (d : Win n₀ w g V c s m n X q L T back look came told over) : V.ownBlock ≠ some g := fun e => own_bk_ne (t := 105) d.2.1 d.1 (by decide) e.symm
theorem Win.lt (d : Win n₀ w g V c s m n X q L T back look came told over) : ∀ b, Tw g V n T b → b < w.heap.size ∧ n₀ ≤ b := fun b hb => by
  rcases hb with rfl | hb | hb
  · exact ⟨d.1.lt, d.2.2.2.2⟩
  · exact ⟨own_lt d.2.1 b hb, own_base d.2.1 b hb⟩
  · exact d.2.2.1.lt b hb
theorem Win.nf (d : Win n₀ w g V c s m n X q L T back look came told over) : NF w (Tw g V n T) := fun b hb cs hk => by
  rcases hb with rfl | hb | hb
  · exact Bk.ne_ d.1 hk (by decide) rfl
  · exact own_bk_ne (t := 23) d.2.1 hk (by decide) hb.symm
  · exact d.2.2.1.nf b hb cs hk
theorem Win.turn (d : Win n₀ w g V c s m n X q L T back look came told over) (t : Turn S w w') (hS : ∀ b, Tw g V n T b → ¬ S b) (nS : NF w S) (lS : ∀ b, S b → n₀ ≤ b) : Win n₀ w' g V c s m n X q L T back look came told over :=
  ⟨d.1.turn t (hS g (.inl rfl)), own_turn d.2.1 t fun b hb => hS b (.inr (.inl hb)), d.2.2.1.turn t (fun b hb => hS b (.inr (.inr hb))) nS lS, d.2.2.2⟩
theorem Win.next (d : Win n₀ w g V c s m n X q L T back look came told over) (hb : Below w.heap.size w w') : Win n₀ w' g V c s m n X q L T back look came told over := d.turn (Turn.of_below (fun _ => False) hb) (fun _ _ k => k) (fun _ k => k.elim) fun _ k => k.elim
theorem Win.all6 (d : Win n₀ w g V c s m n X q L T back look came told over) : w.cell? ⟨g, 0, none⟩ = some V ∧ w.cell? ⟨g, 1, none⟩ = some (.int .i64 (back : Nat)) ∧ w.cell? ⟨g, 2, none⟩ = some (.int .i64 (look : Nat)) ∧ w.cell? ⟨g, 3, none⟩ = some (.int .i64 (came : Nat)) ∧ w.cell? ⟨g, 4, none⟩ = some (.int .i64 (told : Nat)) ∧ w.cell? ⟨g, 5, none⟩ = some (.bool over) := ⟨d.1.c 0, d.1.c 1, d.1.c 2, d.1.c 3, d.1.c 4, d.1.c 5⟩
theorem Win.frz (d : Win n₀ w g V c s m n X q L T back look came told over) : w.frozen? ⟨g, 3, none⟩ = false ∧ w.frozen? ⟨g, 4, none⟩ = false ∧ w.frozen? ⟨g, 5, none⟩ = false := ⟨d.1.f 3, d.1.f 4, d.1.f 5⟩
/-- One column's place in the row of them. -/
theorem Win.at_ (d : Win n₀ w g V c s m n X q L T back look came told over) {i : Nat} (hi : i < n) : ∃ b off cap, V = .slice (some ⟨b, off, none⟩) n cap ∧ w.cell? ⟨b, off + i, none⟩ = some (.iface (colT (wayN c)) (X i)) := by
  obtain ⟨A, cap, rfl, h1, h2, h3⟩ := own_seq d.2.1 (by decide)
  obtain ⟨b, off, rfl, _, _, hc⟩ := h3.one (colV_at c X hi)
  exact ⟨b, off, cap, rfl, hc⟩
/-- A cell of the block itself is set. -/
theorem Win.own (d : Win n₀ w g V c s m n X q L T back look came told over) (t : Turn (fun b => b = g) w w') {back' look' came' told' : Nat} {over' : Bool} (hb : Bk 105 w' g [V, .int .i64 (back' : Nat), .int .i64 (look' : Nat), .int .i64 (came' : Nat), .int .i64 (told' : Nat), .bool over']) : Win n₀ w' g V c s m n X q L T back' look' came' told' over' :=
  ⟨hb, own_turn d.2.1 t fun b hb e => d.ne (by rw [hb, e]), d.2.2.1.turn t (fun b hb => (d.2.2.2.1 b hb).1) (fun b hb cs hk => by subst hb; exact Bk.ne_ d.1 hk (by decide) rfl) (fun b hb => by subst hb; exact d.2.2.2.2), d.2.2.2⟩
end
/-- What a deed on a window leaves. -/
def WL (n₀ : Nat) (g : Nat) (V : Value) (c : Int) (s : Bool) (m n : Nat) (X : Nat → Value) (q : Nat) (L : Nat → List Int) (T : Nat → Nat → Prop) (back look came told : Nat) (over : Bool) (w w' : World) : Prop :=
  ∃ T', Win n₀ w' g V c s m n X q L T' back look came told over ∧ Turn (Tw g V n T) w w' ∧ ∀ b, All n T' b → All n T b ∨ w.heap.size ≤ b
section
variable {n₀ g m n q q' back look came told came' told' : Nat} {c : Int} {s over over' : Bool} {V : Value} {w w1 w' : World} {X : Nat → Value} {L L' : Nat → List Int} {T T1 : Nat → Nat → Prop} {S : Nat → Prop}
/-- Two deeds, one behind the other. -/
theorem WL.trans (h1 : Turn (Tw g V n T) w w1) (f1 : ∀ b, All n T1 b → All n T b ∨ w.heap.size ≤ b) (h2 : WL n₀ g V c s m n X q L T1 back look came told over w1 w') : WL n₀ g V c s m n X q L T back look came told over w w' := by
  obtain ⟨T2, d, t, f⟩ := h2
  refine ⟨T2, d, Turn.trans2 h1 t fun b k => ?_, fun b k => (f b k).elim (f1 b) fun k => .inr (Nat.le_trans h1.size k)⟩
  rcases k with k | k | k
  · exact .inl (.inl k)
  · exact .inl (.inr (.inl k))
  · exact (f1 b k).imp (fun k => .inr (.inr k)) id
/-- The columns have had their turn. -/
theorem wl_cols (d : Win n₀ w g V c s m n X q L T back look came told over) (h : Colz n₀ c s m n X w T w' (fun _ => q') L') : WL n₀ g V c s m n X q' L' T back look came told over w w' := by
  obtain ⟨T', h1, h2, h3⟩ := h
  exact ⟨T', ⟨d.1.turn h2 fun e => (d.2.2.2.1 g e).1 rfl, own_turn d.2.1 h2 fun b hb e => (d.2.2.2.1 b e).2 hb, h1, fun b hb => by
    rcases h3 b hb with k | k
    · exact d.2.2.2.1 b k
    · have h4 := d.1.lt
      exact ⟨by omega, fun e => by have := own_lt d.2.1 b e; omega⟩, d.2.2.2.2⟩, h2.mono fun b k => .inr (.inr k), h3⟩
theorem colz_at (d : Win n₀ w g V c s m n X q L T back look came told over) {Q' : Nat → Nat} (h : Colz n₀ c s m n X w T w' Q' L') {i : Nat} (hi : i < n) : ∃ b off cap, V = .slice (some ⟨b, off, none⟩) n cap ∧ w'.cell? ⟨b, off + i, none⟩ = some (.iface (colT (wayN c)) (X i)) := by
  obtain ⟨T', h1, h2, h3⟩ := h
  obtain ⟨A, cap, rfl, k1, k2, k3⟩ := own_seq (own_turn d.2.1 h2 fun b hb e => (d.2.2.2.1 b e).2 hb) (by decide)
  obtain ⟨b, off, rfl, _, _, hc⟩ := k3.one (colV_at c X hi)
  exact ⟨b, off, cap, rfl, hc⟩
theorem WL.end_ (d : Win n₀ w g V c s m n X q L T back look came told over) : WL n₀ g V c s m n X q L T back look came told over w w := ⟨T, d, Turn.refl _ _, fun _ k => .inl k⟩
theorem WL.own (h : WL n₀ g V c s m n X q L T back look came told over w w1) (hc : Turn (fun b => b = g) w1 w') (hb : Bk 105 w' g [V, .int .i64 (back : Nat), .int .i64 (look : Nat), .int .i64 (came' : Nat), .int .i64 (told' : Nat), .bool over']) : WL n₀ g V c s m n X q L T back look came' told' over' w w' := by
  obtain ⟨T', d, t, f⟩ := h
  exact ⟨T', d.own hc hb, t.trans (hc.mono fun b k => .inl k), f⟩
end
set_option maxHeartbeats 2000000 in
theorem move_not (n₀ g : Nat) (V : Value) (c : Int) (s : Bool) (m n : Nat) (X : Nat → Value) (q : Nat) (L : Nat → List Int) (T : Nat → Nat → Prop) (back look came told : Nat) (over : Bool) (w : World) (d : Win n₀ w g V c s m n X q L T back look came told over) (ht : told ≤ back) :
    Calls Tryd.prog 73 #[.pointer (some ⟨g, 0, none⟩)] w fun e w' => e = .returned (.tuple #[]) ∧ WL n₀ g V c s m n X q L T back look came told over w w' := by
  have HD := Lib.hid d
  obtain ⟨-, c1, -, -, c4, -⟩ := d.all6
  have t1 : decide (told ≤ back) = true := decide_eq_true ht
  clear d ht
  go_enter Tryd.func73, Tryd.ntmps73
  go_wp2_with fail
  go_region
  all_goals
    go_wp2
    exact ⟨rfl, .tuple #[], by simp [results, Tryd.results73, go_sem], rfl, WL.end_ HD.out⟩
set_option maxHeartbeats 4000000 in
theorem move_yes (n₀ g : Nat) (V : Value) (c : Int) (s : Bool) (m n : Nat) (X : Nat → Value) (q : Nat) (L L' : Nat → List Int) (T : Nat → Nat → Prop) (back look came told : Nat) (over : Bool) (w : World) (d : Win n₀ w g V c s m n X q L T back look came told over) (ht : ¬ told ≤ back) (hL : ∀ i, i < n → ∃ v, L i = v :: L' i) (hq : q ≤ 999) (hn : n ≤ 64) :
    Calls Tryd.prog 73 #[.pointer (some ⟨g, 0, none⟩)] w fun e w' => e = .returned (.tuple #[]) ∧ WL n₀ g V c s m n X q L' T back look came told over w w' := by
  have HD := Lib.hid d
  obtain ⟨c0, c1, -, -, c4, -⟩ := d.all6
  obtain ⟨A, cap, hV, -⟩ := own_seq d.2.1 (by decide)
  have t1 : decide (told ≤ back) = false := decide_eq_false ht
  have PA : Hid (Colz n₀ c s m n X w T w (mix (fun _ => q) (fun _ => q) 0) (mix L' L 0)) := Lib.hid (by rw [mix_zero, mix_zero]; exact Colz.start d.2.2.1)
  have HL := Lib.hid hL
  have HV := Lib.hid hV
  have HT := Lib.hid ht
  obtain ⟨y, hy⟩ : ∃ y, wayN c = y := ⟨_, rfl⟩
  have HY := Lib.hid hy
  rw [hV] at c0
  clear d hL ht hy hV
  go_enter Tryd.func73, Tryd.ntmps73
  go_wp2_with fail
  go_region
  all_goals
    go_wp2
    go_loopw [18] (fun i wr => ∃ k : Nat, k ≤ n ∧ i = .int .i64 k ∧ Hid (Colz n₀ c s m n X w T wr (mix (fun _ => q) (fun _ => q) k) (mix L' L k))) (fun i _ => n - (intOf i).toNat)
    case atStart => exact ⟨0, Nat.zero_le _, rfl, PA⟩
    case round =>
      obtain ⟨k, hk, rfl, HP⟩ := hrel
      by_cases hlt : k < n
      · obtain ⟨b, off, cap', hV2, hc⟩ := colz_at HD.out HP.out hlt
        rw [HV.out] at hV2
        injection hV2 with e1 e2 e3
        subst e1 e3
        obtain ⟨v, hv⟩ := HL.out k hlt
        obtain ⟨T1, p1, p2, p3⟩ := HP.out
        have k1 := (p1.1 k hlt).1
        rw [mix_at, mix_at, hv] at k1
        have CD := Lib.hid (col_drop n₀ c s m q (X k) v (L' k) (T1 k) wr k1 hq)
        have P1 := Lib.hid p1
        have P2 := Lib.hid p2
        have P3 := Lib.hid p3
        rw [HY.out] at CD hc
        have AT := fun W => at_drop y (X k) W
        have IN := fun W => in_drop y (X k) W
        have i1 : (k : Int) < (n : Int) := by omega
        have i0 : (0 : Int) ≤ (k : Int) := by omega
        generalize hxk : X k = xk at *
        clear p1 p2 p3 k1 HP hv
        go_wp2_with fail
        refine CD.out.mono ?_
        rintro r w5 ⟨rfl, hl⟩
        rw [← hxk] at hl
        have PA : Hid (Colz n₀ c s m n X w T w5 (mix (fun _ => q) (fun _ => q) (k + 1)) (mix L' L (k + 1))) := Lib.hid (colz_step P1.out P2.out P3.out hlt hl)
        clear hl
        go_wp2
        exact ⟨⟨k + 1, by omega, by go_num, PA⟩, by simp [intOf]; omega⟩
      · obtain rfl : k = n := by omega
        have HZ := Lib.hid (wl_cols HD.out HP.out.end_)
        clear HP
        go_wp2
        exact ⟨rfl, .tuple #[], by simp [results, Tryd.results73, go_sem], rfl, HZ.out⟩
end Go.Proofs.YtfamgaakcbinkaaDoor.Wn
