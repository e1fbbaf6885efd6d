/-
  What Push and Drain of package window answer, and leave. Conditions: as told in each; the row lies apart from the window.
-/
import Derived.Test.YtfamgaakcbinkaaDoorWnOps
namespace Go.Proofs.YtfamgaakcbinkaaDoor.Wn
open Go.Proofs.YtfamgaakcbinkaaDoor.Sh Go.Proofs.YtfamgaakcbinkaaDoor.St Go.Proofs.YtfamgaakcbinkaaDoor.Fd
open Go.RowKit
set_option linter.unusedVariables false

theorem push_nil (A : Option Addr) (k cap : Nat) (w : World) :
    Calls Tryd.prog 28 #[.pointer none, .slice A k cap] w fun e w' => e = .returned (.tuple #[.slice none 0 0, .bool false, .int .i64 1]) ∧ w = w' := by
  go_enter Tryd.func28, Tryd.ntmps28
  go_wp2
  go_ret3
  exact ⟨rfl, rfl⟩
theorem drain_nil (w : World) :
    Calls Tryd.prog 32 #[.pointer none] w fun e w' => e = .returned (.tuple #[.slice none 0 0, .bool false]) ∧ w = w' := by
  go_enter Tryd.func32, Tryd.ntmps32
  go_wp2
  go_ret2
  exact ⟨rfl, rfl⟩
theorem came_nil (w : World) : Calls Tryd.prog 33 #[.pointer none] w fun e w' => e = .returned (.int .i64 0) ∧ w = w' := by
  go_enter Tryd.func33, Tryd.ntmps33
  go_wp2
  go_ret
  exact ⟨rfl, rfl⟩
theorem told_nil (w : World) : Calls Tryd.prog 34 #[.pointer none] w fun e w' => e = .returned (.int .i64 0) ∧ w = w' := by
  go_enter Tryd.func34, Tryd.ntmps34
  go_wp2
  go_ret
  exact ⟨rfl, rfl⟩
theorem words_nil (w : World) : Calls Tryd.prog 35 #[.pointer none] w fun e w' => e = .returned (.int .i64 0) ∧ w = w' := by
  go_enter Tryd.func35, Tryd.ntmps35
  go_wp2
  go_ret
  exact ⟨rfl, rfl⟩
theorem clone_nil (w : World) : Calls Tryd.prog 36 #[.pointer none] w fun e w' => e = .returned (.pointer none) ∧ w = w' := by
  go_enter Tryd.func36, Tryd.ntmps36
  go_wp2
  go_ret
  exact ⟨rfl, rfl⟩
theorem push_over (n₀ g : Nat) (V : Value) (c : Int) (s : Bool) (m n : Nat) (X : Nat → Value) (q : Nat) (L : Nat → List Int) (T : Nat → Nat → Prop) (back look came told : Nat) (A : Option Addr) (k cap : Nat) (w : World) (d : Win n₀ w g V c s m n X q L T back look came told true) :
    Calls Tryd.prog 28 #[.pointer (some ⟨g, 0, none⟩), .slice A k cap] w fun e w' => e = .returned (.tuple #[.slice none 0 0, .bool false, .int .i64 21]) ∧ w = w' := by
  obtain ⟨-, -, -, -, -, c5⟩ := d.all6
  clear d
  go_enter Tryd.func28, Tryd.ntmps28
  go_wp2
  go_ret3
  exact ⟨rfl, rfl⟩
theorem push_len (n₀ g : Nat) (V : Value) (c : Int) (s : Bool) (m n : Nat) (X : Nat → Value) (q : Nat) (L : Nat → List Int) (T : Nat → Nat → Prop) (back look came told : Nat) (A : Option Addr) (k cap : Nat) (w : World) (d : Win n₀ w g V c s m n X q L T back look came told false) (hk : ¬ k = n) :
    Calls Tryd.prog 28 #[.pointer (some ⟨g, 0, none⟩), .slice A k cap] w fun e w' => e = .returned (.tuple #[.slice none 0 0, .bool false, .int .i64 3]) ∧ w = w' := by
  obtain ⟨c0, -, -, -, -, c5⟩ := d.all6
  obtain ⟨A1, cap1, rfl, -⟩ := own_seq d.2.1 (by decide)
  have e1 : ((k : Int) != (n : Int)) = true := by simp; omega
  clear d hk
  go_enter Tryd.func28, Tryd.ntmps28
  go_wp2
  go_ret3
  exact ⟨rfl, rfl⟩
/-- Each column with one number more. -/
def more (L : Nat → List Int) (r : List Int) : Nat → List Int := fun i => L i ++ [r.getD i 0]
/-- What is left of the columns when the row that no answer needs any more goes. -/
def Moved (n told back : Nat) (L L1 : Nat → List Int) : Prop := (told ≤ back → ∀ i, i < n → L1 i = L i) ∧ (¬ told ≤ back → ∀ i, i < n → ∃ v, L i = v :: L1 i)
theorem move_any (n₀ g : Nat) (V : Value) (c : Int) (s : Bool) (m n : Nat) (X : Nat → Value) (q : Nat) (L : Nat → List Int) (T : Nat → Nat → Prop) (back look came told : Nat) (L1 : Nat → List Int) (over : Bool) (w : World) (d : Win n₀ w g V c s m n X q L T back look came told over) (hM : Moved n told back L L1) (hq : q ≤ 999) (hn : n ≤ 64) :
    Calls Tryd.prog 73 #[.pointer (some ⟨g, 0, none⟩)] w fun e w' => e = .returned (.tuple #[]) ∧ WL n₀ g V c s m n X q L1 T back look came told over w w' := by
  by_cases ht : told ≤ back
  · have d1 : Win n₀ w g V c s m n X q L1 T back look came told over := ⟨d.1, d.2.1, d.2.2.1.congr (fun _ _ => rfl) (hM.1 ht), d.2.2.2⟩
    exact move_not n₀ g V c s m n X q L1 T back look came told over w d1 ht
  · exact move_yes n₀ g V c s m n X q L L1 T back look came told over w d ht (hM.2 ht) hq hn
set_option maxHeartbeats 4000000 in
theorem push_wait (n₀ g : Nat) (V : Value) (c : Int) (s : Bool) (m n : Nat) (X : Nat → Value) (q : Nat) (L : Nat → List Int) (T : Nat → Nat → Prop) (back look came told : Nat) (S : Nat → Prop) (B : Option Addr) (cap : Nat) (r : List Int) (w : World) (d : Win n₀ w g V c s m n X q L T back look came told false) (hi : SInts S w B r) (hS : ∀ b, S b → b < w.heap.size ∧ ¬ Tw g V n T b) (hr : r.length = n) (hR : AllR r) (hq : q ≤ 998) (hn : n ≤ 64) (hm : ∀ i, i < n → (L i).length < m) (hc : came ≤ 1000) (ht : told ≤ 1000) (hd : ¬ (came : Int) - (told : Int) = (look : Int)) :
    Calls Tryd.prog 28 #[.pointer (some ⟨g, 0, none⟩), .slice B n cap] w fun e w' => e = .returned (.tuple #[.slice none 0 0, .bool false, .int .i64 0]) ∧ WL n₀ g V c s m n X (q + 1) (more L r) T back look (came + 1) told false w w' := by
  have HD0 := Lib.hid d
  obtain ⟨c0, -, c2, c3, c4, c5⟩ := d.all6
  obtain ⟨A, cap1, hV, -⟩ := own_seq d.2.1 (by decide)
  have HV := Lib.hid hV
  have HM := Lib.hid hm
  have HR := Lib.hid hR
  have HRL := Lib.hid hr
  obtain ⟨y, hy⟩ : ∃ y, wayN c = y := ⟨_, rfl⟩
  have HY := Lib.hid hy
  have e1 : ((n : Int) != (n : Int)) = false := by simp
  have e2 : IntKind.i64.wrap ((came : Int) - (told : Int)) = (came : Int) - (told : Int) := IntWalk.i64_in _ (by omega)
  have HD := HD0
  have HI := Lib.hid hi
  have HSS : Hid (∀ b, S b → b < w.heap.size ∧ ¬ All n T b) := Lib.hid fun b hb => ⟨(hS b hb).1, fun k => (hS b hb).2 (.inr (.inr k))⟩
  have e3 : (((came : Int) - (told : Int)) == (look : Int)) = false := by simpa using hd
  have PA : Hid (Colz n₀ c s m n X w T w (mix (fun _ => q + 1) (fun _ => q) 0) (mix (more L r) L 0)) := Lib.hid (by rw [mix_zero, mix_zero]; exact Colz.start d.2.2.1)
  rw [hV] at c0
  clear d hy hV hm hi hS hR hr hd
  go_enter Tryd.func28, Tryd.ntmps28
  go_wp2_with fail
  go_region
  all_goals
    go_wp2
    go_loopw [46] (fun i wr => ∃ k : Nat, k ≤ n ∧ i = .int .i64 k ∧ Hid (Colz n₀ c s m n X w T wr (mix (fun _ => q + 1) (fun _ => q) k) (mix (more L r) L k))) (fun i _ => n - (intOf i).toNat)
    case atStart => exact ⟨0, Nat.zero_le _, rfl, PA⟩
    case round =>
      obtain ⟨k, hk, rfl, HP⟩ := hrel
      by_cases hlt : k < n
      · obtain ⟨b, off, cap', hV2, hc⟩ := colz_at HD.out HP.out hlt
        rw [HV.out] at hV2
        injection hV2 with x1 x2 x3
        subst x1 x3
        obtain ⟨T9, p1, p2, p3⟩ := HP.out
        obtain ⟨b2, o2, rfl, _, _, hy⟩ := (HI.out.turn p2 fun b hb => (HSS.out b hb).2).one (j := k) (u := .int .i64 (r.getD k 0)) (by simp [List.getD, show k < r.length by have := HRL.out; omega])
        have c9 : wr.cell? ⟨g, 0, none⟩ = some (.slice (some ⟨b, off, none⟩) n cap1) := by
          rw [← HV.out]
          exact (HD.out.1.turn p2 fun e => (HD.out.2.2.2.1 g e).1 rfl).c 0
        have k1 := (p1.1 k hlt).1
        rw [mix_at, mix_at] at k1
        have CD := Lib.hid (col_push n₀ c s m q (X k) (r.getD k 0) (L k) (T9 k) wr k1 (HR.out.at k) (HM.out k hlt) (by omega))
        have P1 := Lib.hid p1
        have P2 := Lib.hid p2
        have P3 := Lib.hid p3
        rw [HY.out] at CD hc
        have AT := fun W => at_push y (X k) W
        have IN := fun v W => in_push y (X k) v W
        have i1 : (k : Int) < (n : Int) := by omega
        have i0 : (0 : Int) ≤ (k : Int) := by omega
        generalize hxk : X k = xk at *
        obtain ⟨v, hv⟩ : ∃ v, r.getD k 0 = v := ⟨_, rfl⟩
        have HVV := Lib.hid hv
        rw [hv] at CD hy
        clear p1 p2 p3 k1 HP hv
        go_wp2_with fail
        refine CD.out.mono ?_
        rintro e' w7 ⟨rfl, hl⟩
        rw [← hxk, ← HVV.out] at hl
        have PA : Hid (Colz n₀ c s m n X w T w7 (mix (fun _ => q + 1) (fun _ => q) (k + 1)) (mix (more L r) L (k + 1))) := Lib.hid (colz_step P1.out P2.out P3.out hlt hl)
        clear hl
        go_wp2
        exact ⟨⟨k + 1, by omega, by go_num, PA⟩, by simp [intOf]; omega⟩
      · obtain rfl : k = n := by omega
        have HZ := Lib.hid (wl_cols HD.out HP.out.end_)
        clear HP
        obtain ⟨T9, d9, -, -⟩ := HZ.out
        have D9 := Lib.hid d9
        obtain ⟨-, -, -, c3, -, -⟩ := d9.all6
        obtain ⟨f3, -, -⟩ := d9.frz
        have ts : Turn (fun b => b = g) wr (wr.setCell ⟨g, 3, none⟩ (.int .i64 ((came : Int) + 1))) := Turn.setCell (p := ⟨g, 3, none⟩) (Turn.refl (fun b => b = g) wr) (.inl rfl) _
        have TS := Lib.hid ts
        have BS := Lib.hid (show Bk 105 (wr.setCell ⟨g, 3, none⟩ (.int .i64 ((came : Int) + 1))) g [V, .int .i64 (back : Nat), .int .i64 (look : Nat), .int .i64 ((came + 1 : Nat) : Int), .int .i64 (told : Nat), .bool false] from Bk.set_ d9.1 3 (.int .i64 ((came : Int) + 1)))
        clear d9 ts
        go_wp2
        go_ret3
        exact ⟨rfl, HZ.out.own TS.out BS.out⟩
/-- A push that tells an answer. -/
def RetDue (n₀ g : Nat) (V : Value) (c : Int) (s : Bool) (m n : Nat) (X : Nat → Value) (q : Nat) (L : Nat → List Int) (T : Nat → Nat → Prop) (back look came told : Nat) (over : Bool) (f : Value → Value) (w : World) (e : Ending) (w' : World) : Prop :=
  ∃ A cap, e = .returned (f (.slice A n cap)) ∧ MineT 2 w' w.heap.size (.slice A n cap) (ansL c s n L) ∧ ∃ T', Win n₀ w' g V c s m n X q L T' back look came told over ∧ Turn (Tw g V n T) w w' ∧ (∀ b, All n T' b → All n T b ∨ w.heap.size ≤ b) ∧ ∀ b, (Value.slice A n cap).ownBlock = some b → ¬ Tw g V n T' b
theorem retdue_from {n₀ g : Nat} {V : Value} {c : Int} {s : Bool} {m n : Nat} {X : Nat → Value} {q : Nat} {L : Nat → List Int} {T T1 : Nat → Nat → Prop} {back look came told : Nat} {over : Bool} {w w1 w' : World} {A : Option Addr} {cap : Nat} (hs : w.heap.size ≤ w1.heap.size) (hw : Turn (Tw g V n T) w w1) (f1 : ∀ b, All n T1 b → All n T b ∨ w.heap.size ≤ b) (hm : MineT 2 w' w1.heap.size (.slice A n cap) (ansL c s n L)) (d : Win n₀ w' g V c s m n X q L T1 back look came told over) (t : Turn (fun b => b = g) w1 w') (hlt : ∀ b, Tw g V n T1 b → b < w1.heap.size) (fv : Value → Value) : RetDue n₀ g V c s m n X q L T back look came told over fv w (.returned (fv (.slice A n cap))) w' :=
  ⟨A, cap, rfl, hm.mono hs, T1, d, hw.trans (t.mono fun b k => .inl k), f1, fun b hb ht => by have h1 := own_base hm b hb; have h2 := hlt b ht; omega⟩
set_option maxHeartbeats 4000000 in
theorem push_due (n₀ g : Nat) (V : Value) (c : Int) (s : Bool) (m n : Nat) (X : Nat → Value) (q : Nat) (L : Nat → List Int) (T : Nat → Nat → Prop) (back look came told : Nat) (L1 : Nat → List Int) (S : Nat → Prop) (B : Option Addr) (cap : Nat) (r : List Int) (w : World) (d : Win n₀ w g V c s m n X q L T back look came told false) (hi : SInts S w B r) (hS : ∀ b, S b → b < w.heap.size ∧ ¬ Tw g V n T b) (hr : r.length = n) (hR : AllR r) (hq : q ≤ 998) (hn : n ≤ 64) (hM : Moved n told back L L1) (h2 : Sc.hasB c 2 = true) (hm : ∀ i, i < n → (L1 i).length < m) (hc : came ≤ 1000) (ht : told ≤ 1000) (hd : (came : Int) - (told : Int) = (look : Int)) :
    Calls Tryd.prog 28 #[.pointer (some ⟨g, 0, none⟩), .slice B n cap] w (RetDue n₀ g V c s m n X (q + 1) (more L1 r) T back look (came + 1) (told + 1) false (fun v => .tuple #[v, .bool true, .int .i64 0]) w) := by
  have HD0 := Lib.hid d
  obtain ⟨c0, -, c2, c3, c4, c5⟩ := d.all6
  obtain ⟨A, cap1, hV, -⟩ := own_seq d.2.1 (by decide)
  have HV := Lib.hid hV
  have HM := Lib.hid hm
  have HR := Lib.hid hR
  have HRL := Lib.hid hr
  obtain ⟨y, hy⟩ : ∃ y, wayN c = y := ⟨_, rfl⟩
  have HY := Lib.hid hy
  have e1 : ((n : Int) != (n : Int)) = false := by simp
  have e2 : IntKind.i64.wrap ((came : Int) - (told : Int)) = (came : Int) - (told : Int) := IntWalk.i64_in _ (by omega)
  have HI0 := Lib.hid hi
  have HSS0 := Lib.hid hS
  have H2 := Lib.hid h2
  have e3 : (((came : Int) - (told : Int)) == (look : Int)) = true := by simpa using hd
  have MV := Lib.hid (move_any n₀ g V c s m n X q L T back look came told L1 false w.drew (d.next (Below.refl _ w).drew) hM (by omega) hn)
  rw [hV] at c0
  clear d hy hV hm hi hS hR hr hd hM h2
  go_enter Tryd.func28, Tryd.ntmps28
  go_wp2_with fail
  go_region
  all_goals
    go_wp2_with fail
    refine MV.out.mono ?_
    rintro e' w5 ⟨rfl, T5, d5, t5, f5⟩
    have HD := Lib.hid d5
    have T5H := Lib.hid (show Turn (Tw g V n T) w w5 from t5)
    have F5 := Lib.hid (show ∀ b, All n T5 b → All n T b ∨ w.heap.size ≤ b from f5)
    have HI := Lib.hid (HI0.out.turn t5 fun b hb => (HSS0.out b hb).2)
    have HSS : Hid (∀ b, S b → b < w5.heap.size ∧ ¬ All n T5 b) := Lib.hid fun b hb => ⟨Nat.lt_of_lt_of_le (HSS0.out b hb).1 t5.size, fun k => (F5.out b k).elim (fun k => (HSS0.out b hb).2 (.inr (.inr k))) fun k => by have := (HSS0.out b hb).1; omega⟩
    have PA : Hid (Colz n₀ c s m n X w5 T5 w5 (mix (fun _ => q + 1) (fun _ => q) 0) (mix (more L1 r) L1 0)) := Lib.hid (by rw [mix_zero, mix_zero]; exact Colz.start d5.2.2.1)
    obtain ⟨c0', -⟩ := d5.all6
    rw [HV.out] at c0'
    clear d5 t5 f5 c0 c2 c3 c4 c5
    go_wp2
    go_loopw [46] (fun i wr => ∃ k : Nat, k ≤ n ∧ i = .int .i64 k ∧ Hid (Colz n₀ c s m n X w5 T5 wr (mix (fun _ => q + 1) (fun _ => q) k) (mix (more L1 r) L1 k))) (fun i _ => n - (intOf i).toNat)
    case atStart => exact ⟨0, Nat.zero_le _, rfl, PA⟩
    case round =>
      obtain ⟨k, hk, rfl, HP⟩ := hrel
      by_cases hlt : k < n
      · obtain ⟨b, off, cap', hV2, hc⟩ := colz_at HD.out HP.out hlt
        rw [HV.out] at hV2
        injection hV2 with x1 x2 x3
        subst x1 x3
        obtain ⟨T9, p1, p2, p3⟩ := HP.out
        obtain ⟨b2, o2, rfl, _, _, hy⟩ := (HI.out.turn p2 fun b hb => (HSS.out b hb).2).one (j := k) (u := .int .i64 (r.getD k 0)) (by simp [List.getD, show k < r.length by have := HRL.out; omega])
        have c9 : wr.cell? ⟨g, 0, none⟩ = some (.slice (some ⟨b, off, none⟩) n cap1) := by
          rw [← HV.out]
          exact (HD.out.1.turn p2 fun e => (HD.out.2.2.2.1 g e).1 rfl).c 0
        have k1 := (p1.1 k hlt).1
        rw [mix_at, mix_at] at k1
        have CD := Lib.hid (col_push n₀ c s m q (X k) (r.getD k 0) (L1 k) (T9 k) wr k1 (HR.out.at k) (HM.out k hlt) (by omega))
        have P1 := Lib.hid p1
        have P2 := Lib.hid p2
        have P3 := Lib.hid p3
        rw [HY.out] at CD hc
        have AT := fun W => at_push y (X k) W
        have IN := fun v W => in_push y (X k) v W
        have i1 : (k : Int) < (n : Int) := by omega
        have i0 : (0 : Int) ≤ (k : Int) := by omega
        generalize hxk : X k = xk at *
        obtain ⟨v, hv⟩ : ∃ v, r.getD k 0 = v := ⟨_, rfl⟩
        have HVV := Lib.hid hv
        rw [hv] at CD hy
        clear p1 p2 p3 k1 HP hv
        go_wp2_with fail
        refine CD.out.mono ?_
        rintro e' w7 ⟨rfl, hl⟩
        rw [← hxk, ← HVV.out] at hl
        have PA : Hid (Colz n₀ c s m n X w5 T5 w7 (mix (fun _ => q + 1) (fun _ => q) (k + 1)) (mix (more L1 r) L1 (k + 1))) := Lib.hid (colz_step P1.out P2.out P3.out hlt hl)
        clear hl
        go_wp2
        exact ⟨⟨k + 1, by omega, by go_num, PA⟩, by simp [intOf]; omega⟩
      · obtain rfl : k = n := by omega
        have HZ := Lib.hid (wl_cols HD.out HP.out.end_)
        clear HP
        obtain ⟨T9, d9, -, -⟩ := HZ.out
        have D9 := Lib.hid d9
        obtain ⟨-, -, -, c3, -, -⟩ := d9.all6
        obtain ⟨f3, -, -⟩ := d9.frz
        have ts : Turn (fun b => b = g) wr (wr.setCell ⟨g, 3, none⟩ (.int .i64 ((came : Int) + 1))) := Turn.setCell (p := ⟨g, 3, none⟩) (Turn.refl (fun b => b = g) wr) (.inl rfl) _
        have TS := Lib.hid ts
        have BS := Lib.hid (show Bk 105 (wr.setCell ⟨g, 3, none⟩ (.int .i64 ((came : Int) + 1))) g [V, .int .i64 (back : Nat), .int .i64 (look : Nat), .int .i64 ((came + 1 : Nat) : Int), .int .i64 (told : Nat), .bool false] from Bk.set_ d9.1 3 (.int .i64 ((came : Int) + 1)))
        clear d9 ts
        obtain ⟨T8, d8, t8, f8⟩ := HZ.out.own TS.out BS.out
        have T8H := Lib.hid (Turn.trans2 T5H.out t8 fun b k => by
          rcases k with k | k | k
          · exact .inl (.inl k)
          · exact .inl (.inr (.inl k))
          · exact (F5.out b k).imp (fun k => .inr (.inr k)) id)
        have F8 := Lib.hid (show ∀ b, All k T8 b → All k T b ∨ w.heap.size ≤ b from fun b kb => (f8 b kb).elim (F5.out b) fun kb => .inr (Nat.le_trans T5H.out.size kb))
        have AN := answer_any n₀ g V c s m k X (q + 1) (more L1 r) T8 back look (came + 1) told false _ d8 hn (by omega) H2.out (fun i _ => by simp [more]) ht
        unfold RetAns at AN
        have AN := Lib.hid AN
        have LT := Lib.hid (fun b hb => (d8.lt b hb).1)
        clear d8 t8 f8
        go_wp2_with fail
        refine AN.out.mono ?_
        rintro e' w9 ⟨A9, c9, rfl, m9, d9, t9⟩
        have M9 := Lib.hid m9
        have D99 := Lib.hid d9
        have T9H := Lib.hid t9
        clear m9 d9 t9
        go_wp2
        go_ret3
        exact retdue_from (fv := fun v => .tuple #[v, .bool true, .int .i64 0]) T8H.out.size T8H.out F8.out M9.out D99.out T9H.out LT.out
set_option maxHeartbeats 2000000 in
theorem drain_none (n₀ g : Nat) (V : Value) (c : Int) (s : Bool) (m n : Nat) (X : Nat → Value) (q : Nat) (L : Nat → List Int) (T : Nat → Nat → Prop) (back look came told : Nat) (over : Bool) (w : World) (d : Win n₀ w g V c s m n X q L T back look came told over) (hd : told = came) :
    Calls Tryd.prog 32 #[.pointer (some ⟨g, 0, none⟩)] w fun e w' => e = .returned (.tuple #[.slice none 0 0, .bool false]) ∧ Win n₀ w' g V c s m n X q L T back look came told true ∧ Turn (fun b => b = g) w w' := by
  subst hd
  have ts : Turn (fun b => b = g) w (w.setCell ⟨g, 5, none⟩ (.bool true)) := Turn.setCell (p := ⟨g, 5, none⟩) (Turn.refl (fun b => b = g) w) (.inl rfl) _
  have TS := Lib.hid ts
  have d1 := show Win n₀ (w.setCell ⟨g, 5, none⟩ (.bool true)) g V c s m n X q L T back look told told true from d.own ts (Bk.set_ d.1 5 (.bool true))
  have D1 := Lib.hid d1
  obtain ⟨-, -, f5⟩ := d.frz
  obtain ⟨-, -, -, -, -, x5⟩ := d.all6
  obtain ⟨-, -, -, c3, c4, -⟩ := d1.all6
  clear d ts d1
  go_enter Tryd.func32, Tryd.ntmps32
  go_wp2_with fail
  go_region
  all_goals
    go_wp2
    go_ret2
    exact ⟨rfl, D1.out, TS.out⟩
set_option maxHeartbeats 2000000 in
theorem drain_some (n₀ g : Nat) (V : Value) (c : Int) (s : Bool) (m n : Nat) (X : Nat → Value) (q : Nat) (L : Nat → List Int) (T : Nat → Nat → Prop) (back look came told : Nat) (L1 : Nat → List Int) (over : Bool) (w : World) (d : Win n₀ w g V c s m n X q L T back look came told over) (hd : told < came) (hM : Moved n told back L L1) (h2 : Sc.hasB c 2 = true) (hl : ∀ i, i < n → 0 < (L1 i).length) (hq : q ≤ 999) (hn : n ≤ 64) (ht : told ≤ 1000) :
    Calls Tryd.prog 32 #[.pointer (some ⟨g, 0, none⟩)] w (RetDue n₀ g V c s m n X q L1 T back look came (told + 1) true (fun v => .tuple #[v, .bool true]) w) := by
  have ts : Turn (fun b => b = g) w (w.setCell ⟨g, 5, none⟩ (.bool true)) := Turn.setCell (p := ⟨g, 5, none⟩) (Turn.refl (fun b => b = g) w) (.inl rfl) _
  have TS := Lib.hid ts
  have d1 := show Win n₀ (w.setCell ⟨g, 5, none⟩ (.bool true)) g V c s m n X q L T back look came told true from d.own ts (Bk.set_ d.1 5 (.bool true))
  obtain ⟨-, -, f5⟩ := d.frz
  obtain ⟨-, -, -, -, -, x5⟩ := d.all6
  obtain ⟨-, -, -, c3, c4, -⟩ := d1.all6
  have e1 : ((told : Int) == (came : Int)) = false := by simp; omega
  have MV := Lib.hid (move_any n₀ g V c s m n X q L T back look came told L1 true _ (d1.next (Below.refl _ _).drew) hM hq hn)
  have HL := Lib.hid hl
  have H2 := Lib.hid h2
  clear d ts d1 hM hd hl h2
  go_enter Tryd.func32, Tryd.ntmps32
  go_wp2_with fail
  go_region
  all_goals
    go_wp2_with fail
    refine MV.out.mono ?_
    rintro e' w5 ⟨rfl, T5, d5, t5, f5'⟩
    have T5H := Lib.hid ((TS.out.mono (T' := Tw g V n T) fun b k => .inl k).trans t5)
    have F5 := Lib.hid (show ∀ b, All n T5 b → All n T b ∨ w.heap.size ≤ b from fun b k => (f5' b k).imp id fun k => by have := TS.out.size; exact Nat.le_trans this k)
    have AN := answer_any n₀ g V c s m n X q L1 T5 back look came told true w5 d5 hn hq H2.out HL.out ht
    unfold RetAns at AN
    have AN := Lib.hid AN
    have LT := Lib.hid (fun b hb => (d5.lt b hb).1)
    clear d5 t5 f5'
    go_wp2_with fail
    refine AN.out.mono ?_
    rintro e' w9 ⟨A9, c9, rfl, m9, d9, t9⟩
    have M9 := Lib.hid m9
    have D99 := Lib.hid d9
    have T9H := Lib.hid t9
    clear m9 d9 t9
    go_wp2
    go_ret2
    exact retdue_from (fv := fun v => .tuple #[v, .bool true]) T5H.out.size T5H.out F5.out M9.out D99.out T9H.out LT.out
end Go.Proofs.YtfamgaakcbinkaaDoor.Wn
