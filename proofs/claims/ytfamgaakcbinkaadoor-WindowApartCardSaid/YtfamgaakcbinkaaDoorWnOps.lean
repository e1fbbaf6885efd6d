/-
  What answer, Words, Came, Told and Drain of package window answer, and leave. Conditions: as told in each.
-/
import Derived.Test.YtfamgaakcbinkaaDoorWnObj
namespace Go.Proofs.YtfamgaakcbinkaaDoor.Wn
open Go.Proofs.YtfamgaakcbinkaaDoor.Sh Go.Proofs.YtfamgaakcbinkaaDoor.St Go.Proofs.YtfamgaakcbinkaaDoor.Fd
open Go.RowKit
set_option linter.unusedVariables false

/-- What the columns come to. -/
def ansL (c : Int) (s : Bool) (n : Nat) (L : Nat → List Int) : List Int := (List.range n).map fun i => rowV c s (L i)
theorem ansL_len (c : Int) (s : Bool) (n : Nat) (L : Nat → List Int) : (ansL c s n L).length = n := by simp [ansL]
theorem ansL_succ (c : Int) (s : Bool) (n : Nat) (L : Nat → List Int) : ansL c s (n + 1) L = ansL c s n L ++ [rowV c s (L n)] := by unfold ansL; rw [List.range_succ, List.map_append]; rfl
/-- A sum of the first k. -/
def sumN (f : Nat → Nat) : Nat → Nat
  | 0 => 0
  | k + 1 => sumN f k + f k
theorem sumN_le {f : Nat → Nat} {b n : Nat} (h : ∀ i, i < n → f i ≤ b) : ∀ k, k ≤ n → sumN f k ≤ b * k
  | 0, _ => by simp [sumN]
  | k + 1, hk => by
    have h1 := sumN_le h k (by omega)
    have h2 := h k (by omega)
    rw [sumN, Nat.mul_succ]
    omega
theorem keptV_le (ls : Bool) (l : List Int) : (Dq.keptV ls l).length ≤ l.length := by
  rw [← Dq.kept_vals ls l 0, List.length_map]; exact Dq.kept_len ls l 0
theorem wordsN_le (c : Int) (l : List Int) : wordsN c l ≤ 2 * l.length := by
  unfold wordsN
  have := keptV_le (decide (c = 8)) l
  split
  · omega
  · split <;> omega
/-- An answer is told. -/
def RetAns (n₀ g : Nat) (V : Value) (c : Int) (s : Bool) (m n : Nat) (X : Nat → Value) (q : Nat) (L : Nat → List Int) (T : Nat → Nat → Prop) (back look came told : Nat) (over : Bool) (w : World) (e : Ending) (w' : World) : Prop :=
  ∃ A cap, e = .returned (.slice A n cap) ∧ MineT 2 w' w.heap.size (.slice A n cap) (ansL c s n L) ∧ Win n₀ w' g V c s m n X q L T back look came (told + 1) over ∧ Turn (fun b => b = g) w w'
set_option maxHeartbeats 4000000 in
theorem answer_any (n₀ g : Nat) (V : Value) (c : Int) (s : Bool) (m n : Nat) (X : Nat → Value) (q : Nat) (L : Nat → List Int) (T : Nat → Nat → Prop) (back look came told : Nat) (over : Bool) (w : World) (d : Win n₀ w g V c s m n X q L T back look came told over) (hn : n ≤ 64) (hq : q ≤ 999) (h2 : Sc.hasB c 2 = true) (hl : ∀ i, i < n → 0 < (L i).length) (ht : told ≤ 1000) :
    Calls Tryd.prog 74 #[.pointer (some ⟨g, 0, none⟩)] w (RetAns n₀ g V c s m n X q L T back look came told over w) := by
  have HD := Lib.hid d
  obtain ⟨c0, -⟩ := d.all6
  obtain ⟨A, cap, hV, -⟩ := own_seq d.2.1 (by decide)
  have HL := Lib.hid hl
  have HV := Lib.hid hV
  have H2 := Lib.hid h2
  obtain ⟨y, hy⟩ : ∃ y, wayN c = y := ⟨_, rfl⟩
  have HY := Lib.hid hy
  rw [hV] at c0
  clear d hl hy hV h2
  go_enter Tryd.func74, Tryd.ntmps74
  go_wp2
  go_loopw [3, 11] (fun R i wr => ∃ k : Nat, k ≤ n ∧ i = .int .i64 k ∧ Hid (MineT 2 wr w.heap.size R (ansL c s k L)) ∧ Hid (Below w.heap.size w wr)) (fun _ i _ => n - (intOf i).toNat)
  case atStart => exact ⟨0, Nat.zero_le _, rfl, Lib.hid (MineT.nil _ _ _), Lib.hid (Below.refl _ _)⟩
  case round =>
    obtain ⟨k, hk, rfl, HM, HB⟩ := hrel
    by_cases hlt : k < n
    · have DN := Lib.hid (HD.out.next HB.out)
      obtain ⟨b, off, cap', hV2, hc⟩ := DN.out.at_ hlt
      rw [HV.out] at hV2
      injection hV2 with e1 e2 e3
      subst e1 e3
      have CA := Lib.hid (col_all n₀ c s m q (X k) (L k) (T k) wr (DN.out.2.2.1.1 k hlt).1 H2.out (HL.out k hlt) hq)
      rw [HY.out] at CA hc
      have AT := fun W => at_all y (X k) W
      have IN := fun W => in_all y (X k) W
      have i1 : (k : Int) < (n : Int) := by omega
      have i0 : (0 : Int) ≤ (k : Int) := by omega
      generalize hxk : X k = xk at *
      have TL : Hid ((ansL c s k L).length + 1 ≤ 100000) := Lib.hid (by rw [ansL_len]; omega)
      have AS := Lib.hid (ansL_succ c s k L)
      obtain ⟨x, hx⟩ : ∃ x, rowV c s (L k) = x := ⟨_, rfl⟩
      rw [hx] at CA AS
      clear hx
      go_wp2_with fail
      refine CA.out.mono ?_
      rintro r w5 ⟨rfl, hb⟩
      have M1 := Lib.hid (MineT.alloc (own_below HM.out hb) (.cells #[.int .i64 x] 2))
      have Y1 := Lib.hid (MineT.new 2 w5 [x] 0 (Nat.zero_le _) (by unfold maxLen; simp)).ints'
      have K1 := Lib.hid (below_next (below_next HB.out hb) (below_new w5 (.cells #[.int .i64 x] 2)))
      clear hb
      go_wp2_with (at_builtin; refine wpList_appI numL Tryd.underlying27 rfl (.tmp 15) (.tmp 18) rfl _ _ _ rfl M1.out _ 1 [x] rfl Y1.out TL.out K1.out.size ?_; intro v3 w3 hm3 hg3 ha3; have M3 := Lib.hid hm3; have G3 := Lib.hid hg3; clear hm3 hg3 ha3)
      refine ⟨⟨k + 1, by omega, by go_num, Lib.hid (by rw [AS.out]; exact M3.out), Lib.hid (K1.out.grown G3.out K1.out.size (fun kk hkk => own_base M1.out kk hkk))⟩, by simp [intOf]; omega⟩
    · obtain rfl : k = n := by omega
      obtain ⟨A9, c9, e9, -, -, -⟩ := own_seq HM.out (by decide)
      rw [ansL_len] at e9
      subst e9
      have DN := Lib.hid (HD.out.next HB.out)
      obtain ⟨-, -, -, -, c4, -⟩ := DN.out.all6
      obtain ⟨-, f4, -⟩ := DN.out.frz
      have ts : Turn (fun b => b = g) wr (wr.setCell ⟨g, 4, none⟩ (.int .i64 ((told : Int) + 1))) := Turn.setCell (p := ⟨g, 4, none⟩) (Turn.refl (fun b => b = g) wr) (.inl rfl) _
      have TS := Lib.hid ts
      have W1 := Lib.hid (show Win n₀ (wr.setCell ⟨g, 4, none⟩ (.int .i64 ((told : Int) + 1))) g V c s m k X q L T back look came (told + 1) over from DN.out.own ts (by
        have := Bk.set_ DN.out.1 4 (.int .i64 ((told : Int) + 1))
        exact this))
      have M9 := Lib.hid (own_turn HM.out ts fun b hb e => by
        have h1 := own_base HM.out b hb
        have h2 := HD.out.1.lt
        omega)
      clear ts
      go_wp2
      go_ret
      exact ⟨A9, c9, rfl, M9.out, W1.out, (Turn.of_below _ HB.out).trans TS.out⟩
set_option maxHeartbeats 4000000 in
theorem words_any (n₀ g : Nat) (V : Value) (c : Int) (s : Bool) (m n : Nat) (X : Nat → Value) (q : Nat) (L : Nat → List Int) (T : Nat → Nat → Prop) (back look came told : Nat) (over : Bool) (w : World) (d : Win n₀ w g V c s m n X q L T back look came told over) (hn : n ≤ 64) :
    Calls Tryd.prog 35 #[.pointer (some ⟨g, 0, none⟩)] w fun e w' => e = .returned (.int .i64 (sumN (fun i => wordsN c (L i)) n : Nat)) ∧ Below w.heap.size w w' := by
  have HD := Lib.hid d
  obtain ⟨c0, -⟩ := d.all6
  obtain ⟨A, cap, hV, -⟩ := own_seq d.2.1 (by decide)
  have HV := Lib.hid hV
  have hW : ∀ i, i < n → wordsN c (L i) ≤ 128 := fun i hi => by
    have h1 := wordsN_le c (L i)
    obtain ⟨_, _, _, h3, h4, _⟩ := (d.2.2.1.1 i hi).1
    omega
  have HW := Lib.hid hW
  have HS := Lib.hid (sumN_le hW)
  obtain ⟨y, hy⟩ : ∃ y, wayN c = y := ⟨_, rfl⟩
  have HY := Lib.hid hy
  rw [hV] at c0
  clear d hy hV hW
  go_enter Tryd.func35, Tryd.ntmps35
  go_wp2
  go_loopw [3, 13] (fun R i wr => ∃ k : Nat, k ≤ n ∧ i = .int .i64 k ∧ R = .int .i64 (sumN (fun i => wordsN c (L i)) k : Nat) ∧ Hid (Below w.heap.size w wr)) (fun _ i _ => n - (intOf i).toNat)
  case atStart => exact ⟨0, Nat.zero_le _, rfl, rfl, Lib.hid (Below.refl _ _)⟩
  case round =>
    obtain ⟨k, hk, rfl, rfl, HB⟩ := hrel
    by_cases hlt : k < n
    · have DN := Lib.hid (HD.out.next HB.out)
      obtain ⟨b, off, cap', hV2, hc⟩ := DN.out.at_ hlt
      rw [HV.out] at hV2
      injection hV2 with e1 e2 e3
      subst e1 e3
      have CA := Lib.hid (col_words n₀ c s m q (X k) (L k) (T k) wr (DN.out.2.2.1.1 k hlt).1)
      rw [HY.out] at CA hc
      have AT := fun W => at_words y (X k) W
      have IN := fun W => in_words y (X k) W
      have i1 : (k : Int) < (n : Int) := by omega
      have i0 : (0 : Int) ≤ (k : Int) := by omega
      generalize hxk : X k = xk at *
      have h1 := HW.out k hlt
      have h2 := HS.out k hk
      have ES : Hid (sumN (fun i => wordsN c (L i)) (k + 1) = sumN (fun i => wordsN c (L i)) k + wordsN c (L k)) := Lib.hid rfl
      generalize wordsN c (L k) = x at *
      generalize sumN (fun i => wordsN c (L i)) k = z at *
      have e1 : IntKind.i64.wrap ((z : Int) + (x : Int)) = ((z + x : Nat) : Int) := IntWalk.i64_in _ (by omega)
      go_wp2_with fail
      refine CA.out.mono ?_
      rintro r w5 ⟨rfl, hb⟩
      have L5 := Lib.hid (below_next HB.out hb)
      clear hb
      go_wp2
      refine ⟨⟨k + 1, by omega, by go_num, by rw [ES.out]; simp, L5⟩, by simp [intOf]; omega⟩
    · obtain rfl : k = n := by omega
      go_wp2
      go_ret
      exact ⟨rfl, HB.out⟩
theorem came_any (n₀ g : Nat) (V : Value) (c : Int) (s : Bool) (m n : Nat) (X : Nat → Value) (q : Nat) (L : Nat → List Int) (T : Nat → Nat → Prop) (back look came told : Nat) (over : Bool) (w : World) (d : Win n₀ w g V c s m n X q L T back look came told over) :
    Calls Tryd.prog 33 #[.pointer (some ⟨g, 0, none⟩)] w fun e w' => e = .returned (.int .i64 (came : Nat)) ∧ w = w' := by
  obtain ⟨-, -, -, c3, -⟩ := d.all6
  clear d
  go_enter Tryd.func33, Tryd.ntmps33
  go_wp2
  go_ret
  exact ⟨rfl, rfl⟩
theorem told_any (n₀ g : Nat) (V : Value) (c : Int) (s : Bool) (m n : Nat) (X : Nat → Value) (q : Nat) (L : Nat → List Int) (T : Nat → Nat → Prop) (back look came told : Nat) (over : Bool) (w : World) (d : Win n₀ w g V c s m n X q L T back look came told over) :
    Calls Tryd.prog 34 #[.pointer (some ⟨g, 0, none⟩)] w fun e w' => e = .returned (.int .i64 (told : Nat)) ∧ w = w' := by
  obtain ⟨-, -, -, -, c4, -⟩ := d.all6
  clear d
  go_enter Tryd.func34, Tryd.ntmps34
  go_wp2
  go_ret
  exact ⟨rfl, rfl⟩
end Go.Proofs.YtfamgaakcbinkaaDoor.Wn
