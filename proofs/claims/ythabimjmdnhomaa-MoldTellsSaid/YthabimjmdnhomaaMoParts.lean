/-
  What mold.listed, mold.often, mold.total, mold.cut and mold.layParts do. Conditions: as told in each.
-/
import Derived.Test.YthabimjmdnhomaaMoRep
namespace Go.Proofs.Ythabimjmdnhomaa.Sh
open Go.RowKit
set_option linter.unusedVariables false

def listedL (e : List Int) : List Int := if e.length = 0 then [1] else e
theorem listed_any (A : Option Addr) (c : Nat) (e : List Int) (w : World) (he : e.length ≤ 1000) (ie : Ints w A e) :
    Calls Try.prog 29 #[.slice A e.length c] w (RetInts w (listedL e)) := by
  by_cases h : e.length = 0
  · have hl : listedL e = [1] := by simp [listedL, h]
    rw [hl]
    have X := Lib.hid (MineT.new 3 w [1] 0 (Nat.zero_le _) (by unfold maxLen; simp)).ints'
    have h0 : ((e.length : Int) == 0) = true := by simp [h]
    clear ie hl h
    go_enter Try.func29, Try.ntmps29
    go_wp2
    go_ret
    exact ⟨some ⟨w.heap.size, 0, none⟩, 1, rfl, X.out, below_new _ _⟩
  · have hl : listedL e = e := by simp only [listedL]; rw [if_neg h]
    rw [hl]
    have h0 : ((e.length : Int) == 0) = false := by simpa using h
    have X := Lib.hid ie
    clear ie hl h
    go_enter Try.func29, Try.ntmps29
    go_wp2
    go_ret
    exact ⟨A, c, rfl, X.out, Below.refl _ _⟩
/-- How often each part is copied. -/
def timesL (d v : List Int) (P : Nat) : List Int := if d.length = 0 then List.replicate P (len65 (v.getD 0 0)) else lensL v
set_option maxHeartbeats 1000000 in
theorem often_any (A : Option Addr) (c : Nat) (d : List Int) (B : Option Addr) (c2 : Nat) (v : List Int) (P : Nat) (w : World) (hd : d.length ≤ 100) (hv : v.length ≤ 1000) (iv : Ints w B v) (hP : P ≤ 64) (h1 : d.length = 0 → v.length = 1) :
    Calls Try.prog 40 #[.agg #[.slice A d.length c, .slice B v.length c2], .int .i64 (P : Int)] w (RetInts w (timesL d v P)) := by
  have hB : Below w.heap.size w (w.alloc (.cells #[.slice A d.length c, .slice B v.length c2] 25)) := below_new _ _
  have BA := Lib.hid (Box.new w (.slice A d.length c) (.slice B v.length c2))
  have IV := Lib.hid (iv.below hB)
  have L := Lib.hid hB
  clear iv hB
  by_cases h : d.length = 0
  · have hl : timesL d v P = List.replicate P (len65 (v.getD 0 0)) := by simp [timesL, h]
    have hv1 : lensL v = [len65 (v.getD 0 0)] := by
      have := h1 h
      match v, this with
      | [x], _ => rfl
    rw [hl]
    have h0 : ((d.length : Int) == 0) = true := by simp [h]
    have HV := Lib.hid hv1
    clear hl h h1 hv1
    generalize len65 (v.getD 0 0) = t at *
    go_enter Try.func40, Try.ntmps40
    go_wp2_with fail
    refine (lengths_any _ _ v _ hv IV.out).mono ?_
    rintro r w1 ⟨A1, c1, rfl, hm, hb⟩
    rw [HV.out] at hm
    have M1 := Lib.hid hm
    obtain ⟨q0, q1, -, -⟩ := (BA.out.next hb).all
    have L1 := Lib.hid (below_next L.out hb)
    clear hm hb
    rw [HV.out]
    go_wp2_with fail
    refine (repeat_one _ _ t P _ hP M1.out.ints').mono ?_
    rintro r w2 ⟨A2, c2', rfl, hm, hb⟩
    have M2 := Lib.hid hm.ints'
    have L2 := Lib.hid (below_next L1.out hb)
    clear hm hb
    go_wp2
    go_ret
    exact ⟨A2, c2', by rw [List.length_replicate]; rfl, M2.out, L2.out⟩
  · have hl : timesL d v P = lensL v := by simp only [timesL]; rw [if_neg h]
    rw [hl]
    have h0 : ((d.length : Int) == 0) = false := by simpa using h
    clear hl h h1
    go_enter Try.func40, Try.ntmps40
    go_wp2_with fail
    refine (lengths_any _ _ v _ hv IV.out).mono ?_
    rintro r w1 ⟨A1, c1, rfl, hm, hb⟩
    have M1 := Lib.hid hm.ints'
    obtain ⟨q0, q1, -, -⟩ := (BA.out.next hb).all
    have L1 := Lib.hid (below_next L.out hb)
    clear hm hb
    go_wp2
    go_ret
    exact ⟨A1, c1, rfl, M1.out, L1.out⟩

def sumL (l : List Int) : Int := l.foldl (· + ·) 0
theorem sumL_take {l : List Int} {k : Nat} (hk : k < l.length) : sumL (l.take (k + 1)) = sumL (l.take k) + l.getD k 0 := by unfold sumL; rw [take_snoc l k hk]; simp
/-- Numbers from 0 to 65. -/
def SmallT (l : List Int) : Prop := ∀ i, i < l.length → 0 ≤ l.getD i 0 ∧ l.getD i 0 ≤ 65
theorem sumL_bd {l : List Int} (h : SmallT l) (k : Nat) (hk : k ≤ l.length) : 0 ≤ sumL (l.take k) ∧ sumL (l.take k) ≤ 65 * k := by
  induction k with
  | zero => simp [sumL]
  | succ k ih =>
    have h1 := ih (by omega)
    have h2 := h k (by omega)
    rw [sumL_take (by omega)]
    omega
set_option maxHeartbeats 1000000 in
theorem total_any (A : Option Addr) (c : Nat) (l : List Int) (w : World) (hl : l.length ≤ 1000) (il : Ints w A l) (hs : SmallT l) :
    Calls Try.prog 42 #[.slice A l.length c] w fun e w' => e = .returned (.int .i64 (sumL l)) ∧ w = w' := by
  have IL := Lib.hid il
  have HS := Lib.hid hs
  clear il hs
  go_enter Try.func42, Try.ntmps42
  go_wp2
  go_loop [3, 8] (fun s j => ∃ k : Nat, k ≤ l.length ∧ j = .int .i64 (k : Int) ∧ s = .int .i64 (sumL (l.take k))) (fun _ j => l.length - (intOf j).toNat)
  case atStart => exact ⟨0, Nat.zero_le _, rfl, rfl⟩
  case round =>
    obtain ⟨k, hk, rfl, rfl⟩ := hrel
    have hbd := sumL_bd HS.out k hk
    by_cases hlt : k < l.length
    · obtain ⟨b, off, rfl, hb, hcs⟩ := IL.out (by omega)
      have hck := hcs k hlt
      have hxb := HS.out k hlt
      have i0 : (0 : Int) ≤ (k : Int) := by omega
      have i1 : (k : Int) < (l.length : Int) := by omega
      have HT := Lib.hid (sumL_take hlt)
      clear hcs
      generalize l.getD k 0 = y at *
      generalize sumL (l.take k) = s at *
      go_wp2
      go_round
      case rel => exact ⟨k + 1, by omega, by go_num, by rw [HT.out]⟩
      case measure => simp [intOf]; omega
    · obtain rfl : k = l.length := by omega
      rw [List.take_length]
      go_wp2
      go_ret
      exact ⟨rfl, rfl⟩
/-- A piece of a list, wherever it lies. -/
def RetPc (B : Option Addr) (u xs : List Int) (s : Nat) (w : World) (e : Ending) (w' : World) : Prop := ∃ A, e = .returned (.slice A s s) ∧ (∀ W, Ints W B u → Ints W A xs) ∧ w = w'
set_option maxHeartbeats 1000000 in
theorem mcut_any (B : Option Addr) (u : List Int) (c i s : Nat) (w : World) (hc : u.length ≤ c) (hcm : c ≤ 9223372036854775807) (hu : u.length ≤ 1000) (iu : Ints w B u) (h : (i + 1) * s ≤ u.length) (hs : 0 < s) :
    Calls Try.prog 53 #[.slice B u.length c, .int .i64 (i : Int), .int .i64 (s : Int)] w (RetPc B u (piece u i s) s w) := by
  have hin : i * s + s ≤ u.length := by rw [Nat.add_mul, Nat.one_mul] at h; exact h
  obtain ⟨b, off, rfl, hb, hcs⟩ := iu (by omega)
  have hi1 : i ≤ 1000 := by
    have : i * 1 ≤ i * s := Nat.mul_le_mul_left i hs
    omega
  have hs2 : s ≤ 1000 := by omega
  have hpl : (piece u i s).length = s := piece_length h
  have HI := Lib.hid (show ∀ W, Ints W (some ⟨b, off, none⟩) u → Ints W (some ⟨b, off + i * s, none⟩) (piece u i s) from fun W hW hp => by
    obtain ⟨b', o', e', hb', hc'⟩ := hW (by omega)
    injection e' with e'
    injection e' with e1 e2
    subst e1 e2
    refine ⟨b, off + i * s, rfl, hb', fun j hj => ?_⟩
    rw [hpl] at hj
    rw [Nat.add_assoc, hc' (i * s + j) (by omega)]
    simp [piece, List.getD, hj])
  have hne : ¬ (i + 1) * s = i * s := by rw [Nat.add_mul, Nat.one_mul]; omega
  have HQ := Lib.hid (show (i + 1) * s - i * s = s by rw [Nat.add_mul, Nat.one_mul]; omega)
  have g0 : (0 : Int) ≤ (i : Int) * (s : Int) := Int.mul_nonneg (by omega) (by omega)
  have g1 : (i : Int) * (s : Int) ≤ ((i : Int) + 1) * (s : Int) := Int.mul_le_mul_of_nonneg_right (by omega) (by omega)
  have g2 : ((i : Int) + 1) * (s : Int) ≤ c := by
    have : (((i + 1) * s : Nat) : Int) ≤ c := by omega
    simpa using this
  have g3 : ((i : Int) + 1) * (s : Int) ≤ 1000 := by
    have : (((i + 1) * s : Nat) : Int) ≤ 1000 := by omega
    simpa using this
  have hci : (i + 1) * s ≤ c := by omega
  clear h hin hcs iu hpl
  go_enter Try.func53, Try.ntmps53
  go_wp2
  go_ret
  exact ⟨some ⟨b, off + i * s, none⟩, ret_slice HQ.out rfl, HI.out, rfl⟩
end Go.Proofs.Ythabimjmdnhomaa.Sh
