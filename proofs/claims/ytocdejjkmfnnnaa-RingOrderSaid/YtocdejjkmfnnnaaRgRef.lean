/-
  What the document's functions of layer 11 answer: riffleref11.May, Push, Pop, At, Same, and rifflelaw11.Great. Conditions: as told in each.
-/
import Derived.Test.YtocdejjkmfnnnaaRgOps3
import Derived.Deep.RegionHeld3
set_option maxRecDepth 100000
namespace Go.Proofs.Ytocdejjkmfnnnaa.Rg
open Go.Proofs.Ytocdejjkmfnnnaa.Sh Go.Proofs.Ytocdejjkmfnnnaa.St
open Go.RowKit
set_option linter.unusedVariables false

set_option maxHeartbeats 1000000 in
theorem may_no (n s : Int) (w : World) (h : mayB n s = false) :
    Calls Try.prog 10 #[.int .i64 n, .int .i64 s] w fun e w' => e = .returned (.bool false) ∧ Below w.heap.size w w' := by
  have h' : ¬ (1 ≤ n ∧ n ≤ 64 ∧ 0 ≤ s ∧ s ≤ 64) := by simpa [mayB] using h
  clear h
  by_cases h1 : n ≥ 1
  · have t1 : decide (n ≥ 1) = true := decide_eq_true h1
    by_cases h2 : n ≤ 64
    · have t2 : decide (n ≤ 64) = true := decide_eq_true h2
      by_cases h3 : s ≥ 0
      · have t3 : decide (s ≥ 0) = true := decide_eq_true h3
        have h4 : ¬ s ≤ 64 := by omega
        have t4 : decide (s ≤ 64) = false := decide_eq_false h4
        clear h'
        go_enter Try.func10, Try.ntmps10
        go_wp2
        go_ret
        exact ⟨rfl, Below.refl _ _⟩
      · have t3 : decide (s ≥ 0) = false := decide_eq_false h3
        clear h'
        go_enter Try.func10, Try.ntmps10
        go_wp2
        go_ret
        exact ⟨rfl, Below.refl _ _⟩
    · have t2 : decide (n ≤ 64) = false := decide_eq_false h2
      clear h'
      go_enter Try.func10, Try.ntmps10
      go_wp2
      go_ret
      exact ⟨rfl, Below.refl _ _⟩
  · have t1 : decide (n ≥ 1) = false := decide_eq_false h1
    clear h'
    go_enter Try.func10, Try.ntmps10
    go_wp2
    go_ret
    exact ⟨rfl, Below.refl _ _⟩
set_option maxHeartbeats 1000000 in
theorem may_yes (n s : Int) (w : World) (h1 : n ≥ 1) (h2 : n ≤ 64) (h3 : s ≥ 0) (h4 : s ≤ 64) :
    Calls Try.prog 10 #[.int .i64 n, .int .i64 s] w fun e w' => e = .returned (.bool true) ∧ Below w.heap.size w w' := by
  have t1 : decide (n ≥ 1) = true := decide_eq_true h1
  have t2 : decide (n ≤ 64) = true := decide_eq_true h2
  have t3 : decide (s ≥ 0) = true := decide_eq_true h3
  have t4 : decide (s ≤ 64) = true := decide_eq_true h4
  go_enter Try.func10, Try.ntmps10
  go_wp2
  go_ret
  exact ⟨rfl, Below.refl _ _⟩

theorem nums_b (A : Option Addr) (c : Nat) (a : List Int) (B : Option Addr) (d : Nat) (b : List Int) (w : World) (hl : a.length ≤ maxLen) (hl2 : b.length ≤ maxLen) (ha : Ints w A a) (hb : Ints w B b) :
    Calls Try.prog 22 #[.slice A a.length c, .slice B b.length d] w fun e w' => e = .returned (.bool (decide (a = b))) ∧ Below w.heap.size w w' :=
  (nums_any A c a B d b w hl hl2 ha hb).mono fun e w' ⟨h1, n, h2⟩ => ⟨h1, by rw [h2]; exact below_drewN (Below.refl _ _) n⟩
/-- The row at a place of rows that lie in memory. -/
theorem RwsIn.at_ {S : Nat → Prop} {w : World} {A : Option Addr} {n c : Nat} {rs : List (List Int)} (h : RwsIn S w (.slice A n c) rs) {k : Nat} (hk : k < rs.length) :
    ∃ b off B d, A = some ⟨b, off, none⟩ ∧ w.cell? ⟨b, off + k, none⟩ = some (.slice B (rs.getD k []).length d) ∧ (rs.getD k []).length ≤ d ∧ d ≤ maxLen ∧ SInts S w B (rs.getD k []) := by
  obtain ⟨A', c', vs, e, h1, h2, h3, h4, h5⟩ := h
  injection e with e1 e2 e3
  subst e1 e3
  have hr : rs[k]? = some (rs.getD k []) := by simp [List.getD, hk]
  obtain ⟨B, d, k1, k2, k3, k4⟩ := h5 k _ hr
  obtain ⟨b, off, e, _, _, hc⟩ := h4.one k1
  exact ⟨b, off, B, d, e, hc, k2, k3, k4⟩
theorem RwsIn.len {S : Nat → Prop} {w : World} {A : Option Addr} {n c : Nat} {rs : List (List Int)} (h : RwsIn S w (.slice A n c) rs) : n = rs.length ∧ rs.length ≤ c ∧ c ≤ maxLen := by
  obtain ⟨A', c', vs, e, h1, h2, _⟩ := h
  injection e with e1 e2 e3
  exact ⟨e2, by omega, by omega⟩

theorem same_step {a b : List (List Int)} {k : Nat} (h : a.take k = b.take k) (ha : k < a.length) (hb : k < b.length) (he : a.getD k [] = b.getD k []) : a.take (k + 1) = b.take (k + 1) := by
  rw [List.take_succ_eq_append_getElem ha, List.take_succ_eq_append_getElem hb, h]
  have e1 : a.getD k [] = a[k] := by simp [List.getD, ha]
  have e2 : b.getD k [] = b[k] := by simp [List.getD, hb]
  rw [e1, e2] at he
  rw [he]
theorem same_ne {a b : List (List Int)} {k : Nat} (he : ¬ a.getD k [] = b.getD k []) : ¬ a = b := fun e => he (by rw [e])
set_option maxHeartbeats 1000000 in
theorem same_any (S S' : Nat → Prop) (A : Option Addr) (c : Nat) (a : List (List Int)) (B : Option Addr) (d : Nat) (b : List (List Int)) (w : World) (ha : RwsIn S w (.slice A a.length c) a) (hb : RwsIn S' w (.slice B b.length d) b) (hla : a.length ≤ 1000) (hlb : b.length ≤ 1000) :
    Calls Try.prog 43 #[.slice A a.length c, .slice B b.length d] w fun e w' => e = .returned (.bool (decide (a = b))) ∧ Below w.heap.size w w' := by
  have HA := Lib.hid ha
  have HB := Lib.hid hb
  clear ha hb
  by_cases he : a.length = b.length
  · have hev : ((a.length : Int) != (b.length : Int)) = false := by simp [he]
    have HE := Lib.hid he
    have hle : a.length ≤ b.length := by omega
    clear he
    go_enter Try.func43, Try.ntmps43
    go_wp2
    go_loopw [5] (fun i wr => ∃ k : Nat, k ≤ a.length ∧ i = .int .i64 k ∧ Hid (a.take k = b.take k) ∧ Hid (Below w.heap.size w wr)) (fun i _ => a.length - (intOf i).toNat)
    case atStart => exact ⟨0, Nat.zero_le _, rfl, Lib.hid rfl, Lib.hid (Below.refl _ _)⟩
    case round =>
      obtain ⟨k, hk, rfl, HT, HW⟩ := hrel
      by_cases hlt : k < a.length
      · obtain ⟨b1, o1, B1, d1, rfl, p1, p2, p3, p4⟩ := RwsIn.at_ (HA.out.next HW.out) hlt
        obtain ⟨b2, o2, B2, d2, rfl, r1, r2, r3, r4⟩ := RwsIn.at_ (HB.out.next HW.out) (show k < b.length by omega)
        have i0 : (0 : Int) ≤ (k : Int) := by omega
        have i1 : (k : Int) < (a.length : Int) := by omega
        have i2 : (k : Int) < (b.length : Int) := by omega
        obtain ⟨x, hx⟩ : ∃ x, a.getD k [] = x := ⟨_, rfl⟩
        obtain ⟨y, hy⟩ : ∃ y, b.getD k [] = y := ⟨_, rfl⟩
        rw [hx] at p1 p2 p4
        rw [hy] at r1 r2 r4
        have HX := Lib.hid hx
        have HY := Lib.hid hy
        have P := Lib.hid p4.ints
        have R := Lib.hid r4.ints
        have hxm : x.length ≤ maxLen := by omega
        have hym : y.length ≤ maxLen := by omega
        clear hx hy p4 r4 p2 p3 r2 r3
        by_cases hxy : x = y
        · have NB := fun (m : Nat) => nums_any B1 d1 x B2 d2 y (wr.drewN m) hxm hym P.out R.out
          rw [show (decide (x = y)) = true from decide_eq_true hxy] at NB
          have HN := Lib.hid NB
          have HXY := Lib.hid hxy
          clear NB hxy
          go_wp2_with fail
          go_quiet ((go_at_call 22; exact Calls.quiet_of (HN.out _)))
          go_wp2
          go_roundw
          case rel => exact ⟨k + 1, by omega, by go_num, Lib.hid (same_step HT.out hlt (by omega) (by rw [HX.out, HY.out, HXY.out])), Lib.hid (below_drewN HW.out _)⟩
          case measure => simp [intOf]; omega
        · have NB := fun (m : Nat) => nums_any B1 d1 x B2 d2 y (wr.drewN m) hxm hym P.out R.out
          rw [show (decide (x = y)) = false from decide_eq_false hxy] at NB
          have HN := Lib.hid NB
          have HXY := Lib.hid hxy
          clear NB hxy
          go_wp2_with fail
          go_quiet ((go_at_call 22; exact Calls.quiet_of (HN.out _)))
          go_wp2
          go_ret
          exact ⟨ret_bool (by rw [decide_eq_false (same_ne (by rw [HX.out, HY.out]; exact HXY.out))]), below_drewN HW.out _⟩
      · obtain rfl : k = a.length := by omega
        go_wp2
        go_ret
        have e := HT.out
        rw [List.take_length, HE.out, List.take_length] at e
        exact ⟨ret_bool (by simp [e]), HW.out⟩
  · have hev : ((a.length : Int) != (b.length : Int)) = true := by simp; omega
    have HE := Lib.hid he
    clear he
    go_enter Try.func43, Try.ntmps43
    go_wp2
    go_ret
    exact ⟨ret_bool (by rw [decide_eq_false (fun e => HE.out (by rw [e]))]), Below.refl _ _⟩
end Go.Proofs.Ytocdejjkmfnnnaa.Rg
