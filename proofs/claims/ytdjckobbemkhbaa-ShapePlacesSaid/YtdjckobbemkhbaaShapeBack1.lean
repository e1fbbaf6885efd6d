/-
  Plain facts on lists in another order, and what rifflelaw01.behind answers for two lists of one length. Condition: at most 100 numbers.
-/
import Derived.Test.YtdjckobbemkhbaaShapePlace
import Derived.Test.YtdjckobbemkhbaaShapeMake4
import Derived.Test.YtdjckobbemkhbaaShapeRef
import Derived.Test.YtdjckobbemkhbaaShapeLives
namespace Go.Proofs.Ytdjckobbemkhbaa.Sh
open Go.RowKit
set_option linter.unusedVariables false

theorem prod_perm {a b : List Int} (h : a.Perm b) : prod a = prod b := by
  induction h with
  | nil => rfl
  | cons x _ ih => rw [prod_cons, prod_cons, ih]
  | swap x y l => rw [prod_cons, prod_cons, prod_cons, prod_cons, ← Int.mul_assoc, ← Int.mul_assoc, Int.mul_comm y x]
  | trans _ _ ih1 ih2 => rw [ih1, ih2]
theorem all_perm {a b : List Int} (h : a.Perm b) : a.all okAx = b.all okAx := by
  rw [Bool.eq_iff_iff, List.all_eq_true, List.all_eq_true]
  exact ⟨fun k x hx => k x (h.mem_iff.2 hx), fun k x hx => k x (h.mem_iff.1 hx)⟩
theorem sizeI_perm {a b : List Int} (h : a.Perm b) : sizeI a = sizeI b := by
  unfold sizeI rightB
  rw [prod_perm h, all_perm h, h.length_eq]
theorem pg_nil (m : Nat) : pg [] [] m = [] := by
  induction m with
  | zero => rfl
  | succ m ih => rw [pg, ih]; rfl
theorem pg_out (x y : Int) (d p : List Int) (m : Nat) (h : y < 0 ∨ (m : Int) ≤ y) : pg (x :: d) (y :: p) m = pg d p m := by
  induction m with
  | zero => rfl
  | succ m ih => rw [pg, pg, ih (by omega), pk, if_neg (by omega)]
theorem pg_one (x y : Int) (d p : List Int) (m : Nat) (h0 : 0 ≤ y) (h1 : y < m) : (pg (x :: d) (y :: p) m).Perm (x :: pg d p m) := by
  induction m with
  | zero => omega
  | succ m ih =>
    rw [pg, pg, pk]
    by_cases e : y = (m : Int)
    · rw [if_pos e, pg_out x y d p m (by omega)]
      exact List.perm_middle
    · rw [if_neg e]
      exact (ih (by omega)).append_right _
theorem pg_perm (d p : List Int) (m : Nat) (h : p.length = d.length) (hr : ∀ y ∈ p, 0 ≤ y ∧ y < m) : (pg d p m).Perm d := by
  induction d generalizing p with
  | nil => cases p with | nil => rw [pg_nil] | cons _ _ => simp at h
  | cons x d ih => cases p with
    | nil => simp at h
    | cons y p =>
      have hy := hr y List.mem_cons_self
      exact (pg_one x y d p m hy.1 hy.2).trans ((ih p (by simpa using h) (fun z hz => hr z (List.mem_cons_of_mem _ hz))).cons x)
theorem pickB_perm {d p : List Int} (h : p.length = d.length) (hp : permB p = true) : (pickB d p).Perm d := by
  rw [pickB_yes h hp, show fI d.length (pf d p) = pg d p d.length from (pg_eq d p h hp d.length (Nat.le_refl _)).symm]
  exact pg_perm d p d.length h (fun y hy => by have := permB_range hp y hy; omega)

theorem gtB_self (a : List Int) : gtB a a = false := by
  induction a with
  | nil => rfl
  | cons x a ih => simp [gtB, ih]
theorem gtB_at (a b : List Int) (k : Nat) (ht : a.take k = b.take k) (ha : k < a.length) (hb : k < b.length) (hne : ¬ a.getD k 0 = b.getD k 0) : gtB a b = decide (b.getD k 0 < a.getD k 0) := by
  induction k generalizing a b with
  | zero => cases a with
    | nil => simp at ha
    | cons x a => cases b with
      | nil => simp at hb
      | cons y b =>
        simp only [List.getD, List.getElem?_cons_zero, Option.getD_some] at hne ⊢
        simp only [gtB, if_neg hne]
        rfl
  | succ k ih => cases a with
    | nil => simp at ha
    | cons x a => cases b with
      | nil => simp at hb
      | cons y b =>
        simp only [List.take_succ_cons, List.cons.injEq] at ht
        simp only [gtB, if_pos ht.1]
        have := ih a b ht.2 (by simpa using ha) (by simpa using hb) (by simpa using hne)
        simpa using this

set_option maxHeartbeats 1000000 in
theorem behind_any (A : Option Addr) (c : Nat) (a : List Int) (B : Option Addr) (c2 : Nat) (b : List Int) (w : World) (n : Nat) (hla : a.length = n) (hlb : b.length = n) (hl : n ≤ 100) (ha : Ints w A a) (hb : Ints w B b) :
    Calls Try.prog 30 #[.slice A n c, .slice B n c2] w fun e w' => e = .returned (.bool (gtB a b)) ∧ Below w.heap.size w w' := by
  have HA := Lib.hid hla
  have HB := Lib.hid hlb
  clear hla hlb
  go_enter Try.func30, Try.ntmps30
  go_wp2
  go_loopw [5] (fun i wr => ∃ k m : Nat, k ≤ n ∧ i = .int .i64 k ∧ a.take k = b.take k ∧ wr = w.drewN m)
    (fun i _ => n - (intOf i).toNat)
  case atStart => exact ⟨0, 0, Nat.zero_le _, rfl, rfl, rfl⟩
  case round =>
    obtain ⟨k, m, hk, rfl, htk, rfl⟩ := hrel
    have HT := Lib.hid htk
    clear htk
    by_cases hlt : k < n
    · obtain ⟨b1, o1, rfl, hb1, hc1⟩ := ha (by have := HA.out; omega)
      obtain ⟨b2, o2, rfl, hb2, hc2⟩ := hb (by have := HB.out; omega)
      have h1 : (w.drewN m).cell? ⟨b1, o1 + k, none⟩ = some (.int .i64 (a.getD k 0)) := hc1 k (by have := HA.out; omega)
      have h2 : (w.drewN m).cell? ⟨b2, o2 + k, none⟩ = some (.int .i64 (b.getD k 0)) := hc2 k (by have := HB.out; omega)
      have hta := Lib.hid (take_snoc a k (by have := HA.out; omega))
      have htb := Lib.hid (take_snoc b k (by have := HB.out; omega))
      have hgt := fun h => Lib.hid (gtB_at a b k HT.out (by have := HA.out; omega) (by have := HB.out; omega) h)
      have i0 : (0 : Int) ≤ (k : Int) := by omega
      have i1 : (k : Int) < (n : Int) := by omega
      clear hc1 hc2 ha hb
      generalize a.getD k 0 = x at *
      generalize b.getD k 0 = y at *
      generalize hw1 : w.drewN m = w1 at *
      have HW := Lib.hid hw1
      clear hw1
      by_cases hxy : x = y
      · have hq : (x != y) = false := by simp [hxy]
        have HQ := Lib.hid hxy
        clear hxy hgt
        go_wp2_with fail
        go_quiet (fail)
        go_wp2
        go_roundw
        case rel => exact ⟨k + 1, m + nq, by omega, by go_num, by rw [hta.out, htb.out, HT.out, HQ.out], by rw [← HW.out, World.drewN_drewN]⟩
        case measure => simp [intOf]; omega
      · have hq : (x != y) = true := by simp [hxy]
        have HG := hgt hxy
        clear hxy hgt
        go_wp2_with fail
        go_quiet (fail)
        revert nq
        intro nq0
        go_wp2_with fail
        go_quiet (fail)
        go_wp2
        go_ret
        exact ⟨ret_bool HG.out.symm, by rw [← HW.out]; exact below_drewN (below_drewN (below_drewN (Below.refl _ _) _) _) _⟩
    · obtain rfl : k = n := by omega
      have hab : a = b := by have := HT.out; rwa [List.take_of_length_le (by have := HA.out; omega), List.take_of_length_le (by have := HB.out; omega)] at this
      have HG : Hid (gtB a b = false) := Lib.hid (by rw [hab]; exact gtB_self b)
      clear hab
      go_wp2
      go_ret
      exact ⟨ret_bool HG.out.symm, below_drewN (Below.refl _ _) _⟩

/-! The contracts at a length that is told beside the list. -/
theorem turned_n (A : Option Addr) (c : Nat) (l : List Int) (n : Nat) (w : World) (hn : l.length = n) (hl : n ≤ 100) (hi : Ints w A l) :
    Calls Try.prog 24 #[.slice A n c] w fun e w' => ∃ A' c', e = .returned (.slice A' n c') ∧ Ints w' A' l.reverse ∧ Below w.heap.size w w' := by
  subst hn
  refine (turned_any A c l w hl hi).mono ?_
  rintro e w' ⟨A', c', rfl, h1, h2⟩
  exact ⟨A', c', by rw [List.length_reverse], h1, h2⟩
theorem size_n (A : Option Addr) (c : Nat) (l : List Int) (n : Nat) (w : World) (hn : l.length = n) (hl : n ≤ 100) (hi : Ints w A l) :
    Calls Try.prog 10 #[.slice A n c] w fun e w' => e = .returned (.int .i64 (sizeI l)) ∧ Below w.heap.size w w' := by
  subst hn
  exact size_any A c l w (by unfold maxLen; omega) hi
theorem same_n (A : Option Addr) (c : Nat) (l : List Int) (B : Option Addr) (c2 : Nat) (n : Nat) (w : World) (hn : l.length = n) (hl : n ≤ 100) (hi : Ints w A l) (hj : Ints w B l) :
    Calls Try.prog 13 #[.slice A n c, .slice B n c2] w fun e w' => e = .returned (.bool true) ∧ Below w.heap.size w w' := by
  subst hn
  exact (refSame_any A c l B c2 l w (by unfold maxLen; omega) (by unfold maxLen; omega) hi hj).mono fun _ _ ⟨he, n, hw⟩ => ⟨by rw [he]; simp, by rw [hw]; exact below_drewN (Below.refl _ _) n⟩
theorem place_n (A : Option Addr) (c : Nat) (d : List Int) (i : Int) (w : World) (hl : d.length ≤ 100) (hi : Ints w A d) (h0 : 0 ≤ i) (h1 : i < sizeI d) :
    Calls Try.prog 17 #[.slice A d.length c, .int .i64 i] w fun e w' => ∃ A' c', e = .returned (.slice A' d.length c') ∧ Ints w' A' (dg d i) ∧ Below w.heap.size w w' := by
  have h := place_any A c d i w hl hi
  rw [show placeL d i = dg d i from if_pos ⟨h0, h1⟩] at h
  refine h.mono ?_
  rintro e w' ⟨A', c', rfl, k1, k2⟩
  exact ⟨A', c', by rw [dg_length], k1, k2⟩
theorem index_n (A : Option Addr) (c : Nat) (d : List Int) (B : Option Addr) (c2 : Nat) (i : Int) (w : World) (hl : d.length ≤ 100) (ha : Ints w A d) (hb : Ints w B (dg d i)) (h0 : 0 ≤ i) (h1 : i < sizeI d) :
    Calls Try.prog 15 #[.slice A d.length c, .slice B d.length c2] w fun e w' => e = .returned (.int .i64 i) ∧ Below w.heap.size w w' := by
  obtain ⟨hr, hip, _⟩ := sizeI_pos h0 h1
  have h := index_any A c d B c2 (dg d i) w (by unfold maxLen; omega) (by rw [dg_length]; unfold maxLen; omega) ha hb
  rw [idxI_dg hr i h0 hip, dg_length] at h
  exact h
theorem behind_n (A : Option Addr) (c : Nat) (d : List Int) (B : Option Addr) (c2 : Nat) (i : Int) (w : World) (hl : d.length ≤ 100) (ha : Ints w A (dg d i)) (hb : Ints w B (dg d (i - 1))) (h0 : 1 ≤ i) (h1 : i < sizeI d) :
    Calls Try.prog 30 #[.slice A d.length c, .slice B d.length c2] w fun e w' => e = .returned (.bool true) ∧ Below w.heap.size w w' := by
  obtain ⟨hr, hip, hp⟩ := sizeI_pos (by omega) h1
  have h := behind_any A c (dg d i) B c2 (dg d (i - 1)) w d.length (dg_length _ _) (dg_length _ _) hl ha hb
  rw [gtB_dg hp i h0 hip] at h
  exact h
theorem picked_n (A : Option Addr) (c : Nat) (d : List Int) (B : Option Addr) (c2 : Nat) (p : List Int) (w : World) (hl : d.length ≤ 100) (ha : Ints w A d) (hb : Ints w B p) (he : p.length = d.length) (hp : permB p = true) :
    Calls Try.prog 28 #[.slice A d.length c, .slice B p.length c2] w fun e w' => ∃ A' c', e = .returned (.slice A' d.length c') ∧ Ints w' A' (pickB d p) ∧ Below w.heap.size w w' := by
  refine (picked_any A c d B c2 p w hl (by omega) ha hb).mono ?_
  rintro e w' ⟨A', c', rfl, k1, k2⟩
  exact ⟨A', c', by rw [(pickB_perm he hp).length_eq], k1, k2⟩
end Go.Proofs.Ytdjckobbemkhbaa.Sh
