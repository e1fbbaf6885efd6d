/-
  What mold.Copy answers where it answers a cell; nothing that was there is written. Conditions: as told; at most 100 axes and 1000 numbers.
-/
import Derived.Test.YthabimjmdnhomaaMoLayP
import Derived.Deep.QuietTactic
import Derived.BigQuiet
namespace Go.Proofs.Ythabimjmdnhomaa.Sh
open Go.RowKit
set_option linter.unusedVariables false

theorem prod_append (a b : List Int) : prod (a ++ b) = prod a * prod b := by
  induction a with
  | nil => rw [List.nil_append, prod_nil, Int.one_mul]
  | cons x t ih => rw [List.cons_append, prod_cons, prod_cons, ih, Int.mul_assoc]
theorem split_at (D : List Int) (a : Nat) (h : a < D.length) : D = D.take a ++ D.getD a 0 :: D.drop (a + 1) := by
  rw [← drop_at D a h, List.take_append_drop]
theorem prod_split (D : List Int) (a : Nat) (h : a < D.length) : prod D = prod (D.take a) * (D.getD a 0 * prod (D.drop (a + 1))) := by
  conv => lhs; rw [split_at D a h]
  rw [prod_append, prod_cons]
theorem withL_at (D : List Int) (a : Nat) (h : a < D.length) (x : Int) : withL D (a : Int) x = D.take a ++ x :: D.drop (a + 1) := by
  unfold withL
  rw [if_pos (by omega), Int.toNat_natCast, List.set_eq_take_append_cons_drop, if_pos h]
theorem prod_with (D : List Int) (a : Nat) (h : a < D.length) (x : Int) : prod (withL D (a : Int) x) = prod (D.take a) * (x * prod (D.drop (a + 1))) := by
  rw [withL_at D a h, prod_append, prod_cons]
theorem tk_mod (T : List Int) (A j : Nat) : tk T (A * T.length + j) = tk T j := by
  unfold tk; rw [Nat.mul_comm, Nat.mul_add_mod]
theorem tot_add (T : List Int) (A j : Nat) : tot T (A * T.length + j) = tot T (A * T.length) + tot T j := by
  induction j with
  | zero => simp [tot]
  | succ j ih => rw [← Nat.add_assoc, tot, ih, tk_mod, tot, Nat.add_assoc]
theorem tot_mul (T : List Int) (A : Nat) : tot T (A * T.length) = A * tot T T.length := by
  induction A with
  | zero => simp [tot]
  | succ A ih => rw [Nat.add_mul, Nat.one_mul, tot_add, ih, Nat.add_mul, Nat.one_mul]
theorem tot_sum {T : List Int} (h : SmallT T) (k : Nat) (hk : k ≤ T.length) : (tot T k : Int) = sumL (T.take k) := by
  induction k with
  | zero => simp [tot, sumL]
  | succ k ih =>
    have h1 := h k (by omega)
    rw [tot, sumL_take (by omega), ← ih (by omega)]
    unfold tk
    rw [Nat.mod_eq_of_lt (by omega)]
    omega
theorem listed_len (e : List Int) : 0 < (listedL e).length := by
  unfold listedL; split
  · simp
  · omega
theorem listed_right {e : List Int} (h : rightB e = true) : rightB (listedL e) = true := by
  unfold listedL; split
  · decide
  · exact h
theorem listed_size {e : List Int} (h : rightB e = true) : sizeI (listedL e) = sizeI e := by
  unfold listedL; split
  · rename_i h0
    rw [List.eq_nil_of_length_eq_zero h0]; decide
  · rfl
theorem times_len {d v : List Int} {P : Nat} (h1 : d.length = 0 ∨ v.length = P) : (timesL d v P).length = P := by
  unfold timesL; split
  · simp
  · rcases h1 with h | h
    · omega
    · simpa [lensL] using h
theorem times_small {d v : List Int} {P : Nat} (h1 : d.length = 0 → v.length = 1) (hn : negB v = false) : SmallT (timesL d v P) := by
  intro i hi
  unfold timesL at hi ⊢
  split
  · rename_i h
    rw [if_pos h] at hi
    simp at hi
    have := negB_no hn 0 (by rw [h1 h]; omega)
    simp [List.getD, hi]
    unfold len65
    simp [List.getD] at this
    omega
  · rename_i h
    rw [if_neg h] at hi
    simp [lensL] at hi
    have := negB_no hn i hi
    simp [List.getD, hi] at this
    simp [lensL, List.getD, hi, len65]
    omega
def copV (u : List Int) (s : Nat) (T : List Int) : List Int := if s = 0 then [] else cpL u s T (u.length / s)
/-- What is known of a Copy that goes well. -/
structure CopyOk (d v e u : List Int) (a P s N : Nat) (D T : List Int) : Prop where
  right : cellB d v.length = true
  right2 : cellB e u.length = true
  rank : d.length ≤ 1
  hD : listedL e = D
  ha : a < D.length
  hP : D.getD a 0 = (P : Int)
  hlen : d.length = 0 ∨ d = [(P : Int)]
  neg : negB v = false
  hT : timesL d v P = T
  hR : rightB (withL D (a : Int) (sumL T)) = true
  hN : sizeI (withL D (a : Int) (sumL T)) = N
  hs : prod (D.drop (a + 1)) = (s : Int)
section
variable {d v e u : List Int} {a P s N : Nat} {D T : List Int}
theorem CopyOk.vlen (h : CopyOk d v e u a P s N D T) : (d.length = 0 → v.length = 1) ∧ (d.length = 0 ∨ v.length = P) := by
  obtain ⟨h1, h2⟩ := cellB_parts h.right
  refine ⟨fun h0 => ?_, ?_⟩
  · rw [List.eq_nil_of_length_eq_zero h0] at h2
    have : sizeI [] = 1 := by decide
    omega
  · rcases h.hlen with h0 | h0
    · exact .inl h0
    · right
      obtain ⟨h3, ha, h64⟩ := rightB_all h1
      rw [sizeI_mk h3 ha h64, h0] at h2
      simp [prod] at h2
      omega
theorem CopyOk.small (h : CopyOk d v e u a P s N D T) : T.length = P ∧ SmallT T ∧ P ≤ 64 ∧ rightB D = true ∧ D.length ≤ 3 ∧ u.length ≤ 64 ∧ v.length ≤ 64 ∧ N ≤ 64 ∧ 0 ≤ sumL T := by
  have hT := h.hT
  have hsm : SmallT T := hT ▸ times_small h.vlen.1 h.neg
  have hDr : rightB D = true := h.hD ▸ listed_right (cellB_parts h.right2).1
  obtain ⟨h3, hall, h64⟩ := rightB_all hDr
  have hPb := okAx_at hall a h.ha
  rw [h.hP] at hPb
  obtain ⟨n, hn, hn64⟩ := sizeI_nat _ h.hR
  have hsum := (sumL_bd hsm T.length (Nat.le_refl _)).1
  rw [List.take_length] at hsum
  exact ⟨hT ▸ times_len h.vlen.2, hsm, by omega, hDr, h3, (cellB_small h.right2).2, (cellB_small h.right).2, by have := h.hN; omega, hsum⟩
theorem CopyOk.room (h : CopyOk d v e u a P s N D T) : u.length = u.length / s * s ∧ tot T (u.length / s) * s = N ∧ (0 < u.length / s → 0 < T.length) ∨ s = 0 ∧ N = 0 := by
  obtain ⟨hTl, hsm, hP, hDr, hD3, hu, hv, hN64, hS0⟩ := h.small
  obtain ⟨h3, hall, h64⟩ := rightB_all hDr
  obtain ⟨h3', hall', h64'⟩ := rightB_all h.hR
  have hu2 := (cellB_parts h.right2).2
  have eD : (u.length : Int) = prod (D.take a) * ((P : Int) * (s : Int)) := by
    rw [hu2, ← listed_size (cellB_parts h.right2).1, h.hD, sizeI_mk h3 hall h64, prod_split D a h.ha, h.hP, h.hs]
  have eN : (N : Int) = prod (D.take a) * (sumL T * (s : Int)) := by
    rw [← h.hN, sizeI_mk h3' hall' h64', prod_with D a h.ha, h.hs]
  have hA0 : 0 ≤ prod (D.take a) := (prod_bd (D.take a) (by
    rw [List.all_eq_true] at hall ⊢
    exact fun x hx => hall x (List.mem_of_mem_take hx))).1
  obtain ⟨A, hA⟩ : ∃ A : Nat, prod (D.take a) = A := ⟨(prod (D.take a)).toNat, by omega⟩
  rcases Nat.eq_zero_or_pos s with hs | hs
  · right
    subst hs
    refine ⟨rfl, ?_⟩
    have : (N : Int) = 0 := by rw [eN]; simp
    omega
  · left
    rw [hA] at eD eN
    have eD' : u.length = A * P * s := by
      have : (u.length : Int) = ((A * P * s : Nat) : Int) := by rw [eD]; simp [Int.mul_assoc]
      exact_mod_cast this
    have hK : u.length / s = A * P := by rw [eD', Nat.mul_div_cancel _ hs]
    have hts := tot_sum hsm T.length (Nat.le_refl _)
    rw [List.take_length] at hts
    refine ⟨by rw [hK]; exact eD', ?_, fun hk => ?_⟩
    · rw [hK, ← hTl, tot_mul]
      have : ((A * tot T T.length * s : Nat) : Int) = (N : Int) := by rw [eN, ← hts]; simp [Int.mul_assoc]
      exact_mod_cast this
    · rw [hK] at hk
      rw [hTl]
      rcases Nat.eq_zero_or_pos P with h0 | h0
      · rw [h0] at hk; simp at hk
      · exact h0
end
theorem layParts_all (g N s : Nat) (B : Option Addr) (c2 : Nat) (u : List Int) (C : Option Addr) (c3 : Nat) (T : List Int) (w : World) (hr : u.length = u.length / s * s ∧ tot T (u.length / s) * s = N ∧ (0 < u.length / s → 0 < T.length) ∨ s = 0 ∧ N = 0) (hu : u.length ≤ 64) (hc : u.length ≤ c2) (hcm : c2 ≤ maxLen) (hT : T.length ≤ 64) (hTs : SmallT T) (hN64 : N ≤ 64)
    (hR : Row64 w g (List.replicate N 0)) (iu : ∀ wr, w.grownBy wr (some g) → Ints wr B u) (iT : ∀ wr, w.grownBy wr (some g) → Ints wr C T) :
    Calls Try.prog 43 #[.slice (some ⟨g, 0, none⟩) N N, .slice B u.length c2, .slice C T.length c3, .int .i64 (s : Int)] w fun e w' => e = .returned (.tuple #[]) ∧ Row64 w' g (copV u s T) ∧ w.grownBy w' (some g) := by
  by_cases hs : s = 0
  · subst hs
    have hN : N = 0 := by
      rcases hr with ⟨_, h, _⟩ | h
      · simpa using h.symm
      · exact h.2
    subst hN
    have HR := Lib.hid (show Row64 w g (copV u 0 T) by simpa [copV] using hR)
    clear hr iu iT hR
    go_enter Try.func43, Try.ntmps43
    go_wp2
    first | go_end0 | refine bodyPost_ret (results_none rfl _ _ _) rfl ?_
    exact ⟨rfl, HR.out, turned_refl _ _⟩
  · have e : copV u s T = cpL u s T (u.length / s) := by unfold copV; rw [if_neg hs]
    rw [e]
    rcases hr with ⟨h1, h2, h3⟩ | h
    · exact layParts_any g N (u.length / s) s B c2 u C c3 T w (by omega) h1 hu hc hcm hT hTs h3 h2 hN64 hR iu iT
    · exact absurd h.1 hs
end Go.Proofs.Ythabimjmdnhomaa.Sh
