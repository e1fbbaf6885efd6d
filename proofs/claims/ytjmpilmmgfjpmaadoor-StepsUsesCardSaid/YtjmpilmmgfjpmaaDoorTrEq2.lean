/-
  Layer 18, tree: tree.Right and riffleref18.Right mean the same. No condition.
-/
import Derived.Test.YtjmpilmmgfjpmaaDoorTrEq
set_option maxRecDepth 100000
namespace Go.Proofs.YtjmpilmmgfjpmaaDoor.Tr
open Go.Proofs.YtjmpilmmgfjpmaaDoor.Sh Go.Proofs.YtjmpilmmgfjpmaaDoor.St
open Go.RowKit
set_option linter.unusedVariables false

theorem covered {qs : List Nq} : ∀ (R : List Int) (a : Int), Lnk qs R a → ∀ j, 0 ≤ j → j ≤ a → ∃ S, Lnk qs S j
  | [], a, h, j, h0, h1 => by simp only [Lnk] at h; omega
  | t :: R, a, h, j, h0, h1 => by
    obtain ⟨rfl, hp, a2, hd, hl⟩ := h
    by_cases hj : j ≤ a2
    · exact covered R a2 hl j h0 hj
    · exact cover (t.toNat + 1) t (by omega) a2 R hd hl j (by omega) h1
theorem ord_all {qs : List Nq} {R : List Int} {n : Nat} (hn : n = qs.length) (h : Lnk qs R ((n : Int) - 1)) : ∀ k, k ≤ n → ∃ t, ordTo qs k = some t
  | 0, _ => ⟨[], rfl⟩
  | k + 1, hk => by
    obtain ⟨t, ht⟩ := ord_all hn h k (by omega)
    obtain ⟨q, hq⟩ : ∃ q, qs[k]? = some q := ⟨_, List.getElem?_eq_getElem (by omega)⟩
    obtain ⟨S, hS⟩ := covered R _ h (k : Int) (by omega) (by omega)
    cases S with
    | nil => simp only [Lnk] at hS; omega
    | cons u S =>
      obtain ⟨rfl, -, a2, hd, -⟩ := hS
      have h2 := (step_down hq (ord_link k t ht)).2 a2 hd
      cases ho : ordStep qs t k q with
      | none => exact absurd ho h2
      | some t2 => exact ⟨t2, by rw [ordTo_succ ht hq]; exact ho⟩
theorem zip_rev {ds : List Df} {R : List Int} (h : ds.length = R.length) (p : Df × Int → Bool) (t : Int) : (ds.zip (R.reverse ++ [t])).all p = (ds.reverse.zip R).all p := by
  have e1 : ds.zip (R.reverse ++ [t]) = ds.zip R.reverse := by
    have h1 : ds = ds ++ [] := by simp
    conv => lhs; rw [h1]
    rw [List.zip_append (by simp [h])]
    simp
  have e2 : (ds.zip R.reverse).reverse = ds.reverse.zip R := by
    have := List.reverse_zipWith (f := Prod.mk) (l := ds) (l' := R.reverse) (by simp [h])
    rw [List.reverse_reverse] at this
    exact this
  rw [e1, ← e2, List.all_reverse]
theorem right_same (p : Pq) : rightT p = rightR p := by
  unfold rightT rightR
  by_cases h0 : 0 < p.nodes.length
  · by_cases h3 : p.nodes.length ≤ 300
    · congr 2
      rw [decide_eq_true h0, decide_eq_true h3]
      simp only [Bool.true_and]
      rw [Bool.eq_iff_iff]
      constructor
      · intro h
        split at h
        · rename_i tops ho
          have hl := ord_link _ _ ho
          obtain ⟨-, o2, o3⟩ := ordTo_in _ _ ho
          unfold meantB at h
          simp only [Bool.and_eq_true, decide_eq_true_eq] at h
          obtain ⟨m1, m2, m3, m4⟩ := h
          obtain ⟨t, R, hr⟩ : ∃ t R, tops.reverse = t :: R := by
            cases hr : tops.reverse with
            | nil => have := congrArg List.length hr; simp at this; have := o3 h0; subst_vars; simp at this
            | cons t R => exact ⟨t, R, rfl⟩
          have ht : tops = R.reverse ++ [t] := by
            have := congrArg List.reverse hr
            simpa using this
          rw [hr] at hl
          obtain ⟨e1, -, a2, hd, hl2⟩ := hl
          have hlen : tops.length = R.length + 1 := by rw [ht]; simp
          have hroot : p.root = t := by
            rw [m2, hlen, Nat.add_sub_cancel, ht, List.getD_eq_getElem?_getD, List.getElem?_append_right (by simp)]
            simp
          have hdl : p.defs.length = R.length := by omega
          rw [ht, zip_rev hdl] at m4
          simp only [Bool.and_eq_true, decide_eq_true_eq]
          refine ⟨by omega, by rw [hroot, e1], m3, ?_⟩
          rw [hroot, e1, hd]
          exact defs_all _ R a2 hl2 (by simp [hdl]) m4
        · cases h
      · intro h
        simp only [Bool.and_eq_true, decide_eq_true_eq] at h
        obtain ⟨n1, n2, n3, n4⟩ := h
        cases hd : down p.nodes p.root with
        | none => rw [hd] at n4; cases hr : p.defs.reverse <;> rw [hr] at n4 <;> simp [defsDown] at n4
        | some a =>
          rw [hd] at n4
          obtain ⟨R, hR, hlen, hz⟩ := defs_link _ _ n4
          rw [List.length_reverse] at hlen
          have hL : Lnk p.nodes (p.root :: R) p.root := ⟨rfl, by omega, a, hd, hR⟩
          obtain ⟨tops, ho⟩ := ord_all rfl (n2 ▸ hL) p.nodes.length (Nat.le_refl _)
          rw [ho]
          have hl := ord_link _ _ ho
          rw [← n2] at hl
          have hr := lnk_same _ _ _ hl hL
          have ht : tops = R.reverse ++ [p.root] := by
            have := congrArg List.reverse hr
            simpa using this
          have hlen2 : tops.length = R.length + 1 := by rw [ht]; simp
          unfold meantB
          simp only [Bool.and_eq_true, decide_eq_true_eq]
          refine ⟨by omega, ?_, n3, ?_⟩
          · rw [hlen2, Nat.add_sub_cancel, ht, List.getD_eq_getElem?_getD, List.getElem?_append_right (by simp)]
            simp
          · rw [ht, zip_rev hlen]
            exact hz
    · rw [decide_eq_false h3]
      simp
  · rw [decide_eq_false h0]
    simp
end Go.Proofs.YtjmpilmmgfjpmaaDoor.Tr
