/-
  product.Outer and product.Inner for any cells: what they tell, or why there is nothing. Conditions: the table of traits holds what its text lays; the numbers are int64; at most 40 axes.
-/
import Derived.Test.YtbanegjmapgkdaaDoorPrInner
set_option maxRecDepth 100000
namespace Go.Proofs.YtbanegjmapgkdaaDoor.Pr
open Go.Proofs.YtbanegjmapgkdaaDoor.Sh Go.Proofs.YtbanegjmapgkdaaDoor.St
open Go.Proofs.YtbanegjmapgkdaaDoor.Fd
open Go.RowKit
set_option linter.unusedVariables false

theorem prod_app (a b : List Int) : prod (a ++ b) = prod a * prod b := by
  induction a with
  | nil => rw [List.nil_append, prod_nil, Int.one_mul]
  | cons x t ih => rw [List.cons_append, prod_cons, prod_cons, ih, Int.mul_assoc]
/-- What a cell has, that may be: its numbers are as many as its axes say. -/
theorem cell_prod {d : List Int} {n : Nat} (h : cellB d n = true) : rightB d = true ∧ (n : Int) = prod d ∧ n ≤ 64 := by
  unfold cellB at h
  simp only [Bool.and_eq_true, decide_eq_true_eq] at h
  obtain ⟨h1, h2⟩ := h
  have h3 : sizeI d = prod d := by simp [sizeI, h1]
  obtain ⟨_, _, h4⟩ := rightB_all h1
  exact ⟨h1, by omega, by omega⟩
theorem pfit_cells {d d' : List Int} {n n' : Nat} {l : List (Int × Bool)} (h : pfitE d n d' n' l = 0) : cellB d n = true ∧ cellB d' n' = true ∧ hasAll l = true := by
  unfold pfitE at h
  split at h
  · next h1 =>
    split at h
    · next h2 => exact ⟨h1.1, h1.2, h2⟩
    · cases h
  · cases h
def outE (c : Int) (s : Bool) (d : List Int) (n : Nat) (d' : List Int) (n' : Nat) : Int := if pfitE d n d' n' [(c, s)] = 0 then (if rightB (d ++ d') = true then 0 else 4) else pfitE d n d' n' [(c, s)]
section
variable (c : Int) (s : Bool) (A : Option Addr) (c1 : Nat) (d : List Int) (B : Option Addr) (c2 : Nat) (v : List Int) (A' : Option Addr) (c1' : Nat) (d' : List Int) (B' : Option Addr) (c2' : Nat) (v' : List Int) (w : World)
theorem outer_any (hT : Sc.Tab w) (id : Ints w A d) (id' : Ints w A' d') (hd : d.length ≤ 40) (hd' : d'.length ≤ 40) (rv : AllR v) (rv' : AllR v') (iv : Ints w B v) (iv' : Ints w B' v') (E : Int) (hE : outE c s d v.length d' v'.length = E) :
    Calls Tryd.prog 15 #[.agg #[.int .i64 c, .bool s], .agg #[.slice A d.length c1, .slice B v.length c2], .agg #[.slice A' d'.length c1', .slice B' v'.length c2']] w (RetCI w (if E = 0 then d ++ d' else []) (if E = 0 then outV c s v v' else []) (.int .i64 E)) := by
  unfold outE at hE
  by_cases h : pfitE d v.length d' v'.length [(c, s)] = 0
  · rw [if_pos h] at hE
    by_cases hR : rightB (d ++ d') = true
    · rw [if_pos hR] at hE
      subst hE
      rw [if_pos rfl, if_pos rfl]
      obtain ⟨h1, h2, h3⟩ := pfit_cells h
      obtain ⟨r1, p1, m1⟩ := cell_prod h1
      obtain ⟨r2, p2, m2⟩ := cell_prod h2
      have hn : (sizeI (d ++ d')).toNat = v.length * v'.length := by
        have e : sizeI (d ++ d') = prod (d ++ d') := by simp [sizeI, hR]
        rw [e, prod_app, ← p1, ← p2, ← Int.natCast_mul]
        exact Int.toNat_natCast _
      exact outer_0 c s A c1 d B c2 v A' c1' d' B' c2' v' w hT id id' (by omega) (by omega) h hR _ hn rfl m1 m2 h2 rv rv' iv iv'
    · rw [if_neg hR] at hE
      subst hE
      rw [if_neg (by decide), if_neg (by decide)]
      exact outer_4 c s A c1 d B c2 v A' c1' d' B' c2' v' w hT id id' (by omega) (by omega) h (by simpa using hR)
  · rw [if_neg h] at hE
    have hE0 : E ≠ 0 := by rw [← hE]; exact h
    rw [if_neg hE0, if_neg hE0]
    exact outer_e c s A c1 d B c2 v A' c1' d' B' c2' v' w E hT id id' (by omega) (by omega) hE hE0
end
/-- The axes ahead of the last one. -/
theorem without_last {d : List Int} (h : 0 < d.length) : withoutL d ((d.length : Int) - 1) = d.dropLast := by
  unfold withoutL
  rw [if_pos (by omega), show ((d.length : Int) - 1).toNat = d.length - 1 by omega, List.eraseIdx_length_sub_one]
theorem without_first {d : List Int} (h : 0 < d.length) : withoutL d 0 = d.tail := by
  unfold withoutL
  rw [if_pos (by omega)]
  simp
theorem last_app {d : List Int} (h : 0 < d.length) : d = d.dropLast ++ [lastD d] := by
  have hne : d ≠ [] := by intro e; simp [e] at h
  have e : lastD d = d.getLast hne := by
    unfold lastD
    rw [List.getLast_eq_getElem, List.getD_eq_getElem?_getD, List.getElem?_eq_getElem (by omega)]
    rfl
  rw [e]
  exact (List.dropLast_concat_getLast hne).symm
theorem head_app {d : List Int} (h : 0 < d.length) : d = headD d :: d.tail := by
  cases d with
  | nil => simp at h
  | cons x l => rfl
/-- The axes of an inner product, ahead and behind. -/
def aheadL (d : List Int) : List Int := withoutL d ((d.length : Int) - 1)
def behindL (d : List Int) : List Int := withoutL d 0
theorem ahead_len (d : List Int) : (aheadL d).length ≤ d.length := by
  unfold aheadL withoutL
  split
  · exact List.length_eraseIdx_le _ _
  · exact Nat.le_refl _
theorem behind_len (d : List Int) : (behindL d).length ≤ d.length := by
  unfold behindL withoutL
  split
  · exact List.length_eraseIdx_le _ _
  · exact Nat.le_refl _
def innE (cf : Int) (sf : Bool) (cg : Int) (sg : Bool) (d : List Int) (n : Nat) (d' : List Int) (n' : Nat) : Int :=
  if pfitE d n d' n' [(cf, sf), (cg, sg)] = 0 then (if comB d d' = true then (if comI d d' = 0 ∧ (Sc.trOf cf).starts = false then 5 else if rightB (aheadL d ++ behindL d') = true then 0 else 4) else 3) else pfitE d n d' n' [(cf, sf), (cg, sg)]
/-- Its numbers. -/
def innF (cf : Int) (sf : Bool) (cg : Int) (sg : Bool) (d v d' v' : List Int) (k : Nat) : Int :=
  rowV cf sf (metL cg sg (alongL d v (k / (sizeI (behindL d')).toNat * (comI d d').toNat) 1 (comI d d').toNat) (alongL d' v' (k % (sizeI (behindL d')).toNat) (sizeI (behindL d')).toNat (comI d d').toNat) (comI d d').toNat)
def innV (cf : Int) (sf : Bool) (cg : Int) (sg : Bool) (d v d' v' : List Int) : List Int := (List.range (sizeI (aheadL d ++ behindL d')).toNat).map (innF cf sf cg sg d v d' v')
theorem com_bd {d d' : List Int} (h : rightB d = true) (h' : rightB d' = true) : 0 ≤ comI d d' ∧ comI d d' ≤ 64 := by
  obtain ⟨_, a, _⟩ := rightB_all h
  obtain ⟨_, a', _⟩ := rightB_all h'
  unfold comI
  by_cases h1 : d.length = 0
  · rw [if_pos h1]
    by_cases h2 : d'.length = 0
    · rw [if_pos h2]; omega
    · rw [if_neg h2]; exact okAx_at a' 0 (by omega)
  · rw [if_neg h1]
    have k1 := okAx_at a (d.length - 1) (by omega)
    by_cases h2 : d'.length = 0
    · rw [if_pos h2]; exact k1
    · rw [if_neg h2]
      split
      · exact okAx_at a' 0 (by omega)
      · omega
theorem right_part {a b : List Int} (h : rightB (a ++ b) = true) (hp : 0 < prod (a ++ b)) : rightB a = true ∧ rightB b = true ∧ 0 < prod a ∧ 0 < prod b := by
  obtain ⟨h3, ha, h64⟩ := rightB_all h
  rw [List.all_append, Bool.and_eq_true] at ha
  rw [prod_app] at hp h64
  have pa := (prod_bd a ha.1).1
  have pb := (prod_bd b ha.2).1
  have qa : 0 < prod a := by
    rcases Int.lt_or_eq_of_le pa with k | k
    · exact k
    · rw [← k, Int.zero_mul] at hp; omega
  have qb : 0 < prod b := by
    rcases Int.lt_or_eq_of_le pb with k | k
    · exact k
    · rw [← k, Int.mul_zero] at hp; omega
  have la : prod a ≤ 64 := Int.le_trans (by have := Int.mul_le_mul_of_nonneg_left (show (1 : Int) ≤ prod b by omega) pa; rw [Int.mul_one] at this; exact this) h64
  have lb : prod b ≤ 64 := Int.le_trans (by have := Int.mul_le_mul_of_nonneg_right (show (1 : Int) ≤ prod a by omega) pb; rw [Int.one_mul] at this; exact this) h64
  rw [List.length_append] at h3
  exact ⟨rightB_mk (by omega) ha.1 la, rightB_mk (by omega) ha.2 lb, qa, qb⟩
/-- Where the result has numbers, the lines lie within both cells. -/
theorem inner_lines {d d' : List Int} {n n' : Nat} (h1 : cellB d n = true) (h2 : cellB d' n' = true) (hC : comB d d' = true) (hR : rightB (aheadL d ++ behindL d') = true) {k : Nat} (hk : k < (sizeI (aheadL d ++ behindL d')).toNat) :
    0 < (sizeI (behindL d')).toNat ∧ (d.length = 0 → 0 < n) ∧ (0 < d.length → ∀ i, i < (comI d d').toNat → k / (sizeI (behindL d')).toNat * (comI d d').toNat + i * 1 < n) ∧ (d'.length = 0 → 0 < n') ∧ (0 < d'.length → ∀ i, i < (comI d d').toNat → k % (sizeI (behindL d')).toNat + i * (sizeI (behindL d')).toNat < n') := by
  obtain ⟨r1, p1, m1⟩ := cell_prod h1
  obtain ⟨r2, p2, m2⟩ := cell_prod h2
  have eN : sizeI (aheadL d ++ behindL d') = prod (aheadL d ++ behindL d') := by simp [sizeI, hR]
  rw [eN] at hk
  obtain ⟨ra, rb, qa, qb⟩ := right_part hR (by omega)
  rw [prod_app] at hk
  have eW : sizeI (behindL d') = prod (behindL d') := by simp [sizeI, rb]
  obtain ⟨W, hW⟩ : ∃ W : Nat, prod (behindL d') = W := ⟨(prod (behindL d')).toNat, by omega⟩
  obtain ⟨Q, hQ⟩ : ∃ Q : Nat, prod (aheadL d) = Q := ⟨(prod (aheadL d)).toNat, by omega⟩
  obtain ⟨L, hL⟩ : ∃ L : Nat, comI d d' = L := ⟨(comI d d').toNat, by have := com_bd r1 r2; omega⟩
  rw [hW, hQ] at hk
  rw [← Int.natCast_mul, Int.toNat_natCast] at hk
  have w0 : 0 < W := by omega
  rw [eW, hW, hL]
  simp only [Int.toNat_natCast]
  have hkq : k / W < Q := Nat.div_lt_of_lt_mul (by rw [Nat.mul_comm]; exact hk)
  have hkw : k % W < W := Nat.mod_lt k w0
  refine ⟨w0, fun h => ?_, fun h i hi => ?_, fun h => ?_, fun h i hi => ?_⟩
  · obtain rfl := List.eq_nil_of_length_eq_zero h
    rw [prod_nil] at p1; omega
  · have e1 : prod d = prod (aheadL d) * lastD d := by
      conv => lhs; rw [last_app h]
      rw [prod_snoc]
      unfold aheadL
      rw [without_last h]
    have e2 : lastD d = L := by
      rw [← hL]
      unfold comI
      rw [if_neg (by omega)]
      by_cases h' : d'.length = 0
      · rw [if_pos h']
      · rw [if_neg h']
        unfold comB at hC
        have i1 : d.isEmpty = false := by cases d <;> simp_all
        have i2 : d'.isEmpty = false := by cases d' <;> simp_all
        rw [i1, i2] at hC
        have e3 : lastD d = headD d' := by simpa using hC
        rw [if_pos e3, e3]
    rw [e1, hQ, e2, ← Int.natCast_mul] at p1
    have hn : n = Q * L := by omega
    rw [hn, Nat.mul_one]
    have := Nat.mul_le_mul_right L (show k / W + 1 ≤ Q by omega)
    rw [Nat.succ_mul] at this
    omega
  · obtain rfl := List.eq_nil_of_length_eq_zero h
    rw [prod_nil] at p2; omega
  · have e1 : prod d' = headD d' * prod (behindL d') := by
      conv => lhs; rw [head_app h]
      rw [prod_cons]
      unfold behindL
      rw [without_first h]
    have e2 : headD d' = L := by
      rw [← hL]
      unfold comI
      by_cases h' : d.length = 0
      · rw [if_pos h', if_neg (by omega)]
      · rw [if_neg h', if_neg (by omega)]
        unfold comB at hC
        have i1 : d.isEmpty = false := by cases d <;> simp_all
        have i2 : d'.isEmpty = false := by cases d' <;> simp_all
        rw [i1, i2] at hC
        have e3 : lastD d = headD d' := by simpa using hC
        rw [if_pos e3]
    rw [e1, hW, e2, ← Int.natCast_mul] at p2
    have hn : n' = L * W := by omega
    rw [hn]
    have := Nat.mul_le_mul_right W (show i + 1 ≤ L by omega)
    rw [Nat.succ_mul] at this
    omega
section
variable (cf : Int) (sf : Bool) (cg : Int) (sg : Bool) (A : Option Addr) (c1 : Nat) (d : List Int) (B : Option Addr) (c2 : Nat) (v : List Int) (A' : Option Addr) (c1' : Nat) (d' : List Int) (B' : Option Addr) (c2' : Nat) (v' : List Int) (w : World)
theorem inner_any (hT : Sc.Tab w) (id : Ints w A d) (id' : Ints w A' d') (hd : d.length ≤ 40) (hd' : d'.length ≤ 40) (rv : AllR v) (rv' : AllR v') (iv : Ints w B v) (iv' : Ints w B' v') (E : Int) (hE : innE cf sf cg sg d v.length d' v'.length = E) :
    Calls Tryd.prog 12 #[.agg #[.int .i64 cf, .bool sf], .agg #[.int .i64 cg, .bool sg], .agg #[.slice A d.length c1, .slice B v.length c2], .agg #[.slice A' d'.length c1', .slice B' v'.length c2']] w (RetCI w (if E = 0 then aheadL d ++ behindL d' else []) (if E = 0 then innV cf sf cg sg d v d' v' else []) (.int .i64 E)) := by
  unfold innE at hE
  by_cases h : pfitE d v.length d' v'.length [(cf, sf), (cg, sg)] = 0
  · rw [if_pos h] at hE
    obtain ⟨h1, h2, h3⟩ := pfit_cells h
    obtain ⟨r1, p1, m1⟩ := cell_prod h1
    obtain ⟨r2, p2, m2⟩ := cell_prod h2
    have cb := com_bd r1 r2
    obtain ⟨L, hL⟩ : ∃ L : Nat, comI d d' = L := ⟨(comI d d').toNat, by omega⟩
    have hLm : L ≤ 64 := by omega
    by_cases hC : comB d d' = true
    · rw [if_pos hC] at hE
      by_cases h5 : comI d d' = 0 ∧ (Sc.trOf cf).starts = false
      · rw [if_pos h5] at hE
        subst hE
        rw [if_neg (by decide), if_neg (by decide)]
        exact inner_5 cf sf cg sg A c1 d B c2 v A' c1' d' B' c2' v' w hT id id' hd hd' h hC h5.1 h5.2
      · rw [if_neg h5] at hE
        have hLZ : ((L : Int) == 0) = false ∨ (((L : Int) == 0) = true ∧ (Sc.trOf cf).starts = true) := by
          by_cases h0 : (L : Int) = 0
          · right
            refine ⟨by simp [h0], ?_⟩
            cases hs : (Sc.trOf cf).starts with
            | true => rfl
            | false => exact absurd ⟨by rw [hL]; exact h0, hs⟩ h5
          · left; simpa using h0
        have ha := ahead_len d
        have hb := behind_len d'
        by_cases hR : rightB (aheadL d ++ behindL d') = true
        · rw [if_pos hR] at hE
          subst hE
          rw [if_pos rfl, if_pos rfl]
          have hw := sizeI_bd (behindL d')
          obtain ⟨W, hW⟩ : ∃ W : Nat, sizeI (behindL d') = W := ⟨(sizeI (behindL d')).toNat, by omega⟩
          have hNb := sizeI_bd (aheadL d ++ behindL d')
          obtain ⟨N, hN⟩ : ∃ N, (sizeI (aheadL d ++ behindL d')).toNat = N := ⟨_, rfl⟩
          have il := fun k (hk : k < N) => inner_lines h1 h2 hC hR (k := k) (by rw [hN]; exact hk)
          simp only [hW, hL, Int.toNat_natCast] at il
          have key := inner_0 cf sf cg sg A c1 d B c2 v A' c1' d' B' c2' v' w hT id id' hd hd' h L _ hC hL rfl hLZ (aheadL d) (behindL d') rfl rfl (by omega) (by omega) hR N W hN hW (innF cf sf cg sg d v d' v') (fun k hk => by unfold innF; rw [hW, hL]; simp only [Int.toNat_natCast]) hLm m1 m2 (by omega) (fun h0 => (il 0 h0).1) (by omega) (fun k hk => ⟨(il k hk).2.1, (il k hk).2.2.1⟩) (fun k hk => ⟨(il k hk).2.2.2.1, (il k hk).2.2.2.2⟩) rv rv' iv iv'
          rw [fillK_n] at key
          unfold innV
          rw [hN]
          exact key
        · rw [if_neg hR] at hE
          subst hE
          rw [if_neg (by decide), if_neg (by decide)]
          exact inner_4 cf sf cg sg A c1 d B c2 v A' c1' d' B' c2' v' w hT id id' hd hd' h L _ hC hL rfl hLZ (aheadL d) (behindL d') rfl rfl (by omega) (by omega) (by simpa using hR)
    · rw [if_neg hC] at hE
      subst hE
      rw [if_neg (by decide), if_neg (by decide)]
      exact inner_3 cf sf cg sg A c1 d B c2 v A' c1' d' B' c2' v' w hT id id' hd hd' h _ (by simpa using hC) rfl
  · rw [if_neg h] at hE
    have hE0 : E ≠ 0 := by rw [← hE]; exact h
    rw [if_neg hE0, if_neg hE0]
    exact inner_e cf sf cg sg A c1 d B c2 v A' c1' d' B' c2' v' w hT id id' hd hd' E hE hE0
end
end Go.Proofs.YtbanegjmapgkdaaDoor.Pr
