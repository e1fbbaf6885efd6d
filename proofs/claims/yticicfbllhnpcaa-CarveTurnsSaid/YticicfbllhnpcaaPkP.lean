/-
  What Copy answers, as a function of the two cells, and that the document's way, place by place, tells the same numbers. No condition; a row of the call's own under a store. Nothing of the program is walked here. What the program's Copy answers for any two cells, in one sentence; nothing that was there is written. Condition: at most 100 axes and 1000 numbers, and the room of the second cell's numbers is one that can be. What the document's Copy answers for any two cells; nothing that was there is written. Condition: at most 100 axes and 1000 numbers.
-/
import Derived.Test.YticicfbllhnpcaaPkM
import Derived.Test.YticicfbllhnpcaaPkO
import Derived.Test.YticicfbllhnpcaaPkN
import Derived.Test.YticicfbllhnpcaaPkC
import Derived.Deep.QuietTactic
import Derived.BigQuiet
import Derived.IntWalk
set_option maxRecDepth 100000
-- MoCpy
namespace Go.Proofs.Yticicfbllhnpcaa.Sh
open Go.RowKit
set_option linter.unusedVariables false

theorem MineT.has {t : TypeId} {w : World} {base : Nat} {A : Option Addr} {n c : Nat} {xs : List Int} (h : MineT t w base (.slice A n c) xs) (hp : 0 < xs.length) :
    ∃ g, A = some ⟨g, 0, none⟩ ∧ base ≤ g ∧ g < w.heap.size ∧ (∀ i, w.frozen? ⟨g, i, none⟩ = false) ∧ ∀ i, i < xs.length → w.cell? ⟨g, i, none⟩ = some (.int .i64 (xs.getD i 0)) := by
  have hi := h.ints'
  obtain ⟨b, off, rfl, hb, hc⟩ := hi hp
  obtain ⟨h1, h2⟩ := h
  rcases h2 with ⟨e, h0⟩ | ⟨g, cap, cur, e, hg, hh, h3, h4, h5, h6⟩
  · cases e
  · injection e with e1 e2 e3
    injection e1 with e1
    injection e1 with e4 e5
    subst e4 e5
    exact ⟨b, rfl, hg, hb, fun i => by simp [World.frozen?, hh], fun i hi => by have := hc i hi; rwa [Nat.zero_add] at this⟩
theorem MineT.set_ {t : TypeId} {w : World} {base : Nat} {g n c : Nat} {xs : List Int} (h : MineT t w base (.slice (some ⟨g, 0, none⟩) n c) xs) (i : Nat) (x : Int) (hi : i < xs.length) : MineT t (w.setCell ⟨g, i, none⟩ (.int .i64 x)) base (.slice (some ⟨g, 0, none⟩) n c) (xs.set i x) := by
  obtain ⟨h1, h2⟩ := h
  refine ⟨by simp at h1 ⊢, ?_⟩
  rcases h2 with ⟨e, h0⟩ | ⟨g', cap, cur, e, hg, hh, h3, h4, h5, h6⟩
  · cases e
  · injection e with e1 e2 e3
    injection e1 with e1
    injection e1 with e4 e5
    subst e4 e2 e3
    refine Or.inr ⟨g, c, cur.set! i (.int .i64 x), by simp, hg, ?_, by simpa using h3, h4, by simpa using h5, ?_⟩
    · simp [World.setCell, Array.getElem?_modify, hh]
    · rw [List.length_set, Array.set!_eq_setIfInBounds, Array.toList_setIfInBounds, List.take_set, h6, List.map_set]

/-- The axis that is meant. -/
def cA (e : List Int) (b : Bool) : Nat := if b = true then 0 else (listedL e).length - 1
def cP (e : List Int) (b : Bool) : Int := (listedL e).getD (cA e b) 0
def cT (d v e : List Int) (b : Bool) : List Int := timesL d v (cP e b).toNat
def cDim (d v e : List Int) (b : Bool) : List Int := withL (listedL e) (cA e b : Int) (sumL (cT d v e b))
def cS (e : List Int) (b : Bool) : Nat := (prod ((listedL e).drop (cA e b + 1))).toNat
/-- What Copy answers. -/
def cpE (d v e u : List Int) (b : Bool) : Int := if cellB d v.length = true ∧ cellB e u.length = true then (if d.length ≤ 1 then (if d.length = 1 ∧ ¬ d.getD 0 0 = cP e b then 3 else if negB v = true then 5 else if rightB (cDim d v e b) = true then 0 else 4) else 2) else 1
def cpD (d v e u : List Int) (b : Bool) : List Int := if cpE d v e u b = 0 then cDim d v e b else []
def cpV (d v e u : List Int) (b : Bool) : List Int := if cpE d v e u b = 0 then copV u (cS e b) (cT d v e b) else []
section
variable {d v e u : List Int} {b : Bool}
theorem cp_1 (h : cellB d v.length = false) : cpE d v e u b = 1 ∧ cpD d v e u b = [] ∧ cpV d v e u b = [] := by
  have : cpE d v e u b = 1 := by simp [cpE, h]
  simp [cpD, cpV, this]
theorem cp_1' (h : cellB e u.length = false) : cpE d v e u b = 1 ∧ cpD d v e u b = [] ∧ cpV d v e u b = [] := by
  have : cpE d v e u b = 1 := by simp [cpE, h]
  simp [cpD, cpV, this]
theorem cp_2 (h1 : cellB d v.length = true) (h2 : cellB e u.length = true) (h : ¬ d.length ≤ 1) : cpE d v e u b = 2 ∧ cpD d v e u b = [] ∧ cpV d v e u b = [] := by
  have : cpE d v e u b = 2 := by unfold cpE; rw [if_pos ⟨h1, h2⟩, if_neg h]
  simp [cpD, cpV, this]
theorem cp_3 (h1 : cellB d v.length = true) (h2 : cellB e u.length = true) (h3 : d.length ≤ 1) (h : d.length = 1 ∧ ¬ d.getD 0 0 = cP e b) : cpE d v e u b = 3 ∧ cpD d v e u b = [] ∧ cpV d v e u b = [] := by
  have : cpE d v e u b = 3 := by unfold cpE; rw [if_pos ⟨h1, h2⟩, if_pos h3, if_pos h]
  simp [cpD, cpV, this]
theorem cp_5 (h1 : cellB d v.length = true) (h2 : cellB e u.length = true) (h3 : d.length ≤ 1) (h4 : ¬ (d.length = 1 ∧ ¬ d.getD 0 0 = cP e b)) (h : negB v = true) : cpE d v e u b = 5 ∧ cpD d v e u b = [] ∧ cpV d v e u b = [] := by
  have : cpE d v e u b = 5 := by unfold cpE; rw [if_pos ⟨h1, h2⟩, if_pos h3, if_neg h4, if_pos h]
  simp [cpD, cpV, this]
theorem cp_4 (h1 : cellB d v.length = true) (h2 : cellB e u.length = true) (h3 : d.length ≤ 1) (h4 : ¬ (d.length = 1 ∧ ¬ d.getD 0 0 = cP e b)) (h5 : negB v = false) (h : rightB (cDim d v e b) = false) : cpE d v e u b = 4 ∧ cpD d v e u b = [] ∧ cpV d v e u b = [] := by
  have : cpE d v e u b = 4 := by unfold cpE; rw [if_pos ⟨h1, h2⟩, if_pos h3, if_neg h4, h5, if_neg (by simp), h, if_neg (by simp)]
  simp [cpD, cpV, this]
theorem cp_0 (h1 : cellB d v.length = true) (h2 : cellB e u.length = true) (h3 : d.length ≤ 1) (h4 : ¬ (d.length = 1 ∧ ¬ d.getD 0 0 = cP e b)) (h5 : negB v = false) (h : rightB (cDim d v e b) = true) : cpE d v e u b = 0 ∧ cpD d v e u b = cDim d v e b ∧ cpV d v e u b = copV u (cS e b) (cT d v e b) := by
  have : cpE d v e u b = 0 := by unfold cpE; rw [if_pos ⟨h1, h2⟩, if_pos h3, if_neg h4, h5, if_neg (by simp), h, if_pos rfl]
  simp [cpD, cpV, this]
theorem cA_lt (e : List Int) (b : Bool) : cA e b < (listedL e).length := by
  have := listed_len e
  unfold cA; split <;> omega
theorem cP_nat (h : cellB e u.length = true) : cP e b = ((cP e b).toNat : Int) ∧ (cP e b).toNat ≤ 64 ∧ 0 ≤ cP e b ∧ cP e b ≤ 64 := by
  have hr := listed_right (cellB_parts h).1
  have := okAx_at (rightB_all hr).2.1 (cA e b) (cA_lt e b)
  unfold cP
  omega
theorem d_parts (h1 : cellB d v.length = true) (h3 : d.length ≤ 1) (h4 : ¬ (d.length = 1 ∧ ¬ d.getD 0 0 = cP e b)) : (d.length = 0 ∧ v.length = 1 ∨ d = [cP e b] ∧ (v.length : Int) = cP e b) := by
  have hs := (cellB_parts h1).2
  match d, h3 with
  | [], _ => left; refine ⟨rfl, ?_⟩; rw [sizeI_mk (by simp) (by simp) (by simp [prod])] at hs; simp [prod] at hs; omega
  | [p], _ =>
    right
    have hp : p = cP e b := by
      by_cases hq : p = cP e b
      · exact hq
      · exact absurd ⟨rfl, by simpa using hq⟩ h4
    subst hp
    refine ⟨rfl, ?_⟩
    have hr := (cellB_parts h1).1
    rw [hs, sizeI, if_pos hr]; simp [prod]
theorem copyOk_of (h1 : cellB d v.length = true) (h2 : cellB e u.length = true) (h3 : d.length ≤ 1) (h4 : ¬ (d.length = 1 ∧ ¬ d.getD 0 0 = cP e b)) (h5 : negB v = false) (h : rightB (cDim d v e b) = true) :
    CopyOk d v e u (cA e b) (cP e b).toNat (cS e b) (sizeI (cDim d v e b)).toNat (listedL e) (cT d v e b) where
  right := h1
  right2 := h2
  rank := h3
  hD := rfl
  ha := cA_lt e b
  hP := (cP_nat (b := b) h2).1
  hlen := by rw [← (cP_nat (b := b) h2).1]; rcases d_parts h1 h3 h4 with h | h; exact Or.inl h.1; exact Or.inr h.1
  neg := h5
  hT := rfl
  hR := h
  hN := by have := sizeI_bd (cDim d v e b); unfold cDim at this ⊢; omega
  hs := by
    have hr := listed_right (cellB_parts h2).1
    have := (prod_bd ((listedL e).drop (cA e b + 1)) (by rw [List.all_eq_true]; intro x hx; exact List.all_eq_true.1 (rightB_all hr).2.1 x (List.mem_of_mem_drop hx))).1
    unfold cS; omega
theorem cT_small (h1 : cellB d v.length = true) (h2 : cellB e u.length = true) (h3 : d.length ≤ 1) (h4 : ¬ (d.length = 1 ∧ ¬ d.getD 0 0 = cP e b)) (h5 : negB v = false) : (cT d v e b).length = (cP e b).toNat ∧ SmallT (cT d v e b) := by
  have := cP_nat (b := b) h2
  rcases d_parts h1 h3 h4 with h | h
  · exact ⟨times_len (Or.inl h.1), times_small (fun _ => h.2) h5⟩
  · exact ⟨times_len (Or.inr (by omega)), times_small (fun h0 => by rw [h.1] at h0; simp at h0) h5⟩
end

/-- The parts that are copied, one behind the other, no more than 65. -/
def frL (T : List Int) (k j : Nat) : List Int := ((seqL T k ++ List.replicate j k).map Int.ofNat).take 65
theorem frL_0 (T : List Int) : frL T 0 0 = [] := rfl
theorem frL_len (T : List Int) (k j : Nat) : (frL T k j).length = min 65 (tot T k + j) := by simp [frL, seqL_len]
theorem frL_more (T : List Int) (k j : Nat) (h : (frL T k j).length < 65) : frL T k (j + 1) = frL T k j ++ [(k : Int)] := by
  rw [frL_len] at h
  have h' : tot T k + j < 65 := by omega
  unfold frL
  rw [List.take_of_length_le (by simp [seqL_len]; omega), List.take_of_length_le (by simp [seqL_len]; omega), List.replicate_succ', ← List.append_assoc, List.map_append]
  rfl
theorem frL_next (T : List Int) (k j : Nat) (hj : j ≤ tk T k) (h : j = tk T k ∨ ¬ (frL T k j).length < 65) : frL T k j = frL T (k + 1) 0 := by
  rcases h with rfl | h
  · simp [frL, seqL]
  · rw [frL_len] at h
    obtain ⟨m, hm⟩ : ∃ m, tk T k = j + m := ⟨tk T k - j, by omega⟩
    have e : (seqL T (k + 1) ++ List.replicate 0 (k + 1)).map Int.ofNat = (seqL T k ++ List.replicate j k).map Int.ofNat ++ (List.replicate m k).map Int.ofNat := by
      rw [seqL, hm, List.replicate_zero, List.append_nil, ← List.map_append, List.append_assoc, List.replicate_append_replicate]
    unfold frL
    rw [e, List.take_append_of_le_length (by simp [seqL_len]; omega)]
theorem frL_all {T : List Int} {S : Nat} (hS : tot T T.length = S) (h : S ≤ 64) : frL T T.length 0 = (seqL T T.length).map Int.ofNat := by
  unfold frL; rw [List.replicate_zero, List.append_nil, List.take_of_length_le (by simp [seqL_len]; omega)]
theorem fr_dim {T D : List Int} {a m : Nat} (hTs : SmallT T) (ha : a < D.length) (hm : (frL T T.length 0).length = m) :
    (rightB (withL D (a : Int) (m : Int)) = rightB (withL D (a : Int) (sumL T))) ∧ (rightB (withL D (a : Int) (sumL T)) = true → (m : Int) = sumL T) := by
  have hS : (tot T T.length : Int) = sumL T := by have := tot_sum hTs T.length (Nat.le_refl _); rwa [List.take_length] at this
  rw [frL_len] at hm
  by_cases h : tot T T.length ≤ 64
  · have e : (m : Int) = sumL T := by omega
    rw [e]; exact ⟨rfl, fun _ => rfl⟩
  · have bad : ∀ x : Int, 64 < x → rightB (withL D (a : Int) x) = false := fun x hx => by
      rw [withL_at D a ha]
      refine rightB_bad (k := a) (by simp; omega) ?_
      rw [get_mid _ _ _ (by simp; omega)]
      simp [okAx]; omega
    rw [bad m (by omega), bad (sumL T) (by omega)]
    exact ⟨rfl, fun h => by cases h⟩
theorem tk_is {d v : List Int} {P k : Nat} (hk : k < P) (h : d.length = 0 ∨ v.length = P ∧ ¬ d.length = 0) : tk (timesL d v P) k = (len65 (if d.length = 0 then v.getD 0 0 else v.getD k 0)).toNat := by
  unfold tk timesL
  rcases h with h | ⟨h1, h2⟩
  · rw [if_pos h, if_pos h]
    simp [List.getD, Nat.mod_eq_of_lt hk, hk]
  · rw [if_neg h2, if_neg h2]
    simp [lensL, h1, Nat.mod_eq_of_lt hk, List.getD, hk]
theorem eq_map_of {l : List Int} {N : Nat} {f : Nat → Int} (h : l.length = N) (hf : ∀ i, i < N → l.getD i 0 = f i) : l = (List.range N).map f := by
  apply List.ext_getElem (by simp [h])
  intro i h1 h2
  have := hf i (by omega)
  simp only [List.getD] at this
  rw [List.getElem?_eq_getElem h1] at this
  simpa using this
/-- The number at a place of a cell, by the place's number. -/
theorem atI_hor {D u p : List Int} (h : cellB D u.length = true) (hp : inB D p = true) : atI D u p = u.getD (hor D p 0).toNat 0 := by
  have hi : idxI D p = hor D p 0 := by unfold idxI; rw [if_pos ⟨(cellB_parts h).1, hp⟩]
  have h0 := (hor_bd D p hp).1
  rw [(atB_is h (by rw [hi]; exact h0)).2, hi]
theorem copV_is {d v e u : List Int} {a P s N : Nat} {D T : List Int} (ok : CopyOk d v e u a P s N D T) :
    copV u s T = (List.range N).map (fun i : Nat => atI D u ((dg (withL D (a : Int) (sumL T)) i).set a ((frL T T.length 0).getD ((dg (withL D (a : Int) (sumL T)) i).getD a 0).toNat 0))) := by
  obtain ⟨hTl, hTs, hP64, hDr, hD3, hu64, hv64, hN64, hS0⟩ := ok.small
  have hroom := ok.room
  have hS : (tot T T.length : Int) = sumL T := by have := tot_sum hTs T.length (Nat.le_refl _); rwa [List.take_length] at this
  have hR := rightB_all ok.hR
  have hw := withL_at D a ok.ha (sumL T)
  have hc : cellB D u.length = true := by
    have := cellB_parts ok.right2
    rw [← ok.hD]
    unfold cellB
    rw [listed_right this.1, listed_size this.1, this.2]; simp
  generalize hX : D.take a = X at *
  generalize hY : D.drop (a + 1) = Y at *
  have hDs : D = X ++ (P : Int) :: Y := by have := split_at D a ok.ha; rwa [hX, hY, ok.hP] at this
  have hXl : X.length = a := by rw [← hX, List.length_take]; have := ok.ha; omega
  have hsY : prod Y = (s : Int) := by rw [← hY]; exact ok.hs
  have hul : (u.length : Int) = prod X * (P * s) := by
    have := (cellB_parts hc).2
    rw [this, sizeI, if_pos hDr]
    conv => lhs; rw [hDs]
    rw [prod_append, prod_cons, hsY]
  have hNS : (N : Int) = prod X * (sumL T * s) := by
    rw [← ok.hN, sizeI, if_pos ok.hR, hw, prod_append, prod_cons, hsY]
  have hX0 : 0 ≤ prod X := (prod_bd X (by rw [← hX, List.all_eq_true]; intro x hx; exact List.all_eq_true.1 (rightB_all hDr).2.1 x (List.mem_of_mem_take hx))).1
  obtain ⟨A, hA⟩ : ∃ A : Nat, prod X = A := ⟨(prod X).toNat, by omega⟩
  by_cases hs : s = 0
  · subst hs
    have : N = 0 := by simp at hNS; omega
    subst this
    simp [copV]
  · rcases hroom with ⟨hr1, hr2, hr3⟩ | ⟨h0, _⟩
    · have hul2 : u.length = A * T.length * s := by
        rw [hA] at hul
        have : (u.length : Int) = ((A * T.length * s : Nat) : Int) := by rw [hul, hTl]; push_cast; rw [Int.mul_assoc]
        omega
      have hN2 : N = A * tot T T.length * s := by
        rw [hA, ← hS] at hNS
        have : (N : Int) = ((A * tot T T.length * s : Nat) : Int) := by rw [hNS]; push_cast; rw [Int.mul_assoc]
        omega
      have hdiv : u.length / s = A * T.length := by rw [hul2]; exact Nat.mul_div_cancel _ (by omega)
      apply eq_map_of
      · unfold copV; rw [if_neg hs, cpL_len T (by rw [← hr1]; exact Nat.le_refl _), hr2]
      · intro i hi
        unfold copV
        rw [if_neg hs, hdiv]
        obtain ⟨j, hj1, hj2, hj3⟩ := cpL_at (u := u) (s := s) (A := A) (T := T) (by omega) hul2 i (by omega)
        rw [hj3]
        have hpos : posL (X ++ sumL T :: Y) := by
          refine posL_of (by rw [← hw]; exact hR.2.1) ?_
          rw [prod_append, prod_cons, hsY, ← hNS]; omega
        obtain ⟨pX, pSY⟩ := posL_append hpos
        have pY := posL_tail pSY
        have pS : 1 ≤ sumL T := pSY _ (by simp)
        rw [hw, dg_one' (by rw [hsY]; omega) (by omega)]
        have e1 : ((i : Int) / prod Y % sumL T) = ((i / s % tot T T.length : Nat) : Int) := by rw [hsY, ← hS]; push_cast; rfl
        rw [get_mid _ _ _ (by rw [dg_length, hXl]), set_mid _ _ _ _ (by rw [dg_length, hXl]), e1, Int.toNat_natCast]
        have hS64 : tot T T.length ≤ 64 := by
          have := okAx_at hR.2.1 a (by rw [hw]; simp; omega)
          rw [hw, get_mid _ _ _ hXl] at this
          omega
        have e2 : (frL T T.length 0).getD (i / s % tot T T.length) 0 = (j : Int) := by
          rw [frL_all rfl hS64]
          simp [List.getD, hj1]
        rw [e2]
        have hin : inB D (dg X ((i : Int) / (sumL T * prod Y)) ++ (j : Int) :: dg Y i) = true := by
          rw [hDs, inB_append _ _ _ _ (dg_length _ _), dg_in pX]
          simp only [inB, dg_in pY, Bool.and_true, Bool.true_and]
          simp; omega
        rw [atI_hor hc hin]
        have hh : hor D (dg X ((i : Int) / (sumL T * prod Y)) ++ (j : Int) :: dg Y i) 0 = (((i / s / tot T T.length * T.length + j) * s + i % s : Nat) : Int) := by
          rw [hDs, hor_one pX pY pS (by omega) (by rw [prod_append, prod_cons, hsY, ← hNS]; omega), hsY, ← hS, hTl]
          push_cast
          rw [Int.mul_comm (tot T P : Int) (s : Int), ← Int.ediv_ediv_of_nonneg (by omega)]
        rw [hh, Int.toNat_natCast]
    · exact absurd h0 hs
theorem rat_n (A : Option Addr) (c : Nat) (d : List Int) (B : Option Addr) (c2 : Nat) (v : List Int) (C : Option Addr) (n c3 : Nat) (p : List Int) (x : Int) (w : World) (hn : p.length = n) (hx : atI d v p = x)
    (hd : d.length ≤ 100) (hv : v.length ≤ 1000) (hp : n ≤ 100) (id : Ints w A d) (iv : Ints w B v) (ip : Ints w C p) :
    Calls Try.prog 34 #[.agg #[.slice A d.length c, .slice B v.length c2], .slice C n c3] w fun r w' => ∃ t : Bool, r = .returned (.tuple #[.int .i64 x, .bool t]) ∧ Below w.heap.size w w' := by
  subst hn hx
  exact (rat_any A c d B c2 v C c3 p w (by unfold maxLen; omega) (by unfold maxLen; omega) (by unfold maxLen; omega) id iv ip).mono fun r w' ⟨h1, h2⟩ => ⟨_, h1, h2⟩
end Go.Proofs.Yticicfbllhnpcaa.Sh
-- MoCopyA
namespace Go.Proofs.Yticicfbllhnpcaa.Sh
open Go.RowKit
set_option linter.unusedVariables false

theorem cA_true (e : List Int) : cA e true = 0 := rfl
theorem cA_false (e : List Int) : cA e false + 1 = (listedL e).length := by have := listed_len e; simp only [cA]; rw [if_neg (by simp)]; omega
theorem cpD_len {d v e u : List Int} {b : Bool} : (cpD d v e u b).length ≤ 3 := by
  unfold cpD; split
  · rename_i h
    have hr : rightB (cDim d v e b) = true := by
      unfold cpE at h
      split at h
      · split at h
        · split at h
          · omega
          · split at h
            · omega
            · split at h
              · assumption
              · omega
        · omega
      · omega
    exact (rightB_all hr).1
  · simp
theorem cpV_len {d v e u : List Int} {b : Bool} : (cpV d v e u b).length ≤ 64 := by
  by_cases h : cpE d v e u b = 0
  · by_cases h1 : cellB d v.length = true ∧ cellB e u.length = true
    · by_cases h3 : d.length ≤ 1
      · by_cases h4 : d.length = 1 ∧ ¬ d.getD 0 0 = cP e b
        · rw [(cp_3 h1.1 h1.2 h3 h4).2.2]; simp
        · by_cases h5 : negB v = true
          · rw [(cp_5 h1.1 h1.2 h3 h4 h5).2.2]; simp
          · have h5' : negB v = false := by simpa using h5
            by_cases h6 : rightB (cDim d v e b) = true
            · rw [(cp_0 h1.1 h1.2 h3 h4 h5' h6).2.2, copV_is (copyOk_of h1.1 h1.2 h3 h4 h5' h6)]
              have := sizeI_bd (cDim d v e b)
              simp; omega
            · rw [(cp_4 h1.1 h1.2 h3 h4 h5' (by simpa using h6)).2.2]; simp
      · rw [(cp_2 h1.1 h1.2 h3).2.2]; simp
    · unfold cpV; rw [if_neg (by unfold cpE; rw [if_neg h1]; omega)]; simp
  · unfold cpV; rw [if_neg h]; simp
end Go.Proofs.Yticicfbllhnpcaa.Sh
-- MoRCopy
namespace Go.Proofs.Yticicfbllhnpcaa.Sh
open Go.RowKit
set_option linter.unusedVariables false

end Go.Proofs.Yticicfbllhnpcaa.Sh
