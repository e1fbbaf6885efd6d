/-
  What Copy answers, as a function of the two cells, and that the document's way, place by place, tells the same numbers. No condition; a row of the call's own under a store. Nothing of the program is walked here. What the program's Copy answers for any two cells, in one sentence; nothing that was there is written. Condition: at most 100 axes and 1000 numbers, and the room of the second cell's numbers is one that can be. What the document's Copy answers for any two cells; nothing that was there is written. Condition: at most 100 axes and 1000 numbers.
-/
import Derived.Test.YtfnpdflapmbnjaaPkM
import Derived.Test.YtfnpdflapmbnjaaPkO
import Derived.Test.YtfnpdflapmbnjaaPkN
import Derived.Test.YtfnpdflapmbnjaaPkC
import Derived.Deep.QuietTactic
import Derived.BigQuiet
import Derived.IntWalk
-- MoCpy
namespace Go.Proofs.Ytfnpdflapmbnjaa.Sh
open Go.RowKit
set_option linter.unusedVariables false

theorem MineT.has {t : TypeId} {w : World} {base : Nat} {A : Option Addr} {n c : Nat} {xs : List Int} (h : MineT t w base (.slice A n c) xs) (hp : 0 < xs.length) :
    ∃ g, A = some ⟨g, 0, none⟩ ∧ base ≤ g ∧ g < w.heap.size ∧ (∀ i, w.frozen? ⟨g, i, none⟩ = false) ∧ ∀ i, i < xs.length → w.cell? ⟨g, i, none⟩ = some (.int .i64 (xs.getD i 0)) := by
  have hi := h.ints'
  obtain ⟨b, off, rfl, hb, hc⟩ := hi hp
  obtain ⟨h1, h2⟩ := h
  rcases h2 with ⟨e, h0⟩ | ⟨g, cap, cur, e, hg, hh, h3, h4, h5, h6⟩
  · cases e
  · injection e with e1 e2 e3
    injection e1 with e1
    injection e1 with e4 e5
    subst e4 e5
    exact ⟨b, rfl, hg, hb, fun i => by simp [World.frozen?, hh], fun i hi => by have := hc i hi; rwa [Nat.zero_add] at this⟩
theorem MineT.set_ {t : TypeId} {w : World} {base : Nat} {g n c : Nat} {xs : List Int} (h : MineT t w base (.slice (some ⟨g, 0, none⟩) n c) xs) (i : Nat) (x : Int) (hi : i < xs.length) : MineT t (w.setCell ⟨g, i, none⟩ (.int .i64 x)) base (.slice (some ⟨g, 0, none⟩) n c) (xs.set i x) := by
  obtain ⟨h1, h2⟩ := h
  refine ⟨by simp at h1 ⊢, ?_⟩
  rcases h2 with ⟨e, h0⟩ | ⟨g', cap, cur, e, hg, hh, h3, h4, h5, h6⟩
  · cases e
  · injection e with e1 e2 e3
    injection e1 with e1
    injection e1 with e4 e5
    subst e4 e2 e3
    refine Or.inr ⟨g, c, cur.set! i (.int .i64 x), by simp, hg, ?_, by simpa using h3, h4, by simpa using h5, ?_⟩
    · simp [World.setCell, Array.getElem?_modify, hh]
    · rw [List.length_set, Array.set!_eq_setIfInBounds, Array.toList_setIfInBounds, List.take_set, h6, List.map_set]

/-- The axis that is meant. -/
def cA (e : List Int) (b : Bool) : Nat := if b = true then 0 else (listedL e).length - 1
def cP (e : List Int) (b : Bool) : Int := (listedL e).getD (cA e b) 0
def cT (d v e : List Int) (b : Bool) : List Int := timesL d v (cP e b).toNat
def cDim (d v e : List Int) (b : Bool) : List Int := withL (listedL e) (cA e b : Int) (sumL (cT d v e b))
def cS (e : List Int) (b : Bool) : Nat := (prod ((listedL e).drop (cA e b + 1))).toNat
/-- What Copy answers. -/
def cpE (d v e u : List Int) (b : Bool) : Int := if cellB d v.length = true ∧ cellB e u.length = true then (if d.length ≤ 1 then (if d.length = 1 ∧ ¬ d.getD 0 0 = cP e b then 3 else if negB v = true then 5 else if rightB (cDim d v e b) = true then 0 else 4) else 2) else 1
def cpD (d v e u : List Int) (b : Bool) : List Int := if cpE d v e u b = 0 then cDim d v e b else []
def cpV (d v e u : List Int) (b : Bool) : List Int := if cpE d v e u b = 0 then copV u (cS e b) (cT d v e b) else []
section
variable {d v e u : List Int} {b : Bool}
theorem cp_1 (h : cellB d v.length = false) : cpE d v e u b = 1 ∧ cpD d v e u b = [] ∧ cpV d v e u b = [] := by
  have : cpE d v e u b = 1 := by simp [cpE, h]
  simp [cpD, cpV, this]
theorem cp_1' (h : cellB e u.length = false) : cpE d v e u b = 1 ∧ cpD d v e u b = [] ∧ cpV d v e u b = [] := by
  have : cpE d v e u b = 1 := by simp [cpE, h]
  simp [cpD, cpV, this]
theorem cp_2 (h1 : cellB d v.length = true) (h2 : cellB e u.length = true) (h : ¬ d.length ≤ 1) : cpE d v e u b = 2 ∧ cpD d v e u b = [] ∧ cpV d v e u b = [] := by
  have : cpE d v e u b = 2 := by unfold cpE; rw [if_pos ⟨h1, h2⟩, if_neg h]
  simp [cpD, cpV, this]
theorem cp_3 (h1 : cellB d v.length = true) (h2 : cellB e u.length = true) (h3 : d.length ≤ 1) (h : d.length = 1 ∧ ¬ d.getD 0 0 = cP e b) : cpE d v e u b = 3 ∧ cpD d v e u b = [] ∧ cpV d v e u b = [] := by
  have : cpE d v e u b = 3 := by unfold cpE; rw [if_pos ⟨h1, h2⟩, if_pos h3, if_pos h]
  simp [cpD, cpV, this]
theorem cp_5 (h1 : cellB d v.length = true) (h2 : cellB e u.length = true) (h3 : d.length ≤ 1) (h4 : ¬ (d.length = 1 ∧ ¬ d.getD 0 0 = cP e b)) (h : negB v = true) : cpE d v e u b = 5 ∧ cpD d v e u b = [] ∧ cpV d v e u b = [] := by
  have : cpE d v e u b = 5 := by unfold cpE; rw [if_pos ⟨h1, h2⟩, if_pos h3, if_neg h4, if_pos h]
  simp [cpD, cpV, this]
theorem cp_4 (h1 : cellB d v.length = true) (h2 : cellB e u.length = true) (h3 : d.length ≤ 1) (h4 : ¬ (d.length = 1 ∧ ¬ d.getD 0 0 = cP e b)) (h5 : negB v = false) (h : rightB (cDim d v e b) = false) : cpE d v e u b = 4 ∧ cpD d v e u b = [] ∧ cpV d v e u b = [] := by
  have : cpE d v e u b = 4 := by unfold cpE; rw [if_pos ⟨h1, h2⟩, if_pos h3, if_neg h4, h5, if_neg (by simp), h, if_neg (by simp)]
  simp [cpD, cpV, this]
theorem cp_0 (h1 : cellB d v.length = true) (h2 : cellB e u.length = true) (h3 : d.length ≤ 1) (h4 : ¬ (d.length = 1 ∧ ¬ d.getD 0 0 = cP e b)) (h5 : negB v = false) (h : rightB (cDim d v e b) = true) : cpE d v e u b = 0 ∧ cpD d v e u b = cDim d v e b ∧ cpV d v e u b = copV u (cS e b) (cT d v e b) := by
  have : cpE d v e u b = 0 := by unfold cpE; rw [if_pos ⟨h1, h2⟩, if_pos h3, if_neg h4, h5, if_neg (by simp), h, if_pos rfl]
  simp [cpD, cpV, this]
theorem cA_lt (e : List Int) (b : Bool) : cA e b < (listedL e).length := by
  have := listed_len e
  unfold cA; split <;> omega
theorem cP_nat (h : cellB e u.length = true) : cP e b = ((cP e b).toNat : Int) ∧ (cP e b).toNat ≤ 64 ∧ 0 ≤ cP e b ∧ cP e b ≤ 64 := by
  have hr := listed_right (cellB_parts h).1
  have := okAx_at (rightB_all hr).2.1 (cA e b) (cA_lt e b)
  unfold cP
  omega
theorem d_parts (h1 : cellB d v.length = true) (h3 : d.length ≤ 1) (h4 : ¬ (d.length = 1 ∧ ¬ d.getD 0 0 = cP e b)) : (d.length = 0 ∧ v.length = 1 ∨ d = [cP e b] ∧ (v.length : Int) = cP e b) := by
  have hs := (cellB_parts h1).2
  match d, h3 with
  | [], _ => left; refine ⟨rfl, ?_⟩; rw [sizeI_mk (by simp) (by simp) (by simp [prod])] at hs; simp [prod] at hs; omega
  | [p], _ =>
    right
    have hp : p = cP e b := by
      by_cases hq : p = cP e b
      · exact hq
      · exact absurd ⟨rfl, by simpa using hq⟩ h4
    subst hp
    refine ⟨rfl, ?_⟩
    have hr := (cellB_parts h1).1
    rw [hs, sizeI, if_pos hr]; simp [prod]
theorem copyOk_of (h1 : cellB d v.length = true) (h2 : cellB e u.length = true) (h3 : d.length ≤ 1) (h4 : ¬ (d.length = 1 ∧ ¬ d.getD 0 0 = cP e b)) (h5 : negB v = false) (h : rightB (cDim d v e b) = true) :
    CopyOk d v e u (cA e b) (cP e b).toNat (cS e b) (sizeI (cDim d v e b)).toNat (listedL e) (cT d v e b) where
  right := h1
  right2 := h2
  rank := h3
  hD := rfl
  ha := cA_lt e b
  hP := (cP_nat (b := b) h2).1
  hlen := by rw [← (cP_nat (b := b) h2).1]; rcases d_parts h1 h3 h4 with h | h; exact Or.inl h.1; exact Or.inr h.1
  neg := h5
  hT := rfl
  hR := h
  hN := by have := sizeI_bd (cDim d v e b); unfold cDim at this ⊢; omega
  hs := by
    have hr := listed_right (cellB_parts h2).1
    have := (prod_bd ((listedL e).drop (cA e b + 1)) (by rw [List.all_eq_true]; intro x hx; exact List.all_eq_true.1 (rightB_all hr).2.1 x (List.mem_of_mem_drop hx))).1
    unfold cS; omega
theorem cT_small (h1 : cellB d v.length = true) (h2 : cellB e u.length = true) (h3 : d.length ≤ 1) (h4 : ¬ (d.length = 1 ∧ ¬ d.getD 0 0 = cP e b)) (h5 : negB v = false) : (cT d v e b).length = (cP e b).toNat ∧ SmallT (cT d v e b) := by
  have := cP_nat (b := b) h2
  rcases d_parts h1 h3 h4 with h | h
  · exact ⟨times_len (Or.inl h.1), times_small (fun _ => h.2) h5⟩
  · exact ⟨times_len (Or.inr (by omega)), times_small (fun h0 => by rw [h.1] at h0; simp at h0) h5⟩
end

/-- The parts that are copied, one behind the other, no more than 65. -/
def frL (T : List Int) (k j : Nat) : List Int := ((seqL T k ++ List.replicate j k).map Int.ofNat).take 65
theorem frL_0 (T : List Int) : frL T 0 0 = [] := rfl
theorem frL_len (T : List Int) (k j : Nat) : (frL T k j).length = min 65 (tot T k + j) := by simp [frL, seqL_len]
theorem frL_more (T : List Int) (k j : Nat) (h : (frL T k j).length < 65) : frL T k (j + 1) = frL T k j ++ [(k : Int)] := by
  rw [frL_len] at h
  have h' : tot T k + j < 65 := by omega
  unfold frL
  rw [List.take_of_length_le (by simp [seqL_len]; omega), List.take_of_length_le (by simp [seqL_len]; omega), List.replicate_succ', ← List.append_assoc, List.map_append]
  rfl
theorem frL_next (T : List Int) (k j : Nat) (hj : j ≤ tk T k) (h : j = tk T k ∨ ¬ (frL T k j).length < 65) : frL T k j = frL T (k + 1) 0 := by
  rcases h with rfl | h
  · simp [frL, seqL]
  · rw [frL_len] at h
    obtain ⟨m, hm⟩ : ∃ m, tk T k = j + m := ⟨tk T k - j, by omega⟩
    have e : (seqL T (k + 1) ++ List.replicate 0 (k + 1)).map Int.ofNat = (seqL T k ++ List.replicate j k).map Int.ofNat ++ (List.replicate m k).map Int.ofNat := by
      rw [seqL, hm, List.replicate_zero, List.append_nil, ← List.map_append, List.append_assoc, List.replicate_append_replicate]
    unfold frL
    rw [e, List.take_append_of_le_length (by simp [seqL_len]; omega)]
theorem frL_all {T : List Int} {S : Nat} (hS : tot T T.length = S) (h : S ≤ 64) : frL T T.length 0 = (seqL T T.length).map Int.ofNat := by
  unfold frL; rw [List.replicate_zero, List.append_nil, List.take_of_length_le (by simp [seqL_len]; omega)]
theorem fr_dim {T D : List Int} {a m : Nat} (hTs : SmallT T) (ha : a < D.length) (hm : (frL T T.length 0).length = m) :
    (rightB (withL D (a : Int) (m : Int)) = rightB (withL D (a : Int) (sumL T))) ∧ (rightB (withL D (a : Int) (sumL T)) = true → (m : Int) = sumL T) := by
  have hS : (tot T T.length : Int) = sumL T := by have := tot_sum hTs T.length (Nat.le_refl _); rwa [List.take_length] at this
  rw [frL_len] at hm
  by_cases h : tot T T.length ≤ 64
  · have e : (m : Int) = sumL T := by omega
    rw [e]; exact ⟨rfl, fun _ => rfl⟩
  · have bad : ∀ x : Int, 64 < x → rightB (withL D (a : Int) x) = false := fun x hx => by
      rw [withL_at D a ha]
      refine rightB_bad (k := a) (by simp; omega) ?_
      rw [get_mid _ _ _ (by simp; omega)]
      simp [okAx]; omega
    rw [bad m (by omega), bad (sumL T) (by omega)]
    exact ⟨rfl, fun h => by cases h⟩
theorem tk_is {d v : List Int} {P k : Nat} (hk : k < P) (h : d.length = 0 ∨ v.length = P ∧ ¬ d.length = 0) : tk (timesL d v P) k = (len65 (if d.length = 0 then v.getD 0 0 else v.getD k 0)).toNat := by
  unfold tk timesL
  rcases h with h | ⟨h1, h2⟩
  · rw [if_pos h, if_pos h]
    simp [List.getD, Nat.mod_eq_of_lt hk, hk]
  · rw [if_neg h2, if_neg h2]
    simp [lensL, h1, Nat.mod_eq_of_lt hk, List.getD, hk]
theorem eq_map_of {l : List Int} {N : Nat} {f : Nat → Int} (h : l.length = N) (hf : ∀ i, i < N → l.getD i 0 = f i) : l = (List.range N).map f := by
  apply List.ext_getElem (by simp [h])
  intro i h1 h2
  have := hf i (by omega)
  simp only [List.getD] at this
  rw [List.getElem?_eq_getElem h1] at this
  simpa using this
/-- The number at a place of a cell, by the place's number. -/
theorem atI_hor {D u p : List Int} (h : cellB D u.length = true) (hp : inB D p = true) : atI D u p = u.getD (hor D p 0).toNat 0 := by
  have hi : idxI D p = hor D p 0 := by unfold idxI; rw [if_pos ⟨(cellB_parts h).1, hp⟩]
  have h0 := (hor_bd D p hp).1
  rw [(atB_is h (by rw [hi]; exact h0)).2, hi]
theorem copV_is {d v e u : List Int} {a P s N : Nat} {D T : List Int} (ok : CopyOk d v e u a P s N D T) :
    copV u s T = (List.range N).map (fun i : Nat => atI D u ((dg (withL D (a : Int) (sumL T)) i).set a ((frL T T.length 0).getD ((dg (withL D (a : Int) (sumL T)) i).getD a 0).toNat 0))) := by
  obtain ⟨hTl, hTs, hP64, hDr, hD3, hu64, hv64, hN64, hS0⟩ := ok.small
  have hroom := ok.room
  have hS : (tot T T.length : Int) = sumL T := by have := tot_sum hTs T.length (Nat.le_refl _); rwa [List.take_length] at this
  have hR := rightB_all ok.hR
  have hw := withL_at D a ok.ha (sumL T)
  have hc : cellB D u.length = true := by
    have := cellB_parts ok.right2
    rw [← ok.hD]
    unfold cellB
    rw [listed_right this.1, listed_size this.1, this.2]; simp
  generalize hX : D.take a = X at *
  generalize hY : D.drop (a + 1) = Y at *
  have hDs : D = X ++ (P : Int) :: Y := by have := split_at D a ok.ha; rwa [hX, hY, ok.hP] at this
  have hXl : X.length = a := by rw [← hX, List.length_take]; have := ok.ha; omega
  have hsY : prod Y = (s : Int) := by rw [← hY]; exact ok.hs
  have hul : (u.length : Int) = prod X * (P * s) := by
    have := (cellB_parts hc).2
    rw [this, sizeI, if_pos hDr]
    conv => lhs; rw [hDs]
    rw [prod_append, prod_cons, hsY]
  have hNS : (N : Int) = prod X * (sumL T * s) := by
    rw [← ok.hN, sizeI, if_pos ok.hR, hw, prod_append, prod_cons, hsY]
  have hX0 : 0 ≤ prod X := (prod_bd X (by rw [← hX, List.all_eq_true]; intro x hx; exact List.all_eq_true.1 (rightB_all hDr).2.1 x (List.mem_of_mem_take hx))).1
  obtain ⟨A, hA⟩ : ∃ A : Nat, prod X = A := ⟨(prod X).toNat, by omega⟩
  by_cases hs : s = 0
  · subst hs
    have : N = 0 := by simp at hNS; omega
    subst this
    simp [copV]
  · rcases hroom with ⟨hr1, hr2, hr3⟩ | ⟨h0, _⟩
    · have hul2 : u.length = A * T.length * s := by
        rw [hA] at hul
        have : (u.length : Int) = ((A * T.length * s : Nat) : Int) := by rw [hul, hTl]; push_cast; rw [Int.mul_assoc]
        omega
      have hN2 : N = A * tot T T.length * s := by
        rw [hA, ← hS] at hNS
        have : (N : Int) = ((A * tot T T.length * s : Nat) : Int) := by rw [hNS]; push_cast; rw [Int.mul_assoc]
        omega
      have hdiv : u.length / s = A * T.length := by rw [hul2]; exact Nat.mul_div_cancel _ (by omega)
      apply eq_map_of
      · unfold copV; rw [if_neg hs, cpL_len T (by rw [← hr1]; exact Nat.le_refl _), hr2]
      · intro i hi
        unfold copV
        rw [if_neg hs, hdiv]
        obtain ⟨j, hj1, hj2, hj3⟩ := cpL_at (u := u) (s := s) (A := A) (T := T) (by omega) hul2 i (by omega)
        rw [hj3]
        have hpos : posL (X ++ sumL T :: Y) := by
          refine posL_of (by rw [← hw]; exact hR.2.1) ?_
          rw [prod_append, prod_cons, hsY, ← hNS]; omega
        obtain ⟨pX, pSY⟩ := posL_append hpos
        have pY := posL_tail pSY
        have pS : 1 ≤ sumL T := pSY _ (by simp)
        rw [hw, dg_one' (by rw [hsY]; omega) (by omega)]
        have e1 : ((i : Int) / prod Y % sumL T) = ((i / s % tot T T.length : Nat) : Int) := by rw [hsY, ← hS]; push_cast; rfl
        rw [get_mid _ _ _ (by rw [dg_length, hXl]), set_mid _ _ _ _ (by rw [dg_length, hXl]), e1, Int.toNat_natCast]
        have hS64 : tot T T.length ≤ 64 := by
          have := okAx_at hR.2.1 a (by rw [hw]; simp; omega)
          rw [hw, get_mid _ _ _ hXl] at this
          omega
        have e2 : (frL T T.length 0).getD (i / s % tot T T.length) 0 = (j : Int) := by
          rw [frL_all rfl hS64]
          simp [List.getD, hj1]
        rw [e2]
        have hin : inB D (dg X ((i : Int) / (sumL T * prod Y)) ++ (j : Int) :: dg Y i) = true := by
          rw [hDs, inB_append _ _ _ _ (dg_length _ _), dg_in pX]
          simp only [inB, dg_in pY, Bool.and_true, Bool.true_and]
          simp; omega
        rw [atI_hor hc hin]
        have hh : hor D (dg X ((i : Int) / (sumL T * prod Y)) ++ (j : Int) :: dg Y i) 0 = (((i / s / tot T T.length * T.length + j) * s + i % s : Nat) : Int) := by
          rw [hDs, hor_one pX pY pS (by omega) (by rw [prod_append, prod_cons, hsY, ← hNS]; omega), hsY, ← hS, hTl]
          push_cast
          rw [Int.mul_comm (tot T P : Int) (s : Int), ← Int.ediv_ediv_of_nonneg (by omega)]
        rw [hh, Int.toNat_natCast]
    · exact absurd h0 hs
theorem rat_n (A : Option Addr) (c : Nat) (d : List Int) (B : Option Addr) (c2 : Nat) (v : List Int) (C : Option Addr) (n c3 : Nat) (p : List Int) (x : Int) (w : World) (hn : p.length = n) (hx : atI d v p = x)
    (hd : d.length ≤ 100) (hv : v.length ≤ 1000) (hp : n ≤ 100) (id : Ints w A d) (iv : Ints w B v) (ip : Ints w C p) :
    Calls Try.prog 50 #[.agg #[.slice A d.length c, .slice B v.length c2], .slice C n c3] w fun r w' => ∃ t : Bool, r = .returned (.tuple #[.int .i64 x, .bool t]) ∧ Below w.heap.size w w' := by
  subst hn hx
  exact (rat_any A c d B c2 v C c3 p w (by unfold maxLen; omega) (by unfold maxLen; omega) (by unfold maxLen; omega) id iv ip).mono fun r w' ⟨h1, h2⟩ => ⟨_, h1, h2⟩
end Go.Proofs.Ytfnpdflapmbnjaa.Sh
-- MoCopyA
namespace Go.Proofs.Ytfnpdflapmbnjaa.Sh
open Go.RowKit
set_option linter.unusedVariables false

theorem cA_true (e : List Int) : cA e true = 0 := rfl
theorem cA_false (e : List Int) : cA e false + 1 = (listedL e).length := by have := listed_len e; simp only [cA]; rw [if_neg (by simp)]; omega
theorem copy_any (A : Option Addr) (c : Nat) (d : List Int) (B : Option Addr) (c2 : Nat) (v : List Int) (A' : Option Addr) (c' : Nat) (e : List Int) (B' : Option Addr) (c2' : Nat) (u : List Int) (b : Bool) (w : World) (id : Ints w A d) (iv : Ints w B v) (ie : Ints w A' e) (iu : Ints w B' u) (hcu : u.length ≤ c2') (hcm : c2' ≤ maxLen) (hd : d.length ≤ 100) (hv : v.length ≤ 1000) (he : e.length ≤ 100) (hu : u.length ≤ 1000) :
    Calls Try.prog 12 #[.agg #[.slice A d.length c, .slice B v.length c2], .agg #[.slice A' e.length c', .slice B' u.length c2'], .bool b] w (RetC w (cpD d v e u b) (cpV d v e u b) (.int .i64 (cpE d v e u b))) := by
  by_cases h1 : cellB d v.length = true
  rotate_left
  · have h1' : cellB d v.length = false := by simpa using h1
    obtain ⟨e1, e2, e3⟩ := cp_1 (e := e) (u := u) (b := b) h1'
    rw [e1, e2, e3]
    exact copy_e1 A c d B c2 v A' c' e B' c2' u w id iv ie iu hd hv he hu b h1'
  by_cases h2 : cellB e u.length = true
  rotate_left
  · have h2' : cellB e u.length = false := by simpa using h2
    obtain ⟨e1, e2, e3⟩ := cp_1' (d := d) (v := v) (b := b) h2'
    rw [e1, e2, e3]
    exact copy_e1' A c d B c2 v A' c' e B' c2' u w id iv ie iu hd hv he hu b h1 h2'
  by_cases h3 : d.length ≤ 1
  rotate_left
  · obtain ⟨e1, e2, e3⟩ := cp_2 (b := b) h1 h2 h3
    rw [e1, e2, e3]
    exact copy_e2 A c d B c2 v A' c' e B' c2' u w id iv ie iu hd hv he hu b h1 h2 (by omega)
  have hP := cP_nat (b := b) h2
  have hP0 : (listedL e).getD (cA e b) 0 = ((cP e b).toNat : Int) := hP.1
  by_cases h4 : d.length = 1 ∧ ¬ d.getD 0 0 = cP e b
  · obtain ⟨e1, e2, e3⟩ := cp_3 h1 h2 h3 h4
    rw [e1, e2, e3]
    have hdp : d = [d.getD 0 0] := one_of h4.1
    have hne : ¬ d.getD 0 0 = ((cP e b).toNat : Int) := by rw [← hP.1]; exact h4.2
    cases b with
    | true => exact copy_e3f A c d B c2 v A' c' e B' c2' u w id iv ie iu hd hv he hu (cA e true) _ (listedL e) h1 h2 h3 rfl (cA_lt e true) hP0 hP.2.1 (cA_true e) _ hdp hne
    | false => exact copy_e3l A c d B c2 v A' c' e B' c2' u w id iv ie iu hd hv he hu (cA e false) _ (listedL e) h1 h2 h3 rfl (cA_lt e false) hP0 hP.2.1 (cA_false e) _ hdp hne
  have hdp : d.length = 0 ∨ d = [((cP e b).toNat : Int)] := by
    rw [← hP.1]
    rcases d_parts h1 h3 h4 with h | h
    · exact Or.inl h.1
    · exact Or.inr h.1
  by_cases h5 : negB v = true
  · obtain ⟨e1, e2, e3⟩ := cp_5 h1 h2 h3 h4 h5
    rw [e1, e2, e3]
    cases b with
    | true => exact copy_e5f A c d B c2 v A' c' e B' c2' u w id iv ie iu hd hv he hu (cA e true) _ (listedL e) h1 h2 h3 rfl (cA_lt e true) hP0 hP.2.1 (cA_true e) hdp h5
    | false => exact copy_e5l A c d B c2 v A' c' e B' c2' u w id iv ie iu hd hv he hu (cA e false) _ (listedL e) h1 h2 h3 rfl (cA_lt e false) hP0 hP.2.1 (cA_false e) hdp h5
  have h5' : negB v = false := by simpa using h5
  by_cases h6 : rightB (cDim d v e b) = true
  · obtain ⟨e1, e2, e3⟩ := cp_0 h1 h2 h3 h4 h5' h6
    rw [e1, e2, e3]
    have ok := copyOk_of h1 h2 h3 h4 h5' h6
    cases b with
    | true => exact copy_first A c d B c2 v A' c' e B' c2' u _ _ _ _ _ _ w id iv ie iu hcu hcm ok (cA_true e)
    | false => exact copy_last A c d B c2 v A' c' e B' c2' u _ _ _ _ _ _ w id iv ie iu hcu hcm ok (cA_false e)
  · have h6' : rightB (cDim d v e b) = false := by simpa using h6
    obtain ⟨e1, e2, e3⟩ := cp_4 h1 h2 h3 h4 h5' h6'
    rw [e1, e2, e3]
    have hT := cT_small (b := b) h1 h2 h3 h4 h5'
    have hv1 : d.length = 0 → v.length = 1 := fun h0 => by
      rcases d_parts h1 h3 h4 with h | h
      · exact h.2
      · rw [h.1] at h0; simp at h0
    cases b with
    | true => exact copy_e4f A c d B c2 v A' c' e B' c2' u w id iv ie iu hd hv he hu (cA e true) _ (listedL e) h1 h2 h3 rfl (cA_lt e true) hP0 hP.2.1 (cA_true e) hdp h5' (cT d v e true) _ rfl (by rw [hT.1]; exact hP.2.1) hT.2 rfl h6' hv1
    | false => exact copy_e4l A c d B c2 v A' c' e B' c2' u w id iv ie iu hd hv he hu (cA e false) _ (listedL e) h1 h2 h3 rfl (cA_lt e false) hP0 hP.2.1 (cA_false e) hdp h5' (cT d v e false) _ rfl (by rw [hT.1]; exact hP.2.1) hT.2 rfl h6' hv1
theorem cpD_len {d v e u : List Int} {b : Bool} : (cpD d v e u b).length ≤ 3 := by
  unfold cpD; split
  · rename_i h
    have hr : rightB (cDim d v e b) = true := by
      unfold cpE at h
      split at h
      · split at h
        · split at h
          · omega
          · split at h
            · omega
            · split at h
              · assumption
              · omega
        · omega
      · omega
    exact (rightB_all hr).1
  · simp
theorem cpV_len {d v e u : List Int} {b : Bool} : (cpV d v e u b).length ≤ 64 := by
  by_cases h : cpE d v e u b = 0
  · by_cases h1 : cellB d v.length = true ∧ cellB e u.length = true
    · by_cases h3 : d.length ≤ 1
      · by_cases h4 : d.length = 1 ∧ ¬ d.getD 0 0 = cP e b
        · rw [(cp_3 h1.1 h1.2 h3 h4).2.2]; simp
        · by_cases h5 : negB v = true
          · rw [(cp_5 h1.1 h1.2 h3 h4 h5).2.2]; simp
          · have h5' : negB v = false := by simpa using h5
            by_cases h6 : rightB (cDim d v e b) = true
            · rw [(cp_0 h1.1 h1.2 h3 h4 h5' h6).2.2, copV_is (copyOk_of h1.1 h1.2 h3 h4 h5' h6)]
              have := sizeI_bd (cDim d v e b)
              simp; omega
            · rw [(cp_4 h1.1 h1.2 h3 h4 h5' (by simpa using h6)).2.2]; simp
      · rw [(cp_2 h1.1 h1.2 h3).2.2]; simp
    · unfold cpV; rw [if_neg (by unfold cpE; rw [if_neg h1]; omega)]; simp
  · unfold cpV; rw [if_neg h]; simp
end Go.Proofs.Ytfnpdflapmbnjaa.Sh
-- MoRCopy
namespace Go.Proofs.Ytfnpdflapmbnjaa.Sh
open Go.RowKit
set_option linter.unusedVariables false

set_option maxHeartbeats 8000000 in
set_option maxRecDepth 100000 in
theorem rcopy_any (A : Option Addr) (c : Nat) (d : List Int) (B : Option Addr) (c2 : Nat) (v : List Int) (A' : Option Addr) (c' : Nat) (e : List Int) (B' : Option Addr) (c2' : Nat) (u : List Int) (b : Bool) (w : World) (id : Ints w A d) (iv : Ints w B v) (ie : Ints w A' e) (iu : Ints w B' u) (hd : d.length ≤ 100) (hv : v.length ≤ 1000) (he : e.length ≤ 100) (hu : u.length ≤ 1000) :
    Calls Try.prog 13 #[.agg #[.slice A d.length c, .slice B v.length c2], .agg #[.slice A' e.length c', .slice B' u.length c2'], .bool b] w (RetCI w (cpD d v e u b) (cpV d v e u b) (.int .i64 (cpE d v e u b))) := by
  obtain ⟨ba0, bb0, br0, hb0⟩ := w2_all w (.slice A d.length c) (.slice B v.length c2) (.slice A' e.length c') (.slice B' u.length c2')
  have BA := Lib.hid (ba0)
  have BB := Lib.hid (bb0)
  have BR := Lib.hid (br0)
  have L := Lib.hid (hb0)
  have ID := Lib.hid (id.below hb0)
  have IV := Lib.hid (iv.below hb0)
  have IE := Lib.hid (ie.below hb0)
  have IU := Lib.hid (iu.below hb0)
  clear ba0 bb0 br0 hb0 id iv ie iu
  obtain ⟨E, hE⟩ : ∃ E, cpE d v e u b = E := ⟨_, rfl⟩
  obtain ⟨DD, hDD⟩ : ∃ D, cpD d v e u b = D := ⟨_, rfl⟩
  obtain ⟨VV, hVV⟩ : ∃ V, cpV d v e u b = V := ⟨_, rfl⟩
  rw [hE, hDD, hVV]
  have HE := Lib.hid hE
  have HD := Lib.hid hDD
  have HV := Lib.hid hVV
  clear hE hDD hVV
  go_enter Try.func13, Try.ntmps13
  by_cases h : cellB d v.length = true
  rotate_left
  · have HN := Lib.hid (show cellB d v.length = false by simpa using h)
    obtain ⟨e1, e2, e3⟩ := cp_1 (e := e) (u := u) (b := b) HN.out
    obtain rfl : E = 1 := HE.out.symm.trans e1
    obtain rfl : DD = [] := HD.out.symm.trans e2
    obtain rfl : VV = [] := HV.out.symm.trans e3
    clear HE HD HV e1 e2 e3
    clear h
    go_wp2_with fail
    refine (rright_no _ _ d _ _ _ _ (by unfold maxLen; omega) ID.out HN.out).mono ?_
    rintro r w1 ⟨rfl, hb⟩
    replace BA := Lib.hid (BA.out.next hb)
    replace BB := Lib.hid (BB.out.next hb)
    replace BR := Lib.hid (BR.out.next hb)
    replace L := Lib.hid (below_next L.out hb)
    replace ID := Lib.hid (ID.out.below hb)
    replace IV := Lib.hid (IV.out.below hb)
    replace IE := Lib.hid (IE.out.below hb)
    replace IU := Lib.hid (IU.out.below hb)
    clear hb
    obtain ⟨r0, r1, r2, r3⟩ := BR.out.all
    go_wp2
    have T9 := (BR.out.set0 (.slice none 0 0)).set1 (.slice none 0 0)
    obtain ⟨t0, t1, _, _⟩ := T9.all
    refine bodyPost_ret (v := .tuple #[.agg #[.slice none 0 0, .slice none 0 0], .int .i64 1]) (by simp [results, Try.results13, go_sem, t0, t1]) rfl ?_
    exact ⟨none, 0, none, 0, rfl, Ints.nil _ _, Ints.nil _ _, (L.out.setCell (by simp; omega) _).setCell (by simp; omega) _⟩
  have H1 := Lib.hid h
  clear h
  go_wp2_with fail
  refine (rright_yes _ _ d _ _ _ _ (by unfold maxLen; omega) ID.out H1.out).mono ?_
  rintro r w1 ⟨rfl, hb⟩
  replace BA := Lib.hid (BA.out.next hb)
  replace BB := Lib.hid (BB.out.next hb)
  replace BR := Lib.hid (BR.out.next hb)
  replace L := Lib.hid (below_next L.out hb)
  replace ID := Lib.hid (ID.out.below hb)
  replace IV := Lib.hid (IV.out.below hb)
  replace IE := Lib.hid (IE.out.below hb)
  replace IU := Lib.hid (IU.out.below hb)
  clear hb
  obtain ⟨qBB0, qBB1, -, -⟩ := BB.out.all
  by_cases h : cellB e u.length = true
  rotate_left
  · have HN := Lib.hid (show cellB e u.length = false by simpa using h)
    obtain ⟨e1, e2, e3⟩ := cp_1' (d := d) (v := v) (b := b) HN.out
    obtain rfl : E = 1 := HE.out.symm.trans e1
    obtain rfl : DD = [] := HD.out.symm.trans e2
    obtain rfl : VV = [] := HV.out.symm.trans e3
    clear HE HD HV e1 e2 e3
    clear h
    go_wp2_with fail
    refine (rright_no _ _ e _ _ _ _ (by unfold maxLen; omega) IE.out HN.out).mono ?_
    rintro r w2 ⟨rfl, hb⟩
    clear qBB0 qBB1
    replace BA := Lib.hid (BA.out.next hb)
    replace BB := Lib.hid (BB.out.next hb)
    replace BR := Lib.hid (BR.out.next hb)
    replace L := Lib.hid (below_next L.out hb)
    replace ID := Lib.hid (ID.out.below hb)
    replace IV := Lib.hid (IV.out.below hb)
    replace IE := Lib.hid (IE.out.below hb)
    replace IU := Lib.hid (IU.out.below hb)
    clear hb
    obtain ⟨r0, r1, r2, r3⟩ := BR.out.all
    go_wp2
    have T9 := (BR.out.set0 (.slice none 0 0)).set1 (.slice none 0 0)
    obtain ⟨t0, t1, _, _⟩ := T9.all
    refine bodyPost_ret (v := .tuple #[.agg #[.slice none 0 0, .slice none 0 0], .int .i64 1]) (by simp [results, Try.results13, go_sem, t0, t1]) rfl ?_
    exact ⟨none, 0, none, 0, rfl, Ints.nil _ _, Ints.nil _ _, (L.out.setCell (by simp; omega) _).setCell (by simp; omega) _⟩
  have H2 := Lib.hid h
  clear h
  go_wp2_with fail
  refine (rright_yes _ _ e _ _ _ _ (by unfold maxLen; omega) IE.out H2.out).mono ?_
  rintro r w2 ⟨rfl, hb⟩
  clear qBB0 qBB1
  replace BA := Lib.hid (BA.out.next hb)
  replace BB := Lib.hid (BB.out.next hb)
  replace BR := Lib.hid (BR.out.next hb)
  replace L := Lib.hid (below_next L.out hb)
  replace ID := Lib.hid (ID.out.below hb)
  replace IV := Lib.hid (IV.out.below hb)
  replace IE := Lib.hid (IE.out.below hb)
  replace IU := Lib.hid (IU.out.below hb)
  clear hb
  obtain ⟨qBB0, qBB1, fBB0, fBB1⟩ := BB.out.all
  go_wp2_with fail
  refine (along_nil _ _ e _ _ u _ IE.out IU.out H2.out).mono ?_
  rintro r w3 ⟨A4, c4, B4, c24, rfl, hi4, hj4, hb⟩
  clear qBB0 qBB1 fBB0 fBB1
  replace BA := Lib.hid (BA.out.next hb)
  replace BB := Lib.hid (BB.out.next hb)
  replace BR := Lib.hid (BR.out.next hb)
  replace L := Lib.hid (below_next L.out hb)
  replace ID := Lib.hid (ID.out.below hb)
  replace IV := Lib.hid (IV.out.below hb)
  replace IE := Lib.hid (IE.out.below hb)
  replace IU := Lib.hid (IU.out.below hb)
  clear hb
  have HDl := Lib.hid (listed_len e)
  have HDr := Lib.hid (listed_right (cellB_parts H2.out).1)
  obtain ⟨hP0, hP64, hPa, hPb⟩ := cP_nat (b := b) H2.out
  have HPN := Lib.hid hP0
  have HaL := Lib.hid (cA_lt e b)
  have HDE := Lib.hid (show cP e b = (listedL e).getD (cA e b) 0 from rfl)
  clear hP0
  obtain ⟨s0, s1, s2, s3⟩ := BB.out.all
  go_upto_region 4 with (fail)
  clear s0 s1 s2 s3
  have hne0 : w.heap.size ≠ w.heap.size + 1 := by omega
  have hne2 : w.heap.size + 1 + 1 ≠ w.heap.size + 1 := by omega
  have BB4 := Lib.hid ((BB.out.set0 (.slice A4 (listedL e).length c4)).set1 (.slice B4 u.length c24))
  have BA4 := Lib.hid ((BA.out.far (p := ⟨w.heap.size + 1, 0, none⟩) hne0 (.slice A4 (listedL e).length c4)).far (p := ⟨w.heap.size + 1, 1, none⟩) hne0 (.slice B4 u.length c24))
  have BR4 := Lib.hid ((BR.out.far (p := ⟨w.heap.size + 1, 0, none⟩) hne2 (.slice A4 (listedL e).length c4)).far (p := ⟨w.heap.size + 1, 1, none⟩) hne2 (.slice B4 u.length c24))
  have L4 := Lib.hid ((L.out.setCell (p := ⟨w.heap.size + 1, 0, none⟩) (by simp) (.slice A4 (listedL e).length c4)).setCell (p := ⟨w.heap.size + 1, 1, none⟩) (by simp) (.slice B4 u.length c24))
  have ID4 := Lib.hid (ID.out.set_box BB.out (.slice A4 (listedL e).length c4) (.slice B4 u.length c24))
  have IV4 := Lib.hid (IV.out.set_box BB.out (.slice A4 (listedL e).length c4) (.slice B4 u.length c24))
  have IDD4 := Lib.hid (hi4.set_box BB.out (.slice A4 (listedL e).length c4) (.slice B4 u.length c24))
  have IU4 := Lib.hid (hj4.set_box BB.out (.slice A4 (listedL e).length c4) (.slice B4 u.length c24))
  clear BA BB BR L ID IV IE IU hi4 hj4 hne0 hne2
  generalize hW4 : (w3.setCell ⟨w.heap.size + 1, 0, none⟩ (.slice A4 (listedL e).length c4)).setCell ⟨w.heap.size + 1, 1, none⟩ (.slice B4 u.length c24) = w4 at *
  clear hW4 w1 w2 w3
  have BA := Lib.hid BA4.out
  clear BA4
  have BB := Lib.hid BB4.out
  clear BB4
  have BR := Lib.hid BR4.out
  clear BR4
  have L := Lib.hid L4.out
  clear L4
  have ID := Lib.hid ID4.out
  clear ID4
  have IV := Lib.hid IV4.out
  clear IV4
  have IDD := Lib.hid IDD4.out
  clear IDD4
  have IU := Lib.hid IU4.out
  clear IU4
  generalize hDg : listedL e = D at *
  have HDg := Lib.hid hDg
  clear hDg
  generalize hag : cA e b = a at *
  have Hag := Lib.hid hag
  clear hag
  have hDl : 0 < D.length := HDl.out
  have haL : a < D.length := HaL.out
  have hD3 : D.length ≤ 3 := (rightB_all HDr.out).1
  generalize hPg : (cP e b).toNat = P at *
  have HPg := Lib.hid hPg
  clear hPg
  obtain ⟨qBB0, qBB1, -, -⟩ := BB.out.all
  go_upto_if 36 with (fail)
  go_cut [8] (fun s8 wx => s8 = .int .i64 (a : Int) ∧ w4 = wx)
  case first =>
    have ha2 := Hag.out
    unfold cA at ha2
    rw [HDg.out] at ha2
    cases b with
    | true =>
      have HA0 := Lib.hid (show a = 0 by rw [← ha2]; rfl)
      clear ha2
      go_wp2
      go_meet
      exact ⟨by rw [HA0.out]; rfl, rfl⟩
    | false =>
      have HA0 := Lib.hid (show (D.length : Int) - 1 = (a : Int) by rw [if_neg (by simp)] at ha2; omega)
      clear ha2
      go_wp2
      go_meet
      exact ⟨by rw [HA0.out], rfl⟩
  case rest =>
    obtain ⟨rfl, rfl⟩ := hcut
    clear qBB0 qBB1
    by_cases hd1 : d.length ≤ 1
    rotate_left
    · have hd2 : 1 < d.length := by omega
      obtain ⟨e1, e2, e3⟩ := cp_2 (b := b) H1.out H2.out hd1
      obtain rfl : E = 2 := HE.out.symm.trans e1
      obtain rfl : DD = [] := HD.out.symm.trans e2
      obtain rfl : VV = [] := HV.out.symm.trans e3
      clear HE HD HV e1 e2 e3
      clear hd1
      obtain ⟨qBA0, qBA1, -, -⟩ := BA.out.all
      obtain ⟨r0, r1, r2, r3⟩ := BR.out.all
      go_wp2
      have T9 := (BR.out.set0 (.slice none 0 0)).set1 (.slice none 0 0)
      obtain ⟨t0, t1, _, _⟩ := T9.all
      refine bodyPost_ret (v := .tuple #[.agg #[.slice none 0 0, .slice none 0 0], .int .i64 2]) (by simp [results, Try.results13, go_sem, t0, t1]) rfl ?_
      exact ⟨none, 0, none, 0, rfl, Ints.nil _ _, Ints.nil _ _, (L.out.setCell (by simp; omega) _).setCell (by simp; omega) _⟩
    obtain ⟨qBA0, qBA1, -, -⟩ := BA.out.all
    obtain ⟨qBB0, qBB1, -, -⟩ := BB.out.all
    obtain ⟨bd, od, rfl, hbd, hcd⟩ := IDD.out hDl
    have hda := hcd a haL
    rw [← HDE.out, HPN.out] at hda
    clear hcd
    have ha0 : (0 : Int) ≤ (a : Int) := by omega
    have haD : (a : Int) < (D.length : Int) := by omega
    by_cases h4 : d.length = 1 ∧ ¬ d.getD 0 0 = cP e b
    · obtain ⟨h41, h42⟩ := h4
      obtain ⟨e1, e2, e3⟩ := cp_3 H1.out H2.out hd1 ⟨h41, h42⟩
      obtain rfl : E = 3 := HE.out.symm.trans e1
      obtain rfl : DD = [] := HD.out.symm.trans e2
      obtain rfl : VV = [] := HV.out.symm.trans e3
      clear HE HD HV e1 e2 e3
      obtain ⟨bn, on, rfl, hbn, hcn⟩ := ID.out (by omega)
      have hdn := hcn 0 (by omega)
      rw [Nat.add_zero] at hdn
      have hz : ((d.length : Int) == 1) = true := by rw [h41]; rfl
      have z0 : (0 : Int) < (d.length : Int) := by omega
      have hq : (d.getD 0 0 != (P : Int)) = true := by rw [← HPN.out]; simpa using h42
      generalize d.getD 0 0 = y at *
      clear h41 h42 hcn
      go_upto_region 9 with (fail)
      go_quiet (fail)
      have BRk := Lib.hid (BR.out.drewN nq)
      have Lk := Lib.hid (below_drewN L.out nq)
      obtain ⟨r0, r1, r2, r3⟩ := BRk.out.all
      go_wp2
      have T9 := (BRk.out.set0 (.slice none 0 0)).set1 (.slice none 0 0)
      obtain ⟨t0, t1, _, _⟩ := T9.all
      refine bodyPost_ret (v := .tuple #[.agg #[.slice none 0 0, .slice none 0 0], .int .i64 3]) (by simp [results, Try.results13, go_sem, t0, t1]) rfl ?_
      exact ⟨none, 0, none, 0, rfl, Ints.nil _ _, Ints.nil _ _, (Lk.out.setCell (by simp; omega) _).setCell (by simp; omega) _⟩
    have H4 := Lib.hid h4
    clear h4
    go_upto_region 9 with (fail)
    go_cut [57] (fun s57 wx => s57 = .bool false ∧ ∃ n, wx = w4.drewN n)
    case first =>
      rcases d_parts (b := b) H1.out hd1 H4.out with ⟨h0, -⟩ | ⟨h0, -⟩
      · have hz : ((d.length : Int) == 1) = false := by simp [h0]
        clear h0
        go_quiet (fail)
        go_wp2_with fail
        go_meet
        exact ⟨rfl, _, rfl⟩
      · have hz : ((d.length : Int) == 1) = true := by rw [h0]; rfl
        obtain ⟨bn, on, rfl, hbn, hcn⟩ := ID.out (by rw [h0]; simp)
        have hdn : w4.cell? ⟨bn, on, none⟩ = some (.int .i64 (P : Int)) := by have := hcn 0 (by rw [h0]; simp); rw [h0] at this; rw [← HPN.out]; simpa using this
        have z0 : (0 : Int) < (d.length : Int) := by rw [h0]; simp
        clear h0 hcn
        go_quiet (fail)
        go_wp2_with fail
        go_meet
        exact ⟨rfl, _, rfl⟩
    case rest =>
      obtain ⟨rfl, nq, rfl⟩ := hcut
      have KQ := Lib.hid (below_drewN (Below.refl w4.heap.size w4) nq)
      clear qBA0 qBA1 qBB0 qBB1
      clear hda
      replace BA := Lib.hid (BA.out.next KQ.out)
      replace BB := Lib.hid (BB.out.next KQ.out)
      replace BR := Lib.hid (BR.out.next KQ.out)
      replace L := Lib.hid (below_next L.out KQ.out)
      replace ID := Lib.hid (ID.out.below KQ.out)
      replace IV := Lib.hid (IV.out.below KQ.out)
      replace IDD := Lib.hid (IDD.out.below KQ.out)
      replace IU := Lib.hid (IU.out.below KQ.out)
      clear KQ
      generalize hw5 : w4.drewN nq = w5 at *
      clear hw5
      go_wp2
      go_loop [10] (fun j => ∃ k : Nat, k ≤ v.length ∧ j = .int .i64 (k : Int) ∧ negB (v.take k) = false) (fun j => v.length - (intOf j).toNat)
      case atStart => exact ⟨0, Nat.zero_le _, rfl, by simp [negB]⟩
      case round =>
        obtain ⟨k, hk, rfl, hN⟩ := hrel
        have HN := Lib.hid hN
        clear hN
        by_cases hlt : k < v.length
        · obtain ⟨bv, ov, rfl, hbv, hcs⟩ := IV.out (by omega)
          have hck := hcs k hlt
          have i0 : (0 : Int) ≤ (k : Int) := by omega
          have i1 : (k : Int) < (v.length : Int) := by omega
          have HT := Lib.hid (negB_take hlt)
          have HY := Lib.hid (fun h => negB_yes hlt h)
          clear hcs
          obtain ⟨q0, q1, -, -⟩ := BA.out.all
          generalize v.getD k 0 = y at *
          by_cases hneg : y < 0
          · have h5 := HY.out hneg
            obtain ⟨e1, e2, e3⟩ := cp_5 H1.out H2.out hd1 H4.out h5
            obtain rfl : E = 5 := HE.out.symm.trans e1
            obtain rfl : DD = [] := HD.out.symm.trans e2
            obtain rfl : VV = [] := HV.out.symm.trans e3
            clear HE HD HV e1 e2 e3
            clear h5
            obtain ⟨r0, r1, r2, r3⟩ := BR.out.all
            go_wp2
            have T9 := (BR.out.set0 (.slice none 0 0)).set1 (.slice none 0 0)
            obtain ⟨t0, t1, _, _⟩ := T9.all
            refine bodyPost_ret (v := .tuple #[.agg #[.slice none 0 0, .slice none 0 0], .int .i64 5]) (by simp [results, Try.results13, go_sem, t0, t1]) rfl ?_
            exact ⟨none, 0, none, 0, rfl, Ints.nil _ _, Ints.nil _ _, (L.out.setCell (by simp; omega) _).setCell (by simp; omega) _⟩
          · have HS2 := Lib.hid (show negB (v.take (k + 1)) = false by rw [HT.out, HN.out]; simpa using hneg)
            go_wp2
            go_round
            case rel => exact ⟨k + 1, by omega, by go_num, HS2.out⟩
            case measure => simp [intOf]; omega
        · obtain rfl : k = v.length := by omega
          have h5 := HN.out
          rw [List.take_length] at h5
          have H5 := Lib.hid h5
          clear h5 HN hk
          have HTS := Lib.hid (cT_small (b := b) H1.out H2.out hd1 H4.out H5.out)
          rw [HPg.out] at HTS
          have HDP := Lib.hid (d_parts (b := b) H1.out hd1 H4.out)
          have HTE := Lib.hid (show cT d v e b = timesL d v P by unfold cT; rw [HPg.out])
          have HPN2 := Lib.hid HPN.out
          obtain ⟨T, hT⟩ : ∃ T, cT d v e b = T := ⟨_, rfl⟩
          rw [hT] at HTS HTE
          have HTn := Lib.hid hT
          clear hT
          have hTl : T.length = P := HTS.out.1
          have HTl := Lib.hid hTl
          clear hTl
          obtain ⟨qBA0, qBA1, -, -⟩ := BA.out.all
          go_wp2
          clear qBA0 qBA1
          go_loopw [9, 11] (fun s j wr => ∃ (k : Nat) (Fv : Value), k ≤ P ∧ j = .int .i64 (k : Int) ∧ Fv = s ∧ MineT 3 wr w5.heap.size Fv (frL T k 0) ∧ Below w5.heap.size w5 wr) (fun _ j _ => P - (intOf j).toNat)
          case atStart => exact ⟨0, _, Nat.zero_le _, rfl, rfl, MineT.nil _ _ _, Below.refl _ _⟩
          case round =>
            obtain ⟨k, Fv, hk, rfl, rfl, hM, hB⟩ := hrel
            have MK := Lib.hid hM
            have LK := Lib.hid hB
            have BAk := Lib.hid (BA.out.next hB)
            have BBk := Lib.hid (BB.out.next hB)
            have IVk := Lib.hid (IV.out.below hB)
            have hda := (IDD.out.below hB) (by omega)
            obtain ⟨bd2, od2, e2, hbd2, hcd2⟩ := hda
            injection e2 with e2
            injection e2 with e21 e22
            subst e21 e22
            have hdk := hcd2 a haL
            rw [← HDE.out, HPN.out] at hdk
            clear hM hB hcd2
            obtain ⟨p0, p1, -, -⟩ := BBk.out.all
            by_cases hlt : k < P
            · obtain ⟨y, hy⟩ : ∃ y, (if d.length = 0 then v.getD 0 0 else v.getD k 0) = y := ⟨_, rfl⟩
              have HTK := Lib.hid (show tk T k = (len65 y).toNat by
                rw [HTE.out, ← hy]
                refine tk_is hlt ?_
                rcases HDP.out with h | h
                · exact Or.inl h.1
                · right; refine ⟨by have := h.2; rw [HPN.out] at this; omega, by rw [h.1]; simp⟩)
              have hv0 : 0 < v.length := by rcases HDP.out with h | h; omega; have := h.2; rw [HPN.out] at this; omega
              obtain ⟨bv, ov, rfl, hbv, hcs⟩ := IVk.out hv0
              have hc0 := hcs 0 hv0
              rw [Nat.add_zero] at hc0
              have z0 : (0 : Int) < (v.length : Int) := by omega
              have k0 : (0 : Int) ≤ (k : Int) := by omega
              have HYN := Lib.hid (show 0 ≤ y by
                rw [← hy]; split
                · exact negB_no H5.out 0 hv0
                · rcases HDP.out with h | h
                  · exact absurd h.1 (by assumption)
                  · exact negB_no H5.out k (by have := h.2; rw [HPN.out] at this; omega))
              obtain ⟨q0, q1, -, -⟩ := BAk.out.all
              generalize v.getD 0 0 = y0 at *
              go_upto_if 89 with (fail)
              go_cut [12] (fun s12 wx => s12 = .int .i64 y ∧ wr = wx)
              case first =>
                rcases HDP.out with ⟨h0, h1⟩ | ⟨h0, h1⟩
                · have hz : ((d.length : Int) == 1) = false := by simp [h0]
                  have hy2 : y0 = y := by rw [← hy, if_pos h0]
                  have HY2 := Lib.hid hy2
                  clear h0 h1 hy hy2 hcs
                  go_wp2
                  go_meet
                  exact ⟨by rw [HY2.out], rfl⟩
                · have hz : ((d.length : Int) == 1) = true := by rw [h0]; rfl
                  have hy2 : y = v.getD k 0 := by rw [← hy, if_neg (by rw [h0]; simp)]
                  have HY2 := Lib.hid hy2
                  have hkv : k < v.length := by rw [HPN.out] at h1; omega
                  have hck := hcs k hkv
                  have k1 : (k : Int) < (v.length : Int) := by omega
                  rw [← hy2] at hck
                  clear h0 h1 hy hy2 hcs
                  go_wp2
                  go_meet
                  exact ⟨rfl, rfl⟩
              case rest =>
                obtain ⟨rfl, rfl⟩ := hcut
                clear q0 q1 p0 p1 hcs hc0 hy hdk
                have hy0 : 0 ≤ y := HYN.out
                go_wp2
                go_loopw [9, 13] (fun s j wx => ∃ (m : Nat) (Gv : Value), m ≤ tk T k ∧ j = .int .i64 (m : Int) ∧ Gv = s ∧ MineT 3 wx w5.heap.size Gv (frL T k m) ∧ Below w5.heap.size w5 wx) (fun _ j _ => (y - intOf j).toNat)
                case atStart => exact ⟨0, _, Nat.zero_le _, rfl, rfl, MK.out, LK.out⟩
                case round =>
                  obtain ⟨m, Gv, hm, rfl, rfl, hM2, hB2⟩ := hrel
                  obtain ⟨AF, cF, rfl, -⟩ := hM2.ints
                  generalize hln : (frL T k m).length = ln at *
                  have HLN := Lib.hid hln
                  have HL2 := Lib.hid (frL_len T k m)
                  have MG := Lib.hid hM2
                  have LG := Lib.hid hB2
                  have HM := Lib.hid hm
                  clear hln hM2 hB2 MK LK BAk BBk IVk hm
                  by_cases hmy : (m : Int) < y
                  · by_cases hl65 : ln < 65
                    · have hm64 : m < 65 := by have := HL2.out; rw [HLN.out] at this; omega
                      have HM1 := Lib.hid (show m + 1 ≤ tk T k by rw [HTK.out]; unfold len65; omega)
                      have HFM := Lib.hid (frL_more T k m (by rw [HLN.out]; exact hl65))
                      go_upto_region 26 with (fail)
                      have M8 := Lib.hid (MG.out.alloc (.cells #[.int .i64 (k : Int)] 3))
                      have X8 := Lib.hid (one_newI wr (k : Int))
                      have L8 := Lib.hid (below_next LG.out (below_new wr (.cells #[.int .i64 (k : Int)] 3)))
                      go_wp2_with (at_builtin; refine wpList_appI numI Try.underlying22 rfl (.tmp 105) (.tmp 107) rfl w5.heap.size (.slice AF ln cF) (frL T k m) (by rfl) M8.out (some ⟨wr.heap.size, 0, none⟩) 1 [(k : Int)] rfl X8.out (by rw [HLN.out]; simp; omega) L8.out.size ?_; intro V' w8 hm8 hg8 ha8)
                      go_roundw
                      case rel => exact ⟨m + 1, _, HM1.out, by go_num, rfl, by rw [HFM.out]; exact hm8, below_grown L8.out hg8 MG.out.block⟩
                      case measure => simp [intOf]; omega
                    · have HFN := Lib.hid (frL_next T k m HM.out (Or.inr (by rw [HLN.out]; exact hl65)))
                      go_wp2
                      go_roundw
                      case rel => exact ⟨k + 1, _, by omega, by go_num, rfl, by rw [← HFN.out]; exact MG.out, LG.out⟩
                      case measure => simp [intOf]; omega
                  · have HFN := Lib.hid (frL_next T k m HM.out (Or.inl (by have := HM.out; have h2 := HTK.out; rw [h2] at this; rw [h2]; unfold len65 at *; omega)))
                    go_wp2
                    go_roundw
                    case rel => exact ⟨k + 1, _, by omega, by go_num, rfl, by rw [← HFN.out]; exact MG.out, LG.out⟩
                    case measure => simp [intOf]; omega
            · obtain rfl : k = P := by omega
              generalize hfr : frL T k 0 = fr at *
              have HFR := Lib.hid hfr
              clear hfr
              obtain ⟨AF, cF, rfl, iF0⟩ := MK.out.ints
              have IFR := Lib.hid iF0
              clear iF0
              generalize hln : fr.length = ln at *
              have HLN := Lib.hid hln
              have h65 : ln ≤ 65 := by rw [← hln, ← HFR.out, frL_len]; omega
              clear hln
              have HFD := Lib.hid (fr_dim (a := a) (D := D) (m := ln) HTS.out.2 haL (by rw [HTl.out, HFR.out, HLN.out]))
              have IDDk := Lib.hid (IDD.out.below LK.out)
              have IUk := Lib.hid (IU.out.below LK.out)
              have BRk := Lib.hid (BR.out.next LK.out)
              have LW := Lib.hid (below_next L.out LK.out)
              clear BA BB BR L IDD IU IV ID IVk BAk
              go_wp2_with fail
              refine (refWith_any _ _ D a ln _ (by omega) IDDk.out).mono ?_
              rintro r w6 ⟨AM, cM, rfl, hi, hb⟩
              replace BBk := Lib.hid (BBk.out.next hb)
              replace BRk := Lib.hid (BRk.out.next hb)
              replace LW := Lib.hid (below_next LW.out hb)
              replace IDDk := Lib.hid (IDDk.out.below hb)
              replace IUk := Lib.hid (IUk.out.below hb)
              replace IFR := Lib.hid (IFR.out.below hb)
              replace MK := Lib.hid (MK.out.below hb (Nat.le_refl _))
              clear hb
              have IDM := Lib.hid hi
              clear hi p0 p1 hdk
              have HDC := Lib.hid (show cDim d v e b = withL D (a : Int) (sumL T) by unfold cDim; rw [HDg.out, Hag.out, HTn.out])
              obtain ⟨dm, hdm⟩ : ∃ dm, withL D (a : Int) (ln : Int) = dm := ⟨_, rfl⟩
              rw [hdm] at IDM ⊢
              have HDM := Lib.hid hdm
              have hdl : dm.length ≤ 3 := by rw [← hdm, withL_len]; exact hD3
              clear hdm
              by_cases h6 : rightB (cDim d v e b) = true
              rotate_left
              · have h6' : rightB (cDim d v e b) = false := by simpa using h6
                obtain ⟨e1, e2, e3⟩ := cp_4 H1.out H2.out hd1 H4.out H5.out h6'
                obtain rfl : E = 4 := HE.out.symm.trans e1
                obtain rfl : DD = [] := HD.out.symm.trans e2
                obtain rfl : VV = [] := HV.out.symm.trans e3
                clear HE HD HV e1 e2 e3
                have HR := Lib.hid (show rightB dm = false by rw [← HDM.out, HFD.out.1, ← HDC.out]; exact h6')
                clear h6 h6'
                go_wp2_with fail
                refine (refRightB_no _ _ dm _ HR.out (by unfold maxLen; omega) IDM.out).mono ?_
                rintro r w7 ⟨rfl, hb⟩
                replace BBk := Lib.hid (BBk.out.next hb)
                replace BRk := Lib.hid (BRk.out.next hb)
                replace LW := Lib.hid (below_next LW.out hb)
                replace IDDk := Lib.hid (IDDk.out.below hb)
                replace IUk := Lib.hid (IUk.out.below hb)
                replace IFR := Lib.hid (IFR.out.below hb)
                replace MK := Lib.hid (MK.out.below hb (Nat.le_refl _))
                replace IDM := Lib.hid (IDM.out.below hb)
                clear hb
                obtain ⟨r0, r1, r2, r3⟩ := BRk.out.all
                go_wp2
                have T9 := (BRk.out.set0 (.slice none 0 0)).set1 (.slice none 0 0)
                obtain ⟨t0, t1, _, _⟩ := T9.all
                refine bodyPost_ret (v := .tuple #[.agg #[.slice none 0 0, .slice none 0 0], .int .i64 4]) (by simp [results, Try.results13, go_sem, t0, t1]) rfl ?_
                exact ⟨none, 0, none, 0, rfl, Ints.nil _ _, Ints.nil _ _, (LW.out.setCell (by simp; omega) _).setCell (by simp; omega) _⟩
              have HOK := Lib.hid (copyOk_of H1.out H2.out hd1 H4.out H5.out h6)
              have HLS := Lib.hid (show (ln : Int) = sumL T from HFD.out.2 (by rw [← HDC.out]; exact h6))
              have HDM2 := Lib.hid (show cDim d v e b = dm by rw [HDC.out, ← HLS.out, HDM.out])
              have HR := Lib.hid (show rightB dm = true by rw [← HDM2.out]; exact h6)
              obtain ⟨N, hN, hN64⟩ := sizeI_nat dm HR.out
              have HN := Lib.hid hN
              clear hN
              obtain ⟨e1, e2, e3⟩ := cp_0 H1.out H2.out hd1 H4.out H5.out h6
              obtain rfl : E = 0 := HE.out.symm.trans e1
              obtain rfl : DD = cDim d v e b := HD.out.symm.trans e2
              obtain rfl : VV = copV u (cS e b) (cT d v e b) := HV.out.symm.trans e3
              clear HE HD HV e1 e2 e3
              clear h6
              have HVS := Lib.hid (copV_is HOK.out)
              rw [HDM2.out]
              go_wp2_with fail
              refine (refRightB_yes _ _ dm _ HR.out (by unfold maxLen; omega) IDM.out).mono ?_
              rintro r w7 ⟨rfl, hb⟩
              replace BBk := Lib.hid (BBk.out.next hb)
              replace BRk := Lib.hid (BRk.out.next hb)
              replace LW := Lib.hid (below_next LW.out hb)
              replace IDDk := Lib.hid (IDDk.out.below hb)
              replace IUk := Lib.hid (IUk.out.below hb)
              replace IFR := Lib.hid (IFR.out.below hb)
              replace MK := Lib.hid (MK.out.below hb (Nat.le_refl _))
              replace IDM := Lib.hid (IDM.out.below hb)
              clear hb
              have HF := Lib.hid (show copV u (cS e b) (cT d v e b) = (List.range N).map (fun i : Nat => atI D u ((dg dm i).set a (fr.getD ((dg dm i).getD a 0).toNat 0))) by
                rw [HVS.out, HTn.out, HDg.out, Hag.out, HTl.out, HFR.out, HDM2.out, HN.out, Int.toNat_natCast, ← HLS.out, HDM.out])
              rw [HF.out]
              have hgB := BBk.out.lt
              have hgR := BRk.out.lt
              have hgW := LW.out.size
              have IDM7 := Lib.hid IDM.out
              have L7 := Lib.hid (Below.refl w7.heap.size w7)
              have KB := Lib.hid (below_new w7 (.cells #[.slice AM dm.length cM, .slice none 0 0] 25))
              have BX := Lib.hid (Box.new w7 (.slice AM dm.length cM) (.slice none 0 0))
              replace IDM := Lib.hid (IDM.out.below KB.out)
              replace L7 := Lib.hid (below_next L7.out KB.out)
              have hgo := BX.out.lt
              go_wp2_with fail
              refine (places_p _ _ dm N _ HN.out (by omega) IDM.out).mono ?_
              rintro r w8 ⟨AP, cP8, rfl, hp8, hb⟩
              replace BX := Lib.hid (BX.out.next hb)
              replace L7 := Lib.hid (below_next L7.out hb)
              have PL := Lib.hid hp8
              clear hb hp8 KB IDM
              generalize hW7 : w7.alloc (.cells #[.slice AM dm.length cM, .slice none 0 0] 25) = W7 at *
              clear hW7
              generalize hgo7 : w7.heap.size = go at *
              have HG7 := Lib.hid hgo7
              clear hgo7
              have O0 := Lib.hid (show OutSt w8 w8 go (.slice AM dm.length cM) (.slice none 0 0) [] from ⟨turned_refl _ _, BX.out, MineT.nil _ _ _, BX.out.lt⟩)
              go_wp2
              go_loopw [17] (fun j wr => ∃ (k : Nat) (V : Value), k ≤ N ∧ j = .int .i64 (k : Int) ∧ OutSt w8 wr go (.slice AM dm.length cM) V ((List.range k).map (fun i : Nat => atI D u ((dg dm i).set a (fr.getD ((dg dm i).getD a 0).toNat 0))))) (fun j _ => N - (intOf j).toNat)
              case atStart => exact ⟨0, _, Nat.zero_le _, rfl, O0.out⟩
              case round =>
                obtain ⟨k2, V, hk2, rfl, hO⟩ := hrel
                have O := Lib.hid hO
                have Lr := Lib.hid (show Below w7.heap.size w7 wr from below_turned (by rw [HG7.out]; exact L7.out) hO.1 (by rw [HG7.out]; exact Nat.le_refl _))
                have PLr := Lib.hid (PL.out.grown hO.1 hgo)
                have BBr := Lib.hid (BBk.out.next Lr.out)
                have BRr := Lib.hid (BRk.out.next Lr.out)
                have LWr := Lib.hid (below_next LW.out Lr.out)
                clear hO O0
                by_cases hlt : k2 < N
                · obtain ⟨bp, At, ct, rfl, hbp1, hbp2, hcp, hfp⟩ := PLr.out k2 hlt
                  have HPL := Lib.hid (show posL dm from (sizeI_pos (d := dm) (i := (k2 : Int)) (by omega) (by rw [HN.out]; omega)).2.2)
                  have HMX := Lib.hid (show ((List.range (k2 + 1)).map (fun i : Nat => atI D u ((dg dm i).set a (fr.getD ((dg dm i).getD a 0).toNat 0)))) = (List.range k2).map (fun i : Nat => atI D u ((dg dm i).set a (fr.getD ((dg dm i).getD a 0).toNat 0))) ++ [atI D u ((dg dm k2).set a (fr.getD ((dg dm k2).getD a 0).toNat 0))] by rw [List.range_succ, List.map_append]; rfl)
                  have hda2 : dm.getD a 0 = (ln : Int) := by rw [← HDM.out, withL_at D a haL, get_mid _ _ _ (by simp; omega)]
                  have hal : a < dm.length := by rw [← HDM.out, withL_len]; exact haL
                  have HQA := Lib.hid (show 0 ≤ (dg dm k2).getD a 0 ∧ (dg dm k2).getD a 0 < (ln : Int) by
                    rw [dg_at dm k2 a hal, hda2]
                    have := posL_at HPL.out hal
                    rw [hda2] at this
                    exact ⟨Int.emod_nonneg _ (by omega), Int.emod_lt_of_pos _ (by omega)⟩)
                  have LQ := Lib.hid (show ((List.range k2).map (fun i : Nat => atI D u ((dg dm i).set a (fr.getD ((dg dm i).getD a 0).toNat 0)))).length = k2 by simp)
                  clear hda2
                  generalize hys : (List.range k2).map (fun i : Nat => atI D u ((dg dm i).set a (fr.getD ((dg dm i).getD a 0).toNat 0))) = ys at *
                  clear hys
                  have HQL := Lib.hid (dg_length dm (k2 : Int))
                  generalize dg dm (k2 : Int) = q at *
                  rw [← HQL.out] at hcp
                  have hal2 : a < q.length := by rw [HQL.out]; exact hal
                  have IQ := Lib.hid hfp.ints
                  obtain ⟨tn, htn⟩ : ∃ tn : Nat, q.getD a 0 = (tn : Int) := ⟨(q.getD a 0).toNat, by have := HQA.out; omega⟩
                  have htl : tn < ln := by have := HQA.out; omega
                  rw [htn, Int.toNat_natCast] at HMX
                  have hqa : q.length ≤ 3 := by rw [HQL.out]; exact hdl
                  have k0 : (0 : Int) ≤ (k2 : Int) := by omega
                  have k1 : (k2 : Int) < (N : Int) := by omega
                  clear hfp
                  have HTN := Lib.hid htn
                  clear htn
                  obtain ⟨bf, of, rfl, hbf, hcf⟩ := (IFR.out.below Lr.out) (by rw [HLN.out]; omega)
                  have hzf := hcf tn (by rw [HLN.out]; exact htl)
                  have t0 : (0 : Int) ≤ (tn : Int) := by omega
                  have t1 : (tn : Int) < (ln : Int) := by omega
                  have a1 : (a : Int) < (q.length : Int) := by omega
                  clear hcf
                  generalize fr.getD tn 0 = z at *
                  have IDr := Lib.hid (IDDk.out.below Lr.out)
                  have IUr := Lib.hid (IUk.out.below Lr.out)
                  go_wp2_with (at_builtin; refine wpList_copyI numI Try.underlying22 rfl (.tmp 129) (.tmp 133) rfl rfl At ct q rfl IQ.out (by omega) ?_; intro A9 c9 w9 hm9 hb9; obtain ⟨g9, rfl, hg9, hg9l, hz9, hc9⟩ := hm9.has (by omega); have hqa9 := hc9 a hal2; rw [HTN.out] at hqa9; have hzf9 := (hb9.cell (p := ⟨bf, of + tn, none⟩) hbf).trans hzf; have hfz9 := hz9 a; have M9 := Lib.hid hm9; have L10 := Lib.hid (hb9.setCell (p := ⟨g9, a, none⟩) hg9 (.int .i64 z)); obtain ⟨x0, x1, -, -⟩ := (BBr.out.next L10.out).all; clear hc9 hz9 hm9 hb9)
                  have M10 := Lib.hid (M9.out.set_ a z hal2)
                  have HP10 := Lib.hid (show (q.set a z).length = q.length by simp)
                  generalize hx : atI D u (q.set a z) = x at *
                  have HX := Lib.hid hx
                  clear hx
                  refine (rat_n _ _ D _ _ u _ q.length c9 (q.set a z) x _ HP10.out HX.out (by omega) (by omega) (by omega) (IDr.out.below L10.out) (IUr.out.below L10.out) M10.out.ints').mono ?_
                  rintro r w11 ⟨tb, rfl, hb⟩
                  have O7 := Lib.hid ((O.out.next L10.out).next hb)
                  have O8 := Lib.hid (O7.out.alloc (.cells #[.int .i64 x] 2))
                  have X8 := Lib.hid (one_new w11 x)
                  have c7 := O7.out.box.c1
                  clear hb x0 x1 hqa9 hzf9 hfz9 M10 M9
                  go_wp2_with (at_builtin; refine wpList_appI numL Try.underlying23 rfl (.tmp 152) (.tmp 154) rfl w8.heap.size V ys (by rfl) O8.out.mine (some ⟨w11.heap.size, 0, none⟩) 1 [x] rfl X8.out (by rw [LQ.out]; simp; omega) O8.out.size ?_; intro V' w12 hm8 hg8 ha8; obtain ⟨A8, c8, rfl, -⟩ := hm8.ints; obtain ⟨y0', y1', y2', y3'⟩ := (O8.out.mid hg8).all)
                  go_roundw
                  case rel => exact ⟨k2 + 1, _, by omega, by go_num, by rw [HMX.out]; have hm9 := hm8; rw [List.length_append] at hm9; exact O8.out.app hm9 hg8⟩
                  case measure => simp [intOf]; omega
                · obtain rfl : k2 = N := by omega
                  generalize hys : (List.range k2).map (fun i : Nat => atI D u ((dg dm i).set a (fr.getD ((dg dm i).getD a 0).toNat 0))) = ys at *
                  clear hys
                  obtain ⟨AV, cV, rfl, -⟩ := O.out.mine.ints
                  obtain ⟨q0, q1, -, -⟩ := O.out.box.all
                  obtain ⟨r0, r1, r2, r3⟩ := BRr.out.all
                  have hlr := Lr.out.size
                  go_wp2
                  have T9 := (BRr.out.set0 (.slice AM dm.length cM)).set1 (.slice AV ys.length cV)
                  obtain ⟨t0, t1, _, _⟩ := T9.all
                  refine bodyPost_ret (v := .tuple #[.agg #[.slice AM dm.length cM, .slice AV ys.length cV], .int .i64 0]) (by simp [results, Try.results13, go_sem, t0, t1]) rfl ?_
                  first | rw [HF.out, HDM2.out] | rw [HF.out] | skip
                  exact ⟨AM, cM, AV, cV, rfl, (IDM7.out.below Lr.out).set_box BRr.out _ _, O.out.mine.ints'.set_box BRr.out _ _, (LWr.out.setCell (by simp; omega) _).setCell (by simp; omega) _⟩
end Go.Proofs.Ytfnpdflapmbnjaa.Sh
