/-
  Layer 22, steps: the steps that a function and a value make. No condition. Layer 22, steps: doing a function. Conditions: as told. Layer 22, steps: using a function, and going through a value. Conditions: as told. Layer 22, steps: what going through a value lays. No condition. Layer 22, steps: (*maker).value. Conditions: as told. Layer 22, steps: Of. Conditions: as told. Layer 22, steps: the document's example. Condition: the table of scalar functions.
-/
import Derived.Test.YtjmpilmmgfjpmaaDoorPkQb
import Derived.Test.YtjmpilmmgfjpmaaDoorTrWalkL
import Derived.BigQuiet
-- StpDoM
set_option maxRecDepth 100000
namespace Go.Proofs.YtjmpilmmgfjpmaaDoor.Stp
open Go.Proofs.YtjmpilmmgfjpmaaDoor.Sh Go.Proofs.YtjmpilmmgfjpmaaDoor.St Go.Proofs.YtjmpilmmgfjpmaaDoor.Tr
open Go.RowKit
set_option linter.unusedVariables false
set_option linter.unusedSimpArgs false

def ndAt (qs : List Nq) (i : Int) : Nd := if i < 0 then zeroNd else match qs[i.toNat]? with
  | some q => q.n
  | none => zeroNd
def fkD (qs : List Nq) (n : Nd) (d : Int → Arg → List Sx → List Sx) (t : Arg) (L : List Sx) : List Sx :=
  d (kid n 1) ⟨((if kindAt qs (kid n 0) = 1 then d (kid n 2) t L ++ [nmS (ndAt qs (kid n 0))] else d (kid n 0) t (d (kid n 2) t L)).length : Int) - 1, ((d (kid n 2) t L).length : Int) - 1, true⟩ (if kindAt qs (kid n 0) = 1 then d (kid n 2) t L ++ [nmS (ndAt qs (kid n 0))] else d (kid n 0) t (d (kid n 2) t L))
def atD (n : Nd) (d : Int → Arg → List Sx → List Sx) (t : Arg) (L : List Sx) : List Sx := d (kid n 0) ⟨0, ((d (kid n 1) t L).length : Int) - 1, false⟩ (d (kid n 1) t L)
/-- The steps, with those that do a function. -/
def doN (qs : List Nq) (n : Nd) (d : Int → Arg → List Sx → List Sx) (t : Arg) (L : List Sx) : List Sx :=
  if n.kind = 5 then L ++ [prS n t] else if n.kind = 7 then (if n.code = 38 then d (kid n 0) t.sw L else L ++ [fdS qs n t])
  else if n.kind = 8 then L ++ [nrS qs n t] else if n.kind = 9 then L ++ [dtS qs n t] else if n.kind = 10 then L ++ [otS qs n t]
  else if n.kind = 11 then fkD qs n d t L else if n.kind = 12 then atD n d t L else L
def doF (qs : List Nq) : Nat → Int → Arg → List Sx → List Sx
  | 0, _, _, L => L
  | f + 1, i, t, L => if i < 0 then L else match qs[i.toNat]? with
    | some q => doN qs q.n (doF qs f) t L
    | none => L
def doV (qs : List Nq) (i : Int) (t : Arg) (L : List Sx) : List Sx := doF qs (i.toNat + 1) i t L
theorem doN_congr {qs : List Nq} {n : Nd} {d d' : Int → Arg → List Sx → List Sx} (h : ∀ j, d (kid n j) = d' (kid n j)) (t : Arg) (L : List Sx) : doN qs n d t L = doN qs n d' t L := by
  simp only [doN, fkD, atD, h]
theorem doF_low {qs : List Nq} {f : Nat} {i : Int} (h : i < 0) : doF qs f i = fun _ L => L := by
  funext t L
  cases f with
  | zero => rfl
  | succ f => unfold doF; rw [if_pos h]
theorem doF_enough {qs : List Nq} (hA : Ahead qs) : ∀ (f g : Nat) (i : Int), i < (f : Int) → i < (g : Int) → doF qs f i = doF qs g i
  | 0, g, i, h, h' => by rw [doF_low (by omega), doF_low (by omega)]
  | f + 1, 0, i, h, h' => by rw [doF_low (by omega), doF_low (by omega)]
  | f + 1, g + 1, i, h, h' => by
    by_cases hi : i < 0
    · rw [doF_low hi, doF_low hi]
    · funext t L
      unfold doF
      rw [if_neg hi, if_neg hi]
      split
      · rename_i q hq
        apply doN_congr
        intro j
        have h1 := kid_lt hA hq j
        exact doF_enough hA f g _ (by omega) (by omega)
      · rfl
theorem doV_eq {qs : List Nq} (hA : Ahead qs) {k : Nat} {q : Nq} (hq : qs[k]? = some q) (t : Arg) (L : List Sx) : doV qs (k : Int) t L = doN qs q.n (doV qs) t L := by
  unfold doV
  rw [show ((k : Int)).toNat = k by simp]
  rw [doF, if_neg (by omega), show ((k : Int)).toNat = k by simp, hq]
  apply doN_congr
  intro j
  have h1 := kid_lt hA hq j
  exact doF_enough hA _ _ _ (by omega) (by omega)
/-- The steps so far, and what is wrong first. -/
structure Ms where
  l : List Sx
  fe : Int
  fp : Int
def useM (qs : List Nq) (i : Int) (t : Arg) (m : Ms) : Ms × Int :=
  if (if t.two = true then (usV qs i).2 else (usV qs i).1) = true then (⟨doV qs i t m.l, m.fe, m.fp⟩, ((doV qs i t m.l).length : Int) - 1)
  else if m.fe = 0 then (⟨m.l, 13, (ndAt qs i).pos⟩, 0) else (m, 0)
def vaN (qs : List Nq) (n : Nd) (v : Int → Ms → Ms × Int) (m : Ms) : Ms × Int :=
  if n.kind = 1 then (⟨m.l ++ [nmS n], m.fe, m.fp⟩, (m.l.length : Int))
  else if n.kind = 3 then useM qs (kid n 0) ⟨0, (v (kid n 1) m).2, false⟩ (v (kid n 1) m).1
  else if n.kind = 4 then useM qs (kid n 1) ⟨(v (kid n 0) (v (kid n 2) m).1).2, (v (kid n 2) m).2, true⟩ (v (kid n 0) (v (kid n 2) m).1).1
  else (m, 0)
def vaF (qs : List Nq) : Nat → Int → Ms → Ms × Int
  | 0, _, m => (m, 0)
  | f + 1, i, m => if i < 0 then (m, 0) else match qs[i.toNat]? with
    | some q => vaN qs q.n (vaF qs f) m
    | none => (m, 0)
def vaV (qs : List Nq) (i : Int) (m : Ms) : Ms × Int := vaF qs (i.toNat + 1) i m
theorem vaN_congr {qs : List Nq} {n : Nd} {d d' : Int → Ms → Ms × Int} (h : ∀ j, d (kid n j) = d' (kid n j)) (m : Ms) : vaN qs n d m = vaN qs n d' m := by
  simp only [vaN, h]
theorem vaF_low {qs : List Nq} {f : Nat} {i : Int} (h : i < 0) : vaF qs f i = fun m => (m, 0) := by
  funext m
  cases f with
  | zero => rfl
  | succ f => unfold vaF; rw [if_pos h]
theorem vaF_enough {qs : List Nq} (hA : Ahead qs) : ∀ (f g : Nat) (i : Int), i < (f : Int) → i < (g : Int) → vaF qs f i = vaF qs g i
  | 0, g, i, h, h' => by rw [vaF_low (by omega), vaF_low (by omega)]
  | f + 1, 0, i, h, h' => by rw [vaF_low (by omega), vaF_low (by omega)]
  | f + 1, g + 1, i, h, h' => by
    by_cases hi : i < 0
    · rw [vaF_low hi, vaF_low hi]
    · funext m
      unfold vaF
      rw [if_neg hi, if_neg hi]
      split
      · rename_i q hq
        apply vaN_congr
        intro j
        have h1 := kid_lt hA hq j
        exact vaF_enough hA f g _ (by omega) (by omega)
      · rfl
theorem vaV_eq {qs : List Nq} (hA : Ahead qs) {k : Nat} {q : Nq} (hq : qs[k]? = some q) (m : Ms) : vaV qs (k : Int) m = vaN qs q.n (vaV qs) m := by
  unfold vaV
  rw [show ((k : Int)).toNat = k by simp]
  rw [vaF, if_neg (by omega), show ((k : Int)).toNat = k by simp, hq]
  apply vaN_congr
  intro j
  have h1 := kid_lt hA hq j
  exact vaF_enough hA _ _ _ (by omega) (by omega)
/-! How many they are. -/
/-- How many nodes stand below one. -/
def wl (qs : List Nq) (i : Int) : Nat := (walkL qs i).length
theorem wl_one {qs : List Nq} (hF : Fl qs) {k : Nat} {q : Nq} (hq : qs[k]? = some q) : wl qs (k : Int) = 1 + (q.n.kids.map (wl qs)).sum := by
  unfold wl
  rw [walkL_eq hF.ahead hq, List.length_cons, List.length_flatMap, Nat.add_comm]
theorem wl_kids {qs : List Nq} (hF : Fl qs) {k : Nat} {q : Nq} (hq : qs[k]? = some q) : wl qs (k : Int) = 1 + ((List.range (partsL q.n.kind).length).map fun j => wl qs (kid q.n j)).sum := by
  rw [wl_one hF hq]
  congr 2
  have hn := hF.nk hq
  rw [← hn]
  apply List.ext_getElem?
  intro j
  by_cases hj : j < q.n.kids.length
  · obtain ⟨m, q', hx, hkm, -⟩ := hF.kid hq j (by omega)
    rw [List.getElem?_map, hx, List.getElem?_map, List.getElem?_range hj]
    show some (wl qs (m : Int)) = some (wl qs (kid q.n j))
    rw [hkm]
  · rw [List.getElem?_eq_none (by rw [List.length_map]; omega), List.getElem?_eq_none (by rw [List.length_map, List.length_range]; omega)]
theorem wl_1 {qs : List Nq} (hF : Fl qs) {k : Nat} {q : Nq} (hq : qs[k]? = some q) (h : (partsL q.n.kind).length = 1) : wl qs (k : Int) = 1 + wl qs (kid q.n 0) := by rw [wl_kids hF hq, h]; rfl
theorem wl_2 {qs : List Nq} (hF : Fl qs) {k : Nat} {q : Nq} (hq : qs[k]? = some q) (h : (partsL q.n.kind).length = 2) : wl qs (k : Int) = 1 + (wl qs (kid q.n 0) + wl qs (kid q.n 1)) := by rw [wl_kids hF hq, h]; rfl
theorem wl_3 {qs : List Nq} (hF : Fl qs) {k : Nat} {q : Nq} (hq : qs[k]? = some q) (h : (partsL q.n.kind).length = 3) : wl qs (k : Int) = 1 + (wl qs (kid q.n 0) + (wl qs (kid q.n 1) + wl qs (kid q.n 2))) := by rw [wl_kids hF hq, h]; rfl
theorem wl_pos {qs : List Nq} (hF : Fl qs) {k : Nat} {q : Nq} (hq : qs[k]? = some q) : 1 ≤ wl qs (k : Int) := by rw [wl_one hF hq]; omega
/-- What doing a function lays: some steps more, no more than there are nodes, each done to earlier ones. -/
structure Grow (L M : List Sx) (n : Nat) : Prop where
  ext : ∃ N, M = L ++ N ∧ 0 < N.length ∧ N.length ≤ n
def Rise (L M : List Sx) : Prop := ∀ (j : Nat) (s : Sx), M[j]? = some s → L.length ≤ j → 1 ≤ s.kind ∧ s.kind ≤ 13 ∧ 0 ≤ s.a ∧ s.a < (j : Int) ∧ 0 ≤ s.b ∧ s.b < (j : Int)
theorem Grow.one (L : List Sx) (s : Sx) {n : Nat} (h : 1 ≤ n) : Grow L (L ++ [s]) n := ⟨[s], rfl, by simp, by simpa using h⟩
theorem Grow.trans {L M N : List Sx} {a b n : Nat} (h : Grow L M a) (k : Grow M N b) (hn : a + b ≤ n) : Grow L N n := by
  obtain ⟨x, rfl, h1, h2⟩ := h.ext
  obtain ⟨y, rfl, h3, h4⟩ := k.ext
  exact ⟨x ++ y, by simp, by rw [List.length_append]; omega, by rw [List.length_append]; omega⟩
theorem Grow.mono {L M : List Sx} {a n : Nat} (h : Grow L M a) (hn : a ≤ n) : Grow L M n := by
  obtain ⟨x, e, h1, h2⟩ := h.ext
  exact ⟨x, e, h1, by omega⟩
theorem Grow.len {L M : List Sx} {n : Nat} (h : Grow L M n) : L.length < M.length ∧ M.length ≤ L.length + n := by
  obtain ⟨x, rfl, h1, h2⟩ := h.ext
  rw [List.length_append]; omega
theorem Rise.one (L : List Sx) (s : Sx) (h1 : 1 ≤ s.kind) (h2 : s.kind ≤ 13) (h3 : 0 ≤ s.a ∧ s.a < (L.length : Int)) (h4 : 0 ≤ s.b ∧ s.b < (L.length : Int)) : Rise L (L ++ [s]) := by
  intro j x hx hj
  rw [List.getElem?_append_right hj] at hx
  have : j - L.length = 0 := by
    rcases Nat.eq_zero_or_pos (j - L.length) with h | h
    · exact h
    · rw [List.getElem?_eq_none (by simp; omega)] at hx; cases hx
  rw [this] at hx
  obtain rfl : s = x := by simpa using hx
  exact ⟨h1, h2, h3.1, by omega, h4.1, by omega⟩
theorem Rise.trans {L M N : List Sx} {b : Nat} (h : Rise L M) (g : Grow M N b) (k : Rise M N) : Rise L N := by
  intro j x hx hj
  by_cases hm : M.length ≤ j
  · exact k j x hx hm
  · obtain ⟨y, rfl, -, -⟩ := g.ext
    rw [List.getElem?_append_left (by omega)] at hx
    exact h j x hx hj
/-- No names in functions. -/
def NoKn (qs : List Nq) : Prop := ∀ (k : Nat) (q : Nq), qs[k]? = some q → q.n.kind ≠ 6
theorem foldK_in (c : Int) (two : Bool) : 1 ≤ foldK c two ∧ foldK c two ≤ 13 := by
  unfold foldK
  repeat' split
  all_goals omega
theorem prS_kind (n : Nd) (t : Arg) : 1 ≤ (prS n t).kind ∧ (prS n t).kind ≤ 13 ∧ (prS n t).a = t.a ∧ (prS n t).b = t.b := by
  unfold prS
  split
  all_goals
    refine ⟨?_, ?_, rfl, rfl⟩
    all_goals
      simp only
      split <;> omega
theorem do_grow {qs : List Nq} (hF : Fl qs) (hK : NoKn qs) : ∀ (k : Nat) (q : Nq), qs[k]? = some q → funI q.n.kind = true → ∀ (t : Arg) (L : List Sx), Grow L (doV qs (k : Int) t L) (wl qs (k : Int)) ∧ (0 ≤ t.a → t.a < (L.length : Int) → 0 ≤ t.b → t.b < (L.length : Int) → Rise L (doV qs (k : Int) t L)) := by
  intro k
  induction k using Nat.strongRecOn with
  | ind k ih =>
  intro q hq hfun t L
  have hk6 := hK k q hq
  have hpos := wl_pos hF hq
  rw [doV_eq hF.ahead hq]
  unfold doN
  unfold funI at hfun
  simp only [Bool.and_eq_true, decide_eq_true_eq] at hfun
  by_cases h5 : q.n.kind = 5
  · rw [if_pos h5]
    have hp := prS_kind q.n t
    exact ⟨Grow.one _ _ hpos, fun a1 a2 b1 b2 => Rise.one _ _ hp.1 hp.2.1 ⟨by rw [hp.2.2.1]; exact a1, by rw [hp.2.2.1]; exact a2⟩ ⟨by rw [hp.2.2.2]; exact b1, by rw [hp.2.2.2]; exact b2⟩⟩
  rw [if_neg h5]
  by_cases h7 : q.n.kind = 7
  · rw [if_pos h7]
    split
    · obtain ⟨m, q', hx, hkm, hmk, hqm, hka, hmay⟩ := hF.kid hq 0 (by rw [h7]; decide)
      rw [h7] at hmay
      have hmay' : funI q'.n.kind = true := hmay
      have := ih m hmk q' hqm hmay' t.sw L
      rw [hkm]
      have hw := wl_1 hF hq (by rw [h7]; decide)
      rw [hkm] at hw
      refine ⟨this.1.mono (by omega), fun a1 a2 b1 b2 => this.2 ?_ ?_ ?_ ?_⟩
      all_goals
        unfold Arg.sw
        split
        all_goals first
          | exact a1
          | exact a2
          | exact b1
          | exact b2
    · exact ⟨Grow.one _ _ hpos, fun a1 a2 b1 b2 => Rise.one _ _ (foldK_in _ _).1 (foldK_in _ _).2 ⟨a1, a2⟩ ⟨b1, b2⟩⟩
  rw [if_neg h7]
  by_cases h8 : q.n.kind = 8
  · rw [if_pos h8]
    exact ⟨Grow.one _ _ hpos, fun a1 a2 b1 b2 => Rise.one _ _ (by show (1 : Int) ≤ 11; omega) (by show (11 : Int) ≤ 13; omega) ⟨a1, a2⟩ ⟨b1, b2⟩⟩
  rw [if_neg h8]
  by_cases h9 : q.n.kind = 9
  · rw [if_pos h9]
    exact ⟨Grow.one _ _ hpos, fun a1 a2 b1 b2 => Rise.one _ _ (by show (1 : Int) ≤ 12; omega) (by show (12 : Int) ≤ 13; omega) ⟨a1, a2⟩ ⟨b1, b2⟩⟩
  rw [if_neg h9]
  by_cases h10 : q.n.kind = 10
  · rw [if_pos h10]
    exact ⟨Grow.one _ _ hpos, fun a1 a2 b1 b2 => Rise.one _ _ (by show (1 : Int) ≤ 13; omega) (by show (13 : Int) ≤ 13; omega) ⟨a1, a2⟩ ⟨b1, b2⟩⟩
  rw [if_neg h10]
  by_cases h11 : q.n.kind = 11
  · rw [if_pos h11]
    obtain ⟨m0, q0, hx0, hkm0, hmk0, hqm0, hka0, hmay0⟩ := hF.kid hq 0 (by rw [h11]; decide)
    obtain ⟨m1, q1, hx1, hkm1, hmk1, hqm1, hka1, hmay1⟩ := hF.kid hq 1 (by rw [h11]; decide)
    obtain ⟨m2, q2, hx2, hkm2, hmk2, hqm2, hka2, hmay2⟩ := hF.kid hq 2 (by rw [h11]; decide)
    rw [h11] at hmay0 hmay1 hmay2
    have hf1 : funI q1.n.kind = true := hmay1
    have hf2 : funI q2.n.kind = true := hmay2
    have ht0 : tineB q0.n.kind = true := hmay0
    have hw := wl_3 hF hq (by rw [h11]; decide)
    rw [hkm0, hkm1, hkm2] at hw
    unfold fkD
    rw [hkm0, hkm1, hkm2, hka0]
    have g2 := ih m2 hmk2 q2 hqm2 hf2 t L
    obtain ⟨M2, hM2⟩ : ∃ M, doV qs (m2 : Int) t L = M := ⟨_, rfl⟩
    rw [hM2] at g2 ⊢
    have hp0 := wl_pos hF hqm0
    have g0 : Grow M2 (if q0.n.kind = 1 then M2 ++ [nmS (ndAt qs (m0 : Int))] else doV qs (m0 : Int) t M2) (wl qs (m0 : Int)) ∧ (0 ≤ t.a → t.a < (M2.length : Int) → 0 ≤ t.b → t.b < (M2.length : Int) → Rise M2 (if q0.n.kind = 1 then M2 ++ [nmS (ndAt qs (m0 : Int))] else doV qs (m0 : Int) t M2)) := by
      by_cases h1 : q0.n.kind = 1
      · rw [if_pos h1]
        exact ⟨Grow.one _ _ hp0, fun a1 a2 b1 b2 => Rise.one _ _ (by show (1 : Int) ≤ 1; omega) (by show (1 : Int) ≤ 13; omega) ⟨by show (0 : Int) ≤ 0; omega, by show (0 : Int) < _; omega⟩ ⟨by show (0 : Int) ≤ 0; omega, by show (0 : Int) < _; omega⟩⟩
      · rw [if_neg h1]
        have hf0 : funI q0.n.kind = true := by
          unfold tineB at ht0
          simp only [Bool.or_eq_true, decide_eq_true_eq] at ht0
          rcases ht0 with h | h
          · exact h
          · exact absurd h h1
        exact ih m0 hmk0 q0 hqm0 hf0 t M2
    obtain ⟨M0, hM0⟩ : ∃ M, (if q0.n.kind = 1 then M2 ++ [nmS (ndAt qs (m0 : Int))] else doV qs (m0 : Int) t M2) = M := ⟨_, rfl⟩
    rw [hM0] at g0 ⊢
    have g1 := ih m1 hmk1 q1 hqm1 hf1 ⟨(M0.length : Int) - 1, (M2.length : Int) - 1, true⟩ M0
    have l2 := g2.1.len
    have l0 := g0.1.len
    refine ⟨(g2.1.trans g0.1 (Nat.le_refl _)).trans g1.1 (by omega), fun a1 a2 b1 b2 => ?_⟩
    exact ((g2.2 a1 a2 b1 b2).trans g0.1 (g0.2 a1 (by omega) b1 (by omega))).trans g1.1 (g1.2 (by show (0 : Int) ≤ (M0.length : Int) - 1; omega) (by show (M0.length : Int) - 1 < _; omega) (by show (0 : Int) ≤ (M2.length : Int) - 1; omega) (by show (M2.length : Int) - 1 < _; omega))
  rw [if_neg h11]
  have h12 : q.n.kind = 12 := by omega
  rw [if_pos h12]
  obtain ⟨m0, q0, hx0, hkm0, hmk0, hqm0, hka0, hmay0⟩ := hF.kid hq 0 (by rw [h12]; decide)
  obtain ⟨m1, q1, hx1, hkm1, hmk1, hqm1, hka1, hmay1⟩ := hF.kid hq 1 (by rw [h12]; decide)
  rw [h12] at hmay0 hmay1
  have hf0 : funI q0.n.kind = true := hmay0
  have hf1 : funI q1.n.kind = true := hmay1
  have hw := wl_2 hF hq (by rw [h12]; decide)
  rw [hkm0, hkm1] at hw
  unfold atD
  rw [hkm0, hkm1]
  have g1 := ih m1 hmk1 q1 hqm1 hf1 t L
  obtain ⟨M1, hM1⟩ : ∃ M, doV qs (m1 : Int) t L = M := ⟨_, rfl⟩
  rw [hM1] at g1 ⊢
  have g0 := ih m0 hmk0 q0 hqm0 hf0 ⟨0, (M1.length : Int) - 1, false⟩ M1
  have l1 := g1.1.len
  refine ⟨g1.1.trans g0.1 (by omega), fun a1 a2 b1 b2 => ?_⟩
  exact (g1.2 a1 a2 b1 b2).trans g0.1 (g0.2 (by show (0 : Int) ≤ 0; omega) (by show (0 : Int) < _; omega) (by show (0 : Int) ≤ (M1.length : Int) - 1; omega) (by show (M1.length : Int) - 1 < _; omega))
end Go.Proofs.YtjmpilmmgfjpmaaDoor.Stp
-- StpDo
set_option maxRecDepth 100000
namespace Go.Proofs.YtjmpilmmgfjpmaaDoor.Stp
open Go.Proofs.YtjmpilmmgfjpmaaDoor.Sh Go.Proofs.YtjmpilmmgfjpmaaDoor.St Go.Proofs.YtjmpilmmgfjpmaaDoor.Tr Go.Proofs.YtjmpilmmgfjpmaaDoor.Big
open Go.RowKit
set_option linter.unusedVariables false
set_option linter.unusedSimpArgs false

/-- Behind a method that has made steps. -/
theorem Ins.step {w0 w w' : World} {A : Option Addr} {c : Nat} {qs : List Nq} {X : Nat → Prop} {g : Nat} {ls ls' : List Qs} {fe fp fe' fp' : Int} (h : Ins w0 A c qs X g ls fe fp w) (hm : Mk X g (.slice A qs.length c) ls' fe' fp' w') (ho : Out X w w') (hl : ls'.length ≤ 1500) : Ins w0 A c qs X g ls' fe' fp' w' :=
  ⟨h.fl, h.tab, h.nodes, h.cx.next ho, hm, hl, h.lowg⟩
theorem Ins.more {w0 w : World} {A : Option Addr} {c : Nat} {qs : List Nq} {X : Nat → Prop} {g : Nat} {ls : List Qs} {fe fp : Int} (h : Ins w0 A c qs X g ls fe fp w) (o : Obj) : Ins w0 A c qs (More X w.heap.size) g ls fe fp (w.alloc o) := ⟨h.fl, h.tab, h.nodes, h.cx.more o, h.mkr.more o, h.lim, h.lowg⟩
theorem Ins.drew {w0 w : World} {A : Option Addr} {c : Nat} {qs : List Nq} {X : Nat → Prop} {g : Nat} {ls : List Qs} {fe fp : Int} (h : Ins w0 A c qs X g ls fe fp w) : Ins w0 A c qs X g ls fe fp w.drew := h.below ((Below.refl _ w).drew)
/-- What is behind a method that made two boxes first. -/
theorem RetP.less2 {X : Nat → Prop} {g b1 b2 : Nat} {NV : Value} {L : List Sx} {fe fp : Int} {w w1 w' : World} {e : Ending} (hb : Below w.heap.size w w1) (h : RetP (More (More X b1) b2) g NV L fe fp w1 e w') : RetP X g NV L fe fp w e w' := by
  obtain ⟨ls, m, h1, h2, h3, h4, h5⟩ := h
  exact ⟨ls, m, h1, h2, h3, h4.less.less, (Turn.of_below _ hb).trans h5.less.less⟩
def DoC (w0 : World) (A : Option Addr) (c : Nat) (qs : List Nq) (k : Nat) : Prop := ∀ (X : Nat → Prop) (g : Nat) (ls : List Qs) (fe fp : Int) (w : World) (ta tb : Int) (two : Bool), Ins w0 A c qs X g ls fe fp w → ls.length + wl qs (k : Int) ≤ 1500 →
  Calls Tryd.prog 51 #[.pointer (some ⟨g, 0, none⟩), .int .i64 (k : Int), .agg #[.int .i64 ta, .int .i64 tb, .bool two]] w (RetP X g (.slice A qs.length c) (doV qs (k : Int) ⟨ta, tb, two⟩ (ls.map Prod.fst)) fe fp w)
theorem map_len {ls : List Qs} {L : List Sx} (h : ls.map Prod.fst = L) : ls.length = L.length := by rw [← h, List.length_map]
set_option maxHeartbeats 8000000 in
theorem swap_any {w0 : World} {A : Option Addr} {c : Nat} {qs : List Nq} {X : Nat → Prop} {g : Nat} {ls : List Qs} {fe fp : Int} (w : World) (h : Ins w0 A c qs X g ls fe fp w) (hKn : NoKn qs) (k : Nat) (pp : Int) (kids nums : List Int) (name : ByteArray) (ka : Option Addr) (kc : Nat) (na : Option Addr) (nc : Nat) (hq : qs[k]? = some ⟨⟨(7 : Int), pp, (38 : Int), kids, nums, name⟩, ka, kc, na, nc⟩) (ta tb : Int) (two : Bool) (hD : ∀ m, m < k → (∃ q : Nq, qs[m]? = some q ∧ funI q.n.kind = true) → DoC w0 A c qs m) (hroom : ls.length + wl qs (k : Int) ≤ 1500)  :
    Calls Tryd.prog 81 #[.pointer (some ⟨g, 0, none⟩), .agg #[.int .i64 (7 : Int), .int .i64 pp, .int .i64 (38 : Int), .slice ka kids.length kc, .slice na nums.length nc, .string name], .agg #[.int .i64 ta, .int .i64 tb, .bool two]] w (RetP X g (.slice A qs.length c) (doV qs (kid ⟨(7 : Int), pp, (38 : Int), kids, nums, name⟩ 0) (Arg.mk ta tb two).sw (ls.map Prod.fst)) fe fp w) := by
  have hlen : kids.length = 1 := h.fl.nk hq
  have hin0 := h.nodes.2 _ (List.mem_of_getElem? hq)
  obtain ⟨bK, oK, eka, hbK, hcK⟩ := hin0.1 (by simp only; omega)
  simp only at eka hcK
  subst eka
  obtain ⟨m0, q0, hx0, hkm0, hmk0, hqm0, hka0, hmay0⟩ := h.fl.kid hq 0 (by show 0 < (partsL 7).length; decide)
  simp only at hx0 hkm0 hmay0
  have hy0 := hcK 0 (by omega)
  rw [show kids.getD 0 0 = (m0 : Int) by rw [List.getD_eq_getElem?_getD, hx0]; rfl] at hy0
  have HY0 := Lib.hid hy0
  have hw := wl_1 h.fl hq (by show (partsL 7).length = 1; decide)
  rw [hkm0] at hw
  have C1 := Lib.hid (show Ins w0 A c qs (More (More X w.heap.size) (w.heap.size + 1)) g ls fe fp ((w.alloc (.cells #[.int .i64 (7 : Int), .int .i64 pp, .int .i64 (38 : Int), .slice (some ⟨bK, oK, none⟩) kids.length kc, .slice na nums.length nc, .string name] 45)).alloc (.cells #[.int .i64 ta, .int .i64 tb, .bool two] 68)) by
    have := (h.more (.cells #[.int .i64 (7 : Int), .int .i64 pp, .int .i64 (38 : Int), .slice (some ⟨bK, oK, none⟩) kids.length kc, .slice na nums.length nc, .string name] 45)).more (.cells #[.int .i64 ta, .int .i64 tb, .bool two] 68)
    rwa [World.size_alloc] at this)
  have L1 := Lib.hid (nest3 w (.cells #[.int .i64 (7 : Int), .int .i64 pp, .int .i64 (38 : Int), .slice (some ⟨bK, oK, none⟩) kids.length kc, .slice na nums.length nc, .string name] 45) (.cells #[.int .i64 ta, .int .i64 tb, .bool two] 68))
  have e1 : (w.alloc (.cells #[.int .i64 (7 : Int), .int .i64 pp, .int .i64 (38 : Int), .slice (some ⟨bK, oK, none⟩) kids.length kc, .slice na nums.length nc, .string name] 45)).heap.size = w.heap.size + 1 := by simp
  have BN := Lib.hid (show Bk 45 ((w.alloc (.cells #[.int .i64 (7 : Int), .int .i64 pp, .int .i64 (38 : Int), .slice (some ⟨bK, oK, none⟩) kids.length kc, .slice na nums.length nc, .string name] 45)).alloc (.cells #[.int .i64 ta, .int .i64 tb, .bool two] 68)) w.heap.size [.int .i64 (7 : Int), .int .i64 pp, .int .i64 (38 : Int), .slice (some ⟨bK, oK, none⟩) kids.length kc, .slice na nums.length nc, .string name] from (Bk.new _ w _).alloc _)
  have BA := Lib.hid (show Bk 68 ((w.alloc (.cells #[.int .i64 (7 : Int), .int .i64 pp, .int .i64 (38 : Int), .slice (some ⟨bK, oK, none⟩) kids.length kc, .slice na nums.length nc, .string name] 45)).alloc (.cells #[.int .i64 ta, .int .i64 tb, .bool two] 68)) (w.heap.size + 1) [.int .i64 ta, .int .i64 tb, .bool two] from new_at _ _ e1)
  have hf0 : funI q0.n.kind = true := hmay0
  have HD0 := Lib.hid (hD m0 hmk0 ⟨q0, hqm0, hf0⟩)
  unfold DoC at HD0
  have HSW := Lib.hid (fun W => swapped_any ta tb two W)
  have HS := Lib.hid (fun (W : World) (L : Below w0.heap.size w0 W) (B : Bk 45 W w.heap.size [.int .i64 (7 : Int), .int .i64 pp, .int .i64 (38 : Int), .slice (some ⟨bK, oK, none⟩) kids.length kc, .slice na nums.length nc, .string name]) (B2 : Bk 68 W (w.heap.size + 1) [.int .i64 ta, .int .i64 tb, .bool two]) => (show W.cell? ⟨w.heap.size, 3, none⟩ = some (.slice (some ⟨bK, oK, none⟩) kids.length kc) ∧ W.cell? ⟨bK, oK, none⟩ = some (.int .i64 (m0 : Int)) ∧ W.cell? ⟨w.heap.size + 1, 0, none⟩ = some (.int .i64 ta) ∧ W.cell? ⟨w.heap.size + 1, 1, none⟩ = some (.int .i64 tb) ∧ W.cell? ⟨w.heap.size + 1, 2, none⟩ = some (.bool two) from ⟨B.c 3, (L.cell (p := ⟨bK, oK + 0, none⟩) hbK).trans HY0.out, B2.c 0, B2.c 1, B2.c 2⟩))
  have HKM := Lib.hid hkm0
  have HRM := Lib.hid (show ls.length + wl qs (m0 : Int) ≤ 1500 by omega)
  have i0 : (0 : Int) < (kids.length : Int) := by omega
  have j0 : 0 < kids.length := by omega
  clear h hq hD hroom hin0 hcK hy0 hx0 hmk0 hqm0 hka0 hmay0 hf0 hw hkm0 e1 hKn hlen
  go_enter Tryd.func81, Tryd.ntmps81
  go_upto_region 2 with fail
  generalize ((w.alloc (.cells #[.int .i64 (7 : Int), .int .i64 pp, .int .i64 (38 : Int), .slice (some ⟨bK, oK, none⟩) kids.length kc, .slice na nums.length nc, .string name] 45)).alloc (.cells #[.int .i64 ta, .int .i64 tb, .bool two] 68)) = w1 at *
  have Cd := Lib.hid C1.out.drew
  have BNd := Lib.hid BN.out.drew
  have BAd := Lib.hid BA.out.drew
  have Ld := Lib.hid L1.out.drew
  have Kd := Lib.hid (HS.out _ Cd.out.cx.bel BNd.out BAd.out)
  go_region_held3 (fun w' => w'.cell? ⟨w.heap.size, 3, none⟩ = some (.slice (some ⟨bK, oK, none⟩) kids.length kc) ∧ w'.cell? ⟨bK, oK, none⟩ = some (.int .i64 (m0 : Int)) ∧ w'.cell? ⟨w.heap.size + 1, 0, none⟩ = some (.int .i64 ta) ∧ w'.cell? ⟨w.heap.size + 1, 1, none⟩ = some (.int .i64 tb) ∧ w'.cell? ⟨w.heap.size + 1, 2, none⟩ = some (.bool two))
    (first
      | with_reducible exact Kd.out
      | with_reducible exact K2.out
      | with_reducible exact K3.out
      | go_keep)
    (first
      | (go_at_call 89; (with_reducible refine (HSW.out _).mono ?_); rintro r w2 ⟨⟨sa, sb, hs, rfl⟩, hb2⟩; have ES := Lib.hid hs; have C2 := Lib.hid (Cd.out.below hb2); have L2 := Lib.hid (Gl.below_next Ld.out hb2); have BN2 := Lib.hid (BNd.out.next hb2); have BA2 := Lib.hid (BAd.out.next hb2); have K2 := Lib.hid (HS.out _ C2.out.cx.bel BN2.out BA2.out); clear hb2 hs)
      | (go_at_call 51; (with_reducible refine (HD0.out _ _ _ _ _ _ _ _ _ C2.out HRM.out).mono ?_); rintro r w3 hr; obtain ⟨ls3, n3, e1, e2, rfl, M3, O3⟩ := hr; have C3 := Lib.hid (C2.out.cx.next O3); have BN3 := Lib.hid (Bk.out BN2.out O3 (.inl (.inr rfl))); have BA3 := Lib.hid (Bk.out BA2.out O3 (.inr rfl)); have K3 := Lib.hid (HS.out _ C3.out.bel BN3.out BA3.out); have F3 := Lib.hid (And.intro e1 (And.intro e2 (And.intro M3 O3))); clear e1 e2 M3 O3))
  go_wp2
  go_ret
  rw [HKM.out, ES.out]
  exact RetP.less2 L2.out ⟨ls3, n3, F3.out.1, F3.out.2.1, rfl, F3.out.2.2.1, F3.out.2.2.2⟩
theorem Fl.nums1 {qs : List Nq} (h : Fl qs) {k : Nat} {q : Nq} (hq : qs[k]? = some q) (h1 : q.n.kind = 1) : q.n.nums.length ≤ 1000 := by
  have := (h.ok k q hq).2
  unfold fieldedB fieldsB at this
  rw [h1] at this
  simp [numsB] at this
  omega
theorem Fl.nums8 {qs : List Nq} (h : Fl qs) {k : Nat} {q : Nq} (hq : qs[k]? = some q) (h1 : q.n.kind = 8) : q.n.nums.length ≤ 1000 := by
  have := (h.ok k q hq).2
  unfold fieldedB fieldsB at this
  rw [h1] at this
  simp [numsB] at this
  omega
theorem ndAt_eq {qs : List Nq} {k : Nat} {q : Nq} (hq : qs[k]? = some q) : ndAt qs (k : Int) = q.n := by
  unfold ndAt
  rw [if_neg (by omega), show ((k : Int)).toNat = k by simp, hq]
set_option maxHeartbeats 8000000 in
theorem tine_1 {w0 : World} {A : Option Addr} {c : Nat} {qs : List Nq} {X : Nat → Prop} {g : Nat} {ls : List Qs} {fe fp : Int} (w : World) (h : Ins w0 A c qs X g ls fe fp w) (k : Nat) (pp cc : Int) (kids nums : List Int) (name : ByteArray) (ka : Option Addr) (kc : Nat) (na : Option Addr) (nc : Nat) (hq : qs[k]? = some ⟨⟨(1 : Int), pp, cc, kids, nums, name⟩, ka, kc, na, nc⟩) (ta tb : Int) (two : Bool) :
    Calls Tryd.prog 92 #[.pointer (some ⟨g, 0, none⟩), .int .i64 (k : Int), .agg #[.int .i64 ta, .int .i64 tb, .bool two]] w (RetP X g (.slice A qs.length c) (ls.map Prod.fst ++ [nmS (ndAt qs (k : Int))]) fe fp w) := by
  have HNL := Lib.hid (h.fl.nums1 hq rfl)
  have HND := Lib.hid (ndAt_eq hq)
  obtain ⟨b0, o0, eA, hb0, ⟨c0, c1, c2, c3, c4, c5⟩, hin⟩ := h.nodes.at_ hq
  simp only at c0 c1 c2 c3 c4 c5
  have hkl := (List.getElem?_eq_some_iff.1 hq).1
  have CA := Lib.hid (h.more (.cells #[.int .i64 ta, .int .i64 tb, .bool two] 68))
  have C1 := Lib.hid (show Ins w0 A c qs (More (More X w.heap.size) (w.heap.size + 1)) g ls fe fp ((w.alloc (.cells #[.int .i64 ta, .int .i64 tb, .bool two] 68)).alloc (.cells #[.int .i64 (1 : Int), .int .i64 pp, .int .i64 cc, .slice ka kids.length kc, .slice na nums.length nc, .string name] 45)) by
    have := (h.more (.cells #[.int .i64 ta, .int .i64 tb, .bool two] 68)).more (.cells #[.int .i64 (1 : Int), .int .i64 pp, .int .i64 cc, .slice ka kids.length kc, .slice na nums.length nc, .string name] 45)
    rwa [World.size_alloc] at this)
  have L1 := Lib.hid (nest3 w (.cells #[.int .i64 ta, .int .i64 tb, .bool two] 68) (.cells #[.int .i64 (1 : Int), .int .i64 pp, .int .i64 cc, .slice ka kids.length kc, .slice na nums.length nc, .string name] 45))
  have e1 : (w.alloc (.cells #[.int .i64 ta, .int .i64 tb, .bool two] 68)).heap.size = w.heap.size + 1 := by simp
  have BA := Lib.hid (show Bk 68 ((w.alloc (.cells #[.int .i64 ta, .int .i64 tb, .bool two] 68)).alloc (.cells #[.int .i64 (1 : Int), .int .i64 pp, .int .i64 cc, .slice ka kids.length kc, .slice na nums.length nc, .string name] 45)) w.heap.size [.int .i64 ta, .int .i64 tb, .bool two] from (Bk.new _ w _).alloc _)
  have BN := Lib.hid (show Bk 45 ((w.alloc (.cells #[.int .i64 ta, .int .i64 tb, .bool two] 68)).alloc (.cells #[.int .i64 (1 : Int), .int .i64 pp, .int .i64 cc, .slice ka kids.length kc, .slice na nums.length nc, .string name] 45)) (w.heap.size + 1) [.int .i64 (1 : Int), .int .i64 pp, .int .i64 cc, .slice ka kids.length kc, .slice na nums.length nc, .string name] from new_at _ _ e1)
  have z0 := CA.out.cell0
  rw [eA] at z0
  have k0 := (CA.out.cx.bel.cell (p := ⟨b0, _, none⟩) hb0).trans c0
  have k1 := (CA.out.cx.bel.cell (p := ⟨b0, _, none⟩) hb0).trans c1
  have k2 := (CA.out.cx.bel.cell (p := ⟨b0, _, none⟩) hb0).trans c2
  have k3 := (CA.out.cx.bel.cell (p := ⟨b0, _, none⟩) hb0).trans c3
  have k4 := (CA.out.cx.bel.cell (p := ⟨b0, _, none⟩) hb0).trans c4
  have k5 := (CA.out.cx.bel.cell (p := ⟨b0, _, none⟩) hb0).trans c5
  have i0 : (0 : Int) ≤ (k : Int) := by omega
  have i1 : (k : Int) < (qs.length : Int) := by omega
  have HQ := Lib.hid hq
  have HEA := Lib.hid eA
  clear h hq c0 c1 c2 c3 c4 c5 hin e1 hkl eA hb0
  rw [HND.out]
  go_enter Tryd.func92, Tryd.ntmps92
  go_wp2_with fail
  clear k0 k1 k2 k3 k4 k5 z0
  generalize ((w.alloc (.cells #[.int .i64 ta, .int .i64 tb, .bool two] 68)).alloc (.cells #[.int .i64 (1 : Int), .int .i64 pp, .int .i64 cc, .slice ka kids.length kc, .slice na nums.length nc, .string name] 45)) = w1 at *
  refine (num_any w1 C1.out k 1 pp cc kids nums name ka kc na nc HQ.out HNL.out).mono ?_
  rintro e w3 hr
  obtain ⟨ls3, n3, e1, e2, rfl, M3, O3⟩ := RetP.less2 L1.out hr
  have F3 := Lib.hid (And.intro e1 (And.intro e2 (And.intro M3 O3)))
  clear hr e1 e2 M3 O3
  go_wp2
  go_ret
  exact ⟨ls3, n3, F3.out.1, F3.out.2.1, rfl, F3.out.2.2.1, F3.out.2.2.2⟩
set_option maxHeartbeats 8000000 in
theorem tine_f {w0 : World} {A : Option Addr} {c : Nat} {qs : List Nq} {X : Nat → Prop} {g : Nat} {ls : List Qs} {fe fp : Int} (w : World) (h : Ins w0 A c qs X g ls fe fp w) (k : Nat) (qk pp cc : Int) (kids nums : List Int) (name : ByteArray) (ka : Option Addr) (kc : Nat) (na : Option Addr) (nc : Nat) (hq : qs[k]? = some ⟨⟨qk, pp, cc, kids, nums, name⟩, ka, kc, na, nc⟩) (ta tb : Int) (two : Bool) (h1 : qk ≠ 1) (hD : DoC w0 A c qs k) (hroom : ls.length + wl qs (k : Int) ≤ 1500) :
    Calls Tryd.prog 92 #[.pointer (some ⟨g, 0, none⟩), .int .i64 (k : Int), .agg #[.int .i64 ta, .int .i64 tb, .bool two]] w (RetP X g (.slice A qs.length c) (doV qs (k : Int) ⟨ta, tb, two⟩ (ls.map Prod.fst)) fe fp w) := by
  obtain ⟨b0, o0, eA, hb0, ⟨c0, c1, c2, c3, c4, c5⟩, hin⟩ := h.nodes.at_ hq
  simp only at c0 c1 c2 c3 c4 c5
  have hkl := (List.getElem?_eq_some_iff.1 hq).1
  have CA := Lib.hid (h.more (.cells #[.int .i64 ta, .int .i64 tb, .bool two] 68))
  have C1 := Lib.hid (show Ins w0 A c qs (More (More X w.heap.size) (w.heap.size + 1)) g ls fe fp ((w.alloc (.cells #[.int .i64 ta, .int .i64 tb, .bool two] 68)).alloc (.cells #[.int .i64 qk, .int .i64 pp, .int .i64 cc, .slice ka kids.length kc, .slice na nums.length nc, .string name] 45)) by
    have := (h.more (.cells #[.int .i64 ta, .int .i64 tb, .bool two] 68)).more (.cells #[.int .i64 qk, .int .i64 pp, .int .i64 cc, .slice ka kids.length kc, .slice na nums.length nc, .string name] 45)
    rwa [World.size_alloc] at this)
  have L1 := Lib.hid (nest3 w (.cells #[.int .i64 ta, .int .i64 tb, .bool two] 68) (.cells #[.int .i64 qk, .int .i64 pp, .int .i64 cc, .slice ka kids.length kc, .slice na nums.length nc, .string name] 45))
  have e1 : (w.alloc (.cells #[.int .i64 ta, .int .i64 tb, .bool two] 68)).heap.size = w.heap.size + 1 := by simp
  have BA := Lib.hid (show Bk 68 ((w.alloc (.cells #[.int .i64 ta, .int .i64 tb, .bool two] 68)).alloc (.cells #[.int .i64 qk, .int .i64 pp, .int .i64 cc, .slice ka kids.length kc, .slice na nums.length nc, .string name] 45)) w.heap.size [.int .i64 ta, .int .i64 tb, .bool two] from (Bk.new _ w _).alloc _)
  have BN := Lib.hid (show Bk 45 ((w.alloc (.cells #[.int .i64 ta, .int .i64 tb, .bool two] 68)).alloc (.cells #[.int .i64 qk, .int .i64 pp, .int .i64 cc, .slice ka kids.length kc, .slice na nums.length nc, .string name] 45)) (w.heap.size + 1) [.int .i64 qk, .int .i64 pp, .int .i64 cc, .slice ka kids.length kc, .slice na nums.length nc, .string name] from new_at _ _ e1)
  have z0 := CA.out.cell0
  rw [eA] at z0
  have k0 := (CA.out.cx.bel.cell (p := ⟨b0, _, none⟩) hb0).trans c0
  have k1 := (CA.out.cx.bel.cell (p := ⟨b0, _, none⟩) hb0).trans c1
  have k2 := (CA.out.cx.bel.cell (p := ⟨b0, _, none⟩) hb0).trans c2
  have k3 := (CA.out.cx.bel.cell (p := ⟨b0, _, none⟩) hb0).trans c3
  have k4 := (CA.out.cx.bel.cell (p := ⟨b0, _, none⟩) hb0).trans c4
  have k5 := (CA.out.cx.bel.cell (p := ⟨b0, _, none⟩) hb0).trans c5
  have i0 : (0 : Int) ≤ (k : Int) := by omega
  have i1 : (k : Int) < (qs.length : Int) := by omega
  have t1 : (qk == 1) = false := by simp [h1]
  have t1' : decide (qk = 1) = false := by simp [h1]
  have HD := Lib.hid hD
  unfold DoC at HD
  have HRM := Lib.hid hroom
  clear h hq c0 c1 c2 c3 c4 c5 hin e1 hkl eA hb0 h1 hD hroom
  go_enter Tryd.func92, Tryd.ntmps92
  go_wp2_with fail
  clear k0 k1 k2 k3 k4 k5 z0
  generalize ((w.alloc (.cells #[.int .i64 ta, .int .i64 tb, .bool two] 68)).alloc (.cells #[.int .i64 qk, .int .i64 pp, .int .i64 cc, .slice ka kids.length kc, .slice na nums.length nc, .string name] 45)) = w1 at *
  refine (HD.out _ _ _ _ _ w1 _ _ _ C1.out HRM.out).mono ?_
  rintro e w3 hr
  obtain ⟨ls3, n3, e1, e2, rfl, M3, O3⟩ := RetP.less2 L1.out hr
  have F3 := Lib.hid (And.intro e1 (And.intro e2 (And.intro M3 O3)))
  clear hr e1 e2 M3 O3
  go_wp2
  go_ret
  exact ⟨ls3, n3, F3.out.1, F3.out.2.1, rfl, F3.out.2.2.1, F3.out.2.2.2⟩
set_option maxHeartbeats 16000000 in
theorem fork_do {w0 : World} {A : Option Addr} {c : Nat} {qs : List Nq} {X : Nat → Prop} {g : Nat} {ls : List Qs} {fe fp : Int} (w : World) (h : Ins w0 A c qs X g ls fe fp w) (hKn : NoKn qs) (k : Nat) (pp cc : Int) (kids nums : List Int) (name : ByteArray) (ka : Option Addr) (kc : Nat) (na : Option Addr) (nc : Nat) (hq : qs[k]? = some ⟨⟨(11 : Int), pp, cc, kids, nums, name⟩, ka, kc, na, nc⟩) (ta tb : Int) (two : Bool) (hD : ∀ m, m < k → (∃ q : Nq, qs[m]? = some q ∧ funI q.n.kind = true) → DoC w0 A c qs m) (hroom : ls.length + wl qs (k : Int) ≤ 1500)  :
    Calls Tryd.prog 85 #[.pointer (some ⟨g, 0, none⟩), .agg #[.int .i64 (11 : Int), .int .i64 pp, .int .i64 cc, .slice ka kids.length kc, .slice na nums.length nc, .string name], .agg #[.int .i64 ta, .int .i64 tb, .bool two]] w (RetP X g (.slice A qs.length c) (fkD qs ⟨(11 : Int), pp, cc, kids, nums, name⟩ (doV qs) ⟨ta, tb, two⟩ (ls.map Prod.fst)) fe fp w) := by
  have hlen : kids.length = 3 := h.fl.nk hq
  have hin0 := h.nodes.2 _ (List.mem_of_getElem? hq)
  obtain ⟨bK, oK, eka, hbK, hcK⟩ := hin0.1 (by simp only; omega)
  simp only at eka hcK
  subst eka
  obtain ⟨m0, q0, hx0, hkm0, hmk0, hqm0, hka0, hmay0⟩ := h.fl.kid hq 0 (by show 0 < (partsL 11).length; decide)
  simp only at hx0 hkm0 hmay0
  have hy0 := hcK 0 (by omega)
  rw [show kids.getD 0 0 = (m0 : Int) by rw [List.getD_eq_getElem?_getD, hx0]; rfl] at hy0
  have HY0 := Lib.hid hy0
  obtain ⟨m1, q1, hx1, hkm1, hmk1, hqm1, hka1, hmay1⟩ := h.fl.kid hq 1 (by show 1 < (partsL 11).length; decide)
  simp only at hx1 hkm1 hmay1
  have hy1 := hcK 1 (by omega)
  rw [show kids.getD 1 0 = (m1 : Int) by rw [List.getD_eq_getElem?_getD, hx1]; rfl] at hy1
  have HY1 := Lib.hid hy1
  obtain ⟨m2, q2, hx2, hkm2, hmk2, hqm2, hka2, hmay2⟩ := h.fl.kid hq 2 (by show 2 < (partsL 11).length; decide)
  simp only at hx2 hkm2 hmay2
  have hy2 := hcK 2 (by omega)
  rw [show kids.getD 2 0 = (m2 : Int) by rw [List.getD_eq_getElem?_getD, hx2]; rfl] at hy2
  have HY2 := Lib.hid hy2
  have hw := wl_3 h.fl hq (by show (partsL 11).length = 3; decide)
  rw [hkm0, hkm1, hkm2] at hw
  have C1 := Lib.hid (show Ins w0 A c qs (More (More X w.heap.size) (w.heap.size + 1)) g ls fe fp ((w.alloc (.cells #[.int .i64 (11 : Int), .int .i64 pp, .int .i64 cc, .slice (some ⟨bK, oK, none⟩) kids.length kc, .slice na nums.length nc, .string name] 45)).alloc (.cells #[.int .i64 ta, .int .i64 tb, .bool two] 68)) by
    have := (h.more (.cells #[.int .i64 (11 : Int), .int .i64 pp, .int .i64 cc, .slice (some ⟨bK, oK, none⟩) kids.length kc, .slice na nums.length nc, .string name] 45)).more (.cells #[.int .i64 ta, .int .i64 tb, .bool two] 68)
    rwa [World.size_alloc] at this)
  have L1 := Lib.hid (nest3 w (.cells #[.int .i64 (11 : Int), .int .i64 pp, .int .i64 cc, .slice (some ⟨bK, oK, none⟩) kids.length kc, .slice na nums.length nc, .string name] 45) (.cells #[.int .i64 ta, .int .i64 tb, .bool two] 68))
  have e1 : (w.alloc (.cells #[.int .i64 (11 : Int), .int .i64 pp, .int .i64 cc, .slice (some ⟨bK, oK, none⟩) kids.length kc, .slice na nums.length nc, .string name] 45)).heap.size = w.heap.size + 1 := by simp
  have BN := Lib.hid (show Bk 45 ((w.alloc (.cells #[.int .i64 (11 : Int), .int .i64 pp, .int .i64 cc, .slice (some ⟨bK, oK, none⟩) kids.length kc, .slice na nums.length nc, .string name] 45)).alloc (.cells #[.int .i64 ta, .int .i64 tb, .bool two] 68)) w.heap.size [.int .i64 (11 : Int), .int .i64 pp, .int .i64 cc, .slice (some ⟨bK, oK, none⟩) kids.length kc, .slice na nums.length nc, .string name] from (Bk.new _ w _).alloc _)
  have BA := Lib.hid (show Bk 68 ((w.alloc (.cells #[.int .i64 (11 : Int), .int .i64 pp, .int .i64 cc, .slice (some ⟨bK, oK, none⟩) kids.length kc, .slice na nums.length nc, .string name] 45)).alloc (.cells #[.int .i64 ta, .int .i64 tb, .bool two] 68)) (w.heap.size + 1) [.int .i64 ta, .int .i64 tb, .bool two] from new_at _ _ e1)
  have hf1 : funI q1.n.kind = true := hmay1
  have hf2 : funI q2.n.kind = true := hmay2
  have ht0 : tineB q0.n.kind = true := hmay0
  have HD1 := Lib.hid (hD m1 hmk1 ⟨q1, hqm1, hf1⟩)
  unfold DoC at HD1
  have HD2 := Lib.hid (hD m2 hmk2 ⟨q2, hqm2, hf2⟩)
  unfold DoC at HD2
  have G2 := (do_grow h.fl hKn m2 q2 hqm2 hf2 ⟨ta, tb, two⟩ (ls.map Prod.fst)).1.len
  obtain ⟨P2, hP2⟩ : ∃ P, doV qs (m2 : Int) ⟨ta, tb, two⟩ (ls.map Prod.fst) = P := ⟨_, rfl⟩
  rw [hP2] at G2
  rw [List.length_map] at G2
  obtain ⟨P0, hP0⟩ : ∃ P, (if q0.n.kind = 1 then P2 ++ [nmS (ndAt qs (m0 : Int))] else doV qs (m0 : Int) ⟨ta, tb, two⟩ P2) = P := ⟨_, rfl⟩
  have hp0 := wl_pos h.fl hqm0
  have G0 : P2.length < P0.length ∧ P0.length ≤ P2.length + wl qs (m0 : Int) := by
    rw [← hP0]
    split
    · rw [List.length_append]; show P2.length < P2.length + 1 ∧ P2.length + 1 ≤ _; omega
    · rename_i h1
      have hf0 : funI q0.n.kind = true := by
        unfold tineB at ht0
        simp only [Bool.or_eq_true, decide_eq_true_eq] at ht0
        rcases ht0 with h | h
        · exact h
        · exact absurd h h1
      exact (do_grow h.fl hKn m0 q0 hqm0 hf0 ⟨ta, tb, two⟩ P2).1.len
  have HTI := Lib.hid (fun (X' : Nat → Prop) (ls' : List Qs) (W : World) (hI : Ins w0 A c qs X' g ls' fe fp W) (hl : ls'.map Prod.fst = P2) => show Calls Tryd.prog 92 #[.pointer (some ⟨g, 0, none⟩), .int .i64 (m0 : Int), .agg #[.int .i64 ta, .int .i64 tb, .bool two]] W (RetP X' g (.slice A qs.length c) P0 fe fp W) by
    have hll := map_len hl
    obtain ⟨⟨k0', p0', c0', kids0, nums0, name0⟩, ka0, kc0, na0, nc0⟩ := q0
    by_cases h1 : k0' = 1
    · subst h1
      rw [← hP0, if_pos rfl, ← hl]
      exact tine_1 W hI m0 p0' c0' kids0 nums0 name0 ka0 kc0 na0 nc0 hqm0 ta tb two
    · have hf0 : funI k0' = true := by
        have ht0' : tineB k0' = true := ht0
        unfold tineB at ht0'
        simp only [Bool.or_eq_true, decide_eq_true_eq] at ht0'
        rcases ht0' with h | h
        · exact h
        · exact absurd h h1
      rw [← hP0, if_neg h1, ← hl]
      exact tine_f W hI m0 k0' p0' c0' kids0 nums0 name0 ka0 kc0 na0 nc0 hqm0 ta tb two h1 (hD m0 hmk0 ⟨_, hqm0, hf0⟩) (by omega))
  have HEV := Lib.hid (show fkD qs ⟨(11 : Int), pp, cc, kids, nums, name⟩ (doV qs) ⟨ta, tb, two⟩ (ls.map Prod.fst) = doV qs (m1 : Int) ⟨(P0.length : Int) - 1, (P2.length : Int) - 1, true⟩ P0 by
    unfold fkD
    rw [hkm0, hkm1, hkm2, hka0, hP2, hP0])
  have HS := Lib.hid (fun (W : World) (L : Below w0.heap.size w0 W) (B : Bk 45 W w.heap.size [.int .i64 (11 : Int), .int .i64 pp, .int .i64 cc, .slice (some ⟨bK, oK, none⟩) kids.length kc, .slice na nums.length nc, .string name]) (B2 : Bk 68 W (w.heap.size + 1) [.int .i64 ta, .int .i64 tb, .bool two]) => (show W.cell? ⟨w.heap.size, 3, none⟩ = some (.slice (some ⟨bK, oK, none⟩) kids.length kc) ∧ W.cell? ⟨bK, oK, none⟩ = some (.int .i64 (m0 : Int)) ∧ W.cell? ⟨bK, oK + 1, none⟩ = some (.int .i64 (m1 : Int)) ∧ W.cell? ⟨bK, oK + 2, none⟩ = some (.int .i64 (m2 : Int)) ∧ W.cell? ⟨w.heap.size + 1, 0, none⟩ = some (.int .i64 ta) ∧ W.cell? ⟨w.heap.size + 1, 1, none⟩ = some (.int .i64 tb) ∧ W.cell? ⟨w.heap.size + 1, 2, none⟩ = some (.bool two) from ⟨B.c 3, (L.cell (p := ⟨bK, oK + 0, none⟩) hbK).trans HY0.out, (L.cell (p := ⟨bK, oK + 1, none⟩) hbK).trans HY1.out, (L.cell (p := ⟨bK, oK + 2, none⟩) hbK).trans HY2.out, B2.c 0, B2.c 1, B2.c 2⟩))
  have HP2 := Lib.hid hP2
  have R2 := Lib.hid (show ls.length + wl qs (m2 : Int) ≤ 1500 by omega)
  have R0 := Lib.hid (show P2.length ≤ 1500 by omega)
  have R1 := Lib.hid (show P0.length + wl qs (m1 : Int) ≤ 1500 by omega)
  have i0 : (0 : Int) < (kids.length : Int) := by omega
  have i1 : (1 : Int) < (kids.length : Int) := by omega
  have i2 : (2 : Int) < (kids.length : Int) := by omega
  have j0 : 0 < kids.length := by omega
  have j1 : 1 < kids.length := by omega
  have j2 : 2 < kids.length := by omega
  clear h hq hD hroom hin0 hcK hy0 hx0 hmk0 hqm0 hka0 hmay0 hkm0 hy1 hx1 hmk1 hqm1 hka1 hmay1 hkm1 hy2 hx2 hmk2 hqm2 hka2 hmay2 hkm2 hw e1 hKn hlen hf1 hf2 ht0 G2 G0 hP2 hP0 hp0
  go_enter Tryd.func85, Tryd.ntmps85
  go_upto_region 1 with fail
  generalize ((w.alloc (.cells #[.int .i64 (11 : Int), .int .i64 pp, .int .i64 cc, .slice (some ⟨bK, oK, none⟩) kids.length kc, .slice na nums.length nc, .string name] 45)).alloc (.cells #[.int .i64 ta, .int .i64 tb, .bool two] 68)) = w1 at *
  have Cd := Lib.hid C1.out.drew
  have BNd := Lib.hid BN.out.drew
  have BAd := Lib.hid BA.out.drew
  have Ld := Lib.hid L1.out.drew
  have Kd := Lib.hid (HS.out _ Cd.out.cx.bel BNd.out BAd.out)
  go_region_held3 (fun w' => w'.cell? ⟨w.heap.size, 3, none⟩ = some (.slice (some ⟨bK, oK, none⟩) kids.length kc) ∧ w'.cell? ⟨bK, oK, none⟩ = some (.int .i64 (m0 : Int)) ∧ w'.cell? ⟨bK, oK + 1, none⟩ = some (.int .i64 (m1 : Int)) ∧ w'.cell? ⟨bK, oK + 2, none⟩ = some (.int .i64 (m2 : Int)) ∧ w'.cell? ⟨w.heap.size + 1, 0, none⟩ = some (.int .i64 ta) ∧ w'.cell? ⟨w.heap.size + 1, 1, none⟩ = some (.int .i64 tb) ∧ w'.cell? ⟨w.heap.size + 1, 2, none⟩ = some (.bool two))
    (first
      | with_reducible exact Kd.out
      | with_reducible exact K2.out
      | go_keep)
    (first
      | (go_at_call 51; (with_reducible refine (HD2.out _ _ _ _ _ _ _ _ _ Cd.out R2.out).mono ?_); rintro r w2 hr; obtain ⟨ls2, n2, e1, e2, rfl, M3, O3⟩ := hr; have F2 := Lib.hid (And.intro e1 (And.intro e2 (And.intro M3 O3))); have C2 := Lib.hid (Cd.out.step M3 O3 (by have := map_len e1; rw [HP2.out] at this; have := R0.out; omega)); have BN2 := Lib.hid (Bk.out BNd.out O3 (.inl (.inr rfl))); have BA2 := Lib.hid (Bk.out BAd.out O3 (.inr rfl)); have K2 := Lib.hid (HS.out _ C2.out.cx.bel BN2.out BA2.out); clear e1 e2 M3 O3))
  have E2 := Lib.hid (show ls2.map Prod.fst = P2 from F2.out.1.trans HP2.out)
  have Q2 := Lib.hid (show P2.length = n2 + 1 by have := F2.out.2.1; rw [HP2.out] at this; exact this)
  go_upto_region 2 with fail
  have Ce := Lib.hid C2.out.drew
  have BNe := Lib.hid BN2.out.drew
  have BAe := Lib.hid BA2.out.drew
  have Ke := Lib.hid (HS.out _ Ce.out.cx.bel BNe.out BAe.out)
  go_region_held3 (fun w' => w'.cell? ⟨w.heap.size, 3, none⟩ = some (.slice (some ⟨bK, oK, none⟩) kids.length kc) ∧ w'.cell? ⟨bK, oK, none⟩ = some (.int .i64 (m0 : Int)) ∧ w'.cell? ⟨bK, oK + 1, none⟩ = some (.int .i64 (m1 : Int)) ∧ w'.cell? ⟨bK, oK + 2, none⟩ = some (.int .i64 (m2 : Int)) ∧ w'.cell? ⟨w.heap.size + 1, 0, none⟩ = some (.int .i64 ta) ∧ w'.cell? ⟨w.heap.size + 1, 1, none⟩ = some (.int .i64 tb) ∧ w'.cell? ⟨w.heap.size + 1, 2, none⟩ = some (.bool two))
    (first
      | with_reducible exact Ke.out
      | with_reducible exact K3.out
      | go_keep)
    (first
      | (go_at_call 92; (with_reducible refine (HTI.out _ _ _ Ce.out E2.out).mono ?_); rintro r w3 hr; obtain ⟨ls3, n3, e1, e2, rfl, M3, O3⟩ := hr; have F3 := Lib.hid (And.intro e1 (And.intro e2 (And.intro M3 O3))); have C3 := Lib.hid (Ce.out.step M3 O3 (by have := map_len e1; have := R1.out; omega)); have BN3 := Lib.hid (Bk.out BNe.out O3 (.inl (.inr rfl))); have BA3 := Lib.hid (Bk.out BAe.out O3 (.inr rfl)); have K3 := Lib.hid (HS.out _ C3.out.cx.bel BN3.out BA3.out); clear e1 e2 M3 O3))
  have Q3 := Lib.hid (show P0.length = n3 + 1 from F3.out.2.1)
  obtain ⟨y3, y6, y7, y8, u0, u1, u2⟩ := K3.out
  go_wp2_with fail
  refine (HD1.out _ _ _ _ _ w3 _ _ _ C3.out (by have := map_len F3.out.1; have := R1.out; omega)).mono ?_
  rintro e w4 hr
  obtain ⟨ls4, n4, e1, e2, rfl, M4, O4⟩ := hr
  have F4 := Lib.hid (And.intro e1 (And.intro e2 (And.intro M4 O4)))
  clear e1 e2 M4 O4
  go_wp2
  go_ret
  rw [HEV.out]
  have ef : (⟨(n3 : Int), (n2 : Int), true⟩ : Arg) = ⟨(P0.length : Int) - 1, (P2.length : Int) - 1, true⟩ := by rw [Q3.out, Q2.out]; simp
  have e4 := F4.out.1
  rw [F3.out.1, ef] at e4
  have e5 := F4.out.2.1
  rw [F3.out.1, ef] at e5
  exact RetP.less2 Ld.out ⟨ls4, n4, e4, e5, rfl, F4.out.2.2.1, (F2.out.2.2.2.trans F3.out.2.2.2).trans F4.out.2.2.2⟩
set_option maxHeartbeats 16000000 in
theorem atop_do {w0 : World} {A : Option Addr} {c : Nat} {qs : List Nq} {X : Nat → Prop} {g : Nat} {ls : List Qs} {fe fp : Int} (w : World) (h : Ins w0 A c qs X g ls fe fp w) (hKn : NoKn qs) (k : Nat) (pp cc : Int) (kids nums : List Int) (name : ByteArray) (ka : Option Addr) (kc : Nat) (na : Option Addr) (nc : Nat) (hq : qs[k]? = some ⟨⟨(12 : Int), pp, cc, kids, nums, name⟩, ka, kc, na, nc⟩) (ta tb : Int) (two : Bool) (hD : ∀ m, m < k → (∃ q : Nq, qs[m]? = some q ∧ funI q.n.kind = true) → DoC w0 A c qs m) (hroom : ls.length + wl qs (k : Int) ≤ 1500)  :
    Calls Tryd.prog 86 #[.pointer (some ⟨g, 0, none⟩), .agg #[.int .i64 (12 : Int), .int .i64 pp, .int .i64 cc, .slice ka kids.length kc, .slice na nums.length nc, .string name], .agg #[.int .i64 ta, .int .i64 tb, .bool two]] w (RetP X g (.slice A qs.length c) (atD ⟨(12 : Int), pp, cc, kids, nums, name⟩ (doV qs) ⟨ta, tb, two⟩ (ls.map Prod.fst)) fe fp w) := by
  have hlen : kids.length = 2 := h.fl.nk hq
  have hin0 := h.nodes.2 _ (List.mem_of_getElem? hq)
  obtain ⟨bK, oK, eka, hbK, hcK⟩ := hin0.1 (by simp only; omega)
  simp only at eka hcK
  subst eka
  obtain ⟨m0, q0, hx0, hkm0, hmk0, hqm0, hka0, hmay0⟩ := h.fl.kid hq 0 (by show 0 < (partsL 12).length; decide)
  simp only at hx0 hkm0 hmay0
  have hy0 := hcK 0 (by omega)
  rw [show kids.getD 0 0 = (m0 : Int) by rw [List.getD_eq_getElem?_getD, hx0]; rfl] at hy0
  have HY0 := Lib.hid hy0
  obtain ⟨m1, q1, hx1, hkm1, hmk1, hqm1, hka1, hmay1⟩ := h.fl.kid hq 1 (by show 1 < (partsL 12).length; decide)
  simp only at hx1 hkm1 hmay1
  have hy1 := hcK 1 (by omega)
  rw [show kids.getD 1 0 = (m1 : Int) by rw [List.getD_eq_getElem?_getD, hx1]; rfl] at hy1
  have HY1 := Lib.hid hy1
  have hw := wl_2 h.fl hq (by show (partsL 12).length = 2; decide)
  rw [hkm0, hkm1] at hw
  have C1 := Lib.hid (show Ins w0 A c qs (More (More X w.heap.size) (w.heap.size + 1)) g ls fe fp ((w.alloc (.cells #[.int .i64 (12 : Int), .int .i64 pp, .int .i64 cc, .slice (some ⟨bK, oK, none⟩) kids.length kc, .slice na nums.length nc, .string name] 45)).alloc (.cells #[.int .i64 ta, .int .i64 tb, .bool two] 68)) by
    have := (h.more (.cells #[.int .i64 (12 : Int), .int .i64 pp, .int .i64 cc, .slice (some ⟨bK, oK, none⟩) kids.length kc, .slice na nums.length nc, .string name] 45)).more (.cells #[.int .i64 ta, .int .i64 tb, .bool two] 68)
    rwa [World.size_alloc] at this)
  have L1 := Lib.hid (nest3 w (.cells #[.int .i64 (12 : Int), .int .i64 pp, .int .i64 cc, .slice (some ⟨bK, oK, none⟩) kids.length kc, .slice na nums.length nc, .string name] 45) (.cells #[.int .i64 ta, .int .i64 tb, .bool two] 68))
  have e1 : (w.alloc (.cells #[.int .i64 (12 : Int), .int .i64 pp, .int .i64 cc, .slice (some ⟨bK, oK, none⟩) kids.length kc, .slice na nums.length nc, .string name] 45)).heap.size = w.heap.size + 1 := by simp
  have BN := Lib.hid (show Bk 45 ((w.alloc (.cells #[.int .i64 (12 : Int), .int .i64 pp, .int .i64 cc, .slice (some ⟨bK, oK, none⟩) kids.length kc, .slice na nums.length nc, .string name] 45)).alloc (.cells #[.int .i64 ta, .int .i64 tb, .bool two] 68)) w.heap.size [.int .i64 (12 : Int), .int .i64 pp, .int .i64 cc, .slice (some ⟨bK, oK, none⟩) kids.length kc, .slice na nums.length nc, .string name] from (Bk.new _ w _).alloc _)
  have BA := Lib.hid (show Bk 68 ((w.alloc (.cells #[.int .i64 (12 : Int), .int .i64 pp, .int .i64 cc, .slice (some ⟨bK, oK, none⟩) kids.length kc, .slice na nums.length nc, .string name] 45)).alloc (.cells #[.int .i64 ta, .int .i64 tb, .bool two] 68)) (w.heap.size + 1) [.int .i64 ta, .int .i64 tb, .bool two] from new_at _ _ e1)
  have hf0 : funI q0.n.kind = true := hmay0
  have hf1 : funI q1.n.kind = true := hmay1
  have HD0 := Lib.hid (hD m0 hmk0 ⟨q0, hqm0, hf0⟩)
  unfold DoC at HD0
  have HD1 := Lib.hid (hD m1 hmk1 ⟨q1, hqm1, hf1⟩)
  unfold DoC at HD1
  have G1 := (do_grow h.fl hKn m1 q1 hqm1 hf1 ⟨ta, tb, two⟩ (ls.map Prod.fst)).1.len
  obtain ⟨P1, hP1⟩ : ∃ P, doV qs (m1 : Int) ⟨ta, tb, two⟩ (ls.map Prod.fst) = P := ⟨_, rfl⟩
  rw [hP1] at G1
  rw [List.length_map] at G1
  have HEV := Lib.hid (show atD ⟨(12 : Int), pp, cc, kids, nums, name⟩ (doV qs) ⟨ta, tb, two⟩ (ls.map Prod.fst) = doV qs (m0 : Int) ⟨0, (P1.length : Int) - 1, false⟩ P1 by
    unfold atD
    rw [hkm0, hkm1, hP1])
  have HS := Lib.hid (fun (W : World) (L : Below w0.heap.size w0 W) (B : Bk 45 W w.heap.size [.int .i64 (12 : Int), .int .i64 pp, .int .i64 cc, .slice (some ⟨bK, oK, none⟩) kids.length kc, .slice na nums.length nc, .string name]) (B2 : Bk 68 W (w.heap.size + 1) [.int .i64 ta, .int .i64 tb, .bool two]) => (show W.cell? ⟨w.heap.size, 3, none⟩ = some (.slice (some ⟨bK, oK, none⟩) kids.length kc) ∧ W.cell? ⟨bK, oK, none⟩ = some (.int .i64 (m0 : Int)) ∧ W.cell? ⟨bK, oK + 1, none⟩ = some (.int .i64 (m1 : Int)) ∧ W.cell? ⟨w.heap.size + 1, 0, none⟩ = some (.int .i64 ta) ∧ W.cell? ⟨w.heap.size + 1, 1, none⟩ = some (.int .i64 tb) ∧ W.cell? ⟨w.heap.size + 1, 2, none⟩ = some (.bool two) from ⟨B.c 3, (L.cell (p := ⟨bK, oK + 0, none⟩) hbK).trans HY0.out, (L.cell (p := ⟨bK, oK + 1, none⟩) hbK).trans HY1.out, B2.c 0, B2.c 1, B2.c 2⟩))
  have HP1 := Lib.hid hP1
  have R1 := Lib.hid (show ls.length + wl qs (m1 : Int) ≤ 1500 by omega)
  have R0 := Lib.hid (show P1.length + wl qs (m0 : Int) ≤ 1500 by omega)
  have i0 : (0 : Int) < (kids.length : Int) := by omega
  have i1 : (1 : Int) < (kids.length : Int) := by omega
  have j0 : 0 < kids.length := by omega
  have j1 : 1 < kids.length := by omega
  clear h hq hD hroom hin0 hcK hy0 hx0 hmk0 hqm0 hka0 hmay0 hkm0 hy1 hx1 hmk1 hqm1 hka1 hmay1 hkm1 hw e1 hKn hlen hf0 hf1 G1 hP1
  go_enter Tryd.func86, Tryd.ntmps86
  go_upto_region 1 with fail
  generalize ((w.alloc (.cells #[.int .i64 (12 : Int), .int .i64 pp, .int .i64 cc, .slice (some ⟨bK, oK, none⟩) kids.length kc, .slice na nums.length nc, .string name] 45)).alloc (.cells #[.int .i64 ta, .int .i64 tb, .bool two] 68)) = w1 at *
  have Cd := Lib.hid C1.out.drew
  have BNd := Lib.hid BN.out.drew
  have BAd := Lib.hid BA.out.drew
  have Ld := Lib.hid L1.out.drew
  have Kd := Lib.hid (HS.out _ Cd.out.cx.bel BNd.out BAd.out)
  go_region_held3 (fun w' => w'.cell? ⟨w.heap.size, 3, none⟩ = some (.slice (some ⟨bK, oK, none⟩) kids.length kc) ∧ w'.cell? ⟨bK, oK, none⟩ = some (.int .i64 (m0 : Int)) ∧ w'.cell? ⟨bK, oK + 1, none⟩ = some (.int .i64 (m1 : Int)) ∧ w'.cell? ⟨w.heap.size + 1, 0, none⟩ = some (.int .i64 ta) ∧ w'.cell? ⟨w.heap.size + 1, 1, none⟩ = some (.int .i64 tb) ∧ w'.cell? ⟨w.heap.size + 1, 2, none⟩ = some (.bool two))
    (first
      | with_reducible exact Kd.out
      | with_reducible exact K3.out
      | with_reducible exact K2.out
      | go_keep)
    (first
      | (go_at_call 51; (with_reducible refine (HD1.out _ _ _ _ _ _ _ _ _ Cd.out R1.out).mono ?_); rintro r w2 hr; obtain ⟨ls2, n2, e1, e2, rfl, M3, O3⟩ := hr; have F2 := Lib.hid (And.intro e1 (And.intro e2 (And.intro M3 O3))); have C2 := Lib.hid (Cd.out.step M3 O3 (by have := map_len e1; rw [HP1.out] at this; have := R0.out; omega)); have BN2 := Lib.hid (Bk.out BNd.out O3 (.inl (.inr rfl))); have BA2 := Lib.hid (Bk.out BAd.out O3 (.inr rfl)); have K2 := Lib.hid (HS.out _ C2.out.cx.bel BN2.out BA2.out); clear e1 e2 M3 O3)
      | (go_at_call 51; (with_reducible refine (HD0.out _ _ _ _ _ _ _ _ _ C2.out (by have := map_len F2.out.1; rw [HP1.out] at this; have := R0.out; omega)).mono ?_); rintro r w3 hr; obtain ⟨ls3, n3, e1, e2, rfl, M3, O3⟩ := hr; have F3 := Lib.hid (And.intro e1 (And.intro e2 (And.intro M3 O3))); have C3 := Lib.hid (C2.out.cx.next O3); have BN3 := Lib.hid (Bk.out BN2.out O3 (.inl (.inr rfl))); have BA3 := Lib.hid (Bk.out BA2.out O3 (.inr rfl)); have K3 := Lib.hid (HS.out _ C3.out.bel BN3.out BA3.out); clear e1 e2 M3 O3))
  go_wp2
  go_ret
  rw [HEV.out]
  have Q2 := Lib.hid (show P1.length = n2 + 1 by have := F2.out.2.1; rw [HP1.out] at this; exact this)
  have ef : (⟨0, (n2 : Int), false⟩ : Arg) = ⟨0, (P1.length : Int) - 1, false⟩ := by rw [Q2.out]; simp
  have e4 := F3.out.1
  rw [F2.out.1, HP1.out, ef] at e4
  have e5 := F3.out.2.1
  rw [F2.out.1, HP1.out, ef] at e5
  exact RetP.less2 Ld.out ⟨ls3, n3, e4, e5, rfl, F3.out.2.2.1, F2.out.2.2.2.trans F3.out.2.2.2⟩
theorem picked_5 (w : World) : Calls Tryd.prog 68 #[.int .i64 5] w fun e w' => e = .returned (.func (.func 80) #[] #[]) ∧ w = w' := by
  go_enter Tryd.func68, Tryd.ntmps68
  go_wp2
  go_ret
  exact ⟨rfl, rfl⟩
theorem picked_7 (w : World) : Calls Tryd.prog 68 #[.int .i64 7] w fun e w' => e = .returned (.func (.func 81) #[] #[]) ∧ w = w' := by
  go_enter Tryd.func68, Tryd.ntmps68
  go_wp2
  go_ret
  exact ⟨rfl, rfl⟩
theorem picked_8 (w : World) : Calls Tryd.prog 68 #[.int .i64 8] w fun e w' => e = .returned (.func (.func 82) #[] #[]) ∧ w = w' := by
  go_enter Tryd.func68, Tryd.ntmps68
  go_wp2
  go_ret
  exact ⟨rfl, rfl⟩
theorem picked_9 (w : World) : Calls Tryd.prog 68 #[.int .i64 9] w fun e w' => e = .returned (.func (.func 83) #[] #[]) ∧ w = w' := by
  go_enter Tryd.func68, Tryd.ntmps68
  go_wp2
  go_ret
  exact ⟨rfl, rfl⟩
theorem picked_10 (w : World) : Calls Tryd.prog 68 #[.int .i64 10] w fun e w' => e = .returned (.func (.func 84) #[] #[]) ∧ w = w' := by
  go_enter Tryd.func68, Tryd.ntmps68
  go_wp2
  go_ret
  exact ⟨rfl, rfl⟩
theorem picked_11 (w : World) : Calls Tryd.prog 68 #[.int .i64 11] w fun e w' => e = .returned (.func (.func 85) #[] #[]) ∧ w = w' := by
  go_enter Tryd.func68, Tryd.ntmps68
  go_wp2
  go_ret
  exact ⟨rfl, rfl⟩
theorem picked_12 (w : World) : Calls Tryd.prog 68 #[.int .i64 12] w fun e w' => e = .returned (.func (.func 86) #[] #[]) ∧ w = w' := by
  go_enter Tryd.func68, Tryd.ntmps68
  go_wp2
  go_ret
  exact ⟨rfl, rfl⟩
set_option maxHeartbeats 8000000 in
theorem do_5 {w0 : World} {A : Option Addr} {c : Nat} {qs : List Nq} {X : Nat → Prop} {g : Nat} {ls : List Qs} {fe fp : Int} (w : World) (h : Ins w0 A c qs X g ls fe fp w) (k : Nat) (pp cc : Int) (kids nums : List Int) (name : ByteArray) (ka : Option Addr) (kc : Nat) (na : Option Addr) (nc : Nat) (hq : qs[k]? = some ⟨⟨(5 : Int), pp, cc, kids, nums, name⟩, ka, kc, na, nc⟩) (ta tb : Int) (two : Bool) (L : List Sx) (HM : ∀ (X' : Nat → Prop) (W : World), Ins w0 A c qs X' g ls fe fp W → Calls Tryd.prog 80 #[.pointer (some ⟨g, 0, none⟩), .agg #[.int .i64 (5 : Int), .int .i64 pp, .int .i64 cc, .slice ka kids.length kc, .slice na nums.length nc, .string name], .agg #[.int .i64 ta, .int .i64 tb, .bool two]] W (RetP X' g (.slice A qs.length c) L fe fp W)) :
    Calls Tryd.prog 51 #[.pointer (some ⟨g, 0, none⟩), .int .i64 (k : Int), .agg #[.int .i64 ta, .int .i64 tb, .bool two]] w (RetP X g (.slice A qs.length c) L fe fp w) := by
  obtain ⟨b0, o0, eA, hb0, ⟨c0, c1, c2, c3, c4, c5⟩, hin⟩ := h.nodes.at_ hq
  simp only at c0 c1 c2 c3 c4 c5
  have hkl := (List.getElem?_eq_some_iff.1 hq).1
  have CA := Lib.hid (h.more (.cells #[.int .i64 ta, .int .i64 tb, .bool two] 68))
  have C1 := Lib.hid (show Ins w0 A c qs (More (More X w.heap.size) (w.heap.size + 1)) g ls fe fp ((w.alloc (.cells #[.int .i64 ta, .int .i64 tb, .bool two] 68)).alloc (.cells #[.int .i64 (5 : Int), .int .i64 pp, .int .i64 cc, .slice ka kids.length kc, .slice na nums.length nc, .string name] 45)) by
    have := (h.more (.cells #[.int .i64 ta, .int .i64 tb, .bool two] 68)).more (.cells #[.int .i64 (5 : Int), .int .i64 pp, .int .i64 cc, .slice ka kids.length kc, .slice na nums.length nc, .string name] 45)
    rwa [World.size_alloc] at this)
  have L1 := Lib.hid (nest3 w (.cells #[.int .i64 ta, .int .i64 tb, .bool two] 68) (.cells #[.int .i64 (5 : Int), .int .i64 pp, .int .i64 cc, .slice ka kids.length kc, .slice na nums.length nc, .string name] 45))
  have e1 : (w.alloc (.cells #[.int .i64 ta, .int .i64 tb, .bool two] 68)).heap.size = w.heap.size + 1 := by simp
  have BA := Lib.hid (show Bk 68 ((w.alloc (.cells #[.int .i64 ta, .int .i64 tb, .bool two] 68)).alloc (.cells #[.int .i64 (5 : Int), .int .i64 pp, .int .i64 cc, .slice ka kids.length kc, .slice na nums.length nc, .string name] 45)) w.heap.size [.int .i64 ta, .int .i64 tb, .bool two] from (Bk.new _ w _).alloc _)
  have BN := Lib.hid (show Bk 45 ((w.alloc (.cells #[.int .i64 ta, .int .i64 tb, .bool two] 68)).alloc (.cells #[.int .i64 (5 : Int), .int .i64 pp, .int .i64 cc, .slice ka kids.length kc, .slice na nums.length nc, .string name] 45)) (w.heap.size + 1) [.int .i64 (5 : Int), .int .i64 pp, .int .i64 cc, .slice ka kids.length kc, .slice na nums.length nc, .string name] from new_at _ _ e1)
  have z0 := CA.out.cell0
  rw [eA] at z0
  have k0 := (CA.out.cx.bel.cell (p := ⟨b0, _, none⟩) hb0).trans c0
  have k1 := (CA.out.cx.bel.cell (p := ⟨b0, _, none⟩) hb0).trans c1
  have k2 := (CA.out.cx.bel.cell (p := ⟨b0, _, none⟩) hb0).trans c2
  have k3 := (CA.out.cx.bel.cell (p := ⟨b0, _, none⟩) hb0).trans c3
  have k4 := (CA.out.cx.bel.cell (p := ⟨b0, _, none⟩) hb0).trans c4
  have k5 := (CA.out.cx.bel.cell (p := ⟨b0, _, none⟩) hb0).trans c5
  have i0 : (0 : Int) ≤ (k : Int) := by omega
  have i1 : (k : Int) < (qs.length : Int) := by omega
  have HMM := Lib.hid HM
  clear h hq c0 c1 c2 c3 c4 c5 hin e1 hkl eA hb0 HM
  go_enter Tryd.func51, Tryd.ntmps51
  go_wp2_with fail
  clear k0 k1 k2 k3 k4 k5 z0
  generalize ((w.alloc (.cells #[.int .i64 ta, .int .i64 tb, .bool two] 68)).alloc (.cells #[.int .i64 (5 : Int), .int .i64 pp, .int .i64 cc, .slice ka kids.length kc, .slice na nums.length nc, .string name] 45)) = w1 at *
  refine (picked_5 w1).mono ?_
  rintro e w2 ⟨rfl, rfl⟩
  have y0 := BN.out.c 0
  have y1 := BN.out.c 1
  have y2 := BN.out.c 2
  have y3 := BN.out.c 3
  have y4 := BN.out.c 4
  have y5 := BN.out.c 5
  have u0 := BA.out.c 0
  have u1 := BA.out.c 1
  have u2 := BA.out.c 2
  simp only [List.getElem?_cons_zero, List.getElem?_cons_succ] at y0 y1 y2 y3 y4 y5 u0 u1 u2
  go_wp2_with fail
  refine (HMM.out _ w1 C1.out).mono ?_
  rintro e w3 hr
  obtain ⟨ls3, n3, e1, e2, rfl, M3, O3⟩ := RetP.less2 L1.out hr
  have F3 := Lib.hid (And.intro e1 (And.intro e2 (And.intro M3 O3)))
  clear hr e1 e2 M3 O3
  go_wp2
  go_ret
  exact ⟨ls3, n3, F3.out.1, F3.out.2.1, rfl, F3.out.2.2.1, F3.out.2.2.2⟩
set_option maxHeartbeats 8000000 in
theorem do_7 {w0 : World} {A : Option Addr} {c : Nat} {qs : List Nq} {X : Nat → Prop} {g : Nat} {ls : List Qs} {fe fp : Int} (w : World) (h : Ins w0 A c qs X g ls fe fp w) (k : Nat) (pp cc : Int) (kids nums : List Int) (name : ByteArray) (ka : Option Addr) (kc : Nat) (na : Option Addr) (nc : Nat) (hq : qs[k]? = some ⟨⟨(7 : Int), pp, cc, kids, nums, name⟩, ka, kc, na, nc⟩) (ta tb : Int) (two : Bool) (L : List Sx) (HM : ∀ (X' : Nat → Prop) (W : World), Ins w0 A c qs X' g ls fe fp W → Calls Tryd.prog 81 #[.pointer (some ⟨g, 0, none⟩), .agg #[.int .i64 (7 : Int), .int .i64 pp, .int .i64 cc, .slice ka kids.length kc, .slice na nums.length nc, .string name], .agg #[.int .i64 ta, .int .i64 tb, .bool two]] W (RetP X' g (.slice A qs.length c) L fe fp W)) :
    Calls Tryd.prog 51 #[.pointer (some ⟨g, 0, none⟩), .int .i64 (k : Int), .agg #[.int .i64 ta, .int .i64 tb, .bool two]] w (RetP X g (.slice A qs.length c) L fe fp w) := by
  obtain ⟨b0, o0, eA, hb0, ⟨c0, c1, c2, c3, c4, c5⟩, hin⟩ := h.nodes.at_ hq
  simp only at c0 c1 c2 c3 c4 c5
  have hkl := (List.getElem?_eq_some_iff.1 hq).1
  have CA := Lib.hid (h.more (.cells #[.int .i64 ta, .int .i64 tb, .bool two] 68))
  have C1 := Lib.hid (show Ins w0 A c qs (More (More X w.heap.size) (w.heap.size + 1)) g ls fe fp ((w.alloc (.cells #[.int .i64 ta, .int .i64 tb, .bool two] 68)).alloc (.cells #[.int .i64 (7 : Int), .int .i64 pp, .int .i64 cc, .slice ka kids.length kc, .slice na nums.length nc, .string name] 45)) by
    have := (h.more (.cells #[.int .i64 ta, .int .i64 tb, .bool two] 68)).more (.cells #[.int .i64 (7 : Int), .int .i64 pp, .int .i64 cc, .slice ka kids.length kc, .slice na nums.length nc, .string name] 45)
    rwa [World.size_alloc] at this)
  have L1 := Lib.hid (nest3 w (.cells #[.int .i64 ta, .int .i64 tb, .bool two] 68) (.cells #[.int .i64 (7 : Int), .int .i64 pp, .int .i64 cc, .slice ka kids.length kc, .slice na nums.length nc, .string name] 45))
  have e1 : (w.alloc (.cells #[.int .i64 ta, .int .i64 tb, .bool two] 68)).heap.size = w.heap.size + 1 := by simp
  have BA := Lib.hid (show Bk 68 ((w.alloc (.cells #[.int .i64 ta, .int .i64 tb, .bool two] 68)).alloc (.cells #[.int .i64 (7 : Int), .int .i64 pp, .int .i64 cc, .slice ka kids.length kc, .slice na nums.length nc, .string name] 45)) w.heap.size [.int .i64 ta, .int .i64 tb, .bool two] from (Bk.new _ w _).alloc _)
  have BN := Lib.hid (show Bk 45 ((w.alloc (.cells #[.int .i64 ta, .int .i64 tb, .bool two] 68)).alloc (.cells #[.int .i64 (7 : Int), .int .i64 pp, .int .i64 cc, .slice ka kids.length kc, .slice na nums.length nc, .string name] 45)) (w.heap.size + 1) [.int .i64 (7 : Int), .int .i64 pp, .int .i64 cc, .slice ka kids.length kc, .slice na nums.length nc, .string name] from new_at _ _ e1)
  have z0 := CA.out.cell0
  rw [eA] at z0
  have k0 := (CA.out.cx.bel.cell (p := ⟨b0, _, none⟩) hb0).trans c0
  have k1 := (CA.out.cx.bel.cell (p := ⟨b0, _, none⟩) hb0).trans c1
  have k2 := (CA.out.cx.bel.cell (p := ⟨b0, _, none⟩) hb0).trans c2
  have k3 := (CA.out.cx.bel.cell (p := ⟨b0, _, none⟩) hb0).trans c3
  have k4 := (CA.out.cx.bel.cell (p := ⟨b0, _, none⟩) hb0).trans c4
  have k5 := (CA.out.cx.bel.cell (p := ⟨b0, _, none⟩) hb0).trans c5
  have i0 : (0 : Int) ≤ (k : Int) := by omega
  have i1 : (k : Int) < (qs.length : Int) := by omega
  have HMM := Lib.hid HM
  clear h hq c0 c1 c2 c3 c4 c5 hin e1 hkl eA hb0 HM
  go_enter Tryd.func51, Tryd.ntmps51
  go_wp2_with fail
  clear k0 k1 k2 k3 k4 k5 z0
  generalize ((w.alloc (.cells #[.int .i64 ta, .int .i64 tb, .bool two] 68)).alloc (.cells #[.int .i64 (7 : Int), .int .i64 pp, .int .i64 cc, .slice ka kids.length kc, .slice na nums.length nc, .string name] 45)) = w1 at *
  refine (picked_7 w1).mono ?_
  rintro e w2 ⟨rfl, rfl⟩
  have y0 := BN.out.c 0
  have y1 := BN.out.c 1
  have y2 := BN.out.c 2
  have y3 := BN.out.c 3
  have y4 := BN.out.c 4
  have y5 := BN.out.c 5
  have u0 := BA.out.c 0
  have u1 := BA.out.c 1
  have u2 := BA.out.c 2
  simp only [List.getElem?_cons_zero, List.getElem?_cons_succ] at y0 y1 y2 y3 y4 y5 u0 u1 u2
  go_wp2_with fail
  refine (HMM.out _ w1 C1.out).mono ?_
  rintro e w3 hr
  obtain ⟨ls3, n3, e1, e2, rfl, M3, O3⟩ := RetP.less2 L1.out hr
  have F3 := Lib.hid (And.intro e1 (And.intro e2 (And.intro M3 O3)))
  clear hr e1 e2 M3 O3
  go_wp2
  go_ret
  exact ⟨ls3, n3, F3.out.1, F3.out.2.1, rfl, F3.out.2.2.1, F3.out.2.2.2⟩
set_option maxHeartbeats 8000000 in
theorem do_8 {w0 : World} {A : Option Addr} {c : Nat} {qs : List Nq} {X : Nat → Prop} {g : Nat} {ls : List Qs} {fe fp : Int} (w : World) (h : Ins w0 A c qs X g ls fe fp w) (k : Nat) (pp cc : Int) (kids nums : List Int) (name : ByteArray) (ka : Option Addr) (kc : Nat) (na : Option Addr) (nc : Nat) (hq : qs[k]? = some ⟨⟨(8 : Int), pp, cc, kids, nums, name⟩, ka, kc, na, nc⟩) (ta tb : Int) (two : Bool) (L : List Sx) (HM : ∀ (X' : Nat → Prop) (W : World), Ins w0 A c qs X' g ls fe fp W → Calls Tryd.prog 82 #[.pointer (some ⟨g, 0, none⟩), .agg #[.int .i64 (8 : Int), .int .i64 pp, .int .i64 cc, .slice ka kids.length kc, .slice na nums.length nc, .string name], .agg #[.int .i64 ta, .int .i64 tb, .bool two]] W (RetP X' g (.slice A qs.length c) L fe fp W)) :
    Calls Tryd.prog 51 #[.pointer (some ⟨g, 0, none⟩), .int .i64 (k : Int), .agg #[.int .i64 ta, .int .i64 tb, .bool two]] w (RetP X g (.slice A qs.length c) L fe fp w) := by
  obtain ⟨b0, o0, eA, hb0, ⟨c0, c1, c2, c3, c4, c5⟩, hin⟩ := h.nodes.at_ hq
  simp only at c0 c1 c2 c3 c4 c5
  have hkl := (List.getElem?_eq_some_iff.1 hq).1
  have CA := Lib.hid (h.more (.cells #[.int .i64 ta, .int .i64 tb, .bool two] 68))
  have C1 := Lib.hid (show Ins w0 A c qs (More (More X w.heap.size) (w.heap.size + 1)) g ls fe fp ((w.alloc (.cells #[.int .i64 ta, .int .i64 tb, .bool two] 68)).alloc (.cells #[.int .i64 (8 : Int), .int .i64 pp, .int .i64 cc, .slice ka kids.length kc, .slice na nums.length nc, .string name] 45)) by
    have := (h.more (.cells #[.int .i64 ta, .int .i64 tb, .bool two] 68)).more (.cells #[.int .i64 (8 : Int), .int .i64 pp, .int .i64 cc, .slice ka kids.length kc, .slice na nums.length nc, .string name] 45)
    rwa [World.size_alloc] at this)
  have L1 := Lib.hid (nest3 w (.cells #[.int .i64 ta, .int .i64 tb, .bool two] 68) (.cells #[.int .i64 (8 : Int), .int .i64 pp, .int .i64 cc, .slice ka kids.length kc, .slice na nums.length nc, .string name] 45))
  have e1 : (w.alloc (.cells #[.int .i64 ta, .int .i64 tb, .bool two] 68)).heap.size = w.heap.size + 1 := by simp
  have BA := Lib.hid (show Bk 68 ((w.alloc (.cells #[.int .i64 ta, .int .i64 tb, .bool two] 68)).alloc (.cells #[.int .i64 (8 : Int), .int .i64 pp, .int .i64 cc, .slice ka kids.length kc, .slice na nums.length nc, .string name] 45)) w.heap.size [.int .i64 ta, .int .i64 tb, .bool two] from (Bk.new _ w _).alloc _)
  have BN := Lib.hid (show Bk 45 ((w.alloc (.cells #[.int .i64 ta, .int .i64 tb, .bool two] 68)).alloc (.cells #[.int .i64 (8 : Int), .int .i64 pp, .int .i64 cc, .slice ka kids.length kc, .slice na nums.length nc, .string name] 45)) (w.heap.size + 1) [.int .i64 (8 : Int), .int .i64 pp, .int .i64 cc, .slice ka kids.length kc, .slice na nums.length nc, .string name] from new_at _ _ e1)
  have z0 := CA.out.cell0
  rw [eA] at z0
  have k0 := (CA.out.cx.bel.cell (p := ⟨b0, _, none⟩) hb0).trans c0
  have k1 := (CA.out.cx.bel.cell (p := ⟨b0, _, none⟩) hb0).trans c1
  have k2 := (CA.out.cx.bel.cell (p := ⟨b0, _, none⟩) hb0).trans c2
  have k3 := (CA.out.cx.bel.cell (p := ⟨b0, _, none⟩) hb0).trans c3
  have k4 := (CA.out.cx.bel.cell (p := ⟨b0, _, none⟩) hb0).trans c4
  have k5 := (CA.out.cx.bel.cell (p := ⟨b0, _, none⟩) hb0).trans c5
  have i0 : (0 : Int) ≤ (k : Int) := by omega
  have i1 : (k : Int) < (qs.length : Int) := by omega
  have HMM := Lib.hid HM
  clear h hq c0 c1 c2 c3 c4 c5 hin e1 hkl eA hb0 HM
  go_enter Tryd.func51, Tryd.ntmps51
  go_wp2_with fail
  clear k0 k1 k2 k3 k4 k5 z0
  generalize ((w.alloc (.cells #[.int .i64 ta, .int .i64 tb, .bool two] 68)).alloc (.cells #[.int .i64 (8 : Int), .int .i64 pp, .int .i64 cc, .slice ka kids.length kc, .slice na nums.length nc, .string name] 45)) = w1 at *
  refine (picked_8 w1).mono ?_
  rintro e w2 ⟨rfl, rfl⟩
  have y0 := BN.out.c 0
  have y1 := BN.out.c 1
  have y2 := BN.out.c 2
  have y3 := BN.out.c 3
  have y4 := BN.out.c 4
  have y5 := BN.out.c 5
  have u0 := BA.out.c 0
  have u1 := BA.out.c 1
  have u2 := BA.out.c 2
  simp only [List.getElem?_cons_zero, List.getElem?_cons_succ] at y0 y1 y2 y3 y4 y5 u0 u1 u2
  go_wp2_with fail
  refine (HMM.out _ w1 C1.out).mono ?_
  rintro e w3 hr
  obtain ⟨ls3, n3, e1, e2, rfl, M3, O3⟩ := RetP.less2 L1.out hr
  have F3 := Lib.hid (And.intro e1 (And.intro e2 (And.intro M3 O3)))
  clear hr e1 e2 M3 O3
  go_wp2
  go_ret
  exact ⟨ls3, n3, F3.out.1, F3.out.2.1, rfl, F3.out.2.2.1, F3.out.2.2.2⟩
set_option maxHeartbeats 8000000 in
theorem do_9 {w0 : World} {A : Option Addr} {c : Nat} {qs : List Nq} {X : Nat → Prop} {g : Nat} {ls : List Qs} {fe fp : Int} (w : World) (h : Ins w0 A c qs X g ls fe fp w) (k : Nat) (pp cc : Int) (kids nums : List Int) (name : ByteArray) (ka : Option Addr) (kc : Nat) (na : Option Addr) (nc : Nat) (hq : qs[k]? = some ⟨⟨(9 : Int), pp, cc, kids, nums, name⟩, ka, kc, na, nc⟩) (ta tb : Int) (two : Bool) (L : List Sx) (HM : ∀ (X' : Nat → Prop) (W : World), Ins w0 A c qs X' g ls fe fp W → Calls Tryd.prog 83 #[.pointer (some ⟨g, 0, none⟩), .agg #[.int .i64 (9 : Int), .int .i64 pp, .int .i64 cc, .slice ka kids.length kc, .slice na nums.length nc, .string name], .agg #[.int .i64 ta, .int .i64 tb, .bool two]] W (RetP X' g (.slice A qs.length c) L fe fp W)) :
    Calls Tryd.prog 51 #[.pointer (some ⟨g, 0, none⟩), .int .i64 (k : Int), .agg #[.int .i64 ta, .int .i64 tb, .bool two]] w (RetP X g (.slice A qs.length c) L fe fp w) := by
  obtain ⟨b0, o0, eA, hb0, ⟨c0, c1, c2, c3, c4, c5⟩, hin⟩ := h.nodes.at_ hq
  simp only at c0 c1 c2 c3 c4 c5
  have hkl := (List.getElem?_eq_some_iff.1 hq).1
  have CA := Lib.hid (h.more (.cells #[.int .i64 ta, .int .i64 tb, .bool two] 68))
  have C1 := Lib.hid (show Ins w0 A c qs (More (More X w.heap.size) (w.heap.size + 1)) g ls fe fp ((w.alloc (.cells #[.int .i64 ta, .int .i64 tb, .bool two] 68)).alloc (.cells #[.int .i64 (9 : Int), .int .i64 pp, .int .i64 cc, .slice ka kids.length kc, .slice na nums.length nc, .string name] 45)) by
    have := (h.more (.cells #[.int .i64 ta, .int .i64 tb, .bool two] 68)).more (.cells #[.int .i64 (9 : Int), .int .i64 pp, .int .i64 cc, .slice ka kids.length kc, .slice na nums.length nc, .string name] 45)
    rwa [World.size_alloc] at this)
  have L1 := Lib.hid (nest3 w (.cells #[.int .i64 ta, .int .i64 tb, .bool two] 68) (.cells #[.int .i64 (9 : Int), .int .i64 pp, .int .i64 cc, .slice ka kids.length kc, .slice na nums.length nc, .string name] 45))
  have e1 : (w.alloc (.cells #[.int .i64 ta, .int .i64 tb, .bool two] 68)).heap.size = w.heap.size + 1 := by simp
  have BA := Lib.hid (show Bk 68 ((w.alloc (.cells #[.int .i64 ta, .int .i64 tb, .bool two] 68)).alloc (.cells #[.int .i64 (9 : Int), .int .i64 pp, .int .i64 cc, .slice ka kids.length kc, .slice na nums.length nc, .string name] 45)) w.heap.size [.int .i64 ta, .int .i64 tb, .bool two] from (Bk.new _ w _).alloc _)
  have BN := Lib.hid (show Bk 45 ((w.alloc (.cells #[.int .i64 ta, .int .i64 tb, .bool two] 68)).alloc (.cells #[.int .i64 (9 : Int), .int .i64 pp, .int .i64 cc, .slice ka kids.length kc, .slice na nums.length nc, .string name] 45)) (w.heap.size + 1) [.int .i64 (9 : Int), .int .i64 pp, .int .i64 cc, .slice ka kids.length kc, .slice na nums.length nc, .string name] from new_at _ _ e1)
  have z0 := CA.out.cell0
  rw [eA] at z0
  have k0 := (CA.out.cx.bel.cell (p := ⟨b0, _, none⟩) hb0).trans c0
  have k1 := (CA.out.cx.bel.cell (p := ⟨b0, _, none⟩) hb0).trans c1
  have k2 := (CA.out.cx.bel.cell (p := ⟨b0, _, none⟩) hb0).trans c2
  have k3 := (CA.out.cx.bel.cell (p := ⟨b0, _, none⟩) hb0).trans c3
  have k4 := (CA.out.cx.bel.cell (p := ⟨b0, _, none⟩) hb0).trans c4
  have k5 := (CA.out.cx.bel.cell (p := ⟨b0, _, none⟩) hb0).trans c5
  have i0 : (0 : Int) ≤ (k : Int) := by omega
  have i1 : (k : Int) < (qs.length : Int) := by omega
  have HMM := Lib.hid HM
  clear h hq c0 c1 c2 c3 c4 c5 hin e1 hkl eA hb0 HM
  go_enter Tryd.func51, Tryd.ntmps51
  go_wp2_with fail
  clear k0 k1 k2 k3 k4 k5 z0
  generalize ((w.alloc (.cells #[.int .i64 ta, .int .i64 tb, .bool two] 68)).alloc (.cells #[.int .i64 (9 : Int), .int .i64 pp, .int .i64 cc, .slice ka kids.length kc, .slice na nums.length nc, .string name] 45)) = w1 at *
  refine (picked_9 w1).mono ?_
  rintro e w2 ⟨rfl, rfl⟩
  have y0 := BN.out.c 0
  have y1 := BN.out.c 1
  have y2 := BN.out.c 2
  have y3 := BN.out.c 3
  have y4 := BN.out.c 4
  have y5 := BN.out.c 5
  have u0 := BA.out.c 0
  have u1 := BA.out.c 1
  have u2 := BA.out.c 2
  simp only [List.getElem?_cons_zero, List.getElem?_cons_succ] at y0 y1 y2 y3 y4 y5 u0 u1 u2
  go_wp2_with fail
  refine (HMM.out _ w1 C1.out).mono ?_
  rintro e w3 hr
  obtain ⟨ls3, n3, e1, e2, rfl, M3, O3⟩ := RetP.less2 L1.out hr
  have F3 := Lib.hid (And.intro e1 (And.intro e2 (And.intro M3 O3)))
  clear hr e1 e2 M3 O3
  go_wp2
  go_ret
  exact ⟨ls3, n3, F3.out.1, F3.out.2.1, rfl, F3.out.2.2.1, F3.out.2.2.2⟩
set_option maxHeartbeats 8000000 in
theorem do_10 {w0 : World} {A : Option Addr} {c : Nat} {qs : List Nq} {X : Nat → Prop} {g : Nat} {ls : List Qs} {fe fp : Int} (w : World) (h : Ins w0 A c qs X g ls fe fp w) (k : Nat) (pp cc : Int) (kids nums : List Int) (name : ByteArray) (ka : Option Addr) (kc : Nat) (na : Option Addr) (nc : Nat) (hq : qs[k]? = some ⟨⟨(10 : Int), pp, cc, kids, nums, name⟩, ka, kc, na, nc⟩) (ta tb : Int) (two : Bool) (L : List Sx) (HM : ∀ (X' : Nat → Prop) (W : World), Ins w0 A c qs X' g ls fe fp W → Calls Tryd.prog 84 #[.pointer (some ⟨g, 0, none⟩), .agg #[.int .i64 (10 : Int), .int .i64 pp, .int .i64 cc, .slice ka kids.length kc, .slice na nums.length nc, .string name], .agg #[.int .i64 ta, .int .i64 tb, .bool two]] W (RetP X' g (.slice A qs.length c) L fe fp W)) :
    Calls Tryd.prog 51 #[.pointer (some ⟨g, 0, none⟩), .int .i64 (k : Int), .agg #[.int .i64 ta, .int .i64 tb, .bool two]] w (RetP X g (.slice A qs.length c) L fe fp w) := by
  obtain ⟨b0, o0, eA, hb0, ⟨c0, c1, c2, c3, c4, c5⟩, hin⟩ := h.nodes.at_ hq
  simp only at c0 c1 c2 c3 c4 c5
  have hkl := (List.getElem?_eq_some_iff.1 hq).1
  have CA := Lib.hid (h.more (.cells #[.int .i64 ta, .int .i64 tb, .bool two] 68))
  have C1 := Lib.hid (show Ins w0 A c qs (More (More X w.heap.size) (w.heap.size + 1)) g ls fe fp ((w.alloc (.cells #[.int .i64 ta, .int .i64 tb, .bool two] 68)).alloc (.cells #[.int .i64 (10 : Int), .int .i64 pp, .int .i64 cc, .slice ka kids.length kc, .slice na nums.length nc, .string name] 45)) by
    have := (h.more (.cells #[.int .i64 ta, .int .i64 tb, .bool two] 68)).more (.cells #[.int .i64 (10 : Int), .int .i64 pp, .int .i64 cc, .slice ka kids.length kc, .slice na nums.length nc, .string name] 45)
    rwa [World.size_alloc] at this)
  have L1 := Lib.hid (nest3 w (.cells #[.int .i64 ta, .int .i64 tb, .bool two] 68) (.cells #[.int .i64 (10 : Int), .int .i64 pp, .int .i64 cc, .slice ka kids.length kc, .slice na nums.length nc, .string name] 45))
  have e1 : (w.alloc (.cells #[.int .i64 ta, .int .i64 tb, .bool two] 68)).heap.size = w.heap.size + 1 := by simp
  have BA := Lib.hid (show Bk 68 ((w.alloc (.cells #[.int .i64 ta, .int .i64 tb, .bool two] 68)).alloc (.cells #[.int .i64 (10 : Int), .int .i64 pp, .int .i64 cc, .slice ka kids.length kc, .slice na nums.length nc, .string name] 45)) w.heap.size [.int .i64 ta, .int .i64 tb, .bool two] from (Bk.new _ w _).alloc _)
  have BN := Lib.hid (show Bk 45 ((w.alloc (.cells #[.int .i64 ta, .int .i64 tb, .bool two] 68)).alloc (.cells #[.int .i64 (10 : Int), .int .i64 pp, .int .i64 cc, .slice ka kids.length kc, .slice na nums.length nc, .string name] 45)) (w.heap.size + 1) [.int .i64 (10 : Int), .int .i64 pp, .int .i64 cc, .slice ka kids.length kc, .slice na nums.length nc, .string name] from new_at _ _ e1)
  have z0 := CA.out.cell0
  rw [eA] at z0
  have k0 := (CA.out.cx.bel.cell (p := ⟨b0, _, none⟩) hb0).trans c0
  have k1 := (CA.out.cx.bel.cell (p := ⟨b0, _, none⟩) hb0).trans c1
  have k2 := (CA.out.cx.bel.cell (p := ⟨b0, _, none⟩) hb0).trans c2
  have k3 := (CA.out.cx.bel.cell (p := ⟨b0, _, none⟩) hb0).trans c3
  have k4 := (CA.out.cx.bel.cell (p := ⟨b0, _, none⟩) hb0).trans c4
  have k5 := (CA.out.cx.bel.cell (p := ⟨b0, _, none⟩) hb0).trans c5
  have i0 : (0 : Int) ≤ (k : Int) := by omega
  have i1 : (k : Int) < (qs.length : Int) := by omega
  have HMM := Lib.hid HM
  clear h hq c0 c1 c2 c3 c4 c5 hin e1 hkl eA hb0 HM
  go_enter Tryd.func51, Tryd.ntmps51
  go_wp2_with fail
  clear k0 k1 k2 k3 k4 k5 z0
  generalize ((w.alloc (.cells #[.int .i64 ta, .int .i64 tb, .bool two] 68)).alloc (.cells #[.int .i64 (10 : Int), .int .i64 pp, .int .i64 cc, .slice ka kids.length kc, .slice na nums.length nc, .string name] 45)) = w1 at *
  refine (picked_10 w1).mono ?_
  rintro e w2 ⟨rfl, rfl⟩
  have y0 := BN.out.c 0
  have y1 := BN.out.c 1
  have y2 := BN.out.c 2
  have y3 := BN.out.c 3
  have y4 := BN.out.c 4
  have y5 := BN.out.c 5
  have u0 := BA.out.c 0
  have u1 := BA.out.c 1
  have u2 := BA.out.c 2
  simp only [List.getElem?_cons_zero, List.getElem?_cons_succ] at y0 y1 y2 y3 y4 y5 u0 u1 u2
  go_wp2_with fail
  refine (HMM.out _ w1 C1.out).mono ?_
  rintro e w3 hr
  obtain ⟨ls3, n3, e1, e2, rfl, M3, O3⟩ := RetP.less2 L1.out hr
  have F3 := Lib.hid (And.intro e1 (And.intro e2 (And.intro M3 O3)))
  clear hr e1 e2 M3 O3
  go_wp2
  go_ret
  exact ⟨ls3, n3, F3.out.1, F3.out.2.1, rfl, F3.out.2.2.1, F3.out.2.2.2⟩
set_option maxHeartbeats 8000000 in
theorem do_11 {w0 : World} {A : Option Addr} {c : Nat} {qs : List Nq} {X : Nat → Prop} {g : Nat} {ls : List Qs} {fe fp : Int} (w : World) (h : Ins w0 A c qs X g ls fe fp w) (k : Nat) (pp cc : Int) (kids nums : List Int) (name : ByteArray) (ka : Option Addr) (kc : Nat) (na : Option Addr) (nc : Nat) (hq : qs[k]? = some ⟨⟨(11 : Int), pp, cc, kids, nums, name⟩, ka, kc, na, nc⟩) (ta tb : Int) (two : Bool) (L : List Sx) (HM : ∀ (X' : Nat → Prop) (W : World), Ins w0 A c qs X' g ls fe fp W → Calls Tryd.prog 85 #[.pointer (some ⟨g, 0, none⟩), .agg #[.int .i64 (11 : Int), .int .i64 pp, .int .i64 cc, .slice ka kids.length kc, .slice na nums.length nc, .string name], .agg #[.int .i64 ta, .int .i64 tb, .bool two]] W (RetP X' g (.slice A qs.length c) L fe fp W)) :
    Calls Tryd.prog 51 #[.pointer (some ⟨g, 0, none⟩), .int .i64 (k : Int), .agg #[.int .i64 ta, .int .i64 tb, .bool two]] w (RetP X g (.slice A qs.length c) L fe fp w) := by
  obtain ⟨b0, o0, eA, hb0, ⟨c0, c1, c2, c3, c4, c5⟩, hin⟩ := h.nodes.at_ hq
  simp only at c0 c1 c2 c3 c4 c5
  have hkl := (List.getElem?_eq_some_iff.1 hq).1
  have CA := Lib.hid (h.more (.cells #[.int .i64 ta, .int .i64 tb, .bool two] 68))
  have C1 := Lib.hid (show Ins w0 A c qs (More (More X w.heap.size) (w.heap.size + 1)) g ls fe fp ((w.alloc (.cells #[.int .i64 ta, .int .i64 tb, .bool two] 68)).alloc (.cells #[.int .i64 (11 : Int), .int .i64 pp, .int .i64 cc, .slice ka kids.length kc, .slice na nums.length nc, .string name] 45)) by
    have := (h.more (.cells #[.int .i64 ta, .int .i64 tb, .bool two] 68)).more (.cells #[.int .i64 (11 : Int), .int .i64 pp, .int .i64 cc, .slice ka kids.length kc, .slice na nums.length nc, .string name] 45)
    rwa [World.size_alloc] at this)
  have L1 := Lib.hid (nest3 w (.cells #[.int .i64 ta, .int .i64 tb, .bool two] 68) (.cells #[.int .i64 (11 : Int), .int .i64 pp, .int .i64 cc, .slice ka kids.length kc, .slice na nums.length nc, .string name] 45))
  have e1 : (w.alloc (.cells #[.int .i64 ta, .int .i64 tb, .bool two] 68)).heap.size = w.heap.size + 1 := by simp
  have BA := Lib.hid (show Bk 68 ((w.alloc (.cells #[.int .i64 ta, .int .i64 tb, .bool two] 68)).alloc (.cells #[.int .i64 (11 : Int), .int .i64 pp, .int .i64 cc, .slice ka kids.length kc, .slice na nums.length nc, .string name] 45)) w.heap.size [.int .i64 ta, .int .i64 tb, .bool two] from (Bk.new _ w _).alloc _)
  have BN := Lib.hid (show Bk 45 ((w.alloc (.cells #[.int .i64 ta, .int .i64 tb, .bool two] 68)).alloc (.cells #[.int .i64 (11 : Int), .int .i64 pp, .int .i64 cc, .slice ka kids.length kc, .slice na nums.length nc, .string name] 45)) (w.heap.size + 1) [.int .i64 (11 : Int), .int .i64 pp, .int .i64 cc, .slice ka kids.length kc, .slice na nums.length nc, .string name] from new_at _ _ e1)
  have z0 := CA.out.cell0
  rw [eA] at z0
  have k0 := (CA.out.cx.bel.cell (p := ⟨b0, _, none⟩) hb0).trans c0
  have k1 := (CA.out.cx.bel.cell (p := ⟨b0, _, none⟩) hb0).trans c1
  have k2 := (CA.out.cx.bel.cell (p := ⟨b0, _, none⟩) hb0).trans c2
  have k3 := (CA.out.cx.bel.cell (p := ⟨b0, _, none⟩) hb0).trans c3
  have k4 := (CA.out.cx.bel.cell (p := ⟨b0, _, none⟩) hb0).trans c4
  have k5 := (CA.out.cx.bel.cell (p := ⟨b0, _, none⟩) hb0).trans c5
  have i0 : (0 : Int) ≤ (k : Int) := by omega
  have i1 : (k : Int) < (qs.length : Int) := by omega
  have HMM := Lib.hid HM
  clear h hq c0 c1 c2 c3 c4 c5 hin e1 hkl eA hb0 HM
  go_enter Tryd.func51, Tryd.ntmps51
  go_wp2_with fail
  clear k0 k1 k2 k3 k4 k5 z0
  generalize ((w.alloc (.cells #[.int .i64 ta, .int .i64 tb, .bool two] 68)).alloc (.cells #[.int .i64 (11 : Int), .int .i64 pp, .int .i64 cc, .slice ka kids.length kc, .slice na nums.length nc, .string name] 45)) = w1 at *
  refine (picked_11 w1).mono ?_
  rintro e w2 ⟨rfl, rfl⟩
  have y0 := BN.out.c 0
  have y1 := BN.out.c 1
  have y2 := BN.out.c 2
  have y3 := BN.out.c 3
  have y4 := BN.out.c 4
  have y5 := BN.out.c 5
  have u0 := BA.out.c 0
  have u1 := BA.out.c 1
  have u2 := BA.out.c 2
  simp only [List.getElem?_cons_zero, List.getElem?_cons_succ] at y0 y1 y2 y3 y4 y5 u0 u1 u2
  go_wp2_with fail
  refine (HMM.out _ w1 C1.out).mono ?_
  rintro e w3 hr
  obtain ⟨ls3, n3, e1, e2, rfl, M3, O3⟩ := RetP.less2 L1.out hr
  have F3 := Lib.hid (And.intro e1 (And.intro e2 (And.intro M3 O3)))
  clear hr e1 e2 M3 O3
  go_wp2
  go_ret
  exact ⟨ls3, n3, F3.out.1, F3.out.2.1, rfl, F3.out.2.2.1, F3.out.2.2.2⟩
set_option maxHeartbeats 8000000 in
theorem do_12 {w0 : World} {A : Option Addr} {c : Nat} {qs : List Nq} {X : Nat → Prop} {g : Nat} {ls : List Qs} {fe fp : Int} (w : World) (h : Ins w0 A c qs X g ls fe fp w) (k : Nat) (pp cc : Int) (kids nums : List Int) (name : ByteArray) (ka : Option Addr) (kc : Nat) (na : Option Addr) (nc : Nat) (hq : qs[k]? = some ⟨⟨(12 : Int), pp, cc, kids, nums, name⟩, ka, kc, na, nc⟩) (ta tb : Int) (two : Bool) (L : List Sx) (HM : ∀ (X' : Nat → Prop) (W : World), Ins w0 A c qs X' g ls fe fp W → Calls Tryd.prog 86 #[.pointer (some ⟨g, 0, none⟩), .agg #[.int .i64 (12 : Int), .int .i64 pp, .int .i64 cc, .slice ka kids.length kc, .slice na nums.length nc, .string name], .agg #[.int .i64 ta, .int .i64 tb, .bool two]] W (RetP X' g (.slice A qs.length c) L fe fp W)) :
    Calls Tryd.prog 51 #[.pointer (some ⟨g, 0, none⟩), .int .i64 (k : Int), .agg #[.int .i64 ta, .int .i64 tb, .bool two]] w (RetP X g (.slice A qs.length c) L fe fp w) := by
  obtain ⟨b0, o0, eA, hb0, ⟨c0, c1, c2, c3, c4, c5⟩, hin⟩ := h.nodes.at_ hq
  simp only at c0 c1 c2 c3 c4 c5
  have hkl := (List.getElem?_eq_some_iff.1 hq).1
  have CA := Lib.hid (h.more (.cells #[.int .i64 ta, .int .i64 tb, .bool two] 68))
  have C1 := Lib.hid (show Ins w0 A c qs (More (More X w.heap.size) (w.heap.size + 1)) g ls fe fp ((w.alloc (.cells #[.int .i64 ta, .int .i64 tb, .bool two] 68)).alloc (.cells #[.int .i64 (12 : Int), .int .i64 pp, .int .i64 cc, .slice ka kids.length kc, .slice na nums.length nc, .string name] 45)) by
    have := (h.more (.cells #[.int .i64 ta, .int .i64 tb, .bool two] 68)).more (.cells #[.int .i64 (12 : Int), .int .i64 pp, .int .i64 cc, .slice ka kids.length kc, .slice na nums.length nc, .string name] 45)
    rwa [World.size_alloc] at this)
  have L1 := Lib.hid (nest3 w (.cells #[.int .i64 ta, .int .i64 tb, .bool two] 68) (.cells #[.int .i64 (12 : Int), .int .i64 pp, .int .i64 cc, .slice ka kids.length kc, .slice na nums.length nc, .string name] 45))
  have e1 : (w.alloc (.cells #[.int .i64 ta, .int .i64 tb, .bool two] 68)).heap.size = w.heap.size + 1 := by simp
  have BA := Lib.hid (show Bk 68 ((w.alloc (.cells #[.int .i64 ta, .int .i64 tb, .bool two] 68)).alloc (.cells #[.int .i64 (12 : Int), .int .i64 pp, .int .i64 cc, .slice ka kids.length kc, .slice na nums.length nc, .string name] 45)) w.heap.size [.int .i64 ta, .int .i64 tb, .bool two] from (Bk.new _ w _).alloc _)
  have BN := Lib.hid (show Bk 45 ((w.alloc (.cells #[.int .i64 ta, .int .i64 tb, .bool two] 68)).alloc (.cells #[.int .i64 (12 : Int), .int .i64 pp, .int .i64 cc, .slice ka kids.length kc, .slice na nums.length nc, .string name] 45)) (w.heap.size + 1) [.int .i64 (12 : Int), .int .i64 pp, .int .i64 cc, .slice ka kids.length kc, .slice na nums.length nc, .string name] from new_at _ _ e1)
  have z0 := CA.out.cell0
  rw [eA] at z0
  have k0 := (CA.out.cx.bel.cell (p := ⟨b0, _, none⟩) hb0).trans c0
  have k1 := (CA.out.cx.bel.cell (p := ⟨b0, _, none⟩) hb0).trans c1
  have k2 := (CA.out.cx.bel.cell (p := ⟨b0, _, none⟩) hb0).trans c2
  have k3 := (CA.out.cx.bel.cell (p := ⟨b0, _, none⟩) hb0).trans c3
  have k4 := (CA.out.cx.bel.cell (p := ⟨b0, _, none⟩) hb0).trans c4
  have k5 := (CA.out.cx.bel.cell (p := ⟨b0, _, none⟩) hb0).trans c5
  have i0 : (0 : Int) ≤ (k : Int) := by omega
  have i1 : (k : Int) < (qs.length : Int) := by omega
  have HMM := Lib.hid HM
  clear h hq c0 c1 c2 c3 c4 c5 hin e1 hkl eA hb0 HM
  go_enter Tryd.func51, Tryd.ntmps51
  go_wp2_with fail
  clear k0 k1 k2 k3 k4 k5 z0
  generalize ((w.alloc (.cells #[.int .i64 ta, .int .i64 tb, .bool two] 68)).alloc (.cells #[.int .i64 (12 : Int), .int .i64 pp, .int .i64 cc, .slice ka kids.length kc, .slice na nums.length nc, .string name] 45)) = w1 at *
  refine (picked_12 w1).mono ?_
  rintro e w2 ⟨rfl, rfl⟩
  have y0 := BN.out.c 0
  have y1 := BN.out.c 1
  have y2 := BN.out.c 2
  have y3 := BN.out.c 3
  have y4 := BN.out.c 4
  have y5 := BN.out.c 5
  have u0 := BA.out.c 0
  have u1 := BA.out.c 1
  have u2 := BA.out.c 2
  simp only [List.getElem?_cons_zero, List.getElem?_cons_succ] at y0 y1 y2 y3 y4 y5 u0 u1 u2
  go_wp2_with fail
  refine (HMM.out _ w1 C1.out).mono ?_
  rintro e w3 hr
  obtain ⟨ls3, n3, e1, e2, rfl, M3, O3⟩ := RetP.less2 L1.out hr
  have F3 := Lib.hid (And.intro e1 (And.intro e2 (And.intro M3 O3)))
  clear hr e1 e2 M3 O3
  go_wp2
  go_ret
  exact ⟨ls3, n3, F3.out.1, F3.out.2.1, rfl, F3.out.2.2.1, F3.out.2.2.2⟩
theorem do_k {w0 : World} {A : Option Addr} {c : Nat} {qs : List Nq} (hF : Fl qs) (hKn : NoKn qs) : ∀ (k : Nat) (q : Nq), qs[k]? = some q → funI q.n.kind = true → DoC w0 A c qs k := by
  intro k
  induction k using Nat.strongRecOn with
  | ind k ih =>
  intro q hq hfun X g ls fe fp w ta tb two h hroom
  have hk6 := hKn k q hq
  have hD : ∀ m, m < k → (∃ q : Nq, qs[m]? = some q ∧ funI q.n.kind = true) → DoC w0 A c qs m := fun m hm ⟨q', h1, h2⟩ => ih m hm q' h1 h2
  have HN8 := fun h8 => hF.nums8 hq h8
  rw [doV_eq hF.ahead hq]
  unfold doN
  obtain ⟨⟨kk, pp, cc, kids, nums, name⟩, ka, kc, na, nc⟩ := q
  simp only at hfun hk6 HN8 ⊢
  unfold funI at hfun
  simp only [Bool.and_eq_true, decide_eq_true_eq] at hfun
  by_cases h5 : kk = 5
  · subst h5
    rw [if_pos rfl]
    refine do_5 w h k pp cc kids nums name ka kc na nc hq ta tb two _ (fun X' W hI => ?_)
    by_cases hc : 1 ≤ cc ∧ cc ≤ 19
    · cases two
      · exact prim_10 W hI k 5 pp cc kids nums name ka kc na nc hq ta tb hc
      · exact prim_11 W hI k 5 pp cc kids nums name ka kc na nc hq ta tb hc
    · cases two
      · exact prim_00 W hI k 5 pp cc kids nums name ka kc na nc hq ta tb hc
      · exact prim_01 W hI k 5 pp cc kids nums name ka kc na nc hq ta tb hc
  rw [if_neg h5]
  by_cases h7 : kk = 7
  · subst h7
    rw [if_pos rfl]
    by_cases h38 : cc = 38
    · subst h38
      rw [if_pos rfl]
      exact do_7 w h k pp 38 kids nums name ka kc na nc hq ta tb two _ (fun X' W hI => swap_any W hI hKn k pp kids nums name ka kc na nc hq ta tb two hD hroom)
    · rw [if_neg h38]
      exact do_7 w h k pp cc kids nums name ka kc na nc hq ta tb two _ (fun X' W hI => fold_any W hI k pp cc kids nums name ka kc na nc hq h38 ta tb two)
  rw [if_neg h7]
  by_cases h8 : kk = 8
  · subst h8
    rw [if_pos rfl]
    exact do_8 w h k pp cc kids nums name ka kc na nc hq ta tb two _ (fun X' W hI => near_any W hI k pp cc kids nums name ka kc na nc hq ta tb two (HN8 rfl))
  rw [if_neg h8]
  by_cases h9 : kk = 9
  · subst h9
    rw [if_pos rfl]
    exact do_9 w h k pp cc kids nums name ka kc na nc hq ta tb two _ (fun X' W hI => dot_any W hI k pp cc kids nums name ka kc na nc hq ta tb two)
  rw [if_neg h9]
  by_cases h10 : kk = 10
  · subst h10
    rw [if_pos rfl]
    exact do_10 w h k pp cc kids nums name ka kc na nc hq ta tb two _ (fun X' W hI => outer_any W hI k pp cc kids nums name ka kc na nc hq ta tb two)
  rw [if_neg h10]
  by_cases h11 : kk = 11
  · subst h11
    rw [if_pos rfl]
    exact do_11 w h k pp cc kids nums name ka kc na nc hq ta tb two _ (fun X' W hI => fork_do W hI hKn k pp cc kids nums name ka kc na nc hq ta tb two hD hroom)
  rw [if_neg h11]
  have h12 : kk = 12 := by omega
  subst h12
  rw [if_pos rfl]
  exact do_12 w h k pp cc kids nums name ka kc na nc hq ta tb two _ (fun X' W hI => atop_do W hI hKn k pp cc kids nums name ka kc na nc hq ta tb two hD hroom)
end Go.Proofs.YtjmpilmmgfjpmaaDoor.Stp
-- StpVal
set_option maxRecDepth 100000
namespace Go.Proofs.YtjmpilmmgfjpmaaDoor.Stp
open Go.Proofs.YtjmpilmmgfjpmaaDoor.Sh Go.Proofs.YtjmpilmmgfjpmaaDoor.St Go.Proofs.YtjmpilmmgfjpmaaDoor.Tr Go.Proofs.YtjmpilmmgfjpmaaDoor.Big
open Go.RowKit
set_option linter.unusedVariables false
set_option linter.unusedSimpArgs false

/-- What a method leaves that has gone through a value. -/
def RetM (X : Nat → Prop) (g : Nat) (NV : Value) (r : Ms × Int) (w : World) (e : Ending) (w' : World) : Prop :=
  ∃ ls : List Qs, ls.map Prod.fst = r.1.l ∧ e = .returned (.int .i64 r.2) ∧ Mk X g NV ls r.1.fe r.1.fp w' ∧ Out X w w'
theorem RetM.less {X : Nat → Prop} {g b1 : Nat} {NV : Value} {r : Ms × Int} {w w1 w' : World} {e : Ending} (hb : Below w.heap.size w w1) (h : RetM (More X b1) g NV r w1 e w') : RetM X g NV r w e w' := by
  obtain ⟨ls, h1, h3, h4, h5⟩ := h
  exact ⟨ls, h1, h3, h4.less, (Turn.of_below _ hb).trans h5.less⟩
theorem Mk.fault {X : Nat → Prop} {g : Nat} {NV : Value} {ls : List Qs} {fe fp : Int} {w : World} (h : Mk X g NV ls fe fp w) (a b : Int) : Mk X g NV ls a b ((w.setCell ⟨g, 2, none⟩ (.int .i64 a)).setCell ⟨g, 3, none⟩ (.int .i64 b)) ∧ Out X w ((w.setCell ⟨g, 2, none⟩ (.int .i64 a)).setCell ⟨g, 3, none⟩ (.int .i64 b)) := by
  obtain ⟨V, h1, h2, h3, h4, h5⟩ := h
  have hne : V.ownBlock ≠ some g := fun e => own_bk_ne h2 h1 (by decide) e.symm
  refine ⟨⟨V, (h1.set_ 2 _).set_ 3 _, Go.ownsRow_setCell_other (Go.ownsRow_setCell_other h2 (a := ⟨g, 2, none⟩) hne _) (a := ⟨g, 3, none⟩) hne _, fun q hq => ⟨Go.ownsRow_setCell_other (Go.ownsRow_setCell_other (h3 q hq).1 (a := ⟨g, 2, none⟩) (h3 q hq).2 _) (a := ⟨g, 3, none⟩) (h3 q hq).2 _, (h3 q hq).2⟩, h4, h5⟩, ((Turn.refl _ w).setCell (p := ⟨g, 2, none⟩) (.inl h4) _).setCell (p := ⟨g, 3, none⟩) (.inl h4) _⟩
set_option maxHeartbeats 8000000 in
theorem use_any {w0 : World} {A : Option Addr} {c : Nat} {qs : List Nq} {X : Nat → Prop} {g : Nat} {ls : List Qs} {fe fp : Int} (w : World) (h : Ins w0 A c qs X g ls fe fp w) (k : Nat) (qk pp cc : Int) (kids nums : List Int) (name : ByteArray) (ka : Option Addr) (kc : Nat) (na : Option Addr) (nc : Nat) (hq : qs[k]? = some ⟨⟨qk, pp, cc, kids, nums, name⟩, ka, kc, na, nc⟩) (ta tb : Int) (two : Bool) (hfun : funI qk = true) (hKn : NoKn qs) (hroom : ls.length + wl qs (k : Int) ≤ 1500) :
    Calls Tryd.prog 30 #[.pointer (some ⟨g, 0, none⟩), .int .i64 (k : Int), .agg #[.int .i64 ta, .int .i64 tb, .bool two]] w (RetM X g (.slice A qs.length c) (useM qs (k : Int) ⟨ta, tb, two⟩ ⟨ls.map Prod.fst, fe, fp⟩) w) := by
  have hND := ndAt_eq hq
  have HDO := do_k (w0 := w0) (A := A) (c := c) h.fl hKn k _ hq hfun
  obtain ⟨b0, o0, eA, hb0, ⟨c0, c1, c2, c3, c4, c5⟩, hin⟩ := h.nodes.at_ hq
  simp only at c0 c1 c2 c3 c4 c5
  subst eA
  have hkl := (List.getElem?_eq_some_iff.1 hq).1
  have C1 := Lib.hid (h.more (.cells #[.int .i64 ta, .int .i64 tb, .bool two] 68))
  have L1 := Lib.hid (below_new w (.cells #[.int .i64 ta, .int .i64 tb, .bool two] 68))
  have BA := Lib.hid (show Bk 68 (w.alloc (.cells #[.int .i64 ta, .int .i64 tb, .bool two] 68)) w.heap.size [.int .i64 ta, .int .i64 tb, .bool two] from Bk.new _ w _)
  obtain ⟨u, hu⟩ : ∃ u, (if two = true then (usV qs (k : Int)).2 else (usV qs (k : Int)).1) = u := ⟨_, rfl⟩
  have HUS := Lib.hid (fun W (hW : Ins w0 (some ⟨b0, o0, none⟩) c qs (More X w.heap.size) g ls fe fp W) => uses_k _ c qs h.fl k W hW.tab' hW.nodes' hkl)
  have HFT := Lib.hid (fun a b W (hab : usV qs (k : Int) = (a, b)) => (fits_any ta tb two a b W).mono (fun e0 w0 hr => (by rw [hab] at hu; rw [show (if two = true then b else a) = u from hu] at hr; exact hr)))
  have HEV := Lib.hid (show useM qs (k : Int) ⟨ta, tb, two⟩ ⟨ls.map Prod.fst, fe, fp⟩ = if u = true then (⟨doV qs (k : Int) ⟨ta, tb, two⟩ (ls.map Prod.fst), fe, fp⟩, ((doV qs (k : Int) ⟨ta, tb, two⟩ (ls.map Prod.fst)).length : Int) - 1) else if fe = 0 then (⟨ls.map Prod.fst, 13, pp⟩, 0) else (⟨ls.map Prod.fst, fe, fp⟩, 0) by
    unfold useM
    simp only [hu, hND])
  have HD := Lib.hid HDO
  unfold DoC at HD
  have HRM := Lib.hid hroom
  have HC1 := Lib.hid c1
  have i0 : (0 : Int) ≤ (k : Int) := by omega
  have i1 : (k : Int) < (qs.length : Int) := by omega
  have HB0 := Lib.hid hb0
  have HS := Lib.hid (fun (W : World) (I : Ins w0 (some ⟨b0, o0, none⟩) c qs (More X w.heap.size) g ls fe fp W) (B : Bk 68 W w.heap.size [.int .i64 ta, .int .i64 tb, .bool two]) => (show W.cell? ⟨g, 0, none⟩ = some (.slice (some ⟨b0, o0, none⟩) qs.length c) ∧ W.cell? ⟨w.heap.size, 0, none⟩ = some (.int .i64 ta) ∧ W.cell? ⟨w.heap.size, 1, none⟩ = some (.int .i64 tb) ∧ W.cell? ⟨w.heap.size, 2, none⟩ = some (.bool two) from ⟨I.cell0, B.c 0, B.c 1, B.c 2⟩))
  clear h hq hfun hKn hroom hND HDO hb0 c0 c1 c2 c3 c4 c5 hin hkl hu
  go_enter Tryd.func30, Tryd.ntmps30
  go_upto_region 1 with fail
  generalize (w.alloc (.cells #[.int .i64 ta, .int .i64 tb, .bool two] 68)) = w1 at *
  have Cd := Lib.hid C1.out.drew
  have BAd := Lib.hid BA.out.drew
  have Ld := Lib.hid L1.out.drew
  have Kd := Lib.hid (HS.out _ Cd.out BAd.out)
  go_region_held3 (fun w' => w'.cell? ⟨g, 0, none⟩ = some (.slice (some ⟨b0, o0, none⟩) qs.length c) ∧ w'.cell? ⟨w.heap.size, 0, none⟩ = some (.int .i64 ta) ∧ w'.cell? ⟨w.heap.size, 1, none⟩ = some (.int .i64 tb) ∧ w'.cell? ⟨w.heap.size, 2, none⟩ = some (.bool two))
    (first
      | with_reducible exact Kd.out
      | with_reducible exact K3.out
      | with_reducible exact K2.out
      | go_keep)
    (first
      | (go_at_call 25; (with_reducible refine (HUS.out _ Cd.out).mono ?_); rintro r w2 ⟨ua, ub, huv, rfl, hb2⟩; have UV := Lib.hid huv; have C2 := Lib.hid (Cd.out.below hb2); have L2 := Lib.hid (Gl.below_next Ld.out hb2); have BA2 := Lib.hid (BAd.out.next hb2); have K2 := Lib.hid (HS.out _ C2.out BA2.out); clear hb2 huv)
      | (go_at_call 50; (with_reducible refine (HFT.out ua ub _ UV.out).mono ?_); rintro r w3 ⟨rfl, hb3⟩; have C3 := Lib.hid (C2.out.below hb3); have L3 := Lib.hid (Gl.below_next L2.out hb3); have BA3 := Lib.hid (BA2.out.next hb3); have K3 := Lib.hid (HS.out _ C3.out BA3.out); clear hb3))
  have v0 := BA3.out.c 0
  have v1 := BA3.out.c 1
  have v2 := BA3.out.c 2
  simp only [List.getElem?_cons_zero, List.getElem?_cons_succ] at v0 v1 v2
  cases u with
  | true =>
    go_wp2_with fail
    refine (HD.out _ _ _ _ _ w3 _ _ _ C3.out HRM.out).mono ?_
    rintro e w4 ⟨ls4, n4, e1, e2, rfl, M4, O4⟩
    have F4 := Lib.hid (And.intro e1 (And.intro e2 (And.intro M4 O4)))
    clear e1 e2 M4 O4
    go_wp2
    go_ret
    refine RetM.less L3.out ⟨ls4, by rw [HEV.out]; exact F4.out.1, ?_, by rw [HEV.out]; exact F4.out.2.2.1, F4.out.2.2.2⟩
    rw [HEV.out]
    show Ending.returned (.int .i64 (n4 : Int)) = .returned (.int .i64 (((doV qs (k : Int) ⟨ta, tb, two⟩ (ls.map Prod.fst)).length : Int) - 1))
    rw [F4.out.2.1]
    congr 2
    omega
  | false =>
    obtain ⟨A5, c5, M5, O5, -⟩ := C3.out.mkr.view
    have m0 := M5.c 0
    have m2 := M5.c 2
    have m3 := M5.c 3
    have f2 := M5.f 2
    have f3 := M5.f 3
    simp only [List.getElem?_cons_zero, List.getElem?_cons_succ] at m0 m2 m3
    have HM5 := Lib.hid M5
    clear M5 O5
    by_cases h0 : fe = 0
    · have HV := Lib.hid (show useM qs (k : Int) ⟨ta, tb, two⟩ ⟨ls.map Prod.fst, fe, fp⟩ = (⟨ls.map Prod.fst, 13, pp⟩, 0) by rw [HEV.out, if_neg (by decide), if_pos h0])
      subst h0
      have z1 := (C3.out.cx.bel.cell (p := ⟨b0, o0 + k * 6 + 1, none⟩) HB0.out).trans HC1.out
      clear HEV
      go_wp2
      go_ret
      have := Mk.fault C3.out.mkr 13 pp
      exact RetM.less L3.out ⟨ls, by rw [HV.out], by rw [HV.out]; rfl, by rw [HV.out]; exact this.1, this.2⟩
    · have HV := Lib.hid (show useM qs (k : Int) ⟨ta, tb, two⟩ ⟨ls.map Prod.fst, fe, fp⟩ = (⟨ls.map Prod.fst, fe, fp⟩, 0) by rw [HEV.out, if_neg (by decide), if_neg h0])
      have u0 : (fe == 0) = false := by simp [h0]
      have u0' : decide (fe = 0) = false := by simp [h0]
      clear HEV h0
      go_wp2
      go_ret
      exact RetM.less L3.out ⟨ls, by rw [HV.out], by rw [HV.out]; rfl, by rw [HV.out]; exact C3.out.mkr, Turn.refl _ _⟩
end Go.Proofs.YtjmpilmmgfjpmaaDoor.Stp
-- StpValM
set_option maxRecDepth 100000
namespace Go.Proofs.YtjmpilmmgfjpmaaDoor.Stp
open Go.Proofs.YtjmpilmmgfjpmaaDoor.Sh Go.Proofs.YtjmpilmmgfjpmaaDoor.St Go.Proofs.YtjmpilmmgfjpmaaDoor.Tr
open Go.RowKit
set_option linter.unusedVariables false
set_option linter.unusedSimpArgs false

/-- No fewer steps, and no more than so many more. -/
def Gv (L M : List Sx) (n : Nat) : Prop := ∃ N, M = L ++ N ∧ N.length ≤ n
theorem Gv.refl (L : List Sx) (n : Nat) : Gv L L n := ⟨[], by simp, by simp⟩
theorem Gv.of {L M : List Sx} {n : Nat} (h : Grow L M n) : Gv L M n := by obtain ⟨N, h1, h2, h3⟩ := h.ext; exact ⟨N, h1, h3⟩
theorem Gv.trans {L M N : List Sx} {a b n : Nat} (h : Gv L M a) (k : Gv M N b) (hn : a + b ≤ n) : Gv L N n := by
  obtain ⟨x, rfl, h2⟩ := h
  obtain ⟨y, rfl, h4⟩ := k
  exact ⟨x ++ y, by simp, by rw [List.length_append]; omega⟩
theorem Gv.mono {L M : List Sx} {a n : Nat} (h : Gv L M a) (hn : a ≤ n) : Gv L M n := by obtain ⟨x, e, h1⟩ := h; exact ⟨x, e, by omega⟩
theorem Gv.len {L M : List Sx} {n : Nat} (h : Gv L M n) : L.length ≤ M.length ∧ M.length ≤ L.length + n := by obtain ⟨x, rfl, h1⟩ := h; rw [List.length_append]; omega
theorem Rise.refl (L : List Sx) : Rise L L := fun j s h hj => by rw [List.getElem?_eq_none hj] at h; cases h
theorem Rise.transV {L M N : List Sx} {b : Nat} (h : Rise L M) (g : Gv M N b) (k : Rise M N) : Rise L N := by
  intro j x hx hj
  by_cases hm : M.length ≤ j
  · exact k j x hx hm
  · obtain ⟨y, rfl, -⟩ := g
    rw [List.getElem?_append_left (by omega)] at hx
    exact h j x hx hj
/-- What is known of a value's steps and place. -/
def Vg (L : List Sx) (r : Ms × Int) (n : Nat) : Prop := Gv L r.1.l n ∧ (0 < L.length → Rise L r.1.l ∧ 0 ≤ r.2 ∧ r.2 < (r.1.l.length : Int))
theorem use_grow {qs : List Nq} (hF : Fl qs) (hK : NoKn qs) (k : Nat) (q : Nq) (hq : qs[k]? = some q) (hfun : funI q.n.kind = true) (t : Arg) (m : Ms) (h0 : 0 < m.l.length) (ha : 0 ≤ t.a ∧ t.a < (m.l.length : Int)) (hb : 0 ≤ t.b ∧ t.b < (m.l.length : Int)) : Vg m.l (useM qs (k : Int) t m) (wl qs (k : Int)) := by
  unfold useM
  by_cases hc : (if t.two = true then (usV qs (k : Int)).2 else (usV qs (k : Int)).1) = true
  · rw [if_pos hc]
    have h := do_grow hF hK k q hq hfun t m.l
    have hl := h.1.len
    exact ⟨Gv.of h.1, fun _ => ⟨h.2 ha.1 ha.2 hb.1 hb.2, by show (0 : Int) ≤ ((doV qs (k : Int) t m.l).length : Int) - 1; omega, by show ((doV qs (k : Int) t m.l).length : Int) - 1 < ((doV qs (k : Int) t m.l).length : Int); omega⟩⟩
  · rw [if_neg hc]
    by_cases h1 : m.fe = 0
    · rw [if_pos h1]
      exact ⟨Gv.refl _ _, fun _ => ⟨Rise.refl _, Int.le_refl _, by show (0 : Int) < (m.l.length : Int); omega⟩⟩
    · rw [if_neg h1]
      exact ⟨Gv.refl _ _, fun _ => ⟨Rise.refl _, Int.le_refl _, by show (0 : Int) < (m.l.length : Int); omega⟩⟩
theorem va_grow {qs : List Nq} (hF : Fl qs) (hK : NoKn qs) : ∀ (k : Nat) (q : Nq), qs[k]? = some q → valI q.n.kind = true → ∀ (m : Ms), 0 < m.l.length → Vg m.l (vaV qs (k : Int) m) (wl qs (k : Int)) := by
  intro k
  induction k using Nat.strongRecOn with
  | ind k ih =>
  intro q hq hval m h0
  have hpos := wl_pos hF hq
  rw [vaV_eq hF.ahead hq]
  unfold vaN
  by_cases h1 : q.n.kind = 1
  · rw [if_pos h1]
    exact ⟨⟨[nmS q.n], rfl, by simpa using hpos⟩, fun _ => ⟨Rise.one _ _ (by show (1 : Int) ≤ 1; omega) (by show (1 : Int) ≤ 13; omega) ⟨by show (0 : Int) ≤ 0; omega, by show (0 : Int) < _; omega⟩ ⟨by show (0 : Int) ≤ 0; omega, by show (0 : Int) < _; omega⟩, by show (0 : Int) ≤ (m.l.length : Int); omega, by show (m.l.length : Int) < ((m.l ++ [nmS q.n]).length : Int); rw [List.length_append]; simp; omega⟩⟩
  rw [if_neg h1]
  by_cases h3 : q.n.kind = 3
  · rw [if_pos h3]
    obtain ⟨m0, q0, hx0, hkm0, hmk0, hqm0, hka0, hmay0⟩ := hF.kid hq 0 (by rw [h3]; decide)
    obtain ⟨m1, q1, hx1, hkm1, hmk1, hqm1, hka1, hmay1⟩ := hF.kid hq 1 (by rw [h3]; decide)
    rw [h3] at hmay0 hmay1
    have hf0 : funI q0.n.kind = true := hmay0
    have hv1 : valI q1.n.kind = true := hmay1
    have hw := wl_2 hF hq (by rw [h3]; decide)
    rw [hkm0, hkm1] at hw ⊢
    have g1 := ih m1 hmk1 q1 hqm1 hv1 m h0
    obtain ⟨r1, hr1⟩ : ∃ r, vaV qs (m1 : Int) m = r := ⟨_, rfl⟩
    rw [hr1] at g1 ⊢
    have l1 := g1.1.len
    have p1 := g1.2 h0
    have g0 := use_grow hF hK m0 q0 hqm0 hf0 ⟨0, r1.2, false⟩ r1.1 (by omega) ⟨Int.le_refl _, by show (0 : Int) < _; omega⟩ ⟨p1.2.1, p1.2.2⟩
    exact ⟨g1.1.trans g0.1 (by omega), fun _ => ⟨p1.1.transV g0.1 (g0.2 (by omega)).1, (g0.2 (by omega)).2⟩⟩
  rw [if_neg h3]
  by_cases h4 : q.n.kind = 4
  · rw [if_pos h4]
    obtain ⟨m0, q0, hx0, hkm0, hmk0, hqm0, hka0, hmay0⟩ := hF.kid hq 0 (by rw [h4]; decide)
    obtain ⟨m1, q1, hx1, hkm1, hmk1, hqm1, hka1, hmay1⟩ := hF.kid hq 1 (by rw [h4]; decide)
    obtain ⟨m2, q2, hx2, hkm2, hmk2, hqm2, hka2, hmay2⟩ := hF.kid hq 2 (by rw [h4]; decide)
    rw [h4] at hmay0 hmay1 hmay2
    have hv0 : valI q0.n.kind = true := hmay0
    have hf1 : funI q1.n.kind = true := hmay1
    have hv2 : valI q2.n.kind = true := hmay2
    have hw := wl_3 hF hq (by rw [h4]; decide)
    rw [hkm0, hkm1, hkm2] at hw ⊢
    have g2 := ih m2 hmk2 q2 hqm2 hv2 m h0
    obtain ⟨r2, hr2⟩ : ∃ r, vaV qs (m2 : Int) m = r := ⟨_, rfl⟩
    rw [hr2] at g2 ⊢
    have l2 := g2.1.len
    have p2 := g2.2 h0
    have g0 := ih m0 hmk0 q0 hqm0 hv0 r2.1 (by omega)
    obtain ⟨r0, hr0⟩ : ∃ r, vaV qs (m0 : Int) r2.1 = r := ⟨_, rfl⟩
    rw [hr0] at g0 ⊢
    have l0 := g0.1.len
    have p0 := g0.2 (by omega)
    have g1 := use_grow hF hK m1 q1 hqm1 hf1 ⟨r0.2, r2.2, true⟩ r0.1 (by omega) ⟨p0.2.1, p0.2.2⟩ ⟨p2.2.1, by have := p2.2.2; show r2.2 < _; omega⟩
    exact ⟨(g2.1.trans g0.1 (Nat.le_refl _)).trans g1.1 (by omega), fun _ => ⟨(p2.1.transV g0.1 p0.1).transV g1.1 (g1.2 (by omega)).1, (g1.2 (by omega)).2⟩⟩
  rw [if_neg h4]
  exact ⟨Gv.refl _ _, fun _ => ⟨Rise.refl _, Int.le_refl _, by show (0 : Int) < (m.l.length : Int); omega⟩⟩
end Go.Proofs.YtjmpilmmgfjpmaaDoor.Stp
-- StpVal2
set_option maxRecDepth 100000
namespace Go.Proofs.YtjmpilmmgfjpmaaDoor.Stp
open Go.Proofs.YtjmpilmmgfjpmaaDoor.Sh Go.Proofs.YtjmpilmmgfjpmaaDoor.St Go.Proofs.YtjmpilmmgfjpmaaDoor.Tr Go.Proofs.YtjmpilmmgfjpmaaDoor.Big
open Go.RowKit
set_option linter.unusedVariables false
set_option linter.unusedSimpArgs false

def VaC (w0 : World) (A : Option Addr) (c : Nat) (qs : List Nq) (k : Nat) : Prop := ∀ (X : Nat → Prop) (g : Nat) (ls : List Qs) (fe fp : Int) (w : World), Ins w0 A c qs X g ls fe fp w → 0 < ls.length → ls.length + wl qs (k : Int) ≤ 1500 →
  Calls Tryd.prog 20 #[.pointer (some ⟨g, 0, none⟩), .int .i64 (k : Int)] w (RetM X g (.slice A qs.length c) (vaV qs (k : Int) ⟨ls.map Prod.fst, fe, fp⟩) w)
set_option maxHeartbeats 8000000 in
theorem va_1 {w0 : World} {A : Option Addr} {c : Nat} {qs : List Nq} {X : Nat → Prop} {g : Nat} {ls : List Qs} {fe fp : Int} (w : World) (h : Ins w0 A c qs X g ls fe fp w) (hKn : NoKn qs) (k : Nat) (pp cc : Int) (kids nums : List Int) (name : ByteArray) (ka : Option Addr) (kc : Nat) (na : Option Addr) (nc : Nat) (hq : qs[k]? = some ⟨⟨(1 : Int), pp, cc, kids, nums, name⟩, ka, kc, na, nc⟩) (hV : ∀ m, m < k → (∃ q : Nq, qs[m]? = some q ∧ valI q.n.kind = true) → VaC w0 A c qs m) (h0 : 0 < ls.length) (hroom : ls.length + wl qs (k : Int) ≤ 1500) :
    Calls Tryd.prog 20 #[.pointer (some ⟨g, 0, none⟩), .int .i64 (k : Int)] w (RetM X g (.slice A qs.length c) (vaV qs (k : Int) ⟨ls.map Prod.fst, fe, fp⟩) w) := by
  have HEQ := Lib.hid (vaV_eq h.fl.ahead hq ⟨ls.map Prod.fst, fe, fp⟩)
  obtain ⟨b0, o0, eA, hb0, ⟨c0, c1, c2, c3, c4, c5⟩, hin⟩ := h.nodes.at_ hq
  simp only at c0 c1 c2 c3 c4 c5
  subst eA
  have hkl := (List.getElem?_eq_some_iff.1 hq).1
  have C1 := Lib.hid (h.more (.cells #[.int .i64 (1 : Int), .int .i64 pp, .int .i64 cc, .slice ka kids.length kc, .slice na nums.length nc, .string name] 45))
  have L1 := Lib.hid (below_new w (.cells #[.int .i64 (1 : Int), .int .i64 pp, .int .i64 cc, .slice ka kids.length kc, .slice na nums.length nc, .string name] 45))
  have BN := Lib.hid (show Bk 45 (w.alloc (.cells #[.int .i64 (1 : Int), .int .i64 pp, .int .i64 cc, .slice ka kids.length kc, .slice na nums.length nc, .string name] 45)) w.heap.size [.int .i64 (1 : Int), .int .i64 pp, .int .i64 cc, .slice ka kids.length kc, .slice na nums.length nc, .string name] from Bk.new _ w _)
  have z0 := h.cell0
  have k0 := (h.cx.bel.cell (p := ⟨b0, _, none⟩) hb0).trans c0
  have k1 := (h.cx.bel.cell (p := ⟨b0, _, none⟩) hb0).trans c1
  have k2 := (h.cx.bel.cell (p := ⟨b0, _, none⟩) hb0).trans c2
  have k3 := (h.cx.bel.cell (p := ⟨b0, _, none⟩) hb0).trans c3
  have k4 := (h.cx.bel.cell (p := ⟨b0, _, none⟩) hb0).trans c4
  have k5 := (h.cx.bel.cell (p := ⟨b0, _, none⟩) hb0).trans c5
  have i0 : (0 : Int) ≤ (k : Int) := by omega
  have i1 : (k : Int) < (qs.length : Int) := by omega
  have HNL := Lib.hid (h.fl.nums1 hq rfl)
  have HQ := Lib.hid hq
  have HV := Lib.hid (show vaV qs (k : Int) ⟨ls.map Prod.fst, fe, fp⟩ = (⟨ls.map Prod.fst ++ [nmS ⟨(1 : Int), pp, cc, kids, nums, name⟩], fe, fp⟩, ((ls.map Prod.fst).length : Int)) by rw [HEQ.out]; rfl)
  clear h hq hV h0 hroom hKn HEQ hb0 c0 c1 c2 c3 c4 c5 hin hkl
  go_enter Tryd.func20, Tryd.ntmps20
  go_wp2_with fail
  clear k0 k1 k2 k3 k4 k5 z0
  generalize (w.alloc (.cells #[.int .i64 (1 : Int), .int .i64 pp, .int .i64 cc, .slice ka kids.length kc, .slice na nums.length nc, .string name] 45)) = w1 at *
  refine (num_any w1 C1.out k 1 pp cc kids nums name ka kc na nc HQ.out HNL.out).mono ?_
  rintro e w2 ⟨ls2, n2, e1, e2, rfl, M2, O2⟩
  have F2 := Lib.hid (And.intro e1 (And.intro e2 (And.intro M2 O2)))
  clear e1 e2 M2 O2
  go_wp2
  go_ret
  rw [HV.out]
  refine RetM.less L1.out ⟨ls2, F2.out.1, ?_, F2.out.2.2.1, F2.out.2.2.2⟩
  have := F2.out.2.1
  rw [List.length_append] at this
  have e3 : (ls.map Prod.fst).length = n2 := by simpa using this
  show Ending.returned (.int .i64 (n2 : Int)) = .returned (.int .i64 ((ls.map Prod.fst).length : Int))
  rw [e3]
set_option maxHeartbeats 8000000 in
theorem va_2 {w0 : World} {A : Option Addr} {c : Nat} {qs : List Nq} {X : Nat → Prop} {g : Nat} {ls : List Qs} {fe fp : Int} (w : World) (h : Ins w0 A c qs X g ls fe fp w) (hKn : NoKn qs) (k : Nat) (pp cc : Int) (kids nums : List Int) (name : ByteArray) (ka : Option Addr) (kc : Nat) (na : Option Addr) (nc : Nat) (hq : qs[k]? = some ⟨⟨(2 : Int), pp, cc, kids, nums, name⟩, ka, kc, na, nc⟩) (hV : ∀ m, m < k → (∃ q : Nq, qs[m]? = some q ∧ valI q.n.kind = true) → VaC w0 A c qs m) (h0 : 0 < ls.length) (hroom : ls.length + wl qs (k : Int) ≤ 1500) :
    Calls Tryd.prog 20 #[.pointer (some ⟨g, 0, none⟩), .int .i64 (k : Int)] w (RetM X g (.slice A qs.length c) (vaV qs (k : Int) ⟨ls.map Prod.fst, fe, fp⟩) w) := by
  have HEQ := Lib.hid (vaV_eq h.fl.ahead hq ⟨ls.map Prod.fst, fe, fp⟩)
  obtain ⟨b0, o0, eA, hb0, ⟨c0, c1, c2, c3, c4, c5⟩, hin⟩ := h.nodes.at_ hq
  simp only at c0 c1 c2 c3 c4 c5
  subst eA
  have hkl := (List.getElem?_eq_some_iff.1 hq).1
  have C1 := Lib.hid (h.more (.cells #[.int .i64 (2 : Int), .int .i64 pp, .int .i64 cc, .slice ka kids.length kc, .slice na nums.length nc, .string name] 45))
  have L1 := Lib.hid (below_new w (.cells #[.int .i64 (2 : Int), .int .i64 pp, .int .i64 cc, .slice ka kids.length kc, .slice na nums.length nc, .string name] 45))
  have BN := Lib.hid (show Bk 45 (w.alloc (.cells #[.int .i64 (2 : Int), .int .i64 pp, .int .i64 cc, .slice ka kids.length kc, .slice na nums.length nc, .string name] 45)) w.heap.size [.int .i64 (2 : Int), .int .i64 pp, .int .i64 cc, .slice ka kids.length kc, .slice na nums.length nc, .string name] from Bk.new _ w _)
  have z0 := h.cell0
  have k0 := (h.cx.bel.cell (p := ⟨b0, _, none⟩) hb0).trans c0
  have k1 := (h.cx.bel.cell (p := ⟨b0, _, none⟩) hb0).trans c1
  have k2 := (h.cx.bel.cell (p := ⟨b0, _, none⟩) hb0).trans c2
  have k3 := (h.cx.bel.cell (p := ⟨b0, _, none⟩) hb0).trans c3
  have k4 := (h.cx.bel.cell (p := ⟨b0, _, none⟩) hb0).trans c4
  have k5 := (h.cx.bel.cell (p := ⟨b0, _, none⟩) hb0).trans c5
  have i0 : (0 : Int) ≤ (k : Int) := by omega
  have i1 : (k : Int) < (qs.length : Int) := by omega
  have HV := Lib.hid (show vaV qs (k : Int) ⟨ls.map Prod.fst, fe, fp⟩ = (⟨ls.map Prod.fst, fe, fp⟩, 0) by rw [HEQ.out]; rfl)
  clear h hq hV h0 hroom hKn HEQ hb0 c0 c1 c2 c3 c4 c5 hin hkl
  go_enter Tryd.func20, Tryd.ntmps20
  go_wp2
  go_ret
  rw [HV.out]
  exact RetM.less L1.out ⟨ls, rfl, rfl, C1.out.mkr, Turn.refl _ _⟩
set_option maxHeartbeats 8000000 in
theorem va_3 {w0 : World} {A : Option Addr} {c : Nat} {qs : List Nq} {X : Nat → Prop} {g : Nat} {ls : List Qs} {fe fp : Int} (w : World) (h : Ins w0 A c qs X g ls fe fp w) (hKn : NoKn qs) (k : Nat) (pp cc : Int) (kids nums : List Int) (name : ByteArray) (ka : Option Addr) (kc : Nat) (na : Option Addr) (nc : Nat) (hq : qs[k]? = some ⟨⟨(3 : Int), pp, cc, kids, nums, name⟩, ka, kc, na, nc⟩) (hV : ∀ m, m < k → (∃ q : Nq, qs[m]? = some q ∧ valI q.n.kind = true) → VaC w0 A c qs m) (h0 : 0 < ls.length) (hroom : ls.length + wl qs (k : Int) ≤ 1500) :
    Calls Tryd.prog 20 #[.pointer (some ⟨g, 0, none⟩), .int .i64 (k : Int)] w (RetM X g (.slice A qs.length c) (vaV qs (k : Int) ⟨ls.map Prod.fst, fe, fp⟩) w) := by
  have hlen : kids.length = 2 := h.fl.nk hq
  have hin0 := h.nodes.2 _ (List.mem_of_getElem? hq)
  obtain ⟨bK, oK, eka, hbK, hcK⟩ := hin0.1 (by simp only; omega)
  simp only at eka hcK
  subst eka
  obtain ⟨m0, q0, hx0, hkm0, hmk0, hqm0, hka0, hmay0⟩ := h.fl.kid hq 0 (by show 0 < (partsL 3).length; decide)
  simp only at hx0 hkm0 hmay0
  have hy0 := hcK 0 (by omega)
  rw [show kids.getD 0 0 = (m0 : Int) by rw [List.getD_eq_getElem?_getD, hx0]; rfl] at hy0
  have HY0 := Lib.hid hy0
  obtain ⟨m1, q1, hx1, hkm1, hmk1, hqm1, hka1, hmay1⟩ := h.fl.kid hq 1 (by show 1 < (partsL 3).length; decide)
  simp only at hx1 hkm1 hmay1
  have hy1 := hcK 1 (by omega)
  rw [show kids.getD 1 0 = (m1 : Int) by rw [List.getD_eq_getElem?_getD, hx1]; rfl] at hy1
  have HY1 := Lib.hid hy1
  have hw := wl_2 h.fl hq (by show (partsL 3).length = 2; decide)
  rw [hkm0, hkm1] at hw
  have HEQ := Lib.hid (vaV_eq h.fl.ahead hq ⟨ls.map Prod.fst, fe, fp⟩)
  obtain ⟨b0, o0, eA, hb0, ⟨c0, c1, c2, c3, c4, c5⟩, hin⟩ := h.nodes.at_ hq
  simp only at c0 c1 c2 c3 c4 c5
  subst eA
  have hkl := (List.getElem?_eq_some_iff.1 hq).1
  have C1 := Lib.hid (h.more (.cells #[.int .i64 (3 : Int), .int .i64 pp, .int .i64 cc, .slice (some ⟨bK, oK, none⟩) kids.length kc, .slice na nums.length nc, .string name] 45))
  have L1 := Lib.hid (below_new w (.cells #[.int .i64 (3 : Int), .int .i64 pp, .int .i64 cc, .slice (some ⟨bK, oK, none⟩) kids.length kc, .slice na nums.length nc, .string name] 45))
  have BN := Lib.hid (show Bk 45 (w.alloc (.cells #[.int .i64 (3 : Int), .int .i64 pp, .int .i64 cc, .slice (some ⟨bK, oK, none⟩) kids.length kc, .slice na nums.length nc, .string name] 45)) w.heap.size [.int .i64 (3 : Int), .int .i64 pp, .int .i64 cc, .slice (some ⟨bK, oK, none⟩) kids.length kc, .slice na nums.length nc, .string name] from Bk.new _ w _)
  have z0 := h.cell0
  have k0 := (h.cx.bel.cell (p := ⟨b0, _, none⟩) hb0).trans c0
  have k1 := (h.cx.bel.cell (p := ⟨b0, _, none⟩) hb0).trans c1
  have k2 := (h.cx.bel.cell (p := ⟨b0, _, none⟩) hb0).trans c2
  have k3 := (h.cx.bel.cell (p := ⟨b0, _, none⟩) hb0).trans c3
  have k4 := (h.cx.bel.cell (p := ⟨b0, _, none⟩) hb0).trans c4
  have k5 := (h.cx.bel.cell (p := ⟨b0, _, none⟩) hb0).trans c5
  have i0 : (0 : Int) ≤ (k : Int) := by omega
  have i1 : (k : Int) < (qs.length : Int) := by omega
  have hf0 : funI q0.n.kind = true := hmay0
  have hv1 : valI q1.n.kind = true := hmay1
  have HV1 := Lib.hid (hV m1 hmk1 ⟨q1, hqm1, hv1⟩)
  unfold VaC at HV1
  have HU0 := Lib.hid (fun (X' : Nat → Prop) (ls' : List Qs) (fe' fp' : Int) (W : World) (hI : Ins w0 (some ⟨b0, o0, none⟩) c qs X' g ls' fe' fp' W) (hl : ls'.length + wl qs (m0 : Int) ≤ 1500) (ta tb : Int) (two : Bool) => show Calls Tryd.prog 30 #[.pointer (some ⟨g, 0, none⟩), .int .i64 (m0 : Int), .agg #[.int .i64 ta, .int .i64 tb, .bool two]] W (RetM X' g (.slice (some ⟨b0, o0, none⟩) qs.length c) (useM qs (m0 : Int) ⟨ta, tb, two⟩ ⟨ls'.map Prod.fst, fe', fp'⟩) W) by
    obtain ⟨⟨kz, pz, cz, kidz, numz, namez⟩, kaz, kcz, naz, ncz⟩ := q0
    exact use_any W hI m0 kz pz cz kidz numz namez kaz kcz naz ncz hqm0 ta tb two hf0 hKn hl)
  have g1 := va_grow h.fl hKn m1 q1 hqm1 hv1 ⟨ls.map Prod.fst, fe, fp⟩ (by rw [List.length_map]; exact h0)
  obtain ⟨r1, hr1⟩ : ∃ r, vaV qs (m1 : Int) ⟨ls.map Prod.fst, fe, fp⟩ = r := ⟨_, rfl⟩
  rw [hr1] at g1
  have l1 := g1.1.len
  simp only [List.length_map] at l1
  have HV := Lib.hid (show vaV qs (k : Int) ⟨ls.map Prod.fst, fe, fp⟩ = useM qs (m0 : Int) ⟨0, r1.2, false⟩ r1.1 by
    rw [HEQ.out, ← hr1, ← hkm0, ← hkm1]; rfl)
  have HS := Lib.hid (fun (W : World) (L : Below w0.heap.size w0 W) (B : Bk 45 W w.heap.size [.int .i64 (3 : Int), .int .i64 pp, .int .i64 cc, .slice (some ⟨bK, oK, none⟩) kids.length kc, .slice na nums.length nc, .string name]) => (show W.cell? ⟨w.heap.size, 3, none⟩ = some (.slice (some ⟨bK, oK, none⟩) kids.length kc) ∧ W.cell? ⟨bK, oK, none⟩ = some (.int .i64 (m0 : Int)) ∧ W.cell? ⟨bK, oK + 1, none⟩ = some (.int .i64 (m1 : Int)) from ⟨B.c 3, (L.cell (p := ⟨bK, oK + 0, none⟩) hbK).trans HY0.out, (L.cell (p := ⟨bK, oK + 1, none⟩) hbK).trans HY1.out⟩))
  have HR1 := Lib.hid hr1
  have R0 := Lib.hid h0
  have R1 := Lib.hid (show ls.length + wl qs (m1 : Int) ≤ 1500 by omega)
  have R2 := Lib.hid (show r1.1.l.length + wl qs (m0 : Int) ≤ 1500 by omega)
  have i2 : (0 : Int) < (kids.length : Int) := by omega
  have i3 : (1 : Int) < (kids.length : Int) := by omega
  have j0 : 0 < kids.length := by omega
  have j1 : 1 < kids.length := by omega
  clear h hq hV hroom hKn HEQ hb0 c0 c1 c2 c3 c4 c5 hin hkl hin0 hcK hy0 hx0 hmk0 hqm0 hka0 hmay0 hkm0 hy1 hx1 hmk1 hqm1 hka1 hmay1 hkm1 hw hlen hf0 hv1 g1 l1 hr1 h0
  go_enter Tryd.func20, Tryd.ntmps20
  go_upto_region 6 with fail
  clear k0 k1 k2 k3 k4 k5 z0
  generalize (w.alloc (.cells #[.int .i64 (3 : Int), .int .i64 pp, .int .i64 cc, .slice (some ⟨bK, oK, none⟩) kids.length kc, .slice na nums.length nc, .string name] 45)) = w1 at *
  have Cd := Lib.hid C1.out.drew
  have BNd := Lib.hid BN.out.drew
  have Ld := Lib.hid L1.out.drew
  have Kd := Lib.hid (HS.out _ Cd.out.cx.bel BNd.out)
  go_region_held3 (fun w' => w'.cell? ⟨w.heap.size, 3, none⟩ = some (.slice (some ⟨bK, oK, none⟩) kids.length kc) ∧ w'.cell? ⟨bK, oK, none⟩ = some (.int .i64 (m0 : Int)) ∧ w'.cell? ⟨bK, oK + 1, none⟩ = some (.int .i64 (m1 : Int)))
    (first
      | with_reducible exact Kd.out
      | with_reducible exact K3.out
      | with_reducible exact K2.out
      | go_keep)
    (first
      | (go_at_call 20; (with_reducible refine (HV1.out _ _ _ _ _ _ Cd.out R0.out R1.out).mono ?_); rintro r w2 hr; rw [HR1.out] at hr; obtain ⟨ls2, e1, rfl, M2, O2⟩ := hr; have F2 := Lib.hid (And.intro e1 (And.intro M2 O2)); have C2 := Lib.hid (Cd.out.step M2 O2 (by have := map_len e1; have := R2.out; omega)); have BN2 := Lib.hid (Bk.out BNd.out O2 (.inr rfl)); have K2 := Lib.hid (HS.out _ C2.out.cx.bel BN2.out); clear e1 M2 O2)
      | (go_at_call 30; (with_reducible refine (HU0.out _ _ _ _ _ C2.out (by have := map_len F2.out.1; have := R2.out; omega) _ _ _).mono ?_); rintro r w3 hr; obtain ⟨ls3, e1, rfl, M3, O3⟩ := hr; have F3 := Lib.hid (And.intro e1 (And.intro M3 O3)); have C3 := Lib.hid (C2.out.cx.next O3); have BN3 := Lib.hid (Bk.out BN2.out O3 (.inr rfl)); have K3 := Lib.hid (HS.out _ C3.out.bel BN3.out); clear e1 M3 O3))
  go_wp2
  go_ret
  rw [HV.out]
  have E2 := F2.out.1
  have F3' := F3.out
  rw [E2] at F3'
  exact RetM.less Ld.out ⟨ls3, F3'.1, by rw [E2]; rfl, F3'.2.1, F2.out.2.2.trans F3'.2.2⟩
set_option maxHeartbeats 8000000 in
theorem va_4 {w0 : World} {A : Option Addr} {c : Nat} {qs : List Nq} {X : Nat → Prop} {g : Nat} {ls : List Qs} {fe fp : Int} (w : World) (h : Ins w0 A c qs X g ls fe fp w) (hKn : NoKn qs) (k : Nat) (pp cc : Int) (kids nums : List Int) (name : ByteArray) (ka : Option Addr) (kc : Nat) (na : Option Addr) (nc : Nat) (hq : qs[k]? = some ⟨⟨(4 : Int), pp, cc, kids, nums, name⟩, ka, kc, na, nc⟩) (hV : ∀ m, m < k → (∃ q : Nq, qs[m]? = some q ∧ valI q.n.kind = true) → VaC w0 A c qs m) (h0 : 0 < ls.length) (hroom : ls.length + wl qs (k : Int) ≤ 1500) :
    Calls Tryd.prog 20 #[.pointer (some ⟨g, 0, none⟩), .int .i64 (k : Int)] w (RetM X g (.slice A qs.length c) (vaV qs (k : Int) ⟨ls.map Prod.fst, fe, fp⟩) w) := by
  have hlen : kids.length = 3 := h.fl.nk hq
  have hin0 := h.nodes.2 _ (List.mem_of_getElem? hq)
  obtain ⟨bK, oK, eka, hbK, hcK⟩ := hin0.1 (by simp only; omega)
  simp only at eka hcK
  subst eka
  obtain ⟨m0, q0, hx0, hkm0, hmk0, hqm0, hka0, hmay0⟩ := h.fl.kid hq 0 (by show 0 < (partsL 4).length; decide)
  simp only at hx0 hkm0 hmay0
  have hy0 := hcK 0 (by omega)
  rw [show kids.getD 0 0 = (m0 : Int) by rw [List.getD_eq_getElem?_getD, hx0]; rfl] at hy0
  have HY0 := Lib.hid hy0
  obtain ⟨m1, q1, hx1, hkm1, hmk1, hqm1, hka1, hmay1⟩ := h.fl.kid hq 1 (by show 1 < (partsL 4).length; decide)
  simp only at hx1 hkm1 hmay1
  have hy1 := hcK 1 (by omega)
  rw [show kids.getD 1 0 = (m1 : Int) by rw [List.getD_eq_getElem?_getD, hx1]; rfl] at hy1
  have HY1 := Lib.hid hy1
  obtain ⟨m2, q2, hx2, hkm2, hmk2, hqm2, hka2, hmay2⟩ := h.fl.kid hq 2 (by show 2 < (partsL 4).length; decide)
  simp only at hx2 hkm2 hmay2
  have hy2 := hcK 2 (by omega)
  rw [show kids.getD 2 0 = (m2 : Int) by rw [List.getD_eq_getElem?_getD, hx2]; rfl] at hy2
  have HY2 := Lib.hid hy2
  have hw := wl_3 h.fl hq (by show (partsL 4).length = 3; decide)
  rw [hkm0, hkm1, hkm2] at hw
  have HEQ := Lib.hid (vaV_eq h.fl.ahead hq ⟨ls.map Prod.fst, fe, fp⟩)
  obtain ⟨b0, o0, eA, hb0, ⟨c0, c1, c2, c3, c4, c5⟩, hin⟩ := h.nodes.at_ hq
  simp only at c0 c1 c2 c3 c4 c5
  subst eA
  have hkl := (List.getElem?_eq_some_iff.1 hq).1
  have C1 := Lib.hid (h.more (.cells #[.int .i64 (4 : Int), .int .i64 pp, .int .i64 cc, .slice (some ⟨bK, oK, none⟩) kids.length kc, .slice na nums.length nc, .string name] 45))
  have L1 := Lib.hid (below_new w (.cells #[.int .i64 (4 : Int), .int .i64 pp, .int .i64 cc, .slice (some ⟨bK, oK, none⟩) kids.length kc, .slice na nums.length nc, .string name] 45))
  have BN := Lib.hid (show Bk 45 (w.alloc (.cells #[.int .i64 (4 : Int), .int .i64 pp, .int .i64 cc, .slice (some ⟨bK, oK, none⟩) kids.length kc, .slice na nums.length nc, .string name] 45)) w.heap.size [.int .i64 (4 : Int), .int .i64 pp, .int .i64 cc, .slice (some ⟨bK, oK, none⟩) kids.length kc, .slice na nums.length nc, .string name] from Bk.new _ w _)
  have z0 := h.cell0
  have k0 := (h.cx.bel.cell (p := ⟨b0, _, none⟩) hb0).trans c0
  have k1 := (h.cx.bel.cell (p := ⟨b0, _, none⟩) hb0).trans c1
  have k2 := (h.cx.bel.cell (p := ⟨b0, _, none⟩) hb0).trans c2
  have k3 := (h.cx.bel.cell (p := ⟨b0, _, none⟩) hb0).trans c3
  have k4 := (h.cx.bel.cell (p := ⟨b0, _, none⟩) hb0).trans c4
  have k5 := (h.cx.bel.cell (p := ⟨b0, _, none⟩) hb0).trans c5
  have i0 : (0 : Int) ≤ (k : Int) := by omega
  have i1 : (k : Int) < (qs.length : Int) := by omega
  have hv0 : valI q0.n.kind = true := hmay0
  have hf1 : funI q1.n.kind = true := hmay1
  have hv2 : valI q2.n.kind = true := hmay2
  have HV0 := Lib.hid (hV m0 hmk0 ⟨q0, hqm0, hv0⟩)
  have HV2 := Lib.hid (hV m2 hmk2 ⟨q2, hqm2, hv2⟩)
  unfold VaC at HV0 HV2
  have HU1 := Lib.hid (fun (X' : Nat → Prop) (ls' : List Qs) (fe' fp' : Int) (W : World) (hI : Ins w0 (some ⟨b0, o0, none⟩) c qs X' g ls' fe' fp' W) (hl : ls'.length + wl qs (m1 : Int) ≤ 1500) (ta tb : Int) (two : Bool) => show Calls Tryd.prog 30 #[.pointer (some ⟨g, 0, none⟩), .int .i64 (m1 : Int), .agg #[.int .i64 ta, .int .i64 tb, .bool two]] W (RetM X' g (.slice (some ⟨b0, o0, none⟩) qs.length c) (useM qs (m1 : Int) ⟨ta, tb, two⟩ ⟨ls'.map Prod.fst, fe', fp'⟩) W) by
    obtain ⟨⟨kz, pz, cz, kidz, numz, namez⟩, kaz, kcz, naz, ncz⟩ := q1
    exact use_any W hI m1 kz pz cz kidz numz namez kaz kcz naz ncz hqm1 ta tb two hf1 hKn hl)
  have g2 := va_grow h.fl hKn m2 q2 hqm2 hv2 ⟨ls.map Prod.fst, fe, fp⟩ (by rw [List.length_map]; exact h0)
  obtain ⟨r2, hr2⟩ : ∃ r, vaV qs (m2 : Int) ⟨ls.map Prod.fst, fe, fp⟩ = r := ⟨_, rfl⟩
  rw [hr2] at g2
  have l2 := g2.1.len
  simp only [List.length_map] at l2
  have g0 := va_grow h.fl hKn m0 q0 hqm0 hv0 r2.1 (by omega)
  obtain ⟨r0, hr0⟩ : ∃ r, vaV qs (m0 : Int) r2.1 = r := ⟨_, rfl⟩
  rw [hr0] at g0
  have l0 := g0.1.len
  have HV := Lib.hid (show vaV qs (k : Int) ⟨ls.map Prod.fst, fe, fp⟩ = useM qs (m1 : Int) ⟨r0.2, r2.2, true⟩ r0.1 by
    rw [HEQ.out, ← hr0, ← hr2, ← hkm0, ← hkm1, ← hkm2]; rfl)
  have HS := Lib.hid (fun (W : World) (L : Below w0.heap.size w0 W) (B : Bk 45 W w.heap.size [.int .i64 (4 : Int), .int .i64 pp, .int .i64 cc, .slice (some ⟨bK, oK, none⟩) kids.length kc, .slice na nums.length nc, .string name]) => (show W.cell? ⟨w.heap.size, 3, none⟩ = some (.slice (some ⟨bK, oK, none⟩) kids.length kc) ∧ W.cell? ⟨bK, oK, none⟩ = some (.int .i64 (m0 : Int)) ∧ W.cell? ⟨bK, oK + 1, none⟩ = some (.int .i64 (m1 : Int)) ∧ W.cell? ⟨bK, oK + 2, none⟩ = some (.int .i64 (m2 : Int)) from ⟨B.c 3, (L.cell (p := ⟨bK, oK + 0, none⟩) hbK).trans HY0.out, (L.cell (p := ⟨bK, oK + 1, none⟩) hbK).trans HY1.out, (L.cell (p := ⟨bK, oK + 2, none⟩) hbK).trans HY2.out⟩))
  have HR2 := Lib.hid hr2
  have HR0 := Lib.hid hr0
  have R0 := Lib.hid h0
  have R2 := Lib.hid (show ls.length + wl qs (m2 : Int) ≤ 1500 by omega)
  have R3 := Lib.hid (show 0 < r2.1.l.length ∧ r2.1.l.length + wl qs (m0 : Int) ≤ 1500 by omega)
  have R4 := Lib.hid (show r0.1.l.length + wl qs (m1 : Int) ≤ 1500 by omega)
  have i2 : (0 : Int) < (kids.length : Int) := by omega
  have i3 : (1 : Int) < (kids.length : Int) := by omega
  have i4 : (2 : Int) < (kids.length : Int) := by omega
  clear h hq hV hroom hKn HEQ hb0 c0 c1 c2 c3 c4 c5 hin hkl hin0 hcK hy0 hx0 hmk0 hqm0 hka0 hmay0 hkm0 hy1 hx1 hmk1 hqm1 hka1 hmay1 hkm1 hy2 hx2 hmk2 hqm2 hka2 hmay2 hkm2 hw hlen hf1 hv0 hv2 g2 l2 hr2 g0 l0 hr0 h0
  go_enter Tryd.func20, Tryd.ntmps20
  go_upto_region 8 with fail
  clear k0 k1 k2 k3 k4 k5 z0
  generalize (w.alloc (.cells #[.int .i64 (4 : Int), .int .i64 pp, .int .i64 cc, .slice (some ⟨bK, oK, none⟩) kids.length kc, .slice na nums.length nc, .string name] 45)) = w1 at *
  have Kd := Lib.hid (HS.out _ C1.out.cx.bel BN.out)
  obtain ⟨y3, y6, y7, y8⟩ := Kd.out
  go_wp2_with fail
  refine (HV2.out _ _ _ _ _ w1 C1.out R0.out R2.out).mono ?_
  rintro e w2 hr
  rw [HR2.out] at hr
  obtain ⟨ls2, e1, rfl, M2, O2⟩ := hr
  have F2 := Lib.hid (And.intro e1 (And.intro M2 O2))
  have C2 := Lib.hid (C1.out.step M2 O2 (by have := map_len e1; have := R3.out; omega))
  have BN2 := Lib.hid (Bk.out BN.out O2 (.inr rfl))
  clear e1 M2 O2 y3 y6 y7 y8
  have K2 := Lib.hid (HS.out _ C2.out.cx.bel BN2.out)
  obtain ⟨y3, y6, y7, y8⟩ := K2.out
  go_wp2_with fail
  have E2 := F2.out.1
  refine (HV0.out _ _ _ _ _ w2 C2.out (by have := map_len E2; have := R3.out; omega) (by have := map_len E2; have := R3.out; omega)).mono ?_
  rintro e w3 hr
  rw [E2, show (⟨r2.1.l, r2.1.fe, r2.1.fp⟩ : Ms) = r2.1 from rfl, HR0.out] at hr
  obtain ⟨ls3, e1, rfl, M3, O3⟩ := hr
  have F3 := Lib.hid (And.intro e1 (And.intro M3 O3))
  have C3 := Lib.hid (C2.out.step M3 O3 (by have := map_len e1; have := R4.out; omega))
  have BN3 := Lib.hid (Bk.out BN2.out O3 (.inr rfl))
  clear e1 M3 O3 y3 y6 y7 y8
  have K3 := Lib.hid (HS.out _ C3.out.cx.bel BN3.out)
  obtain ⟨y3, y6, y7, y8⟩ := K3.out
  have HE2 := Lib.hid E2
  clear E2
  go_wp2_with fail
  have E3 := F3.out.1
  refine (HU1.out _ _ _ _ w3 C3.out (by have := map_len E3; have := R4.out; omega) _ _ _).mono ?_
  rintro e w4 hr
  rw [E3, show (⟨r0.1.l, r0.1.fe, r0.1.fp⟩ : Ms) = r0.1 from rfl] at hr
  obtain ⟨ls4, e1, rfl, M4, O4⟩ := hr
  have F4 := Lib.hid (And.intro e1 (And.intro M4 O4))
  clear e1 M4 O4 E3
  go_wp2
  go_ret
  rw [HV.out]
  exact RetM.less L1.out ⟨ls4, F4.out.1, rfl, F4.out.2.1, (F2.out.2.2.trans F3.out.2.2).trans F4.out.2.2⟩
theorem va_k {w0 : World} {A : Option Addr} {c : Nat} {qs : List Nq} (hF : Fl qs) (hKn : NoKn qs) : ∀ (k : Nat) (q : Nq), qs[k]? = some q → valI q.n.kind = true → VaC w0 A c qs k := by
  intro k
  induction k using Nat.strongRecOn with
  | ind k ih =>
  intro q hq hval X g ls fe fp w h h0 hroom
  have hV : ∀ m, m < k → (∃ q : Nq, qs[m]? = some q ∧ valI q.n.kind = true) → VaC w0 A c qs m := fun m hm ⟨q', h1, h2⟩ => ih m hm q' h1 h2
  obtain ⟨⟨kk, pp, cc, kids, nums, name⟩, ka, kc, na, nc⟩ := q
  simp only at hval
  unfold valI at hval
  simp only [Bool.and_eq_true, decide_eq_true_eq] at hval
  rcases (show kk = 1 ∨ kk = 2 ∨ kk = 3 ∨ kk = 4 by omega) with rfl | rfl | rfl | rfl
  · exact va_1 w h hKn k pp cc kids nums name ka kc na nc hq hV h0 hroom
  · exact va_2 w h hKn k pp cc kids nums name ka kc na nc hq hV h0 hroom
  · exact va_3 w h hKn k pp cc kids nums name ka kc na nc hq hV h0 hroom
  · exact va_4 w h hKn k pp cc kids nums name ka kc na nc hq hV h0 hroom
end Go.Proofs.YtjmpilmmgfjpmaaDoor.Stp
-- StpOf
set_option maxRecDepth 100000
namespace Go.Proofs.YtjmpilmmgfjpmaaDoor.Stp
open Go.Proofs.YtjmpilmmgfjpmaaDoor.Sh Go.Proofs.YtjmpilmmgfjpmaaDoor.St Go.Proofs.YtjmpilmmgfjpmaaDoor.Tr Go.Proofs.YtjmpilmmgfjpmaaDoor.Big
open Go.RowKit
set_option linter.unusedVariables false
set_option linter.unusedSimpArgs false

theorem root_val {p : Pq} (h : rightT p = true) : ∃ (m : Nat) (q : Nq), p.root = (m : Int) ∧ p.nodes[m]? = some q ∧ valI q.n.kind = true ∧ p.nodes.length ≤ 300 := by
  unfold rightT at h
  simp only [Bool.and_eq_true, decide_eq_true_eq] at h
  obtain ⟨h1, h2, h3, h4, h5⟩ := h
  cases ht : ordTo p.nodes p.nodes.length with
  | none => rw [ht] at h5; cases h5
  | some tops =>
    rw [ht] at h5
    simp only at h5
    unfold meantB at h5
    simp only [Bool.and_eq_true, decide_eq_true_eq] at h5
    obtain ⟨h6, h7, h8, h9⟩ := h5
    have hin := (ordTo_in _ _ ht).1
    have hx : p.root ∈ tops := by
      rw [h7, List.getD_eq_getElem?_getD, List.getElem?_eq_getElem (show tops.length - 1 < tops.length by omega)]
      exact List.getElem_mem _
    have hr := hin _ hx
    unfold Tr.InR at hr
    obtain ⟨m, hm⟩ : ∃ m : Nat, p.root = (m : Int) := ⟨p.root.toNat, by omega⟩
    have hml : m < p.nodes.length := by omega
    refine ⟨m, p.nodes[m], hm, List.getElem?_eq_getElem hml, ?_, h4⟩
    rw [hm] at h8
    unfold kindAt at h8
    rw [Int.toNat_natCast, List.getElem?_eq_getElem hml] at h8
    exact h8
theorem flat_nokn {p : Pq} (h : flatB p = true) : rightT p = true ∧ NoKn p.nodes ∧ p.defs.length = 0 := by
  unfold flatB at h
  simp only [Bool.and_eq_true, decide_eq_true_eq, List.all_eq_true] at h
  refine ⟨h.2.1, fun k q hq h6 => ?_, h.1⟩
  have := h.2.2 q (List.mem_of_getElem? hq)
  unfold nokB at this
  rw [h6] at this
  simp at this
def zeroS : Sx := ⟨0, 0, false, 0, false, 0, 0, 0, [], 0⟩
/-- The steps of a program, or what is wrong. -/
def ofM (p : Pq) : List Sx × Int × Int := if flatB p = true then (if (vaV p.nodes p.root ⟨[zeroS], 0, 0⟩).1.fe = 0 then ((vaV p.nodes p.root ⟨[zeroS], 0, 0⟩).1.l, 0, 0) else ([], (vaV p.nodes p.root ⟨[zeroS], 0, 0⟩).1.fe, (vaV p.nodes p.root ⟨[zeroS], 0, 0⟩).1.fp)) else ([], 1, 0)
/-- What Of answers. -/
def RetOf (p : Pq) (w : World) (e : Ending) (w' : World) : Prop := ∃ (A : Option Addr) (c : Nat) (ls : List Qs) (fe fp : Int), ofM p = (ls.map Prod.fst, fe, fp) ∧ e = .returned (.tuple #[.slice A ls.length c, .agg #[.int .i64 fe, .int .i64 fp]]) ∧ Seq (fun b => w.heap.size ≤ b) w' A (flat10 ls) ∧ (∀ q ∈ ls, Ints w' q.2.1 q.1.nums) ∧ ls.length ≤ 1500 ∧ Below w.heap.size w w'
theorem res_of {fn : Func} {W : World} {g : Nat} {v0 v1 : Value} (h : fn.results = #[.tmp 2, .cell 3 32]) (tmps : Array Value) (h0 : tmps.getD 3 undef = .pointer (some ⟨g, 0, none⟩))
    (b : Bk 32 W g [v0, v1]) : (results fn tmps).run Tryd.prog W = .ok (.tuple #[tmps.getD 2 undef, .agg #[v0, v1]]) W := by
  have a0 : W.cell? ⟨g, 0, none⟩ = some v0 := b.c 0
  have a1 : W.cell? ⟨g, 1, none⟩ = some v1 := b.c 1
  rw [Array.getD_eq_getD_getElem?] at h0
  simp [results, h, h0, go_sem, a0, a1]
theorem own_new10 (w : World) : (w.alloc (.cells #[.int .i64 0, .int .i64 0, .bool false, .int .i64 0, .bool false, .int .i64 0, .int .i64 0, .int .i64 0, .slice none 0 0, .int .i64 0] 49)).ownsRow 0 49 10 (.slice (some ⟨w.heap.size, 0, none⟩) 1 1) 1 (flat10 [(zeroS, (none, 0))]) :=
  ⟨rfl, .inr ⟨w.heap.size, 1, #[.int .i64 0, .int .i64 0, .bool false, .int .i64 0, .bool false, .int .i64 0, .int .i64 0, .int .i64 0, .slice none 0 0, .int .i64 0], rfl, Nat.zero_le _, heap_alloc_new w _, Nat.le_refl _, by unfold maxLen; omega, rfl, rfl⟩⟩
theorem seq_far {S : Nat → Prop} {w : World} {A : Option Addr} {xs : List Value} (h : Seq S w A xs) {g i : Nat} (hg : ∀ b, S b → b ≠ g) (u : Value) : Seq S (w.setCell ⟨g, i, none⟩ u) A xs := fun hp => by
  obtain ⟨b, o, h1, h2, h3, h4⟩ := h hp
  exact ⟨b, o, h1, h2, by simpa [World.setCell] using h3, fun j x hx => (far_cell (hg b h2)).trans (h4 j x hx)⟩
theorem own_some {w : World} {base : Nat} {e : TypeId} {size n m c : Nat} {A : Option Addr} {xs : List Value} {b o : Nat} (h : w.ownsRow base e size (.slice A m c) n xs) (ha : A = some ⟨b, o, none⟩) (hn : 0 < n) : (Value.slice A m c).ownBlock = some b := by
  rcases h.2 with ⟨h1, h2⟩ | ⟨g, cap, cur, e1, -⟩
  · omega
  · rw [e1]
    injection e1 with e2
    rw [ha] at e2
    injection e2 with e3
    injection e3 with e4
    subst e4
    rfl
theorem walk_nonneg {qs : List Nq} (hA : Ahead qs) : ∀ (k : Nat) (x : Int), x ∈ walkL qs (k : Int) → 0 ≤ x := by
  intro k
  induction k using Nat.strongRecOn with
  | ind k ih =>
  intro x hx
  cases hq : qs[k]? with
  | none =>
    unfold walkL walkF at hx
    rw [Int.toNat_natCast, hq] at hx
    simp at hx
  | some q =>
    rw [walkL_eq hA hq] at hx
    rcases List.mem_cons.1 hx with rfl | hx
    · omega
    · obtain ⟨y, hy, hxy⟩ := List.mem_flatMap.1 hx
      have := hA k q hq y hy
      obtain ⟨n, rfl⟩ : ∃ n : Nat, y = (n : Int) := ⟨y.toNat, by omega⟩
      exact ih n (by omega) x hxy
set_option maxHeartbeats 8000000 in
theorem of_any (p : Pq) (w : World) (hp : ProgIn w p) (hf : FitP p) (hT : Sc.Tab w) : Calls Tryd.prog 9 #[progV p] w (RetOf p w) := by
  have L1 := Lib.hid (nest3 w (.cells #[.string p.name, .slice p.da p.dims.length p.dc, .slice p.na p.nodes.length p.nc, .slice p.fa p.defs.length p.fc, .int .i64 p.root] 26) (.cells #[.int .i64 0, .int .i64 0] 32))
  have e1 : (w.alloc (.cells #[.string p.name, .slice p.da p.dims.length p.dc, .slice p.na p.nodes.length p.nc, .slice p.fa p.defs.length p.fc, .int .i64 p.root] 26)).heap.size = w.heap.size + 1 := by simp
  have BP := Lib.hid (show Bk 26 ((w.alloc (.cells #[.string p.name, .slice p.da p.dims.length p.dc, .slice p.na p.nodes.length p.nc, .slice p.fa p.defs.length p.fc, .int .i64 p.root] 26)).alloc (.cells #[.int .i64 0, .int .i64 0] 32)) w.heap.size [.string p.name, .slice p.da p.dims.length p.dc, .slice p.na p.nodes.length p.nc, .slice p.fa p.defs.length p.fc, .int .i64 p.root] from (Bk.new _ w _).alloc _)
  have BF := Lib.hid (show Bk 32 ((w.alloc (.cells #[.string p.name, .slice p.da p.dims.length p.dc, .slice p.na p.nodes.length p.nc, .slice p.fa p.defs.length p.fc, .int .i64 p.root] 26)).alloc (.cells #[.int .i64 0, .int .i64 0] 32)) (w.heap.size + 1) [.int .i64 0, .int .i64 0] from new_at _ _ e1)
  obtain ⟨b, hb⟩ : ∃ b, flatB p = b := ⟨_, rfl⟩
  have HFL := Lib.hid (flat_b p b _ (hp.next L1.out) hf hb)
  have HPI := Lib.hid hp
  have HT := Lib.hid hT
  unfold progV at HFL ⊢
  cases b with
  | false =>
    have HV := Lib.hid (show ofM p = ([], 1, 0) by unfold ofM; rw [hb]; rfl)
    clear hp hf hT e1 hb
    go_enter Tryd.func9, Tryd.ntmps9
    go_wp2_with fail
    refine (HFL.out).mono ?_
    generalize ((w.alloc (.cells #[.string p.name, .slice p.da p.dims.length p.dc, .slice p.na p.nodes.length p.nc, .slice p.fa p.defs.length p.fc, .int .i64 p.root] 26)).alloc (.cells #[.int .i64 0, .int .i64 0] 32)) = w1 at *
    rintro e w2 ⟨rfl, hb2⟩
    have L2 := Lib.hid (Gl.below_next L1.out hb2)
    have BF2 := Lib.hid (BF.out.next hb2)
    have z0 := BF2.out.c 0
    have z1 := BF2.out.c 1
    have f0 := BF2.out.f 0
    have f1 := BF2.out.f 1
    simp only [List.getElem?_cons_zero, List.getElem?_cons_succ] at z0 z1
    clear hb2
    go_wp2
    refine bodyPost_ret (res_of Tryd.results9 _ rfl ((BF2.out.set_ 0 _).set_ 1 _)) rfl ?_
    refine ⟨none, 0, [], 1, 0, by rw [HV.out]; rfl, rfl, fun hp => absurd hp (by show ¬ 0 < 0; omega), fun q hq => by simp at hq, by show (0 : Nat) ≤ 1500; omega, (L2.out.setCell (p := ⟨w.heap.size + 1, 0, none⟩) (Nat.le_succ _) _).setCell (p := ⟨w.heap.size + 1, 1, none⟩) (Nat.le_succ _) _⟩
  | true =>
    obtain ⟨hr, hK, hd⟩ := flat_nokn hb
    have hF := fl_right hr
    obtain ⟨m, q, hm, hq, hv, h300⟩ := root_val hr
    obtain ⟨a, ha, hsp⟩ := walk_span hr m (List.getElem?_eq_some_iff.1 hq).1
    have hwl : wl p.nodes (m : Int) ≤ 301 := by
      have h1 := hsp.len
      have h2 := hsp.mem (a + 1)
      have h3 : a + 1 ≤ (m : Int) := by omega
      have h4 := h2.2 ⟨by omega, h3⟩
      have hm' : m < 300 := by have := (List.getElem?_eq_some_iff.1 hq).1; omega
      unfold wl
      have hpos : -1 ≤ a := by
        rcases Int.lt_or_le a (-1) with hl | hl
        · exfalso
          have h5 := (hsp.mem (a + 1)).2 ⟨by omega, h3⟩
          have h6 := walk_nonneg hF.ahead m (a + 1) h5
          omega
        · exact hl
      omega
    have g := va_grow hF hK m q hq hv ⟨[zeroS], 0, 0⟩ (by simp)
    obtain ⟨r, hrr⟩ : ∃ r, vaV p.nodes (m : Int) ⟨[zeroS], 0, 0⟩ = r := ⟨_, rfl⟩
    rw [hrr] at g
    have gl := g.1.len
    have HLEN := Lib.hid (show r.1.l.length ≤ 1500 by have : ([zeroS] : List Sx).length = 1 := rfl; simp only at gl; omega)
    have HVA := Lib.hid (fun (w0 : World) (hq0 : True) => va_k (w0 := w0) (A := p.na) (c := p.nc) hF hK m q hq hv)
    unfold VaC at HVA
    have HV := Lib.hid (show ofM p = if r.1.fe = 0 then (r.1.l, 0, 0) else ([], r.1.fe, r.1.fp) by unfold ofM; rw [if_pos hb, hm, hrr])
    have HRR := Lib.hid hrr
    have HM := Lib.hid hm
    have HFF := Lib.hid hF
    have HWL := Lib.hid hwl
    clear hp hf hT e1 hb hr hK hd hm hq hv h300 ha hsp hwl g gl hrr hF
    go_enter Tryd.func9, Tryd.ntmps9
    go_wp2_with fail
    refine (HFL.out).mono ?_
    generalize ((w.alloc (.cells #[.string p.name, .slice p.da p.dims.length p.dc, .slice p.na p.nodes.length p.nc, .slice p.fa p.defs.length p.fc, .int .i64 p.root] 26)).alloc (.cells #[.int .i64 0, .int .i64 0] 32)) = w1 at *
    rintro e w3 ⟨rfl, hb2⟩
    have L3 := Lib.hid (Gl.below_next L1.out hb2)
    have BF3 := Lib.hid (BF.out.next hb2)
    have BP3 := Lib.hid (BP.out.next hb2)
    clear hb2
    have y2 := BP3.out.c 2
    have y4 := BP3.out.c 4
    simp only [List.getElem?_cons_zero, List.getElem?_cons_succ] at y2 y4
    rw [HM.out] at y4
    have e3 : (w3.alloc (.cells #[.int .i64 0, .int .i64 0, .bool false, .int .i64 0, .bool false, .int .i64 0, .int .i64 0, .int .i64 0, .slice none 0 0, .int .i64 0] 49)).heap.size = w3.heap.size + 1 := by simp
    have L4 := Lib.hid (nest3 w3 (.cells #[.int .i64 0, .int .i64 0, .bool false, .int .i64 0, .bool false, .int .i64 0, .int .i64 0, .int .i64 0, .slice none 0 0, .int .i64 0] 49) (.cells #[.slice p.na p.nodes.length p.nc, .slice (some ⟨w3.heap.size, 0, none⟩) 1 1, .int .i64 0, .int .i64 0] 54))
    have BP4 := Lib.hid ((BP3.out.alloc (.cells #[.int .i64 0, .int .i64 0, .bool false, .int .i64 0, .bool false, .int .i64 0, .int .i64 0, .int .i64 0, .slice none 0 0, .int .i64 0] 49)).alloc (.cells #[.slice p.na p.nodes.length p.nc, .slice (some ⟨w3.heap.size, 0, none⟩) 1 1, .int .i64 0, .int .i64 0] 54))
    have x4 := BP4.out.c 4
    simp only [List.getElem?_cons_zero, List.getElem?_cons_succ] at x4
    rw [HM.out] at x4
    have I4 := Lib.hid (show Ins w3 p.na p.nc p.nodes (fun b => b < w3.heap.size) (w3.heap.size + 1) [(zeroS, (none, 0))] 0 0 ((w3.alloc (.cells #[.int .i64 0, .int .i64 0, .bool false, .int .i64 0, .bool false, .int .i64 0, .int .i64 0, .int .i64 0, .slice none 0 0, .int .i64 0] 49)).alloc (.cells #[.slice p.na p.nodes.length p.nc, .slice (some ⟨w3.heap.size, 0, none⟩) 1 1, .int .i64 0, .int .i64 0] 54)) from
      ⟨HFF.out, HT.out.below L3.out, HPI.out.2.1.next L3.out, ⟨L4.out, fun b hb => hb, fun b hb => Nat.lt_of_lt_of_le hb L4.out.size⟩,
        ⟨_, new_at _ _ e3, own_below (own_new10 w3) (below_new _ _), fun q hq => by
          simp at hq
          subst hq
          exact none_row _ _ _ _, by show ¬ w3.heap.size + 1 < w3.heap.size; omega, fun b hb => by
          simp [Value.ownBlock] at hb
          omega⟩, by show 1 ≤ 1500; omega, Nat.le_succ _⟩)
    clear e3
    go_wp2_with fail
    generalize ((w3.alloc (.cells #[.int .i64 0, .int .i64 0, .bool false, .int .i64 0, .bool false, .int .i64 0, .int .i64 0, .int .i64 0, .slice none 0 0, .int .i64 0] 49)).alloc (.cells #[.slice p.na p.nodes.length p.nc, .slice (some ⟨w3.heap.size, 0, none⟩) 1 1, .int .i64 0, .int .i64 0] 54)) = w4 at *
    refine (HVA.out w3 trivial _ _ _ _ _ w4 I4.out (by simp) (by show 1 + wl p.nodes (m : Int) ≤ 1500; have := HWL.out; omega)).mono ?_
    rintro e w5 hr
    rw [show ([((zeroS, (none, 0)) : Qs)].map Prod.fst) = [zeroS] from rfl, HRR.out] at hr
    obtain ⟨ls, e1, rfl, M5, O5⟩ := hr
    have F5 := Lib.hid (And.intro e1 (And.intro M5 O5))
    have L5 := Lib.hid (show Below w3.heap.size w3 w5 from (I4.out.cx.next O5).bel)
    have LW := Lib.hid (Gl.below_next L3.out L5.out)
    have BF5 := Lib.hid (BF3.out.next L5.out)
    obtain ⟨A5, c5, B5, W5, S5⟩ := M5.view
    have HB5 := Lib.hid B5
    have HW5 := Lib.hid W5
    have HS5 := Lib.hid S5
    clear e1 M5 O5 W5 S5 y2 y4 x4
    have m1 := B5.c 1
    have m2 := B5.c 2
    have m3 := B5.c 3
    have z0 := BF5.out.c 0
    have z1 := BF5.out.c 1
    have f0 := BF5.out.f 0
    have f1 := BF5.out.f 1
    simp only [List.getElem?_cons_zero, List.getElem?_cons_succ] at m1 m2 m3 z0 z1
    clear B5
    by_cases h0 : r.1.fe = 0
    · have HV0 := Lib.hid (show ofM p = (r.1.l, 0, 0) by rw [HV.out, if_pos h0])
      rw [h0] at m2
      clear h0 HV
      go_wp2
      refine bodyPost_ret (res_of Tryd.results9 _ rfl ((BF5.out.set_ 0 _).set_ 1 _)) rfl ?_
      obtain ⟨V5, MB, MR, MN, MX, MO⟩ := F5.out.2.1
      have eV : V5 = .slice A5 ls.length c5 := by
        have e1 := MB.c 1
        have e2 := HB5.out.c 1
        rw [e1] at e2
        simpa using e2
      subst eV
      have hlt : w.heap.size + 1 < w3.heap.size := BF3.out.lt
      have hsq : Seq (fun b => w3.heap.size ≤ b) w5 A5 (flat10 ls) := fun hp => by
        obtain ⟨b, o, ea, -, h2, h3⟩ := HS5.out hp
        have hnb : ¬ b < w3.heap.size := MO b (own_some MR ea (by rw [flat10_len] at hp; omega))
        exact ⟨b, o, ea, Nat.le_of_not_lt hnb, h2, h3⟩
      have hsq2 := seq_far (i := 1) (seq_far (i := 0) hsq (g := w.heap.size + 1) (fun b hb => by omega) (.int .i64 0)) (g := w.heap.size + 1) (fun b hb => by omega) (.int .i64 0)
      refine ⟨A5, c5, ls, 0, 0, by rw [HV0.out, F5.out.1], rfl, fun hp => ?_, fun q hq => ?_, by have := map_len F5.out.1; have := HLEN.out; omega, (LW.out.setCell (p := ⟨w.heap.size + 1, 0, none⟩) (Nat.le_succ _) _).setCell (p := ⟨w.heap.size + 1, 1, none⟩) (Nat.le_succ _) _⟩
      · obtain ⟨b, o, ea, hb, h2, h3⟩ := hsq2 hp
        exact ⟨b, o, ea, by omega, h2, h3⟩
      · have hne : (vq q).ownBlock ≠ some (w.heap.size + 1) := fun e => own_bk_ne (MN q hq).1 BF5.out (by decide) e.symm
        exact mine_int (Go.ownsRow_setCell_other (Go.ownsRow_setCell_other (MN q hq).1 (a := ⟨w.heap.size + 1, 0, none⟩) hne _) (a := ⟨w.heap.size + 1, 1, none⟩) hne _)
    · have HV0 := Lib.hid (show ofM p = ([], r.1.fe, r.1.fp) by rw [HV.out, if_neg h0])
      have u0 : (r.1.fe != 0) = true := by simp [h0]
      have u0' : decide (r.1.fe = 0) = false := by simp [h0]
      clear h0 HV
      go_upto_region 6 with fail
      have BF6 := Lib.hid BF5.out.drew
      have B6 := Lib.hid HB5.out.drew
      have n2 := B6.out.c 2
      have n3 := B6.out.c 3
      have w0' := BF6.out.c 0
      have w1' := BF6.out.c 1
      have h0' := BF6.out.f 0
      have h1' := BF6.out.f 1
      simp only [List.getElem?_cons_zero, List.getElem?_cons_succ] at n2 n3 w0' w1'
      go_region
      go_wp2
      refine bodyPost_ret (res_of Tryd.results9 _ rfl ((BF6.out.set_ 0 _).set_ 1 _)) rfl ?_
      exact ⟨none, 0, [], r.1.fe, r.1.fp, by rw [HV0.out]; rfl, rfl, fun hp => absurd hp (by show ¬ 0 < 0; omega), fun q hq => by simp at hq, by show (0 : Nat) ≤ 1500; omega, ((LW.out.setCell (p := ⟨w.heap.size + 1, 0, none⟩) (Nat.le_succ _) _).setCell (p := ⟨w.heap.size + 1, 1, none⟩) (Nat.le_succ _) _).drew⟩
end Go.Proofs.YtjmpilmmgfjpmaaDoor.Stp
-- StpLives
set_option maxRecDepth 100000
namespace Go.Proofs.YtjmpilmmgfjpmaaDoor.Stp
open Go.Proofs.YtjmpilmmgfjpmaaDoor.Sh Go.Proofs.YtjmpilmmgfjpmaaDoor.St Go.Proofs.YtjmpilmmgfjpmaaDoor.Tr Go.Proofs.YtjmpilmmgfjpmaaDoor.Big
open Go.RowKit
set_option linter.unusedVariables false
set_option linter.unusedSimpArgs false

def exQ (g : Nat) : List Nq := [⟨⟨1, 0, 0, [], [2], ⟨#[]⟩⟩, none, 0, some ⟨g, 0, none⟩, 1⟩, ⟨⟨5, 0, 3, [], [], ⟨#[]⟩⟩, none, 0, none, 0⟩, ⟨⟨5, 0, 18, [], [], ⟨#[]⟩⟩, none, 0, none, 0⟩, ⟨⟨11, 0, 0, [0, 1, 2], [], ⟨#[]⟩⟩, some ⟨g + 1, 0, none⟩, 3, none, 0⟩, ⟨⟨2, 0, 0, [], [], ⟨#[120]⟩⟩, none, 0, none, 0⟩, ⟨⟨3, 0, 0, [3, 4], [], ⟨#[]⟩⟩, some ⟨g + 1 + 1, 0, none⟩, 2, none, 0⟩]
def exP (g : Nat) : Pq := ⟨⟨#[120]⟩, none, 0, [], some ⟨g + 1 + 1 + 1, 0, none⟩, 6, exQ g, none, 0, [], 5⟩
theorem ex_fit (g : Nat) : FitP (exP g) := ⟨by show (6 : Nat) ≤ 320; omega, by show (0 : Nat) ≤ 320; omega, by show (0 : Nat) ≤ 20; omega, fun q hq => by
  simp [exP, exQ] at hq
  rcases hq with rfl | rfl | rfl | rfl | rfl | rfl <;> simp, fun q hq => by
  simp [exP, exQ] at hq
  rcases hq with rfl | rfl | rfl | rfl | rfl | rfl <;> simp⟩
theorem ex_in (W : World) (g : Nat) (h0 : Bk 2 W (g) [.int .i64 2]) (h1 : Bk 3 W (g + 1) [.int .i64 0, .int .i64 1, .int .i64 2]) (h2 : Bk 3 W (g + 1 + 1) [.int .i64 3, .int .i64 4]) (hN : Bk 45 W (g + 1 + 1 + 1) [.int .i64 1, .int .i64 0, .int .i64 0, .slice none 0 0, .slice (some ⟨g, 0, none⟩) 1 1, .string ⟨#[]⟩, .int .i64 5, .int .i64 0, .int .i64 3, .slice none 0 0, .slice none 0 0, .string ⟨#[]⟩, .int .i64 5, .int .i64 0, .int .i64 18, .slice none 0 0, .slice none 0 0, .string ⟨#[]⟩, .int .i64 11, .int .i64 0, .int .i64 0, .slice (some ⟨g + 1, 0, none⟩) 3 3, .slice none 0 0, .string ⟨#[]⟩, .int .i64 2, .int .i64 0, .int .i64 0, .slice none 0 0, .slice none 0 0, .string ⟨#[120]⟩, .int .i64 3, .int .i64 0, .int .i64 0, .slice (some ⟨g + 1 + 1, 0, none⟩) 2 2, .slice none 0 0, .string ⟨#[]⟩]) : ProgIn W (exP g) := by
  have nil : Ints W none [] := fun hp => absurd hp (by simp)
  have r0 : Ints W (some ⟨g, 0, none⟩) [2] := fun _ => ⟨g, 0, rfl, h0.lt, fun i hi => by
    rw [Nat.zero_add, h0.c]
    rcases (show i = 0 by simp at hi; omega) with rfl <;> rfl⟩
  have r1 : Ints W (some ⟨g + 1, 0, none⟩) [0, 1, 2] := fun _ => ⟨g + 1, 0, rfl, h1.lt, fun i hi => by
    rw [Nat.zero_add, h1.c]
    rcases (show i = 0 ∨ i = 1 ∨ i = 2 by simp at hi; omega) with rfl | rfl | rfl <;> rfl⟩
  have r2 : Ints W (some ⟨g + 1 + 1, 0, none⟩) [3, 4] := fun _ => ⟨g + 1 + 1, 0, rfl, h2.lt, fun i hi => by
    rw [Nat.zero_add, h2.c]
    rcases (show i = 0 ∨ i = 1 by simp at hi; omega) with rfl | rfl <;> rfl⟩
  refine ⟨nil, ⟨fun _ => ⟨g + 1 + 1 + 1, 0, rfl, hN.lt, fun k q hq => ?_⟩, fun q hq => ?_⟩, ⟨fun hp => absurd hp (by show ¬ 0 < 0; omega), fun d hd => by cases hd⟩, by show (1 : Nat) ≤ maxLen; unfold maxLen; omega, by show (0 : Nat) ≤ maxLen; omega, by show (6 : Nat) ≤ maxLen; unfold maxLen; omega, by show (0 : Nat) ≤ maxLen; omega⟩
  · rcases k with _ | _ | _ | _ | _ | _ | k
    · injection hq with hq
      subst hq
      exact ⟨hN.c 0, hN.c 1, hN.c 2, hN.c 3, hN.c 4, hN.c 5⟩
    · injection hq with hq
      subst hq
      exact ⟨hN.c 6, hN.c 7, hN.c 8, hN.c 9, hN.c 10, hN.c 11⟩
    · injection hq with hq
      subst hq
      exact ⟨hN.c 12, hN.c 13, hN.c 14, hN.c 15, hN.c 16, hN.c 17⟩
    · injection hq with hq
      subst hq
      exact ⟨hN.c 18, hN.c 19, hN.c 20, hN.c 21, hN.c 22, hN.c 23⟩
    · injection hq with hq
      subst hq
      exact ⟨hN.c 24, hN.c 25, hN.c 26, hN.c 27, hN.c 28, hN.c 29⟩
    · injection hq with hq
      subst hq
      exact ⟨hN.c 30, hN.c 31, hN.c 32, hN.c 33, hN.c 34, hN.c 35⟩
    · cases hq
  · simp [exP, exQ] at hq
    rcases hq with rfl | rfl | rfl | rfl | rfl | rfl
    · exact ⟨nil, r0, by show (0 : Nat) ≤ maxLen; unfold maxLen; omega, by show (1 : Nat) ≤ maxLen; unfold maxLen; omega, by show (0 : Nat) ≤ maxLen; unfold maxLen; omega⟩
    · exact ⟨nil, nil, by show (0 : Nat) ≤ maxLen; unfold maxLen; omega, by show (0 : Nat) ≤ maxLen; unfold maxLen; omega, by show (0 : Nat) ≤ maxLen; unfold maxLen; omega⟩
    · exact ⟨nil, nil, by show (0 : Nat) ≤ maxLen; unfold maxLen; omega, by show (0 : Nat) ≤ maxLen; unfold maxLen; omega, by show (0 : Nat) ≤ maxLen; unfold maxLen; omega⟩
    · exact ⟨r1, nil, by show (3 : Nat) ≤ maxLen; unfold maxLen; omega, by show (0 : Nat) ≤ maxLen; unfold maxLen; omega, by show (0 : Nat) ≤ maxLen; unfold maxLen; omega⟩
    · exact ⟨nil, nil, by show (0 : Nat) ≤ maxLen; unfold maxLen; omega, by show (0 : Nat) ≤ maxLen; unfold maxLen; omega, by show (1 : Nat) ≤ maxLen; unfold maxLen; omega⟩
    · exact ⟨r2, nil, by show (2 : Nat) ≤ maxLen; unfold maxLen; omega, by show (0 : Nat) ≤ maxLen; unfold maxLen; omega, by show (0 : Nat) ≤ maxLen; unfold maxLen; omega⟩
theorem ex_of (g : Nat) : ofM (exP g) = ([zeroS, ⟨2, 18, false, 0, false, 0, 0, 0, [], 0⟩, ⟨1, 0, false, 0, false, 0, 0, 0, [2], 0⟩, ⟨3, 3, false, 0, false, 0, 2, 1, [], 0⟩], 0, 0) := by kernel_rfl
theorem seq_at {S : Nat → Prop} {w : World} {A : Option Addr} {xs : List Value} (h : Seq S w A xs) (hp : 0 < xs.length) : ∃ b o, A = some ⟨b, o, none⟩ ∧ b < w.heap.size ∧ ∀ j x, xs[j]? = some x → w.cell? ⟨b, o + j, none⟩ = some x := by
  obtain ⟨b, o, e, -, h2, h3⟩ := h hp
  exact ⟨b, o, e, h2, h3⟩
set_option maxHeartbeats 16000000 in
theorem lives_any (w : World) (hT : Sc.Tab w) : Calls Tryd.prog 8 #[] w (RetBl true w) := by
  have hin : ProgIn ((((w.alloc (.cells #[.int .i64 2] 2)).alloc (.cells #[.int .i64 0, .int .i64 1, .int .i64 2] 3)).alloc (.cells #[.int .i64 3, .int .i64 4] 3)).alloc (.cells #[.int .i64 1, .int .i64 0, .int .i64 0, .slice none 0 0, .slice (some ⟨w.heap.size, 0, none⟩) 1 1, .string ⟨#[]⟩, .int .i64 5, .int .i64 0, .int .i64 3, .slice none 0 0, .slice none 0 0, .string ⟨#[]⟩, .int .i64 5, .int .i64 0, .int .i64 18, .slice none 0 0, .slice none 0 0, .string ⟨#[]⟩, .int .i64 11, .int .i64 0, .int .i64 0, .slice (some ⟨w.heap.size + 1, 0, none⟩) 3 3, .slice none 0 0, .string ⟨#[]⟩, .int .i64 2, .int .i64 0, .int .i64 0, .slice none 0 0, .slice none 0 0, .string ⟨#[120]⟩, .int .i64 3, .int .i64 0, .int .i64 0, .slice (some ⟨w.heap.size + 1 + 1, 0, none⟩) 2 2, .slice none 0 0, .string ⟨#[]⟩] 45)) (exP w.heap.size) := by
    have e1 : ((w.alloc (.cells #[.int .i64 2] 2))).heap.size = w.heap.size + 1 := by simp
    have e2 : (((w.alloc (.cells #[.int .i64 2] 2)).alloc (.cells #[.int .i64 0, .int .i64 1, .int .i64 2] 3))).heap.size = w.heap.size + 1 + 1 := by simp
    have e3 : ((((w.alloc (.cells #[.int .i64 2] 2)).alloc (.cells #[.int .i64 0, .int .i64 1, .int .i64 2] 3)).alloc (.cells #[.int .i64 3, .int .i64 4] 3))).heap.size = w.heap.size + 1 + 1 + 1 := by simp
    exact ex_in _ _ (((Bk.new _ w _).alloc _).alloc _ |>.alloc _) (((new_at _ _ e1).alloc _).alloc _) ((new_at _ _ e2).alloc _) (new_at _ _ e3)
  have L4 := Lib.hid (show Below w.heap.size w ((((w.alloc (.cells #[.int .i64 2] 2)).alloc (.cells #[.int .i64 0, .int .i64 1, .int .i64 2] 3)).alloc (.cells #[.int .i64 3, .int .i64 4] 3)).alloc (.cells #[.int .i64 1, .int .i64 0, .int .i64 0, .slice none 0 0, .slice (some ⟨w.heap.size, 0, none⟩) 1 1, .string ⟨#[]⟩, .int .i64 5, .int .i64 0, .int .i64 3, .slice none 0 0, .slice none 0 0, .string ⟨#[]⟩, .int .i64 5, .int .i64 0, .int .i64 18, .slice none 0 0, .slice none 0 0, .string ⟨#[]⟩, .int .i64 11, .int .i64 0, .int .i64 0, .slice (some ⟨w.heap.size + 1, 0, none⟩) 3 3, .slice none 0 0, .string ⟨#[]⟩, .int .i64 2, .int .i64 0, .int .i64 0, .slice none 0 0, .slice none 0 0, .string ⟨#[120]⟩, .int .i64 3, .int .i64 0, .int .i64 0, .slice (some ⟨w.heap.size + 1 + 1, 0, none⟩) 2 2, .slice none 0 0, .string ⟨#[]⟩] 45)) from (((below_new w _).alloc (by simp) _).alloc (by simp; omega) _).alloc (by simp; omega) _)
  have HOF := Lib.hid (of_any (exP w.heap.size) _ hin (ex_fit _) (hT.below L4.out))
  unfold progV at HOF
  clear hin hT
  go_enter Tryd.func8, Tryd.ntmps8
  go_wp2_with fail
  refine (HOF.out).mono ?_
  generalize ((((w.alloc (.cells #[.int .i64 2] 2)).alloc (.cells #[.int .i64 0, .int .i64 1, .int .i64 2] 3)).alloc (.cells #[.int .i64 3, .int .i64 4] 3)).alloc (.cells #[.int .i64 1, .int .i64 0, .int .i64 0, .slice none 0 0, .slice (some ⟨w.heap.size, 0, none⟩) 1 1, .string ⟨#[]⟩, .int .i64 5, .int .i64 0, .int .i64 3, .slice none 0 0, .slice none 0 0, .string ⟨#[]⟩, .int .i64 5, .int .i64 0, .int .i64 18, .slice none 0 0, .slice none 0 0, .string ⟨#[]⟩, .int .i64 11, .int .i64 0, .int .i64 0, .slice (some ⟨w.heap.size + 1, 0, none⟩) 3 3, .slice none 0 0, .string ⟨#[]⟩, .int .i64 2, .int .i64 0, .int .i64 0, .slice none 0 0, .slice none 0 0, .string ⟨#[120]⟩, .int .i64 3, .int .i64 0, .int .i64 0, .slice (some ⟨w.heap.size + 1 + 1, 0, none⟩) 2 2, .slice none 0 0, .string ⟨#[]⟩] 45)) = w4 at *
  rintro e w5 ⟨A, c, ls, fe, fp, hof, rfl, hs, hn, hl, hb5⟩
  rw [ex_of] at hof
  injection hof with h1 h2
  injection h2 with h2 h3
  subst h2
  subst h3
  have L5 := Lib.hid (Gl.below_next L4.out hb5)
  have L6 := Lib.hid (L5.out.trans ((below_new w5 (.cells #[.int .i64 0, .int .i64 0] 32)).mono L5.out.size))
  obtain ⟨q0, q1, q2, q3, rfl⟩ : ∃ q0 q1 q2 q3, ls = [q0, q1, q2, q3] := by
    have h4 : ls.length = 4 := by have := congrArg List.length h1; simpa using this.symm
    rcases ls with _ | ⟨q0, _ | ⟨q1, _ | ⟨q2, _ | ⟨q3, _ | ⟨q4, r⟩⟩⟩⟩⟩
    all_goals first
      | (simp at h4; done)
      | exact ⟨_, _, _, _, rfl⟩
  simp only [List.map_cons, List.map_nil, List.cons.injEq, and_true] at h1
  obtain ⟨x0, x1, x2, x3⟩ := h1
  obtain ⟨b, o, rfl, hb, hc⟩ := seq_at hs (by rw [flat10_len]; show 0 < 40; omega)
  have k1 := (below_new w5 (.cells #[.int .i64 0, .int .i64 0] 32)).cell (p := ⟨b, o + 10, none⟩) hb |>.trans (hc 10 _ ((flat10_at _ 1 q1 rfl 0 (by omega)).trans rfl))
  have k2 := (below_new w5 (.cells #[.int .i64 0, .int .i64 0] 32)).cell (p := ⟨b, o + 20, none⟩) hb |>.trans (hc 20 _ ((flat10_at _ 2 q2 rfl 0 (by omega)).trans rfl))
  have k3 := (below_new w5 (.cells #[.int .i64 0, .int .i64 0] 32)).cell (p := ⟨b, o + 30, none⟩) hb |>.trans (hc 30 _ ((flat10_at _ 3 q3 rfl 0 (by omega)).trans rfl))
  have k4 := (below_new w5 (.cells #[.int .i64 0, .int .i64 0] 32)).cell (p := ⟨b, o + 36, none⟩) hb |>.trans (hc 36 _ ((flat10_at _ 3 q3 rfl 6 (by omega)).trans rfl))
  have k5 := (below_new w5 (.cells #[.int .i64 0, .int .i64 0] 32)).cell (p := ⟨b, o + 37, none⟩) hb |>.trans (hc 37 _ ((flat10_at _ 3 q3 rfl 7 (by omega)).trans rfl))
  rw [← x1] at k1
  rw [← x2] at k2
  rw [← x3] at k3 k4 k5
  simp only at k1 k2 k3 k4 k5
  clear hs hn hl hb5 x0 x1 x2 x3 hc hb
  simp only [List.length_cons, List.length_nil, Nat.zero_add, Nat.reduceAdd]
  go_wp2
  go_ret
  exact ⟨rfl, L6.out⟩
end Go.Proofs.YtjmpilmmgfjpmaaDoor.Stp
