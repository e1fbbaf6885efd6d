/-
  Layer 18, tree: that the stack of places from the left, and the way down from the last node, tell the same. No condition.
-/
import Derived.Test.YtjmpilmmgfjpmaaDoorTrDown
set_option maxRecDepth 100000
namespace Go.Proofs.YtjmpilmmgfjpmaaDoor.Tr
open Go.Proofs.YtjmpilmmgfjpmaaDoor.Sh Go.Proofs.YtjmpilmmgfjpmaaDoor.St
open Go.RowKit
set_option linter.unusedVariables false

/-- The tops, the last one first, as the way down finds them. -/
def Lnk (qs : List Nq) : List Int → Int → Prop
  | [], a => a = -1
  | t :: r, a => t = a ∧ 0 ≤ a ∧ ∃ a', down qs a = some a' ∧ Lnk qs r a'
theorem link_down {qs : List Nq} : ∀ (zr : List (Nat × Int)) (R : List Int) (at_ a : Int), Lnk qs R at_ → kidsDown (down qs) qs zr at_ = some a → zr.length ≤ R.length ∧ zr.map Prod.snd = R.take zr.length ∧ (∀ x ∈ zr, mayB x.1 (kindAt qs x.2) = true) ∧ Lnk qs (R.drop zr.length) a
  | [], R, at_, a, hl, h => by
    injection h with h
    subst h
    exact ⟨by simp, by simp, fun x hx => by simp at hx, by simpa using hl⟩
  | (j, kid) :: r, R, at_, a, hl, h => by
    unfold kidsDown at h
    split at h
    · rename_i hc
      obtain ⟨rfl, h0, hm⟩ := hc
      split at h
      · rename_i a' ha
        cases R with
        | nil => simp only [Lnk] at hl; omega
        | cons t R =>
          obtain ⟨rfl, -, a2, h2, hl2⟩ := hl
          rw [ha] at h2
          injection h2 with h2
          subst h2
          obtain ⟨k1, k2, k3, k4⟩ := link_down r R a' a hl2 h
          refine ⟨by simp; omega, by simp [k2], fun x hx => ?_, by simpa using k4⟩
          rcases List.mem_cons.1 hx with rfl | hx
          · exact hm
          · exact k3 x hx
      · cases h
    · cases h
theorem link_up {qs : List Nq} : ∀ (zr : List (Nat × Int)) (R : List Int) (at_ : Int), Lnk qs R at_ → zr.length ≤ R.length → zr.map Prod.snd = R.take zr.length → (∀ x ∈ zr, mayB x.1 (kindAt qs x.2) = true) → ∃ a, kidsDown (down qs) qs zr at_ = some a ∧ Lnk qs (R.drop zr.length) a
  | [], R, at_, hl, _, _, _ => ⟨at_, rfl, by simpa using hl⟩
  | (j, kid) :: r, R, at_, hl, h1, h2, h3 => by
    cases R with
    | nil => simp at h1
    | cons t R =>
      obtain ⟨rfl, h0, a2, hd, hl2⟩ := hl
      simp at h2
      obtain ⟨rfl, h2⟩ := h2
      obtain ⟨a, ha, hl3⟩ := link_up r R a2 hl2 (by simp at h1; omega) h2 (fun x hx => h3 x (List.mem_cons_of_mem _ hx))
      refine ⟨a, ?_, by simpa using hl3⟩
      unfold kidsDown
      rw [if_pos ⟨rfl, h0, h3 _ List.mem_cons_self⟩, hd]
      exact ha
theorem vf_kind (k : Int) : (valI k || funI k) = (decide (1 ≤ k) && decide (k ≤ 12)) := by
  unfold valI funI
  rw [Bool.eq_iff_iff]
  simp
  omega
theorem nodeOk_iff (q : Nq) : nodeOk q = true ↔ fieldedB q.n = true ∧ (partsL q.n.kind).length = q.n.kids.length := by
  unfold nodeOk fieldedB
  rw [vf_kind]
  simp
  constructor
  · rintro ⟨h1, h2, h3, h4⟩; exact ⟨⟨⟨h1, h2⟩, h4⟩, h3⟩
  · rintro ⟨⟨⟨h1, h2⟩, h4⟩, h3⟩; exact ⟨h1, h2, h3, h4⟩
theorem zip_snd {js : List Nat} {kids : List Int} (h : js.length = kids.length) : (js.zip kids).map Prod.snd = kids := by
  rw [List.map_snd_zip]
  omega
/-- What the stack does at a node, and the way down from it. -/
theorem step_down {qs : List Nq} {tops : List Int} {k : Nat} {q : Nq} (hq : qs[k]? = some q) (hl : Lnk qs tops.reverse ((k : Int) - 1)) :
    (∀ t, ordStep qs tops k q = some t → Lnk qs t.reverse (k : Int)) ∧ (∀ a, down qs (k : Int) = some a → ordStep qs tops k q ≠ none) := by
  have hd : down qs (k : Int) = if nodeOk q = true then kidsDown (down qs) qs ((partsL q.n.kind).zip q.n.kids).reverse ((k : Int) - 1) else none := by
    rw [down_eq, if_pos (by omega), show ((k : Int)).toNat = k by simp, hq]
  constructor
  · intro t ht
    unfold ordStep at ht
    split at ht
    · cases ht
    · rename_i h1
      split at ht
      · cases ht
      · rename_i h2
        split at ht
        · cases ht
        · rename_i h3
          split at ht
          · cases ht
          · rename_i h4
            injection ht with ht
            subst ht
            simp at h2 h3 h4
            unfold partedB at h3
            simp at h3
            obtain ⟨h5, h6⟩ := h3
            have hz := zip_snd h5
            have hzl : ((partsL q.n.kind).zip q.n.kids).reverse.length = q.n.kids.length := by rw [List.length_reverse, List.length_zip]; omega
            obtain ⟨a, ha, hla⟩ := link_up ((partsL q.n.kind).zip q.n.kids).reverse tops.reverse _ hl (by rw [hzl, List.length_reverse]; omega) (by
              rw [hzl, List.map_reverse, hz, List.take_reverse, h2]) (fun x hx => h6 x.1 x.2 (List.mem_reverse.1 hx))
            rw [hzl, List.drop_reverse] at hla
            rw [List.reverse_append]
            refine ⟨rfl, by omega, a, ?_, hla⟩
            rw [hd, if_pos ((nodeOk_iff q).2 ⟨h4, h5⟩)]
            exact ha
  · intro a ha hn
    rw [hd] at ha
    split at ha
    · rename_i hok
      obtain ⟨h4, h5⟩ := (nodeOk_iff q).1 hok
      obtain ⟨k1, k2, k3, k4⟩ := link_down _ _ _ _ hl ha
      have hzl : ((partsL q.n.kind).zip q.n.kids).reverse.length = q.n.kids.length := by rw [List.length_reverse, List.length_zip]; omega
      rw [hzl] at k1 k2
      rw [List.length_reverse] at k1
      rw [List.map_reverse, zip_snd h5, List.take_reverse] at k2
      have k2' : tops.drop (tops.length - q.n.kids.length) = q.n.kids := (List.reverse_inj.1 k2).symm
      unfold ordStep at hn
      rw [if_neg (by omega), if_neg (by simpa using k2'), if_neg, if_neg (by rw [h4]; simp)] at hn
      · cases hn
      · unfold partedB
        simp
        exact ⟨h5, fun x y hxy => k3 (x, y) (List.mem_reverse.2 hxy)⟩
    · cases ha
theorem ord_link {qs : List Nq} : ∀ (k : Nat) (tops : List Int), ordTo qs k = some tops → Lnk qs tops.reverse ((k : Int) - 1)
  | 0, tops, h => by
    injection h with h
    subst h
    simp [Lnk]
  | k + 1, tops, h => by
    unfold ordTo at h
    split at h
    · rename_i t q ht hq
      have := (step_down hq (ord_link k t ht)).1 tops h
      rwa [show ((k + 1 : Nat) : Int) - 1 = (k : Int) by omega]
    · cases h
/-- Whatever stands below a node is reached from its own place. -/
theorem cover {qs : List Nq} : ∀ (n : Nat) (i : Int), i < (n : Int) → ∀ (a : Int) (Ra : List Int), down qs i = some a → Lnk qs Ra a → ∀ j, a < j → j ≤ i → ∃ R, Lnk qs R j
  | 0, i, hi, a, Ra, hd, hl, j, h1, h2 => by
    rw [down_eq, if_neg (by omega)] at hd; cases hd
  | n + 1, i, hi, a, Ra, hd, hl, j, h1, h2 => by
    have hd0 := hd
    rw [down_eq] at hd
    split at hd
    · rename_i h0
      split at hd
      · split at hd
        · have kids : ∀ (zr : List (Nat × Int)) (at_ : Int), at_ < i → kidsDown (down qs) qs zr at_ = some a → ∀ j, a < j → j ≤ at_ → ∃ R, Lnk qs R j := by
            intro zr
            induction zr with
            | nil => intro at_ _ h j h1 h2; injection h with h; omega
            | cons x r ih =>
              intro at_ hat h j h1 h2
              unfold kidsDown at h
              split at h
              · split at h
                · rename_i a' ha
                  have hlt := down_lt ha
                  have ih' := ih a' (by omega) h
                  by_cases hj : j ≤ a'
                  · exact ih' j h1 hj
                  · obtain ⟨R', hR'⟩ : ∃ R', Lnk qs R' a' := by
                      by_cases hle : a < a'
                      · exact ih' a' hle (by omega)
                      · have := kidsDown_le (fun i a h => down_lt h) r a' a h
                        obtain rfl : a' = a := by omega
                        exact ⟨Ra, hl⟩
                    exact cover n at_ (by omega) a' R' ha hR' j (by omega) h2
                · cases h
              · cases h
          by_cases hj : j = i
          · subst hj
            exact ⟨j :: Ra, rfl, h0, a, hd0, hl⟩
          · exact kids _ _ (by omega) hd j h1 (by omega)
        · cases hd
      · cases hd
    · cases hd
/-- The definitions, the last one first, from a place on. -/
def defsDown (qs : List Nq) : List Df → Option Int → Bool
  | _, none => false
  | [], some a => decide (a = -1)
  | d :: r, some a => if d.node = a ∧ 0 ≤ a ∧ fitsB d.name.data.toList (kindAt qs a) = true then defsDown qs r (down qs a) else false
def rightR (p : Pq) : Bool := decide (Tk.namedN p.name.data.toList = 2) && (rightB p.dims && (decide (0 < p.nodes.length) && (decide (p.nodes.length ≤ 300) && (decide (p.defs.length ≤ 300) && (decide (p.root = (p.nodes.length : Int) - 1) && (valI (kindAt p.nodes p.root) && defsDown p.nodes p.defs.reverse (down p.nodes p.root)))))))
theorem defs_all {qs : List Nq} : ∀ (dr : List Df) (R : List Int) (a : Int), Lnk qs R a → dr.length = R.length → (dr.zip R).all (defB qs) = true → defsDown qs dr (some a) = true
  | [], R, a, hl, h, _ => by
    cases R with
    | nil => simp only [Lnk] at hl; simp [defsDown, hl]
    | cons t R => simp at h
  | d :: r, R, a, hl, h, hz => by
    cases R with
    | nil => simp at h
    | cons t R =>
      obtain ⟨rfl, h0, a2, hd, hl2⟩ := hl
      simp [defB] at hz
      obtain ⟨⟨h1, h2⟩, h3⟩ := hz
      unfold defsDown
      rw [if_pos ⟨h1, h0, by rw [← h1]; exact h2⟩, hd]
      exact defs_all r R a2 hl2 (by simpa using h) (by simp [defB]; exact h3)
theorem defs_link {qs : List Nq} : ∀ (dr : List Df) (a : Int), defsDown qs dr (some a) = true → ∃ R, Lnk qs R a ∧ dr.length = R.length ∧ (dr.zip R).all (defB qs) = true
  | [], a, h => by
    simp [defsDown] at h
    exact ⟨[], h, rfl, rfl⟩
  | d :: r, a, h => by
    unfold defsDown at h
    split at h
    · rename_i hc
      obtain ⟨h1, h0, h2⟩ := hc
      cases hd : down qs a with
      | none => rw [hd] at h; simp [defsDown] at h
      | some a2 =>
        rw [hd] at h
        obtain ⟨R, hR, hlen, hz⟩ := defs_link r a2 h
        refine ⟨a :: R, ⟨rfl, h0, a2, hd, hR⟩, by simp [hlen], ?_⟩
        rw [List.zip_cons_cons, List.all_cons, hz, Bool.and_true]
        unfold defB
        simp only
        rw [decide_eq_true h1, h1, h2]
        rfl
    · cases h
theorem lnk_same {qs : List Nq} : ∀ (R S : List Int) (a : Int), Lnk qs R a → Lnk qs S a → R = S
  | [], [], a, _, _ => rfl
  | [], t :: S, a, h, k => by obtain ⟨-, h0, -⟩ := k; simp only [Lnk] at h; omega
  | t :: R, [], a, h, k => by obtain ⟨-, h0, -⟩ := h; simp only [Lnk] at k; omega
  | t :: R, u :: S, a, h, k => by
    obtain ⟨rfl, -, a2, hd, hl⟩ := h
    obtain ⟨rfl, -, a3, kd, kl⟩ := k
    rw [hd] at kd
    injection kd with kd
    subst kd
    rw [lnk_same R S a2 hl kl]
end Go.Proofs.YtjmpilmmgfjpmaaDoor.Tr
