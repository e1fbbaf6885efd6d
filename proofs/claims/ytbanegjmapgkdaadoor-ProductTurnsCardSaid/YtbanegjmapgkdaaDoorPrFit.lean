/-
  What product.fitting answers; nothing that was there is written. Condition: the table of traits holds what its text lays.
-/
import Derived.Test.YtbanegjmapgkdaaDoorPrLine
import Derived.Test.YtbanegjmapgkdaaDoorFdFit
set_option maxRecDepth 100000
namespace Go.Proofs.YtbanegjmapgkdaaDoor.Pr
open Go.Proofs.YtbanegjmapgkdaaDoor.Sh
open Go.Proofs.YtbanegjmapgkdaaDoor.Fd
open Go.RowKit
set_option linter.unusedVariables false

/-- Some functions lie in a row. -/
def Fns (w : World) (g : Nat) (l : List (Int × Bool)) : Prop := g < w.heap.size ∧ ∀ i, i < l.length → w.cell? ⟨g, i * 2, none⟩ = some (.int .i64 (l.getD i (0, false)).1) ∧ w.cell? ⟨g, i * 2 + 1, none⟩ = some (.bool (l.getD i (0, false)).2)
theorem Fns.below {w w' : World} {g : Nat} {l : List (Int × Bool)} (h : Fns w g l) (hb : Below w.heap.size w w') : Fns w' g l :=
  ⟨Nat.lt_of_lt_of_le h.1 hb.size, fun i hi => ⟨(hb.cell (p := ⟨g, i * 2, none⟩) h.1).trans (h.2 i hi).1, (hb.cell (p := ⟨g, i * 2 + 1, none⟩) h.1).trans (h.2 i hi).2⟩⟩
def hasAll (l : List (Int × Bool)) : Bool := l.all fun p => Sc.hasB p.1 2
theorem hasAll_no {l : List (Int × Bool)} {k : Nat} (hk : k < l.length) (h : Sc.hasB (l.getD k (0, false)).1 2 = false) : hasAll l = false := by
  unfold hasAll
  rw [List.all_eq_false]
  refine ⟨l[k], List.getElem_mem hk, ?_⟩
  have : l.getD k (0, false) = l[k] := by simp [List.getD, hk]
  rw [← this, h]; simp
theorem hasAll_yes {l : List (Int × Bool)} (h : ∀ k, k < l.length → Sc.hasB (l.getD k (0, false)).1 2 = true) : hasAll l = true := by
  unfold hasAll
  rw [List.all_eq_true]
  intro p hp
  obtain ⟨k, hk, rfl⟩ := List.getElem_of_mem hp
  have := h k hk
  have e : l.getD k (0, false) = l[k] := by simp [List.getD, hk]
  rw [e] at this; exact this
def pfitE (d : List Int) (n : Nat) (d' : List Int) (n' : Nat) (l : List (Int × Bool)) : Int := if cellB d n = true ∧ cellB d' n' = true then (if hasAll l = true then 0 else 13) else 1
section
variable (A : Option Addr) (c1 : Nat) (d : List Int) (B : Option Addr) (c2 : Nat) (v : List Int) (A' : Option Addr) (c1' : Nat) (d' : List Int) (B' : Option Addr) (c2' : Nat) (v' : List Int) (g : Nat) (l : List (Int × Bool)) (w : World)
theorem two_boxes (w : World) (x y x' y' : Value) :
    Box ((w.alloc (.cells #[x, y] 29)).alloc (.cells #[x', y'] 29)) w.heap.size x y ∧
    Box ((w.alloc (.cells #[x, y] 29)).alloc (.cells #[x', y'] 29)) (w.heap.size + 1) x' y' ∧
    Below w.heap.size w ((w.alloc (.cells #[x, y] 29)).alloc (.cells #[x', y'] 29)) := by
  have h1 : (w.alloc (.cells #[x, y] 29)).heap.size = w.heap.size + 1 := by simp
  have b2 := Box.new (w.alloc (.cells #[x, y] 29)) x' y'
  rw [h1] at b2
  exact ⟨(Box.new w x y).alloc _, b2, below_next (below_new _ _) (below_new _ _)⟩
set_option maxHeartbeats 2000000 in
theorem pfit_1a (hT : Sc.Tab w) (id : Ints w A d) (hd : d.length ≤ 100) (h : cellB d v.length = false) :
    Calls Tryd.prog 29 #[.agg #[.slice A d.length c1, .slice B v.length c2], .agg #[.slice A' d'.length c1', .slice B' v'.length c2'], .slice (some ⟨g, 0, none⟩) l.length l.length] w fun e w' => e = .returned (.int .i64 1) ∧ Below w.heap.size w w' := by
  obtain ⟨b0, b1, hb0⟩ := two_boxes w (.slice A d.length c1) (.slice B v.length c2) (.slice A' d'.length c1') (.slice B' v'.length c2')
  have BA := Lib.hid b0
  have L := Lib.hid hb0
  have ID := Lib.hid (id.below L.out)
  clear b0 b1 hb0 hT id
  go_enter Tryd.func29, Tryd.ntmps29
  obtain ⟨q0, q1, -, -⟩ := BA.out.all
  go_wp2_with fail
  refine (cright_no _ _ d _ _ _ _ (by unfold maxLen; omega) ID.out h).mono ?_
  rintro r w1 ⟨rfl, hb⟩
  replace L := Lib.hid (below_next L.out hb)
  clear hb q0 q1
  go_wp2
  go_ret
  exact ⟨rfl, L.out⟩
set_option maxHeartbeats 2000000 in
theorem pfit_1b (hT : Sc.Tab w) (id : Ints w A d) (id' : Ints w A' d') (hd : d.length ≤ 100) (hd' : d'.length ≤ 100) (h : cellB d v.length = true) (h' : cellB d' v'.length = false) :
    Calls Tryd.prog 29 #[.agg #[.slice A d.length c1, .slice B v.length c2], .agg #[.slice A' d'.length c1', .slice B' v'.length c2'], .slice (some ⟨g, 0, none⟩) l.length l.length] w fun e w' => e = .returned (.int .i64 1) ∧ Below w.heap.size w w' := by
  obtain ⟨b0, b1, hb0⟩ := two_boxes w (.slice A d.length c1) (.slice B v.length c2) (.slice A' d'.length c1') (.slice B' v'.length c2')
  have BA := Lib.hid b0
  have BB := Lib.hid b1
  have L := Lib.hid hb0
  have ID := Lib.hid (id.below L.out)
  have ID' := Lib.hid (id'.below L.out)
  clear b0 b1 hb0 hT id id'
  go_enter Tryd.func29, Tryd.ntmps29
  obtain ⟨q0, q1, -, -⟩ := BA.out.all
  go_wp2_with fail
  refine (cright_yes _ _ d _ _ _ _ (by unfold maxLen; omega) ID.out h).mono ?_
  rintro r w1 ⟨rfl, hb⟩
  replace L := Lib.hid (below_next L.out hb)
  replace BB := Lib.hid (BB.out.next hb)
  replace ID' := Lib.hid (ID'.out.below hb)
  clear hb q0 q1
  obtain ⟨q0, q1, -, -⟩ := BB.out.all
  go_wp2_with fail
  refine (cright_no _ _ d' _ _ _ _ (by unfold maxLen; omega) ID'.out h').mono ?_
  rintro r w2 ⟨rfl, hb⟩
  replace L := Lib.hid (below_next L.out hb)
  clear hb q0 q1
  go_wp2
  go_ret
  exact ⟨rfl, L.out⟩
set_option maxHeartbeats 4000000 in
theorem pfit_2 (hT : Sc.Tab w) (id : Ints w A d) (id' : Ints w A' d') (hg : Fns w g l) (hl : l.length ≤ 100) (hd : d.length ≤ 100) (hd' : d'.length ≤ 100) (h : cellB d v.length = true) (h' : cellB d' v'.length = true) :
    Calls Tryd.prog 29 #[.agg #[.slice A d.length c1, .slice B v.length c2], .agg #[.slice A' d'.length c1', .slice B' v'.length c2'], .slice (some ⟨g, 0, none⟩) l.length l.length] w fun e w' => e = .returned (.int .i64 (if hasAll l = true then 0 else 13)) ∧ Below w.heap.size w w' := by
  obtain ⟨E, hE⟩ : ∃ E, (if hasAll l = true then (0 : Int) else 13) = E := ⟨_, rfl⟩
  rw [hE]
  have HE0 := Lib.hid hE
  clear hE
  obtain ⟨b0, b1, hb0⟩ := two_boxes w (.slice A d.length c1) (.slice B v.length c2) (.slice A' d'.length c1') (.slice B' v'.length c2')
  have BA := Lib.hid b0
  have BB := Lib.hid b1
  have L := Lib.hid hb0
  have ID := Lib.hid (id.below L.out)
  have ID' := Lib.hid (id'.below L.out)
  have T0 := Lib.hid hT
  have G0 := Lib.hid hg
  clear b0 b1 hb0 hT id id' hg
  go_enter Tryd.func29, Tryd.ntmps29
  obtain ⟨q0, q1, -, -⟩ := BA.out.all
  go_wp2_with fail
  refine (cright_yes _ _ d _ _ _ _ (by unfold maxLen; omega) ID.out h).mono ?_
  rintro r w1 ⟨rfl, hb⟩
  replace L := Lib.hid (below_next L.out hb)
  replace BB := Lib.hid (BB.out.next hb)
  replace ID' := Lib.hid (ID'.out.below hb)
  clear hb q0 q1
  obtain ⟨q0, q1, -, -⟩ := BB.out.all
  go_wp2_with fail
  refine (cright_yes _ _ d' _ _ _ _ (by unfold maxLen; omega) ID'.out h').mono ?_
  rintro r w2 ⟨rfl, hb⟩
  replace L := Lib.hid (below_next L.out hb)
  clear hb q0 q1 ID ID' BA BB
  go_wp2
  go_loopw [19] (fun j wr => ∃ k : Nat, k ≤ l.length ∧ j = .int .i64 (k : Int) ∧ (∀ i, i < k → Sc.hasB (l.getD i (0, false)).1 2 = true) ∧ Below w.heap.size w wr) (fun j _ => l.length - (intOf j).toNat)
  case atStart => exact ⟨0, Nat.zero_le _, rfl, fun i hi => absurd hi (Nat.not_lt_zero i), L.out⟩
  case round =>
    obtain ⟨k, hk, rfl, hA, hB⟩ := hrel
    have LB := Lib.hid hB
    have HA := Lib.hid hA
    clear hB hA
    by_cases hlt : k < l.length
    · have hg := G0.out.below LB.out
      obtain ⟨x0, x1⟩ := hg.2 k hlt
      obtain ⟨c, hc⟩ : ∃ c, (l.getD k (0, false)).1 = c := ⟨_, rfl⟩
      obtain ⟨s, hs⟩ : ∃ s, (l.getD k (0, false)).2 = s := ⟨_, rfl⟩
      rw [hc] at x0
      rw [hs] at x1
      have HC := Lib.hid hc
      have k0 : (0 : Int) ≤ (k : Int) := by omega
      have k1 : (k : Int) < (l.length : Int) := by omega
      have L5 := Lib.hid (below_next LB.out (below_new wr (.cells #[.int .i64 c, .bool s] 23)))
      have T5 := Lib.hid (T0.out.below L5.out)
      clear hg hc hs
      by_cases h5 : Sc.hasB c 2 = true
      · have H5 := Lib.hid h5
        clear h5
        go_wp2_with fail
        refine (Sc.has_b c 2 true _ H5.out T5.out).mono ?_
        rintro r w3 ⟨rfl, hb⟩
        replace L5 := Lib.hid (below_next L5.out hb)
        clear hb
        go_wp2
        go_roundw
        case rel =>
          refine ⟨k + 1, by omega, by go_num, fun i hi => ?_, L5.out⟩
          rcases Nat.lt_or_ge i k with hik | hik
          · exact HA.out i hik
          · obtain rfl : i = k := by omega
            rw [HC.out]; exact H5.out
        case measure => simp [intOf]; omega
      · have h6 : Sc.hasB c 2 = false := by simpa using h5
        have H6 := Lib.hid h6
        have HE := Lib.hid (show E = 13 by rw [← HE0.out, hasAll_no hlt (by rw [HC.out]; exact h6)]; rfl)
        clear h5 h6
        go_wp2_with fail
        refine (Sc.has_b c 2 false _ H6.out T5.out).mono ?_
        rintro r w3 ⟨rfl, hb⟩
        replace L5 := Lib.hid (below_next L5.out hb)
        clear hb
        go_wp2
        go_ret
        exact ⟨by rw [HE.out]; rfl, L5.out⟩
    · obtain rfl : k = l.length := by omega
      have HE := Lib.hid (show E = 0 by rw [← HE0.out, hasAll_yes HA.out]; rfl)
      go_wp2
      go_ret
      exact ⟨by rw [HE.out]; rfl, LB.out⟩
theorem pfit_any (hT : Sc.Tab w) (id : Ints w A d) (id' : Ints w A' d') (hg : Fns w g l) (hl : l.length ≤ 100) (hd : d.length ≤ 100) (hd' : d'.length ≤ 100) :
    Calls Tryd.prog 29 #[.agg #[.slice A d.length c1, .slice B v.length c2], .agg #[.slice A' d'.length c1', .slice B' v'.length c2'], .slice (some ⟨g, 0, none⟩) l.length l.length] w fun e w' => e = .returned (.int .i64 (pfitE d v.length d' v'.length l)) ∧ Below w.heap.size w w' := by
  by_cases h : cellB d v.length = true
  rotate_left
  · have h1 : cellB d v.length = false := by simpa using h
    rw [show pfitE d v.length d' v'.length l = 1 by simp [pfitE, h1]]
    exact pfit_1a A c1 d B c2 v A' c1' d' B' c2' v' g l w hT id hd h1
  by_cases h' : cellB d' v'.length = true
  rotate_left
  · have h1 : cellB d' v'.length = false := by simpa using h'
    rw [show pfitE d v.length d' v'.length l = 1 by simp [pfitE, h1]]
    exact pfit_1b A c1 d B c2 v A' c1' d' B' c2' v' g l w hT id id' hd hd' h h1
  rw [show pfitE d v.length d' v'.length l = if hasAll l = true then 0 else 13 by simp [pfitE, h, h']]
  exact pfit_2 A c1 d B c2 v A' c1' d' B' c2' v' g l w hT id id' hg hl hd hd' h h'
end
end Go.Proofs.YtbanegjmapgkdaaDoor.Pr
