/-
  product.common: the length of two cells' common axis. No condition but that there are at most 100 axes.
-/
import Derived.Test.YtbanegjmapgkdaaDoorPrOuter
set_option maxRecDepth 100000
namespace Go.Proofs.YtbanegjmapgkdaaDoor.Pr
open Go.Proofs.YtbanegjmapgkdaaDoor.Sh Go.Proofs.YtbanegjmapgkdaaDoor.St
open Go.Proofs.YtbanegjmapgkdaaDoor.Fd
open Go.RowKit
set_option linter.unusedVariables false

/-- The last axis of a, and the first of b. -/
def lastD (d : List Int) : Int := d.getD (d.length - 1) 0
def headD (d : List Int) : Int := d.getD 0 0
/-- Whether there is a common length, and which. -/
def comB (d d' : List Int) : Bool := d.isEmpty || d'.isEmpty || lastD d == headD d'
def comI (d d' : List Int) : Int := if d.length = 0 then (if d'.length = 0 then 1 else headD d') else if d'.length = 0 then lastD d else if lastD d = headD d' then headD d' else 0
set_option maxHeartbeats 2000000 in
theorem common_any (A : Option Addr) (c1 : Nat) (d : List Int) (A' : Option Addr) (c2 : Nat) (d' : List Int) (w : World) (hd : d.length ≤ 100) (hd' : d'.length ≤ 100) (id : Ints w A d) (id' : Ints w A' d') :
    Calls Tryd.prog 30 #[.slice A d.length c1, .slice A' d'.length c2] w fun e w' => e = .returned (.tuple #[.int .i64 (comI d d'), .bool (comB d d')]) ∧ Below w.heap.size w w' := by
  have LW := Lib.hid (Below.refl w.heap.size w)
  by_cases h1 : d.length = 0
  · obtain rfl := List.eq_nil_of_length_eq_zero h1
    by_cases h2 : d'.length = 0
    · obtain rfl := List.eq_nil_of_length_eq_zero h2
      clear id id'
      go_enter Tryd.func30, Tryd.ntmps30
      go_wp2
      go_ret2
      exact ⟨rfl, LW.out⟩
    · obtain ⟨b', o', rfl, _, hc'⟩ := id' (by omega)
      have q0 : w.cell? ⟨b', o', none⟩ = some (.int .i64 (headD d')) := hc' 0 (by omega)
      have e1 : comI [] d' = headD d' := by simp [comI, h2]
      have e2 : comB [] d' = true := by simp [comB]
      have t2 : ((d'.length : Int) == 0) = false := by simp; intro h; simp [h] at h2
      have i1 : (0 : Int) < (d'.length : Int) := by omega
      rw [e1, e2]
      clear id hc' e1 e2
      go_enter Tryd.func30, Tryd.ntmps30
      go_wp2
      go_ret2
      exact ⟨rfl, LW.out⟩
  · obtain ⟨b, o, rfl, _, hc⟩ := id (by omega)
    have q1 : w.cell? ⟨b, o + (d.length - 1), none⟩ = some (.int .i64 (lastD d)) := hc (d.length - 1) (by omega)
    have t1 : ((d.length : Int) == 0) = false := by simp; intro h; simp [h] at h1
    obtain ⟨m, hm⟩ : ∃ m, d.length - 1 = m := ⟨_, rfl⟩
    have hmi : IntKind.i64.wrap ((d.length : Int) - 1) = (m : Int) := by rw [← hm]; rw [IntWalk.i64_in _ (by omega)]; omega
    have m0 : (0 : Int) ≤ (m : Int) := by omega
    have m1 : (m : Int) < (d.length : Int) := by omega
    rw [hm] at q1
    by_cases h2 : d'.length = 0
    · obtain rfl := List.eq_nil_of_length_eq_zero h2
      have e1 : comI d [] = lastD d := by simp [comI, h1]
      have e2 : comB d [] = true := by simp [comB]
      rw [e1, e2]
      clear id' hc e1 e2 hm
      go_enter Tryd.func30, Tryd.ntmps30
      go_wp2
      go_ret2
      exact ⟨rfl, LW.out⟩
    · obtain ⟨b', o', rfl, _, hc'⟩ := id' (by omega)
      have q0 : w.cell? ⟨b', o', none⟩ = some (.int .i64 (headD d')) := hc' 0 (by omega)
      have t2 : ((d'.length : Int) == 0) = false := by simp; intro h; simp [h] at h2
      have i1 : (0 : Int) < (d'.length : Int) := by omega
      have n1 : d.isEmpty = false := by cases d <;> simp_all
      have n2 : d'.isEmpty = false := by cases d' <;> simp_all
      have LD := Lib.hid (Below.refl w.heap.size w).drew
      by_cases h3 : lastD d = headD d'
      · have e1 : comI d d' = headD d' := by unfold comI; rw [if_neg h1, if_neg h2, if_pos h3]
        have e2 : comB d d' = true := by simp [comB, h3]
        have t3 : (lastD d != headD d') = false := by simp [h3]
        rw [e1, e2]
        generalize lastD d = x at *
        generalize headD d' = y at *
        clear hc hc' e1 e2 hm h3 n1 n2
        go_enter Tryd.func30, Tryd.ntmps30
        go_wp2
        go_region
        all_goals
          go_wp2
          go_ret2
          exact ⟨rfl, LD.out⟩
      · have e1 : comI d d' = 0 := by unfold comI; rw [if_neg h1, if_neg h2, if_neg h3]
        have e2 : comB d d' = false := by simp [comB, n1, n2, h3]
        have t3 : (lastD d != headD d') = true := by simp [h3]
        rw [e1, e2]
        generalize lastD d = x at *
        generalize headD d' = y at *
        clear hc hc' e1 e2 hm h3 n1 n2
        go_enter Tryd.func30, Tryd.ntmps30
        go_wp2
        go_region
        all_goals
          go_wp2
          go_ret2
          exact ⟨rfl, LD.out⟩
end Go.Proofs.YtbanegjmapgkdaaDoor.Pr
