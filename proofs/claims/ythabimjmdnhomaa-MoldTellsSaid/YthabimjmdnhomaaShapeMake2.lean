/-
  What slices.Clone and slices.Delete (by the library's own contracts), shape.With and shape.Without answer for any lengths; nothing that was there is written. Condition: at most 100 numbers.
-/
import Derived.Test.YthabimjmdnhomaaShapeMake1
import Derived.Test.YthabimjmdnhomaaShapeIdx
import Derived.Shelf.Slices.Clone
import Derived.Shelf.Slices.Cells
namespace Go.Proofs.Ythabimjmdnhomaa.Sh
open Go.RowKit
set_option linter.unusedVariables false

def cloneRen : Go.Shelf.Ren := ⟨fun | 15 => 56 | n => n, fun | 22 => 22 | 3 => 3 | 4 => 4 | n => n, fun | n => n⟩
theorem cloneLays : Go.Proofs.Lays2.n15 Try.prog cloneRen := {
  mixed := by kernel_rfl
  f15 := Try.func56.trans (congrArg some (by kernel_rfl))
  t3 := Try.underlying3
  a3 := Try.isAgg3
  z3 := Try.sizeOf3
  v3 := Try.zeroValue3
  t4 := Try.underlying4
  a4 := Try.isAgg4
  z4 := Try.sizeOf4
  v4 := Try.zeroValue4
  t22 := Try.underlying22
  a22 := Try.isAgg22
  z22 := Try.sizeOf22
  v22 := Try.zeroValue22
  i3 := by kernel_rfl }
def RetMine (w : World) (xs : List Int) (e : Ending) (w' : World) : Prop := ∃ v, e = .returned v ∧ Mine w' w.heap.size v xs ∧ Below w.heap.size w w'
theorem clone_any (A : Option Addr) (c : Nat) (d : List Int) (w : World) (hl : d.length ≤ 100) (hi : Ints w A d) :
    Calls Try.prog 56 #[.slice A d.length c] w (RetMine w d) := by
  by_cases h0 : 0 < d.length
  · obtain ⟨b, off, rfl, hb, hcs⟩ := hi h0
    have h : Calls Try.prog 56 #[.slice (some ⟨b, off, none⟩) d.length c] w _ := Any.slices_Clone_int cloneLays b off d.length c d w (Nat.le_refl _) (by omega) hcs
    refine h.mono ?_
    rintro e w' ⟨v', rfl, ho, _, hbel⟩
    rw [List.take_length] at ho
    exact ⟨v', rfl, ho, hbel⟩
  · have hd : d = [] := List.eq_nil_of_length_eq_zero (by omega)
    subst hd
    rcases A with _ | a
    · have h : Calls Try.prog 56 #[.slice none 0 c] w _ := Any.slices_Clone_int_nil cloneLays 0 c w
      refine h.mono ?_
      rintro e w' ⟨rfl, rfl⟩
      exact ⟨_, rfl, Mine.nil _ _, Below.refl _ _⟩
    · have h : Calls Try.prog 56 #[.slice (some a) 0 c] w _ := Any.slices_Clone_int_zero cloneLays a c w
      refine h.mono ?_
      rintro e w' ⟨v', rfl, ho, _, hbel⟩
      exact ⟨v', rfl, ho, hbel⟩

theorem within_yesL (i n : Int) (w : World) (h : withinB i n = true) : Calls Try.prog 60 #[.int .i64 i, .int .i64 n] w fun e w' => e = .returned (.bool true) ∧ w = w' := (within_yes i n w h).mono fun _ _ ⟨a, b⟩ => ⟨a, b.symm⟩
theorem within_noL (i n : Int) (w : World) (h : withinB i n = false) : Calls Try.prog 60 #[.int .i64 i, .int .i64 n] w fun e w' => e = .returned (.bool false) ∧ w = w' := (within_no i n w h).mono fun _ _ ⟨a, b⟩ => ⟨a, b.symm⟩
theorem withinB_iff (x : Int) (n : Nat) : withinB x n = true ↔ 0 ≤ x ∧ x < n := by simp [withinB]

set_option maxHeartbeats 1000000 in
theorem with_any (A : Option Addr) (c : Nat) (d : List Int) (x n : Int) (w : World) (hl : d.length ≤ 100) (hi : Ints w A d) :
    Calls Try.prog 41 #[.slice A d.length c, .int .i64 x, .int .i64 n] w (RetInts w (withL d x n)) := by
  by_cases hx : 0 ≤ x ∧ x < d.length
  · have hw := (withinB_iff x d.length).2 hx
    have HW := Lib.hid hw
    have hL : withL d x n = d.set x.toNat n := if_pos hx
    rw [hL]
    obtain ⟨hx0, hx1⟩ := hx
    clear hw hL
    go_enter Try.func41, Try.ntmps41
    go_wp2_with fail
    refine (clone_any _ _ d _ hl hi).mono ?_
    rintro e w1 ⟨v, rfl, hm, hb1⟩
    have hm0 : w1.ownsRow w.heap.size 3 1 v d.length (d.map (Value.int .i64)) := hm
    rcases hm0.2 with ⟨rfl, h0⟩ | ⟨g, cap, cur, rfl, hbg, _, hnc, hcm, _⟩
    · omega
    · have hc : w1.cell? ⟨g, x.toNat, none⟩ = some (.int .i64 (d.getD x.toNat 0)) := by
        rw [hm0.cellAt x.toNat (by omega)]
        have : x.toNat < d.length := by omega
        simp [List.getD, this]
      have hf := hm0.frozenAt x.toNat
      have hs := Lib.hid (hm0.stored x.toNat (.int .i64 n)).1
      have HB := Lib.hid (hb1.setCell (p := ⟨g, x.toNat, none⟩) hbg (.int .i64 n))
      clear hm hm0 hb1
      go_wp2_with (go_at_call 60; refine (within_yesL _ _ _ HW.out).mono ?_; rintro e w' ⟨rfl, rfl⟩)
      go_ret
      have hmm : Mine (w1.setCell ⟨g, x.toNat, none⟩ (.int .i64 n)) w.heap.size (.slice (some ⟨g, 0, none⟩) d.length cap) (d.set x.toNat n) := by
        unfold Mine
        rw [List.length_set, List.map_set]
        exact hs.out
      obtain ⟨A', c', hv, hi'⟩ := hmm.ints
      exact ⟨A', c', by rw [← hv]; rfl, hi', HB.out⟩
  · have hw : withinB x d.length = false := by rw [Bool.eq_false_iff]; intro h; exact hx ((withinB_iff x d.length).1 h)
    have HW := Lib.hid hw
    have hL : withL d x n = d := if_neg hx
    rw [hL]
    clear hw hL hx
    go_enter Try.func41, Try.ntmps41
    go_wp2_with fail
    refine (clone_any _ _ d _ hl hi).mono ?_
    rintro e w1 ⟨v, rfl, hm, hb1⟩
    obtain ⟨A', c', rfl, hi'⟩ := hm.ints
    clear hm
    go_wp2_with (go_at_call 60; refine (within_noL _ _ _ HW.out).mono ?_; rintro e w' ⟨rfl, rfl⟩)
    go_ret
    exact ⟨A', c', rfl, hi', hb1⟩

theorem below_setCells {B g : Nat} (h : B ≤ g) : ∀ (vs : List Value) (o : Nat) (a w : World), Below B a w → Below B a (w.setCells g o vs)
  | [], _, _, _, hb => hb
  | v :: r, o, a, w, hb => by rw [World.setCells]; exact below_setCells h r (o + 1) a _ (hb.setCell (p := ⟨g, o, none⟩) h v)

theorem deleted_ints (d : List Int) (k : Nat) (hk : k < d.length) (g : Nat) (w1 : World) (q : Nat) (hg : g < w1.heap.size) (hc : ∀ j, j < d.length → w1.cell? ⟨g, 0 + j, none⟩ = some (.int .i64 (d.getD j 0))) :
    Ints ((w1.drewN q).setCells g 0 (((d.take d.length).take k ++ (d.take d.length).drop (k + 1) ++ List.replicate (k + 1 - k) 0).map (Value.int .i64))) (some ⟨g, 0, none⟩) (d.eraseIdx k) := by
  have hlen : ((d.take d.length).take k ++ (d.take d.length).drop (k + 1) ++ List.replicate (k + 1 - k) (0 : Int)).length = d.length := by simp; omega
  intro hp
  have hel : (d.eraseIdx k).length = d.length - 1 := List.length_eraseIdx_of_lt hk
  refine ⟨g, 0, rfl, ?_, fun i hi => ?_⟩
  · have : ∀ (vs : List Value) (o : Nat) (W : World), (W.setCells g o vs).heap.size = W.heap.size := by
      intro vs
      induction vs with
      | nil => intro o W; rfl
      | cons v r ih => intro o W; rw [World.setCells, ih]; simp [World.setCell]
    rw [this]; exact hg
  · have h := World.cell?_setCells_in g (((d.take d.length).take k ++ (d.take d.length).drop (k + 1) ++ List.replicate (k + 1 - k) 0).map (Value.int .i64)) 0 (w1.drewN q) (fun j hj => by
      rw [List.length_map, hlen] at hj
      show (w1.cell? _).isSome = true
      rw [hc j hj]; rfl) i (by rw [List.length_map, hlen]; omega)
    rw [h, List.getElem_map, show (d.eraseIdx k).getD i 0 = (d.eraseIdx k)[i] from by simp [List.getD, hi]]
    congr 2
    rw [List.getElem_append_left (by simp; omega)]
    simp only [List.take_length, List.eraseIdx_eq_take_drop_succ]

end Go.Proofs.Ythabimjmdnhomaa.Sh
