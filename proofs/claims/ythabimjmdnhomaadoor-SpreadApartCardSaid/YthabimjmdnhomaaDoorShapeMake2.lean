/-
  What slices.Clone and slices.Delete (by the library's own contracts), shape.With and shape.Without answer for any lengths; nothing that was there is written. Condition: at most 100 numbers.
-/
import Derived.Test.YthabimjmdnhomaaDoorShapeMake1
import Derived.Test.YthabimjmdnhomaaDoorShapeIdx
import Derived.Shelf.Slices.Clone
import Derived.Shelf.Slices.Cells
namespace Go.Proofs.YthabimjmdnhomaaDoor.Sh
open Go.RowKit
set_option linter.unusedVariables false

def cloneRen : Go.Shelf.Ren := ⟨fun | 15 => 19 | n => n, fun | 22 => 22 | 3 => 3 | 4 => 4 | n => n, fun | n => n⟩
theorem cloneLays : Go.Proofs.Lays2.n15 Tryd.prog cloneRen := {
  mixed := by kernel_rfl
  f15 := Tryd.func19.trans (congrArg some (by kernel_rfl))
  t3 := Tryd.underlying3
  a3 := Tryd.isAgg3
  z3 := Tryd.sizeOf3
  v3 := Tryd.zeroValue3
  t4 := Tryd.underlying4
  a4 := Tryd.isAgg4
  z4 := Tryd.sizeOf4
  v4 := Tryd.zeroValue4
  t22 := Tryd.underlying22
  a22 := Tryd.isAgg22
  z22 := Tryd.sizeOf22
  v22 := Tryd.zeroValue22
  i3 := by kernel_rfl }
def RetMine (w : World) (xs : List Int) (e : Ending) (w' : World) : Prop := ∃ v, e = .returned v ∧ Mine w' w.heap.size v xs ∧ Below w.heap.size w w'
theorem clone_any (A : Option Addr) (c : Nat) (d : List Int) (w : World) (hl : d.length ≤ 100) (hi : Ints w A d) :
    Calls Tryd.prog 19 #[.slice A d.length c] w (RetMine w d) := by
  by_cases h0 : 0 < d.length
  · obtain ⟨b, off, rfl, hb, hcs⟩ := hi h0
    have h : Calls Tryd.prog 19 #[.slice (some ⟨b, off, none⟩) d.length c] w _ := Any.slices_Clone_int cloneLays b off d.length c d w (Nat.le_refl _) (by omega) hcs
    refine h.mono ?_
    rintro e w' ⟨v', rfl, ho, _, hbel⟩
    rw [List.take_length] at ho
    exact ⟨v', rfl, ho, hbel⟩
  · have hd : d = [] := List.eq_nil_of_length_eq_zero (by omega)
    subst hd
    rcases A with _ | a
    · have h : Calls Tryd.prog 19 #[.slice none 0 c] w _ := Any.slices_Clone_int_nil cloneLays 0 c w
      refine h.mono ?_
      rintro e w' ⟨rfl, rfl⟩
      exact ⟨_, rfl, Mine.nil _ _, Below.refl _ _⟩
    · have h : Calls Tryd.prog 19 #[.slice (some a) 0 c] w _ := Any.slices_Clone_int_zero cloneLays a c w
      refine h.mono ?_
      rintro e w' ⟨v', rfl, ho, _, hbel⟩
      exact ⟨v', rfl, ho, hbel⟩

theorem withinB_iff (x : Int) (n : Nat) : withinB x n = true ↔ 0 ≤ x ∧ x < n := by simp [withinB]

theorem below_setCells {B g : Nat} (h : B ≤ g) : ∀ (vs : List Value) (o : Nat) (a w : World), Below B a w → Below B a (w.setCells g o vs)
  | [], _, _, _, hb => hb
  | v :: r, o, a, w, hb => by rw [World.setCells]; exact below_setCells h r (o + 1) a _ (hb.setCell (p := ⟨g, o, none⟩) h v)

theorem deleted_ints (d : List Int) (k : Nat) (hk : k < d.length) (g : Nat) (w1 : World) (q : Nat) (hg : g < w1.heap.size) (hc : ∀ j, j < d.length → w1.cell? ⟨g, 0 + j, none⟩ = some (.int .i64 (d.getD j 0))) :
    Ints ((w1.drewN q).setCells g 0 (((d.take d.length).take k ++ (d.take d.length).drop (k + 1) ++ List.replicate (k + 1 - k) 0).map (Value.int .i64))) (some ⟨g, 0, none⟩) (d.eraseIdx k) := by
  have hlen : ((d.take d.length).take k ++ (d.take d.length).drop (k + 1) ++ List.replicate (k + 1 - k) (0 : Int)).length = d.length := by simp; omega
  intro hp
  have hel : (d.eraseIdx k).length = d.length - 1 := List.length_eraseIdx_of_lt hk
  refine ⟨g, 0, rfl, ?_, fun i hi => ?_⟩
  · have : ∀ (vs : List Value) (o : Nat) (W : World), (W.setCells g o vs).heap.size = W.heap.size := by
      intro vs
      induction vs with
      | nil => intro o W; rfl
      | cons v r ih => intro o W; rw [World.setCells, ih]; simp [World.setCell]
    rw [this]; exact hg
  · have h := World.cell?_setCells_in g (((d.take d.length).take k ++ (d.take d.length).drop (k + 1) ++ List.replicate (k + 1 - k) 0).map (Value.int .i64)) 0 (w1.drewN q) (fun j hj => by
      rw [List.length_map, hlen] at hj
      show (w1.cell? _).isSome = true
      rw [hc j hj]; rfl) i (by rw [List.length_map, hlen]; omega)
    rw [h, List.getElem_map, show (d.eraseIdx k).getD i 0 = (d.eraseIdx k)[i] from by simp [List.getD, hi]]
    congr 2
    rw [List.getElem_append_left (by simp; omega)]
    simp only [List.take_length, List.eraseIdx_eq_take_drop_succ]

end Go.Proofs.YthabimjmdnhomaaDoor.Sh
