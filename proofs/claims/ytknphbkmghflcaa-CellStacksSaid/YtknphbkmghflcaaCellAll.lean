/-
  What cell.all answers of any cells, with cell.Right and with the function literal of cell.Stack; nothing that was there is written. Condition: the slices are no longer than an int can say.
-/
import Derived.Test.YtknphbkmghflcaaCellMake
namespace Go.Proofs.Ytknphbkmghflcaa.Sh
open Go.RowKit
set_option linter.unusedVariables false

/-- A cell as two lists: its axes and its numbers. -/
abbrev Two := List Int × List Int
/-- A slice of cells, nil let in. -/
def Cells (w : World) (A : Option Addr) (L : List Two) : Prop :=
  0 < L.length → ∃ b off, A = some ⟨b, off, none⟩ ∧ b < w.heap.size ∧ ∀ i (h : i < L.length), ∃ Ai ci Bi ei, w.cell? ⟨b, off + 2 * i, none⟩ = some (.slice Ai L[i].1.length ci) ∧ w.cell? ⟨b, off + 2 * i + 1, none⟩ = some (.slice Bi L[i].2.length ei) ∧ Ints w Ai L[i].1 ∧ Ints w Bi L[i].2
theorem Cells.below {w w' : World} {A : Option Addr} {L : List Two} (h : Cells w A L) (hb : Below w.heap.size w w') : Cells w' A L := by
  intro hl
  obtain ⟨b, off, e, hlt, hc⟩ := h hl
  refine ⟨b, off, e, Nat.lt_of_lt_of_le hlt hb.size, fun i hi => ?_⟩
  obtain ⟨Ai, ci, Bi, ei, h1, h2, h3, h4⟩ := hc i hi
  exact ⟨Ai, ci, Bi, ei, (hb.cell (p := ⟨b, off + 2 * i, none⟩) hlt).trans h1, (hb.cell (p := ⟨b, off + 2 * i + 1, none⟩) hlt).trans h2, h3.below hb, h4.below hb⟩
def SmallL (L : List Two) : Prop := ∀ x ∈ L, x.1.length ≤ 10 ∧ x.2.length ≤ 200

theorem all_take_snoc (p : Two → Bool) (L : List Two) (k : Nat) (h : k < L.length) : (L.take (k + 1)).all p = ((L.take k).all p && p L[k]) := by
  rw [List.take_succ_eq_append_getElem h, List.all_append, List.all_cons, List.all_nil, Bool.and_true]
theorem all_bad (p : Two → Bool) (L : List Two) (k : Nat) (h : k < L.length) (hp : p L[k] = false) : L.all p = false := by
  rw [Bool.eq_false_iff]
  intro ha
  rw [List.all_eq_true] at ha
  rw [ha _ (List.getElem_mem h)] at hp
  cases hp
def pR (x : Two) : Bool := cellB x.1 x.2.length
def pD (d : List Int) (x : Two) : Bool := decide (d = x.1)
set_option maxHeartbeats 2000000 in
theorem allRight_any (A : Option Addr) (c : Nat) (L : List Two) (w : World) (hL : L.length ≤ 70) (hs : SmallL L) (hi : Cells w A L) :
    Calls Try.prog 39 #[.slice A L.length c, .func (.func 13) #[] #[]] w fun e w' => e = .returned (.bool (L.all pR)) ∧ Below w.heap.size w w' := by
  have HI := Lib.hid hi
  have HS := Lib.hid hs
  clear hi hs
  go_enter Try.func39, Try.ntmps39
  go_wp2
  go_loopw [9] (fun j wr => ∃ k : Nat, k ≤ L.length ∧ j = .int .i64 (k : Int) ∧ (L.take k).all pR = true ∧ Below w.heap.size w wr) (fun j _ => L.length - (intOf j).toNat)
  case atStart => exact ⟨0, Nat.zero_le _, rfl, by simp, Below.refl _ _⟩
  case round =>
    obtain ⟨k, hk, rfl, hall, hbel⟩ := hrel
    have HA := Lib.hid hall
    have HB := Lib.hid hbel
    clear hall
    by_cases hlt : k < L.length
    · obtain ⟨b, off, rfl, hb, hcs⟩ := HI.out.below hbel (by omega)
      obtain ⟨Ai, ci, Bi, ei, h1, h2, h3, h4⟩ := hcs k hlt
      rw [Nat.mul_comm 2 k] at h1 h2
      have hsm := HS.out L[k] (List.getElem_mem hlt)
      have hT := Lib.hid (all_take_snoc pR L k hlt)
      have hbad := fun h => Lib.hid (all_bad pR L k hlt h)
      have i0 : (0 : Int) ≤ (k : Int) := by omega
      have i1 : (k : Int) < (L.length : Int) := by omega
      have H3 := Lib.hid h3
      have H4 := Lib.hid h4
      clear hcs hbel h3 h4
      generalize hx : L[k] = x at *
      obtain ⟨d, v⟩ := x
      have HX := Lib.hid hx
      clear hx
      simp only at h1 h2 hsm
      have LB := Lib.hid (HB.out.alloc HB.out.size (.cells #[.slice Ai d.length ci, .slice Bi v.length ei] 25))
      have D1 := Lib.hid (H3.out.below (w' := wr.alloc (.cells #[.slice Ai d.length ci, .slice Bi v.length ei] 25)) (below_box (Below.refl _ _)))
      by_cases hp : pR (d, v) = true
      · have HP := Lib.hid hp
        clear hp hbad
        go_wp2_with fail
        refine (cright_yes _ _ d _ _ _ _ (by unfold maxLen; omega) D1.out HP.out).mono ?_
        rintro e w2 ⟨rfl, hb2⟩
        have L2 := Lib.hid (below_next LB.out hb2)
        clear hb2
        go_wp2
        go_roundw
        case rel => exact ⟨k + 1, by omega, by go_num, by rw [hT.out, HA.out]; exact HP.out, L2.out⟩
        case measure => simp [intOf]; omega
      · have HP := Lib.hid (show pR (d, v) = false by simpa using hp)
        have HZ := hbad HP.out
        clear hp hbad
        go_wp2_with fail
        refine (cright_no _ _ d _ _ _ _ (by unfold maxLen; omega) D1.out HP.out).mono ?_
        rintro e w2 ⟨rfl, hb2⟩
        have L2 := Lib.hid (below_next LB.out hb2)
        clear hb2
        go_wp2
        go_ret
        exact ⟨ret_bool HZ.out.symm, L2.out⟩
    · obtain rfl : k = L.length := by omega
      have hv := HA.out
      rw [List.take_length] at hv
      have HV := Lib.hid hv
      clear hv
      go_wp2
      go_ret
      exact ⟨ret_bool HV.out.symm, hbel⟩
theorem box_read {w : World} {g : Nat} {x y : Value} (h : Box w g x y) {o : Obj} : (w.alloc o).cell? ⟨g, 0, none⟩ = some x := (h.alloc o).c0
set_option maxHeartbeats 1000000 in
theorem alike_call (g : Nat) (A0 : Option Addr) (c0 : Nat) (d0 : List Int) (y : Value) (Ai : Option Addr) (ci : Nat) (d : List Int) (Bi : Option Addr) (m ei : Nat) (b : Bool) (w : World) (hb : decide (d0 = d) = b) (h0 : d0.length ≤ 100) (h1 : d.length ≤ 100) (hbox : Box w g (.slice A0 d0.length c0) y) (i0 : Ints w A0 d0) (i1 : Ints w Ai d) :
    Calls Try.prog 40 #[.agg #[.slice Ai d.length ci, .slice Bi m ei], .pointer (some ⟨g, 0, none⟩)] w fun e w' => e = .returned (.bool b) ∧ Below w.heap.size w w' := by
  have hB : Below w.heap.size w (w.alloc (.cells #[.slice Ai d.length ci, .slice Bi m ei] 25)) := below_box (Below.refl _ _)
  have I0 := Lib.hid (i0.below hB)
  have I1 := Lib.hid (i1.below hB)
  have q0 : (w.alloc (.cells #[.slice Ai d.length ci, .slice Bi m ei] 25)).cell? ⟨g, 0, none⟩ = some (.slice A0 d0.length c0) := (hbox.alloc _).c0
  have q1 : w.cell? ⟨g, 0, none⟩ = some (.slice A0 d0.length c0) := hbox.c0
  have hg := hbox.lt
  have HBB := Lib.hid hb
  have LB := Lib.hid hB
  clear i0 i1 hbox hb hB
  go_enter Try.func40, Try.ntmps40
  go_wp2_with fail
  refine (same_any _ _ d0 _ _ d _ (by unfold maxLen; omega) (by unfold maxLen; omega) I0.out I1.out).mono ?_
  rintro e w1 ⟨rfl, n, rfl⟩
  rw [HBB.out]
  go_wp2
  go_ret
  exact ⟨rfl, below_drewN LB.out n⟩
set_option maxHeartbeats 2000000 in
theorem allAlike_any (A : Option Addr) (c : Nat) (L : List Two) (g : Nat) (A0 : Option Addr) (c0 : Nat) (d0 : List Int) (y : Value) (w : World) (hL : L.length ≤ 70) (hs : SmallL L) (hi : Cells w A L) (h0 : d0.length ≤ 100) (hbox : Box w g (.slice A0 d0.length c0) y) (i0 : Ints w A0 d0) :
    Calls Try.prog 39 #[.slice A L.length c, .func (.func 40) #[] #[.pointer (some ⟨g, 0, none⟩)]] w fun e w' => e = .returned (.bool (L.all (pD d0))) ∧ Below w.heap.size w w' := by
  have HI := Lib.hid hi
  have HS := Lib.hid hs
  clear hi hs
  have HBX := Lib.hid hbox
  have HI0 := Lib.hid i0
  clear hbox i0
  go_enter Try.func39, Try.ntmps39
  go_wp2
  go_loopw [9] (fun j wr => ∃ k : Nat, k ≤ L.length ∧ j = .int .i64 (k : Int) ∧ (L.take k).all (pD d0) = true ∧ Below w.heap.size w wr) (fun j _ => L.length - (intOf j).toNat)
  case atStart => exact ⟨0, Nat.zero_le _, rfl, by simp, Below.refl _ _⟩
  case round =>
    obtain ⟨k, hk, rfl, hall, hbel⟩ := hrel
    have HA := Lib.hid hall
    have HB := Lib.hid hbel
    clear hall
    by_cases hlt : k < L.length
    · obtain ⟨b, off, rfl, hb, hcs⟩ := HI.out.below hbel (by omega)
      obtain ⟨Ai, ci, Bi, ei, h1, h2, h3, h4⟩ := hcs k hlt
      rw [Nat.mul_comm 2 k] at h1 h2
      have hsm := HS.out L[k] (List.getElem_mem hlt)
      have hT := Lib.hid (all_take_snoc (pD d0) L k hlt)
      have hbad := fun h => Lib.hid (all_bad (pD d0) L k hlt h)
      have i0 : (0 : Int) ≤ (k : Int) := by omega
      have i1 : (k : Int) < (L.length : Int) := by omega
      have H3 := Lib.hid h3
      have H4 := Lib.hid h4
      clear hcs hbel h3 h4
      generalize hx : L[k] = x at *
      obtain ⟨d, v⟩ := x
      have HX := Lib.hid hx
      clear hx
      simp only at h1 h2 hsm
      have LB := Lib.hid (HB.out.alloc HB.out.size (.cells #[.slice Ai d.length ci, .slice Bi v.length ei] 25))
      have D1 := Lib.hid (H3.out.below (w' := wr.alloc (.cells #[.slice Ai d.length ci, .slice Bi v.length ei] 25)) (below_box (Below.refl _ _)))
      have KB := Lib.hid ((HBX.out.below HB.out HBX.out.lt).alloc (.cells #[.slice Ai d.length ci, .slice Bi v.length ei] 25))
      have KI := Lib.hid (HI0.out.below LB.out)
      by_cases hp : (pD d0) (d, v) = true
      · have HP := Lib.hid hp
        clear hp hbad
        go_wp2_with fail
        refine (alike_call g A0 c0 d0 y _ _ d _ _ _ true _ HP.out h0 (by omega) KB.out KI.out D1.out).mono ?_
        rintro e w2 ⟨rfl, hb2⟩
        have L2 := Lib.hid (below_next LB.out hb2)
        clear hb2
        go_wp2
        go_roundw
        case rel => exact ⟨k + 1, by omega, by go_num, by rw [hT.out, HA.out]; exact HP.out, L2.out⟩
        case measure => simp [intOf]; omega
      · have HP := Lib.hid (show (pD d0) (d, v) = false by simpa using hp)
        have HZ := hbad HP.out
        clear hp hbad
        go_wp2_with fail
        refine (alike_call g A0 c0 d0 y _ _ d _ _ _ false _ HP.out h0 (by omega) KB.out KI.out D1.out).mono ?_
        rintro e w2 ⟨rfl, hb2⟩
        have L2 := Lib.hid (below_next LB.out hb2)
        clear hb2
        go_wp2
        go_ret
        exact ⟨ret_bool HZ.out.symm, L2.out⟩
    · obtain rfl : k = L.length := by omega
      have hv := HA.out
      rw [List.take_length] at hv
      have HV := Lib.hid hv
      clear hv
      go_wp2
      go_ret
      exact ⟨ret_bool HV.out.symm, hbel⟩
end Go.Proofs.Ytknphbkmghflcaa.Sh
