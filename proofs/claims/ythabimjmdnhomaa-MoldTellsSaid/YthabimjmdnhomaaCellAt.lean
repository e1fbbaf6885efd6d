/-
  What cell.Same, cell.At, riffleref03.Same and riffleref03.At answer for any cells and places; nothing that was there is written. Condition: the slices are no longer than an int can say.
-/
import Derived.Test.YthabimjmdnhomaaCellTell
namespace Go.Proofs.Ythabimjmdnhomaa.Sh
open Go.RowKit
set_option linter.unusedVariables false

/-- The world behind the boxing of a cell. -/
theorem boxed (w : World) (x y : Value) : ((w.alloc (.cells #[x, y] 25)).cell? ⟨w.heap.size, 0, none⟩ = some x ∧ (w.alloc (.cells #[x, y] 25)).cell? ⟨w.heap.size, 1, none⟩ = some y) ∧ Below w.heap.size w (w.alloc (.cells #[x, y] 25)) :=
  ⟨⟨by rw [World.cell?_alloc_at _ _ _ _ (by simp)]; rfl, by rw [World.cell?_alloc_at _ _ _ _ (by simp)]; rfl⟩, (Below.refl _ w).alloc (Nat.le_refl _) _⟩
theorem below_box {w w1 : World} {o : Obj} (h : Below (w.alloc o).heap.size (w.alloc o) w1) : Below w.heap.size w w1 := ((Below.refl _ w).alloc (Nat.le_refl _) o).trans (h.mono (by simp))

def sameB (d v e u : List Int) : Bool := decide (d = e) && decide (v = u)
section
variable (A : Option Addr) (c : Nat) (a : List Int) (B : Option Addr) (d : Nat) (b : List Int) (w : World) (hl : a.length ≤ maxLen) (hl2 : b.length ≤ maxLen) (ha : Ints w A a) (hb : Ints w B b)
include hl hl2 ha hb
theorem same_yes (h : a = b) : Calls Try.prog 61 #[.slice A a.length c, .slice B b.length d] w fun e w' => e = .returned (.bool true) ∧ Below w.heap.size w w' :=
  (same_any A c a B d b w hl hl2 ha hb).mono fun _ _ ⟨e, n, q⟩ => ⟨by rw [e, decide_eq_true h], by rw [q]; exact below_drewN (Below.refl _ _) n⟩
theorem same_no (h : ¬ a = b) : Calls Try.prog 61 #[.slice A a.length c, .slice B b.length d] w fun e w' => e = .returned (.bool false) ∧ Below w.heap.size w w' :=
  (same_any A c a B d b w hl hl2 ha hb).mono fun _ _ ⟨e, n, q⟩ => ⟨by rw [e, decide_eq_false h], by rw [q]; exact below_drewN (Below.refl _ _) n⟩
theorem refSame_yes (h : a = b) : Calls Try.prog 34 #[.slice A a.length c, .slice B b.length d] w fun e w' => e = .returned (.bool true) ∧ Below w.heap.size w w' :=
  (refSame_any A c a B d b w hl hl2 ha hb).mono fun _ _ ⟨e, n, q⟩ => ⟨by rw [e, decide_eq_true h], by rw [q]; exact below_drewN (Below.refl _ _) n⟩
theorem refSame_no (h : ¬ a = b) : Calls Try.prog 34 #[.slice A a.length c, .slice B b.length d] w fun e w' => e = .returned (.bool false) ∧ Below w.heap.size w w' :=
  (refSame_any A c a B d b w hl hl2 ha hb).mono fun _ _ ⟨e, n, q⟩ => ⟨by rw [e, decide_eq_false h], by rw [q]; exact below_drewN (Below.refl _ _) n⟩
theorem nums_b : Calls Try.prog 23 #[.slice A a.length c, .slice B b.length d] w fun e w' => e = .returned (.bool (decide (a = b))) ∧ Below w.heap.size w w' :=
  (nums_any A c a B d b w hl hl2 ha hb).mono fun _ _ ⟨e, n, q⟩ => ⟨e, by rw [q]; exact below_drewN (Below.refl _ _) n⟩
end

/-- The two boxes of cells of a call that takes two. -/
theorem boxed2 (w : World) (x y z u : Value) (w1 : World) (h : Below ((w.alloc (.cells #[x, y] 25)).alloc (.cells #[z, u] 25)).heap.size ((w.alloc (.cells #[x, y] 25)).alloc (.cells #[z, u] 25)) w1) :
    w1.cell? ⟨w.heap.size, 1, none⟩ = some y ∧ w1.cell? ⟨w.heap.size + 1, 1, none⟩ = some u ∧ Below w.heap.size w w1 := by
  have h1 := (boxed w x y).1
  have h2 := (boxed (w.alloc (.cells #[x, y] 25)) z u).1
  rw [show (w.alloc (.cells #[x, y] 25)).heap.size = w.heap.size + 1 from by simp] at h2
  refine ⟨?_, (keepC h h2).2, below_box (below_box h)⟩
  rw [h.cell (p := ⟨w.heap.size, 1, none⟩) (by simp; omega), World.cell?_alloc_past _ _ _ (by simp)]
  exact h1.2

set_option maxHeartbeats 1000000 in
theorem rsame_any (A : Option Addr) (c : Nat) (d : List Int) (B : Option Addr) (c2 : Nat) (v : List Int) (A' : Option Addr) (c' : Nat) (e : List Int) (B' : Option Addr) (c2' : Nat) (u : List Int) (w : World)
    (hd : d.length ≤ maxLen) (hv : v.length ≤ maxLen) (he : e.length ≤ maxLen) (hu : u.length ≤ maxLen) (id : Ints w A d) (iv : Ints w B v) (ie : Ints w A' e) (iu : Ints w B' u) :
    Calls Try.prog 17 #[.agg #[.slice A d.length c, .slice B v.length c2], .agg #[.slice A' e.length c', .slice B' u.length c2']] w fun r w' => r = .returned (.bool (sameB d v e u)) ∧ Below w.heap.size w w' := by
  have hb2 : Below w.heap.size w ((w.alloc (.cells #[.slice A d.length c, .slice B v.length c2] 25)).alloc (.cells #[.slice A' e.length c', .slice B' u.length c2'] 25)) := below_box (below_box (Below.refl _ _))
  have jd := Lib.hid (id.below hb2)
  have je := Lib.hid (ie.below hb2)
  by_cases h : d = e
  · have H := Lib.hid h
    have HS : Hid (sameB d v e u = decide (v = u)) := Lib.hid (by simp [sameB, h])
    have IV := Lib.hid iv
    have IU := Lib.hid iu
    clear h id iv ie iu hb2
    go_enter Try.func17, Try.ntmps17
    go_wp2_with fail
    refine (refSame_yes _ _ d _ _ e _ hd he jd.out je.out H.out).mono ?_
    rintro r w1 ⟨rfl, hb1⟩
    obtain ⟨h1, h2, h3⟩ := boxed2 w _ _ _ _ w1 hb1
    have kv := Lib.hid (IV.out.below h3)
    have ku := Lib.hid (IU.out.below h3)
    have H3 := Lib.hid h3
    clear hb1 h3
    go_wp2_with fail
    refine (nums_b _ _ v _ _ u _ hv hu kv.out ku.out).mono ?_
    rintro r w2 ⟨rfl, hb2⟩
    have H4 := Lib.hid (below_next H3.out hb2)
    clear hb2
    go_wp2
    go_ret
    exact ⟨ret_bool HS.out.symm, H4.out⟩
  · have H := Lib.hid h
    have HS : Hid (sameB d v e u = false) := Lib.hid (by simp [sameB, h])
    clear h id iv ie iu hb2
    go_enter Try.func17, Try.ntmps17
    go_wp2_with fail
    refine (refSame_no _ _ d _ _ e _ hd he jd.out je.out H.out).mono ?_
    rintro r w1 ⟨rfl, hb1⟩
    have H3 := Lib.hid (boxed2 w _ _ _ _ w1 hb1).2.2
    clear hb1
    go_wp2
    go_ret
    exact ⟨ret_bool HS.out.symm, H3.out⟩


/-- Is there a number at a place of a cell, and which? -/
def atB (d v p : List Int) : Bool := cellB d v.length && decide (0 ≤ idxI d p)
def atI (d v p : List Int) : Int := if atB d v p = true then v.getD (idxI d p).toNat 0 else 0
theorem atB_not {d v p : List Int} (h : cellB d v.length = false) : atB d v p = false ∧ atI d v p = 0 := by simp [atB, atI, h]
theorem atB_out {d v p : List Int} (h : ¬ 0 ≤ idxI d p) : atB d v p = false ∧ atI d v p = 0 := by simp [atB, atI, h]
theorem atB_is {d v p : List Int} (h : cellB d v.length = true) (hi : 0 ≤ idxI d p) : atB d v p = true ∧ atI d v p = v.getD (idxI d p).toNat 0 := by simp [atB, atI, h, hi]
theorem cellB_parts {d : List Int} {n : Nat} (h : cellB d n = true) : rightB d = true ∧ (n : Int) = sizeI d := by simpa [cellB] using h
theorem idx_lt {d p : List Int} {n : Nat} (h : cellB d n = true) (hi : 0 ≤ idxI d p) : idxI d p < n := by
  obtain ⟨hr, hn⟩ := cellB_parts h
  unfold idxI at hi ⊢
  split at hi
  · rename_i hh
    rw [if_pos hh]
    have := (hor_bd d p hh.2).2
    have hs : sizeI d = prod d := by simp [sizeI, hr]
    omega
  · omega

section
variable (A : Option Addr) (c : Nat) (d : List Int) (B : Option Addr) (n c2 : Nat) (w : World) (hl : d.length ≤ maxLen) (hi : Ints w A d)
include hl hi
theorem cright_yes (h : cellB d n = true) : Calls Try.prog 22 #[.agg #[.slice A d.length c, .slice B n c2]] w fun e w' => e = .returned (.bool true) ∧ Below w.heap.size w w' :=
  (cright_any A c d B n c2 w hl hi).mono fun _ _ ⟨a, b⟩ => ⟨by rw [a, h], b⟩
theorem cright_no (h : cellB d n = false) : Calls Try.prog 22 #[.agg #[.slice A d.length c, .slice B n c2]] w fun e w' => e = .returned (.bool false) ∧ Below w.heap.size w w' :=
  (cright_any A c d B n c2 w hl hi).mono fun _ _ ⟨a, b⟩ => ⟨by rw [a, h], b⟩
theorem rright_yes (h : cellB d n = true) : Calls Try.prog 27 #[.agg #[.slice A d.length c, .slice B n c2]] w fun e w' => e = .returned (.bool true) ∧ Below w.heap.size w w' :=
  (rright_any A c d B n c2 w hl hi).mono fun _ _ ⟨a, b⟩ => ⟨by rw [a, h], b⟩
theorem rright_no (h : cellB d n = false) : Calls Try.prog 27 #[.agg #[.slice A d.length c, .slice B n c2]] w fun e w' => e = .returned (.bool false) ∧ Below w.heap.size w w' :=
  (rright_any A c d B n c2 w hl hi).mono fun _ _ ⟨a, b⟩ => ⟨by rw [a, h], b⟩
end

set_option maxHeartbeats 2000000 in
theorem rat_any (A : Option Addr) (c : Nat) (d : List Int) (B : Option Addr) (c2 : Nat) (v : List Int) (C : Option Addr) (c3 : Nat) (p : List Int) (w : World)
    (hd : d.length ≤ maxLen) (hv : v.length ≤ maxLen) (hp : p.length ≤ maxLen) (id : Ints w A d) (iv : Ints w B v) (ip : Ints w C p) :
    Calls Try.prog 48 #[.agg #[.slice A d.length c, .slice B v.length c2], .slice C p.length c3] w fun r w' => r = .returned (.tuple #[.int .i64 (atI d v p), .bool (atB d v p)]) ∧ Below w.heap.size w w' := by
  unfold maxLen at hv hp
  have hS := boxed w (.slice A d.length c) (.slice B v.length c2)
  have jd := Lib.hid (id.below hS.2)
  have HS := Lib.hid hS
  have ID := Lib.hid id
  have IV := Lib.hid iv
  have IP := Lib.hid ip
  clear id iv ip hS
  by_cases hR : cellB d v.length = true
  · have HR := Lib.hid hR
    obtain ⟨h3, hall, h64⟩ := rightB_all (cellB_parts hR).1
    have HA := Lib.hid hall
    clear hall hR
    by_cases he : p.length = d.length
    · have hev : ((p.length : Int) != (d.length : Int)) = false := by simp [he]
      have HE := Lib.hid he
      have hle : d.length ≤ p.length := by omega
      have hle2 : p.length ≤ d.length := by omega
      clear he
      go_enter Try.func48, Try.ntmps48
      go_wp2_with fail
      refine (rright_yes _ _ d _ _ _ _ hd jd.out HR.out).mono ?_
      rintro r w1 ⟨rfl, hb1⟩
      obtain ⟨k0, k1⟩ := keepC hb1 HS.out.1
      have H1 := Lib.hid (HS.out.2.trans (hb1.mono (by simp)))
      clear hb1
      go_wp2
      go_loopw [6, 7] (fun s i wr => ∃ k n : Nat, k ≤ p.length ∧ i = .int .i64 k ∧ inB (d.take k) (p.take k) = true ∧ s = .int .i64 (hor (d.take k) (p.take k) 0) ∧ wr = w1.drewN n)
        (fun _ i _ => p.length - (intOf i).toNat)
      case atStart => exact ⟨0, 0, Nat.zero_le _, rfl, rfl, rfl, rfl⟩
      case round =>
        obtain ⟨k, n, hk, rfl, hin, rfl, rfl⟩ := hrel
        have HI := Lib.hid hin
        clear hin
        by_cases hlt : k < p.length
        · obtain ⟨b1, o1, rfl, hbb1, hc1⟩ := (ID.out.below H1.out) (by omega)
          obtain ⟨b2, o2, rfl, hbb2, hc2⟩ := (IP.out.below H1.out) (by omega)
          have h1 : (w1.drewN n).cell? ⟨b1, o1 + k, none⟩ = some (.int .i64 (d.getD k 0)) := hc1 k (by omega)
          have h2 : (w1.drewN n).cell? ⟨b2, o2 + k, none⟩ = some (.int .i64 (p.getD k 0)) := hc2 k (by omega)
          have g0 : (w1.drewN n).cell? ⟨w.heap.size, 0, none⟩ = some (.slice (some ⟨b1, o1, none⟩) d.length c) := k0
          have g1 : (w1.drewN n).cell? ⟨w.heap.size, 1, none⟩ = some (.slice B v.length c2) := k1
          have hti := Lib.hid (inB_take d p k HE.out (by omega))
          have hth := Lib.hid (hor_take d p k HE.out (by omega))
          have hbad := fun h => Lib.hid (idxI_bad (d := d) (p := p) (k := k) HE.out (by omega) h)
          have hh := hor_bd _ _ HI.out
          have hpb := prod_bd (d.take k) (by rw [List.all_eq_true]; intro x hx; exact List.all_eq_true.1 HA.out x (List.mem_of_mem_take hx))
          have hlk : (d.take k).length ≤ k := List.length_take_le _ _
          have hp1 : prod (d.take k) ≤ 4096 := hpb.2.2.1 (by omega)
          have hdk := okAx_at HA.out k (by omega)
          have i0 : (0 : Int) ≤ (k : Int) := by omega
          have i1 : (k : Int) < (d.length : Int) := by omega
          have i2 : (k : Int) < (p.length : Int) := by omega
          have hs0 := hh.1
          have hs1 : hor (d.take k) (p.take k) 0 ≤ 4096 := by omega
          clear hc1 hc2 hpb hlk hh hp1 k0 k1
          generalize hx : d.getD k 0 = x at *
          generalize hy : p.getD k 0 = y at *
          generalize hq : hor (d.take k) (p.take k) 0 = q at *
          have HX := Lib.hid hx
          have HY := Lib.hid hy
          clear hx hy hq
          generalize hw1 : w1.drewN n = w2 at *
          have HW := Lib.hid hw1
          clear hw1
          have hm := mul_bd hs0 hs1 hdk.1 hdk.2
          by_cases hy0 : 0 ≤ y
          · have hyd : decide (y < 0) = false := by simp; omega
            by_cases hy1 : y < x
            · clear hbad
              go_wp2_with fail
              go_quiet (fail)
              revert nq
              intro nq0
              go_wp2_with fail
              go_quiet (fail)
              go_wp2
              go_roundw
              case rel => exact ⟨k + 1, n + (nq0 + nq), by omega, by go_num, by rw [hti.out, HI.out]; simp [hy0, hy1], by rw [hth.out], by rw [← HW.out, World.drewN_drewN]⟩
              case measure => simp [intOf]; omega
            · have HB := hbad (by omega)
              have HZ := Lib.hid (atB_out (d := d) (v := v) (p := p) (by rw [HB.out]; decide))
              clear hbad
              go_wp2_with fail
              go_quiet (fail)
              go_wp2
              go_ret2
              exact ⟨ret_two HZ.out.2.symm HZ.out.1.symm, by rw [← HW.out, World.drewN_drewN]; exact below_drewN H1.out _⟩
          · have HB := hbad (by omega)
            have HZ := Lib.hid (atB_out (d := d) (v := v) (p := p) (by rw [HB.out]; decide))
            have hy2 : y < 0 := by omega
            clear hbad hy0
            go_wp2_with fail
            go_quiet (fail)
            go_wp2
            go_ret2
            exact ⟨ret_two HZ.out.2.symm HZ.out.1.symm, by rw [← HW.out, World.drewN_drewN]; exact below_drewN H1.out _⟩
        · obtain rfl : k = p.length := by omega
          have hin := HI.out
          rw [List.take_length, List.take_of_length_le (show d.length ≤ p.length by omega)] at *
          have hix : idxI d p = hor d p 0 := by simp [idxI, (cellB_parts HR.out).1, hin]
          have h0 := (hor_bd d p hin).1
          have hlt2 : hor d p 0 < v.length := by rw [← hix]; exact idx_lt HR.out (by rw [hix]; exact h0)
          have HZ := Lib.hid (atB_is (p := p) HR.out (by rw [hix]; exact h0))
          have HX := Lib.hid hix
          obtain ⟨b, off, rfl, hb, hcs⟩ := IV.out.below H1.out (by omega)
          have hck : (w1.drewN n).cell? ⟨b, off + (hor d p 0).toNat, none⟩ = _ := hcs (hor d p 0).toNat (by omega)
          have g0 : (w1.drewN n).cell? ⟨w.heap.size, 0, none⟩ = some (.slice A d.length c) := k0
          have g1 : (w1.drewN n).cell? ⟨w.heap.size, 1, none⟩ = some (.slice (some ⟨b, off, none⟩) v.length c2) := k1
          clear hin hix hcs k0 k1
          rw [HX.out] at HZ
          generalize v.getD (hor d p 0).toNat 0 = z at *
          generalize hor d p 0 = q at *
          go_wp2
          go_ret2
          exact ⟨ret_two HZ.out.2.symm HZ.out.1.symm, below_drewN H1.out _⟩
    · have hev : ((p.length : Int) != (d.length : Int)) = true := by simp; omega
      have HB := idxI_len (d := d) he
      have HZ := Lib.hid (atB_out (d := d) (v := v) (p := p) (by rw [HB]; decide))
      clear he HB
      go_enter Try.func48, Try.ntmps48
      go_wp2_with fail
      refine (rright_yes _ _ d _ _ _ _ hd jd.out HR.out).mono ?_
      rintro r w1 ⟨rfl, hb1⟩
      obtain ⟨k0, k1⟩ := keepC hb1 HS.out.1
      have H1 := Lib.hid (HS.out.2.trans (hb1.mono (by simp)))
      clear hb1
      go_wp2
      go_ret2
      exact ⟨ret_two HZ.out.2.symm HZ.out.1.symm, H1.out⟩
  · have HR := Lib.hid (show cellB d v.length = false by simpa using hR)
    have HZ := Lib.hid (atB_not (p := p) HR.out)
    clear hR
    go_enter Try.func48, Try.ntmps48
    go_wp2_with fail
    refine (rright_no _ _ d _ _ _ _ hd jd.out HR.out).mono ?_
    rintro r w1 ⟨rfl, hb1⟩
    have H1 := Lib.hid (HS.out.2.trans (hb1.mono (by simp)))
    clear hb1
    go_wp2
    go_ret2
    exact ⟨ret_two HZ.out.2.symm HZ.out.1.symm, H1.out⟩
end Go.Proofs.Ythabimjmdnhomaa.Sh
