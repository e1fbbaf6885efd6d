/-
  What carve.small, carve.size, carve.shifted and the closures of carve tell; nothing that was there is written. Condition: at most 1000 numbers. What carve.shifted answers: the cell whose number at each place is the one so far behind; nothing that was there is written. Condition: the axes may be. What carve.counted answers: the numbers of each axis, and the cell with as many axes; nothing that was there is written. Condition: at most 100 axes and 1000 numbers. What the program's Take and Drop answer for any two cells; nothing that was there is written. Condition: at most 100 axes and 1000 numbers. What the program's Drop answers for any two cells; nothing that was there is written. Condition: at most 100 axes and 1000 numbers. Moves of the numbers of a cell, one behind the other. Arithmetic alone. What rifflelaw07.lives answers. No condition.
-/
import Derived.Test.YticicfbllhnpcaaPkV
import Derived.Test.YticicfbllhnpcaaPkM
import Derived.IntWalk
import Derived.Test.YticicfbllhnpcaaPkO
import Derived.Deep.RegionHeld3
import Derived.Deep.DeepCutAuto
import Derived.Test.YticicfbllhnpcaaPkP
set_option maxRecDepth 100000
-- CvSmall
namespace Go.Proofs.Yticicfbllhnpcaa.Sh
open Go.RowKit Go.Shelf
set_option linter.unusedVariables false

def sm65 (x : Int) : Int := max (-65) (min x 65)
def smL (v : List Int) : List Int := v.map sm65
theorem map_eq_range (f : Int → Int) (v : List Int) : v.map f = (List.range v.length).map (fun i => f (v.getD i 0)) := by
  apply List.ext_getElem
  · simp
  · intro i h1 h2
    simp at h1
    simp [List.getD, h1]
theorem sm65_bd (x : Int) : -65 ≤ sm65 x ∧ sm65 x ≤ 65 := by unfold sm65; omega
theorem smL_at (v : List Int) (i : Nat) (h : i < v.length) : (smL v).getD i 0 = sm65 (v.getD i 0) := by simp [smL, List.getD, h]
theorem smL_len (v : List Int) : (smL v).length = v.length := by simp [smL]
set_option maxHeartbeats 1000000 in
theorem small_any (A : Option Addr) (c : Nat) (v : List Int) (w : World) (hv : v.length ≤ 1000) (iv : Ints w A v) :
    Calls Try.prog 35 #[.slice A v.length c] w (RetT 3 w (smL v)) := by
  rw [show smL v = (List.range v.length).map (fun i => sm65 (v.getD i 0)) from map_eq_range sm65 v]
  have hmk := fun W => run_make_row' (P := Try.prog) 22 3 (.int .i64 0) 8 Try.underlying22 infoInt rfl .i64 .i64 v.length (by omega) (by omega) W
  have hL := Lib.hid (show Below w.heap.size w (w.alloc (.cells (madeCells #[Value.int .i64 0] v.length) 3)) from below_new _ _)
  have hO := Lib.hid (Own.made w v.length)
  have IV := Lib.hid iv
  clear iv
  obtain ⟨f, hf⟩ : ∃ f : Nat → Int, (fun i => sm65 (v.getD i 0)) = f := ⟨_, rfl⟩
  rw [hf]
  have HF := Lib.hid hf
  clear hf
  go_enter Try.func35, Try.ntmps35
  go_wp2
  go_loopw [11] (fun j wr => ∃ k : Nat, k ≤ v.length ∧ j = .int .i64 (k : Int) ∧ Own wr w.heap.size (fillK f v.length k) ∧ Below w.heap.size w wr) (fun j _ => v.length - (intOf j).toNat)
  case atStart => exact ⟨0, Nat.zero_le _, rfl, by rw [fillK_0]; exact hO.out, hL.out⟩
  case round =>
    obtain ⟨k, hk, rfl, hOw, hB⟩ := hrel
    have OW := Lib.hid hOw
    have LB := Lib.hid hB
    clear hOw hB
    by_cases hlt : k < v.length
    · obtain ⟨b, off, rfl, hb, hcs⟩ := IV.out.below LB.out (by omega)
      have hck := hcs k hlt
      have i0 : (0 : Int) ≤ (k : Int) := by omega
      have i1 : (k : Int) < (v.length : Int) := by omega
      have q0 := OW.out.cell (i := k) (by rw [fillK_length]; exact hlt)
      have q1 := OW.out.frozen k
      have HK := Lib.hid (show f k = sm65 (v.getD k 0) by rw [← HF.out])
      clear hcs hmk
      generalize v.getD k 0 = y at *
      have HS := Lib.hid (show (fillK f v.length k).set k (max (-65) (min y 65)) = fillK f v.length (k + 1) by rw [← fillK_succ f _ k hlt, HK.out]; rfl)
      go_wp2
      go_roundw
      case rel => exact ⟨k + 1, by omega, by go_num, by rw [← HS.out]; exact OW.out.set_ k _, LB.out.setCell (Nat.le_refl _) _⟩
      case measure => simp [intOf]; omega
    · obtain rfl : k = v.length := by omega
      have hw := OW.out
      rw [fillK_n] at hw
      have HW := Lib.hid hw
      have hl : ((List.range v.length).map f).length = v.length := by simp
      have HL := Lib.hid hl
      clear hw hl hmk
      go_wp2
      go_ret
      have hm := HW.out.lens (Nat.le_refl _) (by rw [HL.out]; unfold maxLen; omega)
      rw [HL.out] at hm
      exact ⟨some ⟨w.heap.size, 0, none⟩, v.length, by rw [HL.out]; rfl, by rw [HL.out]; exact hm, LB.out⟩
def absI (x : Int) : Int := max x (-x)
set_option maxHeartbeats 1000000 in
theorem csize_any (x : Int) (w : World) (h : -65 ≤ x) (h2 : x ≤ 65) : Calls Try.prog 43 #[.int .i64 x] w fun e w' => e = .returned (.int .i64 (absI x)) ∧ w = w' := by
  go_enter Try.func43, Try.ntmps43
  go_wp2
  go_ret
  exact ⟨rfl, rfl⟩
/-- A place so far behind, along each axis. -/
def shP (ah p : List Int) : List Int := (List.range p.length).map fun i => p.getD i 0 + ah.getD i 0
theorem shP_len (ah p : List Int) : (shP ah p).length = p.length := by simp [shP]
/-- Numbers from -1000 to 1000. -/
def MidT (l : List Int) : Prop := ∀ i, i < l.length → -1000 ≤ l.getD i 0 ∧ l.getD i 0 ≤ 1000
set_option maxHeartbeats 2000000 in
theorem shifted1_any (A : Option Addr) (c : Nat) (p : List Int) (g : Nat) (B : Option Addr) (c2 : Nat) (ah : List Int) (w : World) (hp : p.length ≤ 1000) (hl : ah.length = p.length) (mp : MidT p) (ma : MidT ah) (ip : Ints w A p) (ia : Ints w B ah) (hg : w.cell? ⟨g, 0, none⟩ = some (.slice B ah.length c2)) :
    Calls Try.prog 60 #[.slice A p.length c, .pointer (some ⟨g, 0, none⟩)] w (RetInts w (shP ah p)) := by
  unfold shP
  have hmk := fun W => run_make_row' (P := Try.prog) 22 3 (.int .i64 0) 8 Try.underlying22 infoInt rfl .i64 .i64 p.length (by omega) (by omega) W
  have hL := Lib.hid (show Below w.heap.size w (w.alloc (.cells (madeCells #[Value.int .i64 0] p.length) 3)) from below_new _ _)
  have hO := Lib.hid (Own.made w p.length)
  have IP := Lib.hid ip
  have IA := Lib.hid ia
  have MP := Lib.hid mp
  have MA := Lib.hid ma
  have HG := Lib.hid hg
  have HL := Lib.hid hl
  have hgl : g < w.heap.size := World.block_lt_of_cell? w _ hg
  have hal : ah.length ≤ p.length := by omega
  have hal2 : p.length ≤ ah.length := by omega
  clear ip ia mp ma hg hl
  obtain ⟨f, hf⟩ : ∃ f : Nat → Int, (fun i => p.getD i 0 + ah.getD i 0) = f := ⟨_, rfl⟩
  rw [hf]
  have HF := Lib.hid hf
  clear hf
  go_enter Try.func60, Try.ntmps60
  go_wp2
  go_loopw [11] (fun j wr => ∃ k : Nat, k ≤ p.length ∧ j = .int .i64 (k : Int) ∧ Own wr w.heap.size (fillK f p.length k) ∧ Below w.heap.size w wr) (fun j _ => p.length - (intOf j).toNat)
  case atStart => exact ⟨0, Nat.zero_le _, rfl, by rw [fillK_0]; exact hO.out, hL.out⟩
  case round =>
    obtain ⟨k, hk, rfl, hOw, hB⟩ := hrel
    have OW := Lib.hid hOw
    have LB := Lib.hid hB
    clear hOw hB
    by_cases hlt : k < p.length
    · obtain ⟨b, off, rfl, hb, hcs⟩ := IP.out (by omega)
      obtain ⟨ba, oa, rfl, hba, hca⟩ := IA.out (by omega)
      have hck := (LB.out.cell (p := ⟨b, off + k, none⟩) hb).trans (hcs k hlt)
      have hak := (LB.out.cell (p := ⟨ba, oa + k, none⟩) hba).trans (hca k (by omega))
      have hgk := (LB.out.cell (p := ⟨g, 0, none⟩) hgl).trans HG.out
      have i0 : (0 : Int) ≤ (k : Int) := by omega
      have i1 : (k : Int) < (p.length : Int) := by omega
      have i2 : (k : Int) < (ah.length : Int) := by omega
      have q0 := OW.out.cell (i := k) (by rw [fillK_length]; exact hlt)
      have q1 := OW.out.frozen k
      have HK := Lib.hid (show f k = p.getD k 0 + ah.getD k 0 by rw [← HF.out])
      have m1 := MP.out k hlt
      have m2 := MA.out k (by omega)
      clear hcs hca hmk
      generalize p.getD k 0 = y at *
      generalize ah.getD k 0 = z at *
      have HS := Lib.hid (show (fillK f p.length k).set k (y + z) = fillK f p.length (k + 1) by rw [← fillK_succ f _ k hlt, HK.out])
      have n1 : b ≠ w.heap.size := by omega
      have n2 : ba ≠ w.heap.size := by omega
      have n3 : g ≠ w.heap.size := by omega
      have i5 : IntKind.i64.wrap (y + z) = y + z := IntWalk.i64_in _ (by omega)
      have KS := Lib.hid (show (wr.setCell ⟨w.heap.size, k, none⟩ (.int .i64 (y + z))).drew.cell? ⟨b, off + k, none⟩ = some (.int .i64 y) ∧ (wr.setCell ⟨w.heap.size, k, none⟩ (.int .i64 (y + z))).drew.cell? ⟨ba, oa + k, none⟩ = some (.int .i64 z) ∧ (wr.setCell ⟨w.heap.size, k, none⟩ (.int .i64 (y + z))).drew.cell? ⟨g, 0, none⟩ = some (.slice (some ⟨ba, oa, none⟩) ah.length c2) from ⟨keep_set hck n1, keep_set hak n2, keep_set hgk n3⟩)
      go_upto_region 5 with (fail)
      go_region_held3 (fun w' => w'.cell? ⟨b, off + k, none⟩ = some (.int .i64 y) ∧ w'.cell? ⟨ba, oa + k, none⟩ = some (.int .i64 z) ∧ w'.cell? ⟨g, 0, none⟩ = some (.slice (some ⟨ba, oa, none⟩) ah.length c2))
        (first
          | with_reducible exact KS.out
          | go_keep)
        (fail)
      clear i5
      go_wp2
      go_roundw
      case rel => exact ⟨k + 1, by omega, by go_num, by rw [← HS.out]; exact OW.out.drew.set_ k _, LB.out.drew.setCell (Nat.le_refl _) _⟩
      case measure => simp [intOf]; omega
    · obtain rfl : k = p.length := by omega
      have hw := OW.out
      rw [fillK_n] at hw
      have HW := Lib.hid hw
      have hl : ((List.range p.length).map f).length = p.length := by simp
      have HL := Lib.hid hl
      clear hw hl hmk
      go_wp2
      go_ret
      exact ⟨some ⟨w.heap.size, 0, none⟩, p.length, by rw [HL.out]; rfl, HW.out.ints, LB.out⟩
end Go.Proofs.Yticicfbllhnpcaa.Sh
-- CvShift
namespace Go.Proofs.Yticicfbllhnpcaa.Sh
open Go.RowKit Go.Shelf
set_option linter.unusedVariables false

theorem shifted1_n (A : Option Addr) (c : Nat) (p : List Int) (n : Nat) (g : Nat) (B : Option Addr) (c2 : Nat) (ah : List Int) (w : World) (hn : p.length = n) (hp : n ≤ 1000) (hl : ah.length = n) (mp : MidT p) (ma : MidT ah) (ip : Ints w A p) (ia : Ints w B ah) (hg : w.cell? ⟨g, 0, none⟩ = some (.slice B ah.length c2)) :
    Calls Try.prog 60 #[.slice A n c, .pointer (some ⟨g, 0, none⟩)] w (RetInts w (shP ah p)) := by
  subst hn
  exact shifted1_any A c p g B c2 ah w hp hl mp ma ip ia hg
theorem dg_mid {d : List Int} {k n : Nat} (hn : sizeI d = n) (hk : k < n) : MidT (dg d (k : Int)) := fun i hi => by
  rw [dg_length] at hi
  have := dg_at_bd hn hk hi
  omega
set_option maxHeartbeats 4000000 in
theorem shifted_any (A : Option Addr) (c : Nat) (d : List Int) (A' : Option Addr) (c' : Nat) (e : List Int) (B' : Option Addr) (c2' : Nat) (u : List Int) (C : Option Addr) (c3 : Nat) (ah : List Int) (n : Nat) (w : World)
    (hR : rightB d = true) (hn : sizeI d = n) (hl : ah.length = d.length) (ma : MidT ah) (id : Ints w A d) (ie : Ints w A' e) (iu : Ints w B' u) (ia : Ints w C ah) (he : e.length ≤ 100) (hu : u.length ≤ 1000) :
    Calls Try.prog 45 #[.slice A d.length c, .agg #[.slice A' e.length c', .slice B' u.length c2'], .slice C ah.length c3] w (RetC1 w d ((List.range n).map fun k : Nat => atI e u (shP ah (dg d (k : Int))))) := by
  have h3 := (rightB_all hR).1
  have HN := Lib.hid hn
  have HR := Lib.hid hR
  have HL := Lib.hid hl
  have MA := Lib.hid ma
  clear hn hR hl ma
  have b1 := below_new w (.cells #[.slice A' e.length c', .slice B' u.length c2'] 25)
  have x1 := Box.new w (.slice A' e.length c') (.slice B' u.length c2')
  have b2 := below_new (w.alloc (.cells #[.slice A' e.length c', .slice B' u.length c2'] 25)) (.cells #[.slice C ah.length c3] 22)
  have x2 : ((w.alloc (.cells #[.slice A' e.length c', .slice B' u.length c2'] 25)).alloc (.cells #[.slice C ah.length c3] 22)).cell? ⟨w.heap.size + 1, 0, none⟩ = some (.slice C ah.length c3) := by rw [World.cell?_alloc_at _ _ _ _ (by simp)]; rfl
  have hb : ((w.alloc (.cells #[.slice A' e.length c', .slice B' u.length c2'] 25)).alloc (.cells #[.slice C ah.length c3] 22)).heap.size = w.heap.size + 1 + 1 := by simp
  have b3 := below_new ((w.alloc (.cells #[.slice A' e.length c', .slice B' u.length c2'] 25)).alloc (.cells #[.slice C ah.length c3] 22)) (.cells #[.slice none 0 0, .slice none 0 0] 25)
  have x3 := Box.new ((w.alloc (.cells #[.slice A' e.length c', .slice B' u.length c2'] 25)).alloc (.cells #[.slice C ah.length c3] 22)) (.slice none 0 0) (.slice none 0 0)
  rw [hb] at x3
  have BC := Lib.hid ((x1.next b2).next b3)
  have FM := Lib.hid ((b3.cell (p := ⟨w.heap.size + 1, 0, none⟩) (by simp)).trans x2)
  have BR := Lib.hid x3
  have L0 := Lib.hid (below_next (below_next b1 b2) b3)
  have ID := Lib.hid (id.below L0.out)
  have IE := Lib.hid (ie.below L0.out)
  have IU := Lib.hid (iu.below L0.out)
  have IA := Lib.hid (ia.below L0.out)
  clear b1 b2 b3 x1 x2 x3 hb id ie iu ia
  obtain ⟨VV, hVV⟩ : ∃ VV, ((List.range n).map fun k : Nat => atI e u (shP ah (dg d (k : Int)))) = VV := ⟨_, rfl⟩
  rw [hVV]
  have HVV := Lib.hid hVV
  clear hVV
  obtain ⟨q0, q1, -, -⟩ := BC.out.all
  go_enter Try.func45, Try.ntmps45
  go_upto_region 1 with (fail)
  generalize hW0 : ((w.alloc (.cells #[.slice A' e.length c', .slice B' u.length c2'] 25)).alloc (.cells #[.slice C ah.length c3] 22)).alloc (.cells #[.slice none 0 0, .slice none 0 0] 25) = W0 at *
  clear hW0
  have CV := Lib.hid (carved_any A c d A' c' e B' c2' u 60 #[.pointer (some ⟨w.heap.size + 1, 0, none⟩)] (shP ah) n W0 HR.out HN.out ID.out IE.out IU.out he hu (enters_of Try.func60 (by kernel_rfl) rfl)
    (fun k W A2 c2 hk hW hi => shifted1_n A2 c2 (dg d (k : Int)) d.length (w.heap.size + 1) C c3 ah W (dg_length _ _) (by omega) HL.out (dg_mid HN.out hk) MA.out hi (IA.out.below hW) ((hW.cell (p := ⟨w.heap.size + 1, 0, none⟩) (World.block_lt_of_cell? W0 _ FM.out)).trans FM.out))
    (fun k hk => by rw [shP_len, dg_length]; omega))
  rw [HVV.out] at CV
  have hlt := BR.out.lt
  have hle := L0.out.size
  go_wp2_with (go_at_call 30; refine (CV.out).mono ?_; rintro r w5 ⟨x, rfl, ⟨A6, c6, B6, e6, rfl, f1, f2, g1, g2⟩, hb5⟩; obtain ⟨r0, r1, r2, r3⟩ := (BR.out.next hb5).all)
  have T9 := ((BR.out.next hb5).set0 (.slice A6 d.length c6)).set1 (.slice B6 VV.length e6)
  obtain ⟨t0, t1, _, _⟩ := T9.all
  refine bodyPost_ret (v := .agg #[.slice A6 d.length c6, .slice B6 VV.length e6]) (by simp [results, Try.results45, go_sem, t0, t1]) rfl ?_
  exact ⟨_, rfl, ((show IsCell w5 W0.heap.size d VV (.agg #[.slice A6 d.length c6, .slice B6 VV.length e6]) from ⟨A6, c6, B6, e6, rfl, f1, f2, g1, g2⟩).set2 hlt _ _).mono hle, ((below_next L0.out hb5).setCell (by simp; omega) _).setCell (by simp; omega) _⟩
end Go.Proofs.Yticicfbllhnpcaa.Sh
-- CvCount
namespace Go.Proofs.Yticicfbllhnpcaa.Sh
open Go.RowKit Go.Shelf
set_option linter.unusedVariables false

/-- The axes of a cell that counts as one with as many as there are numbers. -/
def coD (vn d : List Int) : List Int := if d.length = 0 ∧ vn.length ≤ 3 then List.replicate vn.length 1 else d
def coE (dn vn d v : List Int) : Int := if cellB dn vn.length = true ∧ cellB d v.length = true then (if dn.length ≤ 1 then (if vn.length = (coD vn d).length then 0 else 3) else 2) else 1
section
variable {dn vn d v : List Int}
theorem co_1 (h : cellB dn vn.length = false) : coE dn vn d v = 1 := by simp [coE, h]
theorem co_1' (h : cellB d v.length = false) : coE dn vn d v = 1 := by simp [coE, h]
theorem co_2 (h1 : cellB dn vn.length = true) (h2 : cellB d v.length = true) (h : ¬ dn.length ≤ 1) : coE dn vn d v = 2 := by unfold coE; rw [if_pos ⟨h1, h2⟩, if_neg h]
theorem co_3 (h1 : cellB dn vn.length = true) (h2 : cellB d v.length = true) (h3 : dn.length ≤ 1) (h : ¬ vn.length = (coD vn d).length) : coE dn vn d v = 3 := by unfold coE; rw [if_pos ⟨h1, h2⟩, if_pos h3, if_neg h]
theorem co_0 (h1 : cellB dn vn.length = true) (h2 : cellB d v.length = true) (h3 : dn.length ≤ 1) (h : vn.length = (coD vn d).length) : coE dn vn d v = 0 := by unfold coE; rw [if_pos ⟨h1, h2⟩, if_pos h3, if_pos h]
end
/-- What is told of no error, or an error. -/
def oL (E : Int) (l : List Int) : List Int := if E = 0 then l else []
theorem oL_0 (l : List Int) : oL 0 l = l := rfl
theorem oL_n {E : Int} (h : ¬ E = 0) (l : List Int) : oL E l = [] := if_neg h
def RetCo (w : World) (cs D V : List Int) (E : Int) (e : Ending) (w' : World) : Prop := ∃ A c A' c' B' c2', e = .returned (.tuple #[.slice A cs.length c, .agg #[.slice A' D.length c', .slice B' V.length c2'], .int .i64 E]) ∧ Ints w' A cs ∧ Ints w' A' D ∧ Ints w' B' V ∧ Below w.heap.size w w'
theorem Ints.far0 {w : World} {g : Nat} {l : List Int} {L A B : Option Addr} {n c m e : Nat} (h : Ints w L l) (bx : Box w g (.slice A n c) (.slice B m e)) (x : Value) : Ints (w.setCell ⟨g, 0, none⟩ x) L l := fun hp => by
  obtain ⟨b, off, rfl, hb, hc⟩ := h hp
  have hne := Ints.ne_box h hp bx
  exact ⟨b, off, rfl, by simpa [World.setCell] using hb, fun i hi => (World.cell?_setCell_far _ _ _ _ (Ne.symm hne)).trans (hc i hi)⟩
/-- Behind the cell's axes. -/
def CutC (w : World) (X0 X1 : Value) (D : List Int) (Y1 : Value) (B : Option Addr) (v : List Int) (B' : Option Addr) (u : List Int) (wx : World) : Prop := ∃ A9 c9, Box wx w.heap.size X0 X1 ∧ Box wx (w.heap.size + 1) (.slice A9 D.length c9) Y1 ∧ Box wx (w.heap.size + 1 + 1) (.slice none 0 0) (.slice none 0 0) ∧ Ints wx A9 D ∧ Ints wx B v ∧ Ints wx B' u ∧ Below w.heap.size w wx

set_option maxHeartbeats 8000000 in
set_option maxRecDepth 100000 in
theorem counted_any (A : Option Addr) (c : Nat) (d : List Int) (B : Option Addr) (c2 : Nat) (v : List Int) (A' : Option Addr) (c' : Nat) (e : List Int) (B' : Option Addr) (c2' : Nat) (u : List Int) (w : World) (id : Ints w A d) (iv : Ints w B v) (ie : Ints w A' e) (iu : Ints w B' u) (hd : d.length ≤ 100) (hv : v.length ≤ 1000) (he : e.length ≤ 100) (hu : u.length ≤ 1000) :
    Calls Try.prog 42 #[.agg #[.slice A d.length c, .slice B v.length c2], .agg #[.slice A' e.length c', .slice B' u.length c2']] w (RetCo w (oL (coE d v e u) (smL v)) (oL (coE d v e u) (coD v e)) (oL (coE d v e u) u) (coE d v e u)) := by
  obtain ⟨ba0, bb0, br0, hb0⟩ := w2_all w (.slice A d.length c) (.slice B v.length c2) (.slice A' e.length c') (.slice B' u.length c2')
  have BA := Lib.hid (ba0)
  have BB := Lib.hid (bb0)
  have BR := Lib.hid (br0)
  have L := Lib.hid (hb0)
  have ID := Lib.hid (id.below hb0)
  have IV := Lib.hid (iv.below hb0)
  have IE := Lib.hid (ie.below hb0)
  have IU := Lib.hid (iu.below hb0)
  clear ba0 bb0 br0 hb0 id iv ie iu
  obtain ⟨E, hE⟩ : ∃ E, coE d v e u = E := ⟨_, rfl⟩
  rw [hE]
  have HE := Lib.hid hE
  clear hE
  by_cases h1 : cellB d v.length = true
  rotate_left
  · have H1 := Lib.hid (show cellB d v.length = false by simpa using h1)
    clear h1
    obtain rfl : E = 1 := HE.out.symm.trans (co_1 (d := e) (v := u) H1.out)
    clear HE
    rw [oL_n (by decide) (smL v), oL_n (by decide) (coD v e), oL_n (by decide) (u)]
    go_enter Try.func42, Try.ntmps42
    go_wp2_with fail
    refine (cright_no _ _ d _ _ _ _ (by unfold maxLen; omega) ID.out H1.out).mono ?_
    rintro r w1 ⟨rfl, hb⟩
    replace BA := Lib.hid (BA.out.next hb)
    replace BB := Lib.hid (BB.out.next hb)
    replace BR := Lib.hid (BR.out.next hb)
    replace L := Lib.hid (below_next L.out hb)
    replace ID := Lib.hid (ID.out.below hb)
    replace IV := Lib.hid (IV.out.below hb)
    replace IE := Lib.hid (IE.out.below hb)
    replace IU := Lib.hid (IU.out.below hb)
    clear hb
    obtain ⟨r0, r1, r2, r3⟩ := BR.out.all
    go_wp2
    have T9 := (BR.out.set0 (.slice none 0 0)).set1 (.slice none 0 0)
    obtain ⟨t0, t1, _, _⟩ := T9.all
    refine bodyPost_ret (v := .tuple #[.slice none 0 0, .agg #[.slice none 0 0, .slice none 0 0], .int .i64 1]) (by simp [results, Try.results42, go_sem, t0, t1]) rfl ?_
    exact ⟨none, 0, none, 0, none, 0, rfl, Ints.nil _ _, Ints.nil _ _, Ints.nil _ _, (L.out.setCell (by first | (simp; done) | (simp; omega)) _).setCell (by first | (simp; done) | (simp; omega)) _⟩
  have H1 := Lib.hid h1
  clear h1
  by_cases h2 : cellB e u.length = true
  rotate_left
  · have H2 := Lib.hid (show cellB e u.length = false by simpa using h2)
    clear h2
    obtain rfl : E = 1 := HE.out.symm.trans (co_1' (dn := d) (vn := v) H2.out)
    clear HE
    rw [oL_n (by decide) (smL v), oL_n (by decide) (coD v e), oL_n (by decide) (u)]
    go_enter Try.func42, Try.ntmps42
    go_wp2_with fail
    refine (cright_yes _ _ d _ _ _ _ (by unfold maxLen; omega) ID.out H1.out).mono ?_
    rintro r w1 ⟨rfl, hb⟩
    replace BA := Lib.hid (BA.out.next hb)
    replace BB := Lib.hid (BB.out.next hb)
    replace BR := Lib.hid (BR.out.next hb)
    replace L := Lib.hid (below_next L.out hb)
    replace ID := Lib.hid (ID.out.below hb)
    replace IV := Lib.hid (IV.out.below hb)
    replace IE := Lib.hid (IE.out.below hb)
    replace IU := Lib.hid (IU.out.below hb)
    clear hb
    obtain ⟨qBB0, qBB1, -, -⟩ := BB.out.all
    go_wp2_with fail
    refine (cright_no _ _ e _ _ _ _ (by unfold maxLen; omega) IE.out H2.out).mono ?_
    rintro r w2 ⟨rfl, hb⟩
    clear qBB0 qBB1
    replace BA := Lib.hid (BA.out.next hb)
    replace BB := Lib.hid (BB.out.next hb)
    replace BR := Lib.hid (BR.out.next hb)
    replace L := Lib.hid (below_next L.out hb)
    replace ID := Lib.hid (ID.out.below hb)
    replace IV := Lib.hid (IV.out.below hb)
    replace IE := Lib.hid (IE.out.below hb)
    replace IU := Lib.hid (IU.out.below hb)
    clear hb
    obtain ⟨r0, r1, r2, r3⟩ := BR.out.all
    go_wp2
    have T9 := (BR.out.set0 (.slice none 0 0)).set1 (.slice none 0 0)
    obtain ⟨t0, t1, _, _⟩ := T9.all
    refine bodyPost_ret (v := .tuple #[.slice none 0 0, .agg #[.slice none 0 0, .slice none 0 0], .int .i64 1]) (by simp [results, Try.results42, go_sem, t0, t1]) rfl ?_
    exact ⟨none, 0, none, 0, none, 0, rfl, Ints.nil _ _, Ints.nil _ _, Ints.nil _ _, (L.out.setCell (by first | (simp; done) | (simp; omega)) _).setCell (by first | (simp; done) | (simp; omega)) _⟩
  have H2 := Lib.hid h2
  clear h2
  by_cases h3 : d.length ≤ 1
  rotate_left
  · have hd2 : 1 < d.length := by omega
    obtain rfl : E = 2 := HE.out.symm.trans (co_2 H1.out H2.out h3)
    clear HE
    rw [oL_n (by decide) (smL v), oL_n (by decide) (coD v e), oL_n (by decide) (u)]
    clear h3
    go_enter Try.func42, Try.ntmps42
    go_wp2_with fail
    refine (cright_yes _ _ d _ _ _ _ (by unfold maxLen; omega) ID.out H1.out).mono ?_
    rintro r w1 ⟨rfl, hb⟩
    replace BA := Lib.hid (BA.out.next hb)
    replace BB := Lib.hid (BB.out.next hb)
    replace BR := Lib.hid (BR.out.next hb)
    replace L := Lib.hid (below_next L.out hb)
    replace ID := Lib.hid (ID.out.below hb)
    replace IV := Lib.hid (IV.out.below hb)
    replace IE := Lib.hid (IE.out.below hb)
    replace IU := Lib.hid (IU.out.below hb)
    clear hb
    obtain ⟨qBB0, qBB1, -, -⟩ := BB.out.all
    go_wp2_with fail
    refine (cright_yes _ _ e _ _ _ _ (by unfold maxLen; omega) IE.out H2.out).mono ?_
    rintro r w2 ⟨rfl, hb⟩
    clear qBB0 qBB1
    replace BA := Lib.hid (BA.out.next hb)
    replace BB := Lib.hid (BB.out.next hb)
    replace BR := Lib.hid (BR.out.next hb)
    replace L := Lib.hid (below_next L.out hb)
    replace ID := Lib.hid (ID.out.below hb)
    replace IV := Lib.hid (IV.out.below hb)
    replace IE := Lib.hid (IE.out.below hb)
    replace IU := Lib.hid (IU.out.below hb)
    clear hb
    obtain ⟨qBA0, qBA1, -, -⟩ := BA.out.all
    obtain ⟨r0, r1, r2, r3⟩ := BR.out.all
    go_wp2
    have T9 := (BR.out.set0 (.slice none 0 0)).set1 (.slice none 0 0)
    obtain ⟨t0, t1, _, _⟩ := T9.all
    refine bodyPost_ret (v := .tuple #[.slice none 0 0, .agg #[.slice none 0 0, .slice none 0 0], .int .i64 2]) (by simp [results, Try.results42, go_sem, t0, t1]) rfl ?_
    exact ⟨none, 0, none, 0, none, 0, rfl, Ints.nil _ _, Ints.nil _ _, Ints.nil _ _, (L.out.setCell (by first | (simp; done) | (simp; omega)) _).setCell (by first | (simp; done) | (simp; omega)) _⟩
  obtain ⟨hd3, hv64⟩ := cellB_small H1.out
  obtain ⟨he3, hu64⟩ := cellB_small H2.out
  have HDl := Lib.hid (show (coD v e).length ≤ 3 by unfold coD; split; simp; omega; omega)
  obtain ⟨DD, hDD⟩ : ∃ DD, coD v e = DD := ⟨_, rfl⟩
  have HDD := Lib.hid hDD
  rw [hDD] at HDl ⊢
  have hDl : DD.length ≤ 3 := HDl.out
  clear hDD
  by_cases hc : e.length = 0 ∧ v.length ≤ 3
  · obtain ⟨hc1, hc2⟩ := hc
    have hz0 : ((e.length : Int) == 0) = true := by rw [hc1]; rfl
    have HDR := Lib.hid (show DD = List.replicate v.length 1 by rw [← HDD.out]; unfold coD; rw [if_pos ⟨hc1, hc2⟩])
    have HDv := Lib.hid (show v.length = DD.length by rw [HDR.out]; simp)
    obtain rfl : E = 0 := HE.out.symm.trans (co_0 H1.out H2.out h3 (by rw [HDD.out]; exact HDv.out))
    clear HE hc1
    rw [oL_0, oL_0, oL_0]
    go_enter Try.func42, Try.ntmps42
    go_wp2_with fail
    refine (cright_yes _ _ d _ _ _ _ (by unfold maxLen; omega) ID.out H1.out).mono ?_
    rintro r w1 ⟨rfl, hb⟩
    replace BA := Lib.hid (BA.out.next hb)
    replace BB := Lib.hid (BB.out.next hb)
    replace BR := Lib.hid (BR.out.next hb)
    replace L := Lib.hid (below_next L.out hb)
    replace ID := Lib.hid (ID.out.below hb)
    replace IV := Lib.hid (IV.out.below hb)
    replace IE := Lib.hid (IE.out.below hb)
    replace IU := Lib.hid (IU.out.below hb)
    clear hb
    obtain ⟨qBB0, qBB1, -, -⟩ := BB.out.all
    go_wp2_with fail
    refine (cright_yes _ _ e _ _ _ _ (by unfold maxLen; omega) IE.out H2.out).mono ?_
    rintro r w2 ⟨rfl, hb⟩
    clear qBB0 qBB1
    replace BA := Lib.hid (BA.out.next hb)
    replace BB := Lib.hid (BB.out.next hb)
    replace BR := Lib.hid (BR.out.next hb)
    replace L := Lib.hid (below_next L.out hb)
    replace ID := Lib.hid (ID.out.below hb)
    replace IV := Lib.hid (IV.out.below hb)
    replace IE := Lib.hid (IE.out.below hb)
    replace IU := Lib.hid (IU.out.below hb)
    clear hb
    obtain ⟨qBA0, qBA1, -, -⟩ := BA.out.all
    obtain ⟨qBB0, qBB1, fBB0, fBB1⟩ := BB.out.all
    have KB := Lib.hid (below_new w2 (.cells #[.int .i64 1] 3))
    obtain ⟨zA0, zA1, -, -⟩ := (BA.out.next KB.out).all
    have RP := Lib.hid (repeat_one (some ⟨w2.heap.size, 0, none⟩) 1 1 v.length (w2.alloc (.cells #[.int .i64 1] 3)) (by omega) (one_newI w2 1))
    rw [← HDR.out] at RP
    go_wp2_with (go_at_call 58; refine (RP.out).mono ?_; rintro r w3 ⟨A9, c9, rfl, hm9, hb9⟩; have L3 := Lib.hid (below_next KB.out hb9); have I9 := Lib.hid hm9.ints'; obtain ⟨s0, s1, s2, s3⟩ := (BB.out.next L3.out).all; clear hm9 hb9 qBA0 qBA1 qBB0 qBB1 fBB0 fBB1 zA0 zA1; obtain ⟨u0, u1, -, -⟩ := ((BA.out.next L3.out).far (p := ⟨w.heap.size + 1, 0, none⟩) (show w.heap.size ≠ w.heap.size + 1 by omega) (.slice A9 DD.length c9)).all; obtain ⟨v0, v1, -, -⟩ := ((BB.out.next L3.out).set0 (.slice A9 DD.length c9)).all; have hz4 : ((v.length : Int) != (DD.length : Int)) = false := (by rw [← HDv.out]; simp))
    have nAB : w.heap.size ≠ w.heap.size + 1 := by omega
    have nRB : w.heap.size + 1 + 1 ≠ w.heap.size + 1 := by omega
    have BB3 := BB.out.next L3.out
    have BA4 := Lib.hid ((BA.out.next L3.out).far (p := ⟨w.heap.size + 1, 0, none⟩) nAB (.slice A9 DD.length c9))
    have BR4 := Lib.hid ((BR.out.next L3.out).far (p := ⟨w.heap.size + 1, 0, none⟩) nRB (.slice A9 DD.length c9))
    have BB4 := Lib.hid (BB3.set0 (.slice A9 DD.length c9))
    have L4 := Lib.hid ((below_next L.out L3.out).setCell (p := ⟨w.heap.size + 1, 0, none⟩) (by simp) (.slice A9 DD.length c9))
    have IV4 := Lib.hid ((IV.out.below L3.out).far0 BB3 (.slice A9 DD.length c9))
    have IU4 := Lib.hid ((IU.out.below L3.out).far0 BB3 (.slice A9 DD.length c9))
    have ID4 := Lib.hid (I9.out.far0 BB3 (.slice A9 DD.length c9))
    clear BB3
    clear BA BB BR L ID IV IE IU I9 L3 KB RP s0 s1 s2 s3 u0 u1 v0 v1 hz4
    generalize w3.setCell ⟨w.heap.size + 1, 0, none⟩ (.slice A9 DD.length c9) = w4 at *
    have BA := Lib.hid BA4.out
    have BB := Lib.hid BB4.out
    have BR := Lib.hid BR4.out
    have L := Lib.hid L4.out
    have IV := Lib.hid IV4.out
    have IU := Lib.hid IU4.out
    have IDD := Lib.hid ID4.out
    clear BA4 BB4 BR4 L4 IV4 IU4 ID4
    obtain ⟨qBA0, qBA1, -, -⟩ := BA.out.all
    obtain ⟨qBB0, qBB1, -, -⟩ := BB.out.all
    have WD := Lib.hid ((Below.refl w4.heap.size w4).drew)
    have CS := Lib.hid (small_any B c2 v w4.drew (by omega) (IV.out.below WD.out))
    go_upto_region 9 with (fail)
    go_region_held3 (fun w' => w'.cell? ⟨w.heap.size, 1, none⟩ = some (.slice B v.length c2) ∧ w'.cell? ⟨w.heap.size + 1, 0, none⟩ = some (.slice A9 DD.length c9) ∧ w'.cell? ⟨w.heap.size + 1, 1, none⟩ = some (.slice B' u.length c2'))
      (first
        | with_reducible exact KK3.out
        | with_reducible exact KK2.out
        | go_keep)
      (first
        | (go_at_call 35; (with_reducible refine (CS.out).mono ?_); rintro r w5 ⟨A5, c5, rfl, hm5, hb5⟩; have I5 := Lib.hid hm5.ints'; have L5 := Lib.hid (below_next WD.out hb5); have KK2 := Lib.hid (show w5.cell? ⟨w.heap.size, 1, none⟩ = some (.slice B v.length c2) ∧ w5.cell? ⟨w.heap.size + 1, 0, none⟩ = some (.slice A9 DD.length c9) ∧ w5.cell? ⟨w.heap.size + 1, 1, none⟩ = some (.slice B' u.length c2') from ⟨(BA.out.next L5.out).c1, (BB.out.next L5.out).c0, (BB.out.next L5.out).c1⟩); obtain ⟨r0, r1, r2, r3⟩ := (BR.out.next L5.out).all; have BA5 := (((BA.out.next L5.out).far (p := ⟨w.heap.size + 1 + 1, 0, none⟩) (by show w.heap.size ≠ w.heap.size + 1 + 1; omega) (.slice A9 DD.length c9)).far (p := ⟨w.heap.size + 1 + 1, 1, none⟩) (by show w.heap.size ≠ w.heap.size + 1 + 1; omega) (.slice B' u.length c2')); have BB5 := (((BB.out.next L5.out).far (p := ⟨w.heap.size + 1 + 1, 0, none⟩) (by show w.heap.size + 1 ≠ w.heap.size + 1 + 1; omega) (.slice A9 DD.length c9)).far (p := ⟨w.heap.size + 1 + 1, 1, none⟩) (by show w.heap.size + 1 ≠ w.heap.size + 1 + 1; omega) (.slice B' u.length c2')); have KK3 := Lib.hid (show ((w5.setCell ⟨w.heap.size + 1 + 1, 0, none⟩ (.slice A9 DD.length c9)).setCell ⟨w.heap.size + 1 + 1, 1, none⟩ (.slice B' u.length c2')).cell? ⟨w.heap.size, 1, none⟩ = some (.slice B v.length c2) ∧ ((w5.setCell ⟨w.heap.size + 1 + 1, 0, none⟩ (.slice A9 DD.length c9)).setCell ⟨w.heap.size + 1 + 1, 1, none⟩ (.slice B' u.length c2')).cell? ⟨w.heap.size + 1, 0, none⟩ = some (.slice A9 DD.length c9) ∧ ((w5.setCell ⟨w.heap.size + 1 + 1, 0, none⟩ (.slice A9 DD.length c9)).setCell ⟨w.heap.size + 1 + 1, 1, none⟩ (.slice B' u.length c2')).cell? ⟨w.heap.size + 1, 1, none⟩ = some (.slice B' u.length c2') from ⟨BA5.c1, BB5.c0, BB5.c1⟩); clear BA5 BB5 hm5 hb5))
    have BR9 := Lib.hid (BR.out.next L5.out)
    have L9 := Lib.hid (below_next L.out L5.out)
    clear qBA0 qBA1 qBB0 qBB1
    go_wp2
    have T9 := (BR9.out.set0 (.slice A9 DD.length c9)).set1 (.slice B' u.length c2')
    obtain ⟨t0, t1, _, _⟩ := T9.all
    refine bodyPost_ret (v := .tuple #[.slice A5 v.length c5, .agg #[.slice A9 DD.length c9, .slice B' u.length c2'], .int .i64 0]) (by simp [results, Try.results42, go_sem, t0, t1, smL]) rfl ?_
    exact ⟨A5, c5, A9, c9, B', c2', by rw [smL_len], I5.out.set_box BR9.out _ _, (IDD.out.below L5.out).set_box BR9.out _ _, (IU.out.below L5.out).set_box BR9.out _ _, (L9.out.setCell (by simp; omega) _).setCell (by simp; omega) _⟩
  · have HDR := Lib.hid (show e = DD by rw [← HDD.out]; unfold coD; rw [if_neg hc])
    obtain rfl := HDR.out
    clear HDR
    by_cases hl : v.length = e.length
    · obtain rfl : E = 0 := HE.out.symm.trans (co_0 H1.out H2.out h3 (by rw [HDD.out]; exact hl))
      have hz4 : ((v.length : Int) != (e.length : Int)) = false := by rw [hl]; simp
      clear HE
      rw [oL_0, oL_0, oL_0]
      have HCN := Lib.hid hc
      have HLL := Lib.hid hl
      clear hl hc
      go_enter Try.func42, Try.ntmps42
      go_wp2_with fail
      refine (cright_yes _ _ d _ _ _ _ (by unfold maxLen; omega) ID.out H1.out).mono ?_
      rintro r w1 ⟨rfl, hb⟩
      replace BA := Lib.hid (BA.out.next hb)
      replace BB := Lib.hid (BB.out.next hb)
      replace BR := Lib.hid (BR.out.next hb)
      replace L := Lib.hid (below_next L.out hb)
      replace ID := Lib.hid (ID.out.below hb)
      replace IV := Lib.hid (IV.out.below hb)
      replace IE := Lib.hid (IE.out.below hb)
      replace IU := Lib.hid (IU.out.below hb)
      clear hb
      obtain ⟨qBB0, qBB1, -, -⟩ := BB.out.all
      go_wp2_with fail
      refine (cright_yes _ _ e _ _ _ _ (by unfold maxLen; omega) IE.out H2.out).mono ?_
      rintro r w2 ⟨rfl, hb⟩
      clear qBB0 qBB1
      replace BA := Lib.hid (BA.out.next hb)
      replace BB := Lib.hid (BB.out.next hb)
      replace BR := Lib.hid (BR.out.next hb)
      replace L := Lib.hid (below_next L.out hb)
      replace ID := Lib.hid (ID.out.below hb)
      replace IV := Lib.hid (IV.out.below hb)
      replace IE := Lib.hid (IE.out.below hb)
      replace IU := Lib.hid (IU.out.below hb)
      clear hb
      obtain ⟨qBA0, qBA1, -, -⟩ := BA.out.all
      obtain ⟨qBB0, qBB1, -, -⟩ := BB.out.all
      by_cases he0 : e.length = 0
      · have hz0 : ((e.length : Int) == 0) = true := by rw [he0]; rfl
        have hz1 : 3 < v.length := by have := HCN.out; omega
        clear he0
        clear qBA0 qBA1 qBB0 qBB1
        have IDD := Lib.hid IE.out
        obtain ⟨qBA0, qBA1, -, -⟩ := BA.out.all
        obtain ⟨qBB0, qBB1, -, -⟩ := BB.out.all
        have WD := Lib.hid ((Below.refl w2.heap.size w2).drew)
        have CS := Lib.hid (small_any B c2 v w2.drew (by omega) (IV.out.below WD.out))
        go_upto_region 9 with (fail)
        go_region_held3 (fun w' => w'.cell? ⟨w.heap.size, 1, none⟩ = some (.slice B v.length c2) ∧ w'.cell? ⟨w.heap.size + 1, 0, none⟩ = some (.slice A' e.length c') ∧ w'.cell? ⟨w.heap.size + 1, 1, none⟩ = some (.slice B' u.length c2'))
          (first
            | with_reducible exact KK3.out
            | with_reducible exact KK2.out
            | go_keep)
          (first
            | (go_at_call 35; (with_reducible refine (CS.out).mono ?_); rintro r w5 ⟨A5, c5, rfl, hm5, hb5⟩; have I5 := Lib.hid hm5.ints'; have L5 := Lib.hid (below_next WD.out hb5); have KK2 := Lib.hid (show w5.cell? ⟨w.heap.size, 1, none⟩ = some (.slice B v.length c2) ∧ w5.cell? ⟨w.heap.size + 1, 0, none⟩ = some (.slice A' e.length c') ∧ w5.cell? ⟨w.heap.size + 1, 1, none⟩ = some (.slice B' u.length c2') from ⟨(BA.out.next L5.out).c1, (BB.out.next L5.out).c0, (BB.out.next L5.out).c1⟩); obtain ⟨r0, r1, r2, r3⟩ := (BR.out.next L5.out).all; have BA5 := (((BA.out.next L5.out).far (p := ⟨w.heap.size + 1 + 1, 0, none⟩) (by show w.heap.size ≠ w.heap.size + 1 + 1; omega) (.slice A' e.length c')).far (p := ⟨w.heap.size + 1 + 1, 1, none⟩) (by show w.heap.size ≠ w.heap.size + 1 + 1; omega) (.slice B' u.length c2')); have BB5 := (((BB.out.next L5.out).far (p := ⟨w.heap.size + 1 + 1, 0, none⟩) (by show w.heap.size + 1 ≠ w.heap.size + 1 + 1; omega) (.slice A' e.length c')).far (p := ⟨w.heap.size + 1 + 1, 1, none⟩) (by show w.heap.size + 1 ≠ w.heap.size + 1 + 1; omega) (.slice B' u.length c2')); have KK3 := Lib.hid (show ((w5.setCell ⟨w.heap.size + 1 + 1, 0, none⟩ (.slice A' e.length c')).setCell ⟨w.heap.size + 1 + 1, 1, none⟩ (.slice B' u.length c2')).cell? ⟨w.heap.size, 1, none⟩ = some (.slice B v.length c2) ∧ ((w5.setCell ⟨w.heap.size + 1 + 1, 0, none⟩ (.slice A' e.length c')).setCell ⟨w.heap.size + 1 + 1, 1, none⟩ (.slice B' u.length c2')).cell? ⟨w.heap.size + 1, 0, none⟩ = some (.slice A' e.length c') ∧ ((w5.setCell ⟨w.heap.size + 1 + 1, 0, none⟩ (.slice A' e.length c')).setCell ⟨w.heap.size + 1 + 1, 1, none⟩ (.slice B' u.length c2')).cell? ⟨w.heap.size + 1, 1, none⟩ = some (.slice B' u.length c2') from ⟨BA5.c1, BB5.c0, BB5.c1⟩); clear BA5 BB5 hm5 hb5))
        have BR9 := Lib.hid (BR.out.next L5.out)
        have L9 := Lib.hid (below_next L.out L5.out)
        clear qBA0 qBA1 qBB0 qBB1
        go_wp2
        have T9 := (BR9.out.set0 (.slice A' e.length c')).set1 (.slice B' u.length c2')
        obtain ⟨t0, t1, _, _⟩ := T9.all
        refine bodyPost_ret (v := .tuple #[.slice A5 v.length c5, .agg #[.slice A' e.length c', .slice B' u.length c2'], .int .i64 0]) (by simp [results, Try.results42, go_sem, t0, t1, smL]) rfl ?_
        exact ⟨A5, c5, A', c', B', c2', by rw [smL_len], I5.out.set_box BR9.out _ _, (IDD.out.below L5.out).set_box BR9.out _ _, (IU.out.below L5.out).set_box BR9.out _ _, (L9.out.setCell (by simp; omega) _).setCell (by simp; omega) _⟩
      · have hz0 : ((e.length : Int) == 0) = false := by simp; intro h; exact he0 (by rw [h]; rfl)
        clear he0
        clear qBA0 qBA1 qBB0 qBB1
        have IDD := Lib.hid IE.out
        obtain ⟨qBA0, qBA1, -, -⟩ := BA.out.all
        obtain ⟨qBB0, qBB1, -, -⟩ := BB.out.all
        have WD := Lib.hid ((Below.refl w2.heap.size w2).drew)
        have CS := Lib.hid (small_any B c2 v w2.drew (by omega) (IV.out.below WD.out))
        go_upto_region 9 with (fail)
        go_region_held3 (fun w' => w'.cell? ⟨w.heap.size, 1, none⟩ = some (.slice B v.length c2) ∧ w'.cell? ⟨w.heap.size + 1, 0, none⟩ = some (.slice A' e.length c') ∧ w'.cell? ⟨w.heap.size + 1, 1, none⟩ = some (.slice B' u.length c2'))
          (first
            | with_reducible exact KK3.out
            | with_reducible exact KK2.out
            | go_keep)
          (first
            | (go_at_call 35; (with_reducible refine (CS.out).mono ?_); rintro r w5 ⟨A5, c5, rfl, hm5, hb5⟩; have I5 := Lib.hid hm5.ints'; have L5 := Lib.hid (below_next WD.out hb5); have KK2 := Lib.hid (show w5.cell? ⟨w.heap.size, 1, none⟩ = some (.slice B v.length c2) ∧ w5.cell? ⟨w.heap.size + 1, 0, none⟩ = some (.slice A' e.length c') ∧ w5.cell? ⟨w.heap.size + 1, 1, none⟩ = some (.slice B' u.length c2') from ⟨(BA.out.next L5.out).c1, (BB.out.next L5.out).c0, (BB.out.next L5.out).c1⟩); obtain ⟨r0, r1, r2, r3⟩ := (BR.out.next L5.out).all; have BA5 := (((BA.out.next L5.out).far (p := ⟨w.heap.size + 1 + 1, 0, none⟩) (by show w.heap.size ≠ w.heap.size + 1 + 1; omega) (.slice A' e.length c')).far (p := ⟨w.heap.size + 1 + 1, 1, none⟩) (by show w.heap.size ≠ w.heap.size + 1 + 1; omega) (.slice B' u.length c2')); have BB5 := (((BB.out.next L5.out).far (p := ⟨w.heap.size + 1 + 1, 0, none⟩) (by show w.heap.size + 1 ≠ w.heap.size + 1 + 1; omega) (.slice A' e.length c')).far (p := ⟨w.heap.size + 1 + 1, 1, none⟩) (by show w.heap.size + 1 ≠ w.heap.size + 1 + 1; omega) (.slice B' u.length c2')); have KK3 := Lib.hid (show ((w5.setCell ⟨w.heap.size + 1 + 1, 0, none⟩ (.slice A' e.length c')).setCell ⟨w.heap.size + 1 + 1, 1, none⟩ (.slice B' u.length c2')).cell? ⟨w.heap.size, 1, none⟩ = some (.slice B v.length c2) ∧ ((w5.setCell ⟨w.heap.size + 1 + 1, 0, none⟩ (.slice A' e.length c')).setCell ⟨w.heap.size + 1 + 1, 1, none⟩ (.slice B' u.length c2')).cell? ⟨w.heap.size + 1, 0, none⟩ = some (.slice A' e.length c') ∧ ((w5.setCell ⟨w.heap.size + 1 + 1, 0, none⟩ (.slice A' e.length c')).setCell ⟨w.heap.size + 1 + 1, 1, none⟩ (.slice B' u.length c2')).cell? ⟨w.heap.size + 1, 1, none⟩ = some (.slice B' u.length c2') from ⟨BA5.c1, BB5.c0, BB5.c1⟩); clear BA5 BB5 hm5 hb5))
        have BR9 := Lib.hid (BR.out.next L5.out)
        have L9 := Lib.hid (below_next L.out L5.out)
        clear qBA0 qBA1 qBB0 qBB1
        go_wp2
        have T9 := (BR9.out.set0 (.slice A' e.length c')).set1 (.slice B' u.length c2')
        obtain ⟨t0, t1, _, _⟩ := T9.all
        refine bodyPost_ret (v := .tuple #[.slice A5 v.length c5, .agg #[.slice A' e.length c', .slice B' u.length c2'], .int .i64 0]) (by simp [results, Try.results42, go_sem, t0, t1, smL]) rfl ?_
        exact ⟨A5, c5, A', c', B', c2', by rw [smL_len], I5.out.set_box BR9.out _ _, (IDD.out.below L5.out).set_box BR9.out _ _, (IU.out.below L5.out).set_box BR9.out _ _, (L9.out.setCell (by simp; omega) _).setCell (by simp; omega) _⟩
    · obtain rfl : E = 3 := HE.out.symm.trans (co_3 H1.out H2.out h3 (by rw [HDD.out]; exact hl))
      have hz4 : ((v.length : Int) != (e.length : Int)) = true := by simp; omega
      clear HE
      rw [oL_n (by decide) (smL v), oL_n (by decide) e, oL_n (by decide) u]
      have HCN := Lib.hid hc
      have HLL := Lib.hid hl
      clear hl hc
      go_enter Try.func42, Try.ntmps42
      go_wp2_with fail
      refine (cright_yes _ _ d _ _ _ _ (by unfold maxLen; omega) ID.out H1.out).mono ?_
      rintro r w1 ⟨rfl, hb⟩
      replace BA := Lib.hid (BA.out.next hb)
      replace BB := Lib.hid (BB.out.next hb)
      replace BR := Lib.hid (BR.out.next hb)
      replace L := Lib.hid (below_next L.out hb)
      replace ID := Lib.hid (ID.out.below hb)
      replace IV := Lib.hid (IV.out.below hb)
      replace IE := Lib.hid (IE.out.below hb)
      replace IU := Lib.hid (IU.out.below hb)
      clear hb
      obtain ⟨qBB0, qBB1, -, -⟩ := BB.out.all
      go_wp2_with fail
      refine (cright_yes _ _ e _ _ _ _ (by unfold maxLen; omega) IE.out H2.out).mono ?_
      rintro r w2 ⟨rfl, hb⟩
      clear qBB0 qBB1
      replace BA := Lib.hid (BA.out.next hb)
      replace BB := Lib.hid (BB.out.next hb)
      replace BR := Lib.hid (BR.out.next hb)
      replace L := Lib.hid (below_next L.out hb)
      replace ID := Lib.hid (ID.out.below hb)
      replace IV := Lib.hid (IV.out.below hb)
      replace IE := Lib.hid (IE.out.below hb)
      replace IU := Lib.hid (IU.out.below hb)
      clear hb
      obtain ⟨qBA0, qBA1, -, -⟩ := BA.out.all
      obtain ⟨qBB0, qBB1, -, -⟩ := BB.out.all
      by_cases he0 : e.length = 0
      · have hz0 : ((e.length : Int) == 0) = true := by rw [he0]; rfl
        have hz1 : 3 < v.length := by have := HCN.out; omega
        clear he0
        obtain ⟨r0, r1, r2, r3⟩ := BR.out.all
        go_wp2
        have T9 := (BR.out.set0 (.slice none 0 0)).set1 (.slice none 0 0)
        obtain ⟨t0, t1, _, _⟩ := T9.all
        refine bodyPost_ret (v := .tuple #[.slice none 0 0, .agg #[.slice none 0 0, .slice none 0 0], .int .i64 3]) (by simp [results, Try.results42, go_sem, t0, t1]) rfl ?_
        exact ⟨none, 0, none, 0, none, 0, rfl, Ints.nil _ _, Ints.nil _ _, Ints.nil _ _, (L.out.setCell (by first | (simp; done) | (simp; omega)) _).setCell (by first | (simp; done) | (simp; omega)) _⟩
      · have hz0 : ((e.length : Int) == 0) = false := by simp; intro h; exact he0 (by rw [h]; rfl)
        clear he0
        obtain ⟨r0, r1, r2, r3⟩ := BR.out.all
        go_wp2
        have T9 := (BR.out.set0 (.slice none 0 0)).set1 (.slice none 0 0)
        obtain ⟨t0, t1, _, _⟩ := T9.all
        refine bodyPost_ret (v := .tuple #[.slice none 0 0, .agg #[.slice none 0 0, .slice none 0 0], .int .i64 3]) (by simp [results, Try.results42, go_sem, t0, t1]) rfl ?_
        exact ⟨none, 0, none, 0, none, 0, rfl, Ints.nil _ _, Ints.nil _ _, Ints.nil _ _, (L.out.setCell (by first | (simp; done) | (simp; omega)) _).setCell (by first | (simp; done) | (simp; omega)) _⟩
end Go.Proofs.Yticicfbllhnpcaa.Sh
-- CvTake
namespace Go.Proofs.Yticicfbllhnpcaa.Sh
open Go.RowKit Go.Shelf
set_option linter.unusedVariables false

def tkF (cs : List Int) (i : Nat) : Int := absI (cs.getD i 0)
def tkG (cs D : List Int) (i : Nat) : Int := if cs.getD i 0 < 0 then D.getD i 0 - absI (cs.getD i 0) else 0
def drF (cs D : List Int) (i : Nat) : Int := D.getD i 0 - min (absI (cs.getD i 0)) (D.getD i 0)
def drG (cs D : List Int) (i : Nat) : Int := if 0 < cs.getD i 0 then min (absI (cs.getD i 0)) (D.getD i 0) else 0
/-- A row by a function. -/
def rowF (m : Nat) (f : Nat → Int) : List Int := (List.range m).map f
theorem rowF_len (m : Nat) (f : Nat → Int) : (rowF m f).length = m := by simp [rowF]
theorem rowF_at (m : Nat) (f : Nat → Int) (i : Nat) (h : i < m) : (rowF m f).getD i 0 = f i := by simp [rowF, List.getD, h]
/-- The numbers so far behind. -/
def shV (dm ah d v : List Int) : List Int := (List.range (sizeI dm).toNat).map fun k : Nat => atI d v (shP ah (dg dm (k : Int)))
def taE (dn vn d v : List Int) : Int := if coE dn vn d v = 0 then (if rightB (rowF vn.length (tkF (smL vn))) = true then 0 else 4) else coE dn vn d v
def taD (dn vn d v : List Int) : List Int := oL (taE dn vn d v) (rowF vn.length (tkF (smL vn)))
def taV (dn vn d v : List Int) : List Int := oL (taE dn vn d v) (shV (rowF vn.length (tkF (smL vn))) (rowF vn.length (tkG (smL vn) (coD vn d))) (coD vn d) v)
def drD (dn vn d v : List Int) : List Int := oL (coE dn vn d v) (rowF vn.length (drF (smL vn) (coD vn d)))
def drV (dn vn d v : List Int) : List Int := oL (coE dn vn d v) (shV (rowF vn.length (drF (smL vn) (coD vn d))) (rowF vn.length (drG (smL vn) (coD vn d))) (coD vn d) v)
theorem coE_0 {dn vn d v : List Int} (h : coE dn vn d v = 0) : cellB dn vn.length = true ∧ cellB d v.length = true ∧ dn.length ≤ 1 ∧ vn.length = (coD vn d).length := by
  unfold coE at h
  split at h
  · rename_i h1
    split at h
    · rename_i h2
      split at h
      · rename_i h3; exact ⟨h1.1, h1.2, h2, h3⟩
      · omega
    · omega
  · omega
theorem coD_right {vn d : List Int} (h : rightB d = true) : (coD vn d).all okAx = true ∧ (coD vn d).length ≤ 3 ∧ prod (coD vn d) ≤ 64 := by
  unfold coD
  split
  · rename_i h1
    refine ⟨by rw [List.all_eq_true]; intro x hx; rw [List.eq_of_mem_replicate hx]; rfl, by simp; exact h1.2, ?_⟩
    have : ∀ n : Nat, prod (List.replicate n (1 : Int)) = 1 := fun n => by
      induction n with
      | zero => rfl
      | succ n ih => rw [List.replicate_succ, prod_cons, ih]; rfl
    rw [this]; omega
  · have := rightB_all h; exact ⟨this.2.1, this.1, this.2.2⟩
theorem fillK_same {f : Nat → Int} {n k : Nat} (h : f k = 0) (hk : k < n) : fillK f n (k + 1) = fillK f n k := by
  unfold fillK
  apply List.map_congr_left
  intro i hi
  by_cases h1 : i < k
  · rw [if_pos h1, if_pos (by omega)]
  · by_cases h2 : i = k
    · subst h2; rw [if_pos (by omega), if_neg (by omega), h]
    · rw [if_neg h1, if_neg (by omega)]
theorem right_n (A : Option Addr) (c : Nat) (d : List Int) (n : Nat) (t : Bool) (w : World) (hn : d.length = n) (ht : rightB d = t) (hl : n ≤ 1000) (hi : Ints w A d) :
    Calls Try.prog 44 #[.slice A n c] w fun e w' => e = .returned (.bool t) ∧ Below w.heap.size w w' := by
  subst hn ht; exact right_any A c d w (by unfold maxLen; omega) hi
theorem shifted_n (A : Option Addr) (c : Nat) (d : List Int) (A' : Option Addr) (c' : Nat) (e : List Int) (B' : Option Addr) (c2' : Nat) (u : List Int) (C : Option Addr) (c3 : Nat) (ah : List Int) (m : Nat) (w : World) (hm : d.length = m) (hm2 : ah.length = m)
    (hR : rightB d = true) (ma : MidT ah) (id : Ints w A d) (ie : Ints w A' e) (iu : Ints w B' u) (ia : Ints w C ah) (he : e.length ≤ 100) (hu : u.length ≤ 1000) :
    Calls Try.prog 45 #[.slice A m c, .agg #[.slice A' e.length c', .slice B' u.length c2'], .slice C m c3] w (RetC1 w d (shV d ah e u)) := by
  obtain ⟨n, hn, _⟩ := sizeI_nat d hR
  have hv : shV d ah e u = (List.range n).map (fun k : Nat => atI e u (shP ah (dg d (k : Int)))) := by unfold shV; rw [hn, Int.toNat_natCast]
  rw [hv]
  have := shifted_any A c d A' c' e B' c2' u C c3 ah n w hR hn (by omega) ma id ie iu ia he hu
  rw [hm2, hm] at this
  exact this
/-- Behind the two rows of noughts. -/
def Cut4 (w4 : World) (m : Nat) (s8 s9 : Value) (wx : World) : Prop := ∃ g8 g9, s8 = .slice (some ⟨g8, 0, none⟩) m m ∧ s9 = .slice (some ⟨g9, 0, none⟩) m m ∧ Own wx g8 (List.replicate m 0) ∧ Own wx g9 (List.replicate m 0) ∧ g8 ≠ g9 ∧ w4.heap.size ≤ g8 ∧ w4.heap.size ≤ g9 ∧ Below w4.heap.size w4 wx
theorem cut4_a (w : World) (m : Nat) : Cut4 w m (.slice (some ⟨w.heap.size, 0, none⟩) m m) (.slice (some ⟨w.heap.size + 1, 0, none⟩) m m) ((w.alloc (.cells (madeCells #[Value.int .i64 0] m) 3)).alloc (.cells (madeCells #[Value.int .i64 0] m) 3)).drew := by
  have b2 := below_next (below_new w (.cells (madeCells #[Value.int .i64 0] m) 3)) (below_new _ (.cells (madeCells #[Value.int .i64 0] m) 3))
  have o2 := Own.made (w.alloc (.cells (madeCells #[Value.int .i64 0] m) 3)) m
  rw [show (w.alloc (.cells (madeCells #[Value.int .i64 0] m) 3)).heap.size = w.heap.size + 1 from by simp] at o2
  exact ⟨_, _, rfl, rfl, ((Own.made w m).alloc _).drew, o2.drew, by omega, by omega, by omega, b2.drew⟩
theorem cut4_b (w : World) (m : Nat) : Cut4 w m (.slice (some ⟨w.heap.size + 1, 0, none⟩) m m) (.slice (some ⟨w.heap.size, 0, none⟩) m m) ((w.alloc (.cells (madeCells #[Value.int .i64 0] m) 3)).alloc (.cells (madeCells #[Value.int .i64 0] m) 3)).drew := by
  obtain ⟨g8, g9, h1, h2, h3, h4, h5, h6, h7, h8⟩ := cut4_a w m
  exact ⟨g9, g8, h2, h1, h4, h3, Ne.symm h5, h7, h6, h8⟩
theorem tk_bd {cs D : List Int} (h : ∀ i, i < cs.length → -65 ≤ cs.getD i 0 ∧ cs.getD i 0 ≤ 65) (hD : ∀ i, i < cs.length → 0 ≤ D.getD i 0 ∧ D.getD i 0 ≤ 64) : MidT (rowF cs.length (tkG cs D)) ∧ MidT (rowF cs.length (drG cs D)) := by
  refine ⟨fun i hi => ?_, fun i hi => ?_⟩
  · rw [rowF_len] at hi
    rw [rowF_at _ _ _ hi]
    have := h i hi
    have := hD i hi
    unfold tkG absI; split <;> omega
  · rw [rowF_len] at hi
    rw [rowF_at _ _ _ hi]
    have := h i hi
    have := hD i hi
    unfold drG absI; split <;> omega
theorem prod_le {a b : List Int} (hl : a.length = b.length) (h : ∀ i, i < b.length → 0 ≤ a.getD i 0 ∧ a.getD i 0 ≤ b.getD i 0) : 0 ≤ prod a ∧ prod a ≤ prod b := by
  induction b generalizing a with
  | nil => obtain rfl := List.eq_nil_of_length_eq_zero (l := a) (by simpa using hl); exact ⟨by decide, Int.le_refl _⟩
  | cons y b ih =>
    match a, hl with
    | x :: a, hl =>
      have h0 := h 0 (by simp)
      have ih' := ih (a := a) (by simpa using hl) (fun i hi => by have := h (i + 1) (by simpa using hi); simpa using this)
      simp at h0
      rw [prod_cons, prod_cons]
      exact ⟨Int.mul_nonneg h0.1 ih'.1, Int.mul_le_mul h0.2 ih'.2 ih'.1 (by omega)⟩
theorem dr_right {cs D : List Int} (hl : cs.length = D.length) (hD : D.all okAx = true) (h3 : D.length ≤ 3) (hp : prod D ≤ 64) : rightB (rowF cs.length (drF cs D)) = true := by
  have hat : ∀ i, i < D.length → 0 ≤ (rowF cs.length (drF cs D)).getD i 0 ∧ (rowF cs.length (drF cs D)).getD i 0 ≤ D.getD i 0 := fun i hi => by
    rw [rowF_at _ _ _ (by omega)]
    have := okAx_at hD i hi
    unfold drF absI; omega
  have hp2 := prod_le (a := rowF cs.length (drF cs D)) (b := D) (by rw [rowF_len]; exact hl) hat
  refine rightB_mk (by rw [rowF_len]; omega) ?_ (by omega)
  rw [List.all_eq_true]
  intro x hx
  obtain ⟨i, hi, rfl⟩ := List.getElem_of_mem hx
  have h1 := hat i (by rw [rowF_len] at hi; omega)
  have h2 := okAx_at hD i (by rw [rowF_len] at hi; omega)
  simp only [List.getD] at h1
  rw [List.getElem?_eq_getElem hi] at h1
  simp at h1
  simp [okAx]; simp [List.getD] at h2; omega

set_option maxHeartbeats 8000000 in
set_option maxRecDepth 100000 in
theorem take_any (A : Option Addr) (c : Nat) (d : List Int) (B : Option Addr) (c2 : Nat) (v : List Int) (A' : Option Addr) (c' : Nat) (e : List Int) (B' : Option Addr) (c2' : Nat) (u : List Int) (w : World) (id : Ints w A d) (iv : Ints w B v) (ie : Ints w A' e) (iu : Ints w B' u) (hd : d.length ≤ 100) (hv : v.length ≤ 1000) (he : e.length ≤ 100) (hu : u.length ≤ 1000) :
    Calls Try.prog 17 #[.agg #[.slice A d.length c, .slice B v.length c2], .agg #[.slice A' e.length c', .slice B' u.length c2']] w (RetC w (taD d v e u) (taV d v e u) (.int .i64 (taE d v e u))) := by
  obtain ⟨ba0, bb0, br0, hb0⟩ := w2_all w (.slice A d.length c) (.slice B v.length c2) (.slice A' e.length c') (.slice B' u.length c2')
  have BA := Lib.hid (ba0)
  have BB := Lib.hid (bb0)
  have BR := Lib.hid (br0)
  have L := Lib.hid (hb0)
  have ID := Lib.hid (id.below hb0)
  have IV := Lib.hid (iv.below hb0)
  have IE := Lib.hid (ie.below hb0)
  have IU := Lib.hid (iu.below hb0)
  clear ba0 bb0 br0 hb0 id iv ie iu
  obtain ⟨E, hE⟩ : ∃ E, coE d v e u = E := ⟨_, rfl⟩
  have HE := Lib.hid hE
  have CC := Lib.hid (fun W i1 i2 i3 i4 => counted_any A c d B c2 v A' c' e B' c2' u W i1 i2 i3 i4 hd hv he hu)
  rw [hE] at CC
  obtain ⟨qBA0, qBA1, fBA0, fBA1⟩ := BA.out.all
  obtain ⟨qBB0, qBB1, fBB0, fBB1⟩ := BB.out.all
  by_cases h0 : E = 0
  rotate_left
  · have hz : (E != 0) = true := by simpa using h0
    have hT : taE d v e u = E := by unfold taE; rw [hE, if_neg h0]
    rw [show taD d v e u = [] by unfold taD; rw [hT]; exact oL_n h0 _, show taV d v e u = [] by unfold taV; rw [hT]; exact oL_n h0 _, hT]
    clear hT
    rw [oL_n h0, oL_n h0, oL_n h0] at CC
    clear hE h0 HE
    go_enter Try.func17, Try.ntmps17
    go_wp2_with fail
    refine (CC.out _ ID.out IV.out IE.out IU.out).mono ?_
    rintro r w1 ⟨A5, c5, A6, c6, B6, c7, rfl, -, -, -, hb⟩
    clear qBA0 qBA1 fBA0 fBA1 qBB0 qBB1 fBB0 fBB1
    obtain ⟨s0, s1, s2, s3⟩ := (BB.out.next hb).all
    have BR1 := Lib.hid (((BR.out.next hb).far (p := ⟨w.heap.size + 1, 0, none⟩) (show w.heap.size + 1 + 1 ≠ w.heap.size + 1 by omega) (.slice A6 0 c6)).far (p := ⟨w.heap.size + 1, 1, none⟩) (show w.heap.size + 1 + 1 ≠ w.heap.size + 1 by omega) (.slice B6 0 c7))
    have L1 := Lib.hid (((below_next L.out hb).setCell (p := ⟨w.heap.size + 1, 0, none⟩) (by simp) (.slice A6 0 c6)).setCell (p := ⟨w.heap.size + 1, 1, none⟩) (by simp) (.slice B6 0 c7))
    obtain ⟨r0, r1, r2, r3⟩ := BR1.out.all
    go_wp2
    have T9 := (BR1.out.set0 (.slice none 0 0)).set1 (.slice none 0 0)
    obtain ⟨t0, t1, _, _⟩ := T9.all
    refine bodyPost_ret (v := .tuple #[.agg #[.slice none 0 0, .slice none 0 0], .int .i64 E]) (by simp [results, Try.results17, go_sem, t0, t1]) rfl ?_
    exact ⟨_, rfl, IsCell.none _ _, (L1.out.setCell (by first | (simp; done) | (simp; omega)) _).setCell (by first | (simp; done) | (simp; omega)) _⟩
  subst h0
  rw [oL_0, oL_0, oL_0] at CC
  obtain ⟨hk1, hk2, hk3, hk4⟩ := coE_0 hE
  obtain ⟨hd3, hv64⟩ := cellB_small hk1
  obtain ⟨he3, hu64⟩ := cellB_small hk2
  have HDR := Lib.hid (coD_right (vn := v) (cellB_parts hk2).1)
  obtain ⟨DD, hDD⟩ : ∃ DD, coD v e = DD := ⟨_, rfl⟩
  obtain ⟨cs, hcs⟩ : ∃ cs, smL v = cs := ⟨_, rfl⟩
  obtain ⟨m, hm⟩ : ∃ m, v.length = m := ⟨_, rfl⟩
  rw [hDD] at hk4 CC HDR
  rw [hcs] at CC
  have HCL := Lib.hid (show cs.length = m by rw [← hcs, smL_len, hm])
  have HDL := Lib.hid (show DD.length = m by rw [← hk4, hm])
  have HCB := Lib.hid (fun i (hi : i < cs.length) => (show -65 ≤ cs.getD i 0 ∧ cs.getD i 0 ≤ 65 by rw [← hcs, smL_at v i (by rw [← hcs, smL_len] at hi; exact hi)]; exact sm65_bd _))
  have HDB := Lib.hid (fun i (hi : i < cs.length) => okAx_at HDR.out.1 i (by rw [HDL.out, ← HCL.out]; exact hi))
  have hm3 : m ≤ 3 := by rw [← HDL.out]; exact HDR.out.2.1
  obtain ⟨F8, hF8⟩ : ∃ F8, tkF cs = F8 := ⟨_, rfl⟩
  obtain ⟨F9, hF9⟩ : ∃ F9, tkG cs DD = F9 := ⟨_, rfl⟩
  have HMA := Lib.hid (tk_bd HCB.out HDB.out).1
  rw [HCL.out, hF9] at HMA
  have hTE : taE d v e u = if rightB (rowF m F8) = true then 0 else 4 := by unfold taE; rw [hE, if_pos rfl, hm, hcs, hF8]
  have HTD := Lib.hid (show taD d v e u = oL (taE d v e u) (rowF m F8) by unfold taD; rw [hm, hcs, hF8])
  have HTV := Lib.hid (show taV d v e u = oL (taE d v e u) (shV (rowF m F8) (rowF m F9) DD u) by unfold taV; rw [hm, hcs, hF8, hDD, hF9])
  rw [HTD.out, HTV.out]
  obtain ⟨E2, hE2⟩ : ∃ E2, taE d v e u = E2 := ⟨_, rfl⟩
  rw [hE2] at hTE ⊢
  have HF8 := Lib.hid hF8
  have HF9 := Lib.hid hF9
  have HM := Lib.hid hm
  clear hk1 hk2 hk3 hk4 hDD hcs hF8 hF9 hE 
  clear hm
  have hmk := fun W => run_make_row' (P := Try.prog) 22 3 (.int .i64 0) 8 Try.underlying22 infoInt rfl .i64 .i64 m (by omega) (by omega) W
  have HTE := Lib.hid hTE
  clear hTE hE2
  go_enter Try.func17, Try.ntmps17
  go_wp2_with fail
  refine (CC.out _ ID.out IV.out IE.out IU.out).mono ?_
  rintro r w1 ⟨A5, c5, A6, c6, B6, c7, rfl, hi5, hi6, hi7, hb⟩
  clear qBA0 qBA1 fBA0 fBA1 qBB0 qBB1 fBB0 fBB1
  rw [HCL.out]
  obtain ⟨s0, s1, s2, s3⟩ := (BB.out.next hb).all
  have BB0 := BB.out.next hb
  have BB1 := Lib.hid ((BB0.set0 (.slice A6 DD.length c6)).set1 (.slice B6 u.length c7))
  have BR1 := Lib.hid (((BR.out.next hb).far (p := ⟨w.heap.size + 1, 0, none⟩) (show w.heap.size + 1 + 1 ≠ w.heap.size + 1 by omega) (.slice A6 DD.length c6)).far (p := ⟨w.heap.size + 1, 1, none⟩) (show w.heap.size + 1 + 1 ≠ w.heap.size + 1 by omega) (.slice B6 u.length c7))
  have L1 := Lib.hid (((below_next L.out hb).setCell (p := ⟨w.heap.size + 1, 0, none⟩) (by simp) (.slice A6 DD.length c6)).setCell (p := ⟨w.heap.size + 1, 1, none⟩) (by simp) (.slice B6 u.length c7))
  have I5 := Lib.hid (hi5.set_box BB0 (.slice A6 DD.length c6) (.slice B6 u.length c7))
  have I6 := Lib.hid (hi6.set_box BB0 (.slice A6 DD.length c6) (.slice B6 u.length c7))
  have I7 := Lib.hid (hi7.set_box BB0 (.slice A6 DD.length c6) (.slice B6 u.length c7))
  clear BB0 hi5 hi6 hi7 hb BA BB BR L ID IV IE IU CC
  go_upto_region 4 with (fail)
  clear s0 s1 s2 s3
  generalize (w1.setCell ⟨w.heap.size + 1, 0, none⟩ (.slice A6 DD.length c6)).setCell ⟨w.heap.size + 1, 1, none⟩ (.slice B6 u.length c7) = w2 at *
  go_cut [8, 9] (fun s8 s9 wx => Cut4 w2 m s8 s9 wx)
  case first =>
    go_region
    all_goals (go_wp2_with fail; go_meet; (first | exact cut4_a _ _ | exact cut4_b _ _))
  case rest =>
    obtain ⟨g8, g9, rfl, rfl, o8, o9, hne, hg8, hg9, hb⟩ := hcut
    obtain ⟨w3, hw3⟩ : ∃ W, W = wc := ⟨_, rfl⟩
    subst hw3
    have O8 := Lib.hid o8
    have O9 := Lib.hid o9
    have L3 := Lib.hid hb
    have hl8 : g8 < w3.heap.size := o8.lt
    have hl9 : g9 < w3.heap.size := o9.lt
    have hlB := BB1.out.lt
    have hlR := BR1.out.lt
    have hlW := L1.out.size
    clear o8 o9 hb hmk
    go_wp2
    go_loopw [31] (fun j wr => ∃ k : Nat, k ≤ m ∧ j = .int .i64 (k : Int) ∧ Own wr g8 (fillK F8 m k) ∧ Own wr g9 (fillK F9 m k) ∧ Below w2.heap.size w2 wr) (fun j _ => m - (intOf j).toNat)
    case atStart => exact ⟨0, Nat.zero_le _, rfl, by rw [fillK_0]; exact O8.out, by rw [fillK_0]; exact O9.out, L3.out⟩
    case round =>
      obtain ⟨k, hk, rfl, p8, p9, hB⟩ := hrel
      have P8 := Lib.hid p8
      have P9 := Lib.hid p9
      have LB := Lib.hid hB
      clear p8 p9 hB
      by_cases hlt : k < m
      · obtain ⟨b5, o5, rfl, hb5, hc5⟩ := I5.out (by rw [HCL.out]; omega)
        obtain ⟨b6, o6, rfl, hb6, hc6⟩ := I6.out (by rw [HDL.out]; omega)
        have x5 := (LB.out.cell (p := ⟨b5, o5 + k, none⟩) hb5).trans (hc5 k (by rw [HCL.out]; exact hlt))
        have x6 := (LB.out.cell (p := ⟨b6, o6 + k, none⟩) hb6).trans (hc6 k (by rw [HDL.out]; exact hlt))
        have i0 : (0 : Int) ≤ (k : Int) := by omega
        have i1 : (k : Int) < (m : Int) := by omega
        have hyb := HCB.out k (by rw [HCL.out]; exact hlt)
        have hzb := HDB.out k (by rw [HCL.out]; exact hlt)
        have HK8 := Lib.hid (show F8 k = absI (cs.getD k 0) by rw [← HF8.out]; rfl)
        have HK9 := Lib.hid (show F9 k = if cs.getD k 0 < 0 then DD.getD k 0 - absI (cs.getD k 0) else 0 by rw [← HF9.out]; rfl)
        have q0 := P8.out.cell (i := k) (by rw [fillK_length]; exact hlt)
        have q1 := P8.out.frozen k
        have q2 := P9.out.cell (i := k) (by rw [fillK_length]; exact hlt)
        have q3 := P9.out.frozen k
        clear hc5 hc6
        generalize cs.getD k 0 = y at *
        generalize DD.getD k 0 = z at *
        have HS8 := Lib.hid (fillK_succ F8 m k hlt)
        have HS9 := Lib.hid (fillK_succ F9 m k hlt)
        have HZ9 := Lib.hid (fun h => fillK_same (f := F9) (n := m) (k := k) h hlt)
        have hdl : DD.length = m := HDL.out
        have i2 : (k : Int) < (DD.length : Int) := by omega
        have HDL2 := Lib.hid hdl
        clear hdl
        have HAy := Lib.hid (show 0 ≤ absI y ∧ absI y ≤ 65 by unfold absI; omega)
        rw [HK8.out] at HS8
        by_cases hneg : y < 0
        · go_wp2_with (go_at_call 43; refine (csize_any y _ hyb.1 hyb.2).mono ?_; rintro r wy ⟨rfl, rfl⟩)
          have hab := HAy.out
          generalize absI y = ay at *
          have hK9 := HK9.out
          rw [if_pos hneg] at hK9
          rw [hK9] at HS9
          clear hK9
          have s8 := P8.out.set_ k ay
          rw [HS8.out] at s8
          have S8 := Lib.hid s8
          have S9 := Lib.hid (P9.out.far (p := ⟨g8, k, none⟩) (Ne.symm hne) (.int .i64 ay))
          have LB2 := Lib.hid (LB.out.setCell (p := ⟨g8, k, none⟩) hg8 (.int .i64 ay))
          have y6 := (World.cell?_setCell_far wr ⟨g8, k, none⟩ ⟨b6, o6 + k, none⟩ (.int .i64 ay) (show g8 ≠ b6 by omega)).trans x6
          have y8 : (wr.setCell ⟨g8, k, none⟩ (.int .i64 ay)).cell? ⟨g8, k, none⟩ = some (.int .i64 ay) := World.cell?_setCell_same _ _ _ q0
          have yb := (BB1.out.next LB2.out).c0
          have q2' := S9.out.cell (i := k) (by rw [fillK_length]; exact hlt)
          have q3' := S9.out.frozen k
          clear x5 x6 q0 q1 q2 q3 s8
          generalize hWy : wr.setCell ⟨g8, k, none⟩ (.int .i64 ay) = wy at *
          clear hWy
          have i5 : IntKind.i64.wrap (z - ay) = z - ay := IntWalk.i64_in _ (by omega)
          have n1 : b6 ≠ g9 := by omega
          have n2 : g8 ≠ g9 := hne
          have n3 : w.heap.size + 1 ≠ g9 := by omega
          have KS := Lib.hid (show (wy.setCell ⟨g9, k, none⟩ (.int .i64 (z - ay))).drew.cell? ⟨w.heap.size + 1, 0, none⟩ = some (.slice (some ⟨b6, o6, none⟩) DD.length c6) ∧ (wy.setCell ⟨g9, k, none⟩ (.int .i64 (z - ay))).drew.cell? ⟨b6, o6 + k, none⟩ = some (.int .i64 z) ∧ (wy.setCell ⟨g9, k, none⟩ (.int .i64 (z - ay))).drew.cell? ⟨g8, k, none⟩ = some (.int .i64 ay) from ⟨keep_set yb n3, keep_set y6 n1, keep_set y8 n2⟩)
          go_upto_region 10 with (fail)
          go_region_held3 (fun w' => w'.cell? ⟨w.heap.size + 1, 0, none⟩ = some (.slice (some ⟨b6, o6, none⟩) DD.length c6) ∧ w'.cell? ⟨b6, o6 + k, none⟩ = some (.int .i64 z) ∧ w'.cell? ⟨g8, k, none⟩ = some (.int .i64 ay))
            (first
              | with_reducible exact KS.out
              | go_keep)
            (fail)
          clear i5
          go_wp2
          go_roundw
          case rel => exact ⟨k + 1, by omega, by go_num, S8.out.drew.far (Ne.symm (Ne.symm hne)) _, by rw [← HS9.out]; exact S9.out.drew.set_ k _, LB2.out.drew.setCell hg9 _⟩
          case measure => simp [intOf]; omega
        · have hK9 := HK9.out
          rw [if_neg hneg] at hK9
          have HZ := Lib.hid (HZ9.out hK9)
          clear hK9
          go_wp2_with (go_at_call 43; refine (csize_any y _ hyb.1 hyb.2).mono ?_; rintro r wy ⟨rfl, rfl⟩)
          go_roundw
          case rel => exact ⟨k + 1, by omega, by go_num, by rw [← HS8.out]; exact P8.out.set_ k _, by rw [HZ.out]; exact P9.out.far (Ne.symm hne) _, LB.out.setCell hg8 _⟩
          case measure => simp [intOf]; omega
      · obtain rfl : k = m := by omega
        have d8 := P8.out
        have d9 := P9.out
        rw [fillK_n] at d8 d9
        have D8 := Lib.hid (show Own wr g8 (rowF k F8) from d8)
        have D9 := Lib.hid (show Own wr g9 (rowF k F9) from d9)
        have BBr := Lib.hid (BB1.out.next LB.out)
        have BRr := Lib.hid (BR1.out.next LB.out)
        have Lr := Lib.hid (below_next L1.out LB.out)
        clear d8 d9 P8 P9
        obtain ⟨qb0, qb1, -, -⟩ := BBr.out.all
        have HRl := Lib.hid (rowF_len k F8)
        have HRl9 := Lib.hid (rowF_len k F9)
        generalize rowF k F8 = dm at *
        generalize rowF k F9 = ah at *
        by_cases h6 : rightB dm = true
        rotate_left
        · have H6 := Lib.hid (show rightB dm = false by simpa using h6)
          have h4 := HTE.out
          rw [if_neg h6] at h4
          subst h4
          rw [oL_n (by decide) dm, oL_n (by decide)]
          clear h6
          go_wp2_with fail
          refine (right_n _ _ dm k false _ HRl.out H6.out (by omega) D8.out.ints).mono ?_
          rintro r w5 ⟨rfl, hb⟩
          replace BRr := Lib.hid (BRr.out.next hb)
          replace Lr := Lib.hid (below_next Lr.out hb)
          clear qb0 qb1 hb
          obtain ⟨r0, r1, r2, r3⟩ := BRr.out.all
          go_wp2
          have T9 := (BRr.out.set0 (.slice none 0 0)).set1 (.slice none 0 0)
          obtain ⟨t0, t1, _, _⟩ := T9.all
          refine bodyPost_ret (v := .tuple #[.agg #[.slice none 0 0, .slice none 0 0], .int .i64 4]) (by simp [results, Try.results17, go_sem, t0, t1]) rfl ?_
          exact ⟨_, rfl, IsCell.none _ _, (Lr.out.setCell (by simp; omega) _).setCell (by simp; omega) _⟩
        · have h4 := HTE.out
          rw [if_pos h6] at h4
          subst h4
          rw [oL_0, oL_0]
          have H6 := Lib.hid h6
          clear h6
          go_wp2_with fail
          refine (right_n _ _ dm k true _ HRl.out H6.out (by omega) D8.out.ints).mono ?_
          rintro r w5 ⟨rfl, hb⟩
          replace BBr := Lib.hid (BBr.out.next hb)
          replace BRr := Lib.hid (BRr.out.next hb)
          replace Lr := Lib.hid (below_next Lr.out hb)
          replace LB := Lib.hid (below_next LB.out hb)
          have E8 := Lib.hid (D8.out.ints.below hb)
          have E9 := Lib.hid (D9.out.ints.below hb)
          clear qb0 qb1 hb
          obtain ⟨qb0, qb1, -, -⟩ := BBr.out.all
          obtain ⟨VV, hVV⟩ : ∃ VV, shV dm ah DD u = VV := ⟨_, rfl⟩
          have SH := Lib.hid (fun W i1 i2 i3 i4 => shifted_n (some ⟨g8, 0, none⟩) k dm A6 c6 DD B6 c7 u (some ⟨g9, 0, none⟩) k ah k W HRl.out HRl9.out H6.out HMA.out i1 i2 i3 i4 (by rw [HDL.out]; omega) (by omega))
          rw [hVV] at SH
          have HVV := Lib.hid hVV
          clear hVV
          have hlt5 := BRr.out.lt
          have hle5 := Lr.out.size
          have HKl := Lib.hid HRl.out
          go_wp2_with fail
          refine (SH.out _ E8.out (I6.out.below LB.out) (I7.out.below LB.out) E9.out).mono ?_
          rintro r w6 ⟨x, rfl, ⟨A10, c10, B10, e10, rfl, f1, f2, g1, g2⟩, hb⟩
          have HC := Lib.hid (show IsCell w6 w5.heap.size dm VV (.agg #[.slice A10 dm.length c10, .slice B10 VV.length e10]) from ⟨A10, c10, B10, e10, rfl, f1, f2, g1, g2⟩)
          have BR9 := Lib.hid (BRr.out.next hb)
          have L9 := Lib.hid (below_next Lr.out hb)
          clear f1 f2 g1 g2 hb qb0 qb1
          obtain ⟨r0, r1, r2, r3⟩ := BR9.out.all
          go_wp2
          have T9 := (BR9.out.set0 (.slice A10 dm.length c10)).set1 (.slice B10 VV.length e10)
          obtain ⟨t0, t1, _, _⟩ := T9.all
          refine bodyPost_ret (v := .tuple #[.agg #[.slice A10 dm.length c10, .slice B10 VV.length e10], .int .i64 0]) (by simp [results, Try.results17, go_sem, t0, t1]) rfl ?_
          have HFC := (HC.out.set2 hlt5 (.slice A10 dm.length c10) (.slice B10 VV.length e10)).mono hle5
          first
            | exact ⟨_, rfl, HFC, (L9.out.setCell (by simp; omega) _).setCell (by simp; omega) _⟩
            | (rw [HVV.out]; exact ⟨_, rfl, HFC, (L9.out.setCell (by simp; omega) _).setCell (by simp; omega) _⟩)
            | (rw [oL_0, oL_0, HVV.out]; exact ⟨_, rfl, HFC, (L9.out.setCell (by simp; omega) _).setCell (by simp; omega) _⟩)
end Go.Proofs.Yticicfbllhnpcaa.Sh
-- CvDrop
namespace Go.Proofs.Yticicfbllhnpcaa.Sh
open Go.RowKit Go.Shelf
set_option linter.unusedVariables false

set_option maxHeartbeats 8000000 in
set_option maxRecDepth 100000 in
theorem drop_any (A : Option Addr) (c : Nat) (d : List Int) (B : Option Addr) (c2 : Nat) (v : List Int) (A' : Option Addr) (c' : Nat) (e : List Int) (B' : Option Addr) (c2' : Nat) (u : List Int) (w : World) (id : Ints w A d) (iv : Ints w B v) (ie : Ints w A' e) (iu : Ints w B' u) (hd : d.length ≤ 100) (hv : v.length ≤ 1000) (he : e.length ≤ 100) (hu : u.length ≤ 1000) :
    Calls Try.prog 19 #[.agg #[.slice A d.length c, .slice B v.length c2], .agg #[.slice A' e.length c', .slice B' u.length c2']] w (RetC w (drD d v e u) (drV d v e u) (.int .i64 (coE d v e u))) := by
  obtain ⟨ba0, bb0, br0, hb0⟩ := w2_all w (.slice A d.length c) (.slice B v.length c2) (.slice A' e.length c') (.slice B' u.length c2')
  have BA := Lib.hid (ba0)
  have BB := Lib.hid (bb0)
  have BR := Lib.hid (br0)
  have L := Lib.hid (hb0)
  have ID := Lib.hid (id.below hb0)
  have IV := Lib.hid (iv.below hb0)
  have IE := Lib.hid (ie.below hb0)
  have IU := Lib.hid (iu.below hb0)
  clear ba0 bb0 br0 hb0 id iv ie iu
  obtain ⟨E, hE⟩ : ∃ E, coE d v e u = E := ⟨_, rfl⟩
  have HE := Lib.hid hE
  have CC := Lib.hid (fun W i1 i2 i3 i4 => counted_any A c d B c2 v A' c' e B' c2' u W i1 i2 i3 i4 hd hv he hu)
  rw [hE] at CC
  obtain ⟨qBA0, qBA1, fBA0, fBA1⟩ := BA.out.all
  obtain ⟨qBB0, qBB1, fBB0, fBB1⟩ := BB.out.all
  by_cases h0 : E = 0
  rotate_left
  · have hz : (E != 0) = true := by simpa using h0
    rw [show drD d v e u = [] by unfold drD; rw [hE]; exact oL_n h0 _, show drV d v e u = [] by unfold drV; rw [hE]; exact oL_n h0 _, hE]
    rw [oL_n h0, oL_n h0, oL_n h0] at CC
    clear hE h0 HE
    go_enter Try.func19, Try.ntmps19
    go_wp2_with fail
    refine (CC.out _ ID.out IV.out IE.out IU.out).mono ?_
    rintro r w1 ⟨A5, c5, A6, c6, B6, c7, rfl, -, -, -, hb⟩
    clear qBA0 qBA1 fBA0 fBA1 qBB0 qBB1 fBB0 fBB1
    obtain ⟨s0, s1, s2, s3⟩ := (BB.out.next hb).all
    have BR1 := Lib.hid (((BR.out.next hb).far (p := ⟨w.heap.size + 1, 0, none⟩) (show w.heap.size + 1 + 1 ≠ w.heap.size + 1 by omega) (.slice A6 0 c6)).far (p := ⟨w.heap.size + 1, 1, none⟩) (show w.heap.size + 1 + 1 ≠ w.heap.size + 1 by omega) (.slice B6 0 c7))
    have L1 := Lib.hid (((below_next L.out hb).setCell (p := ⟨w.heap.size + 1, 0, none⟩) (by simp) (.slice A6 0 c6)).setCell (p := ⟨w.heap.size + 1, 1, none⟩) (by simp) (.slice B6 0 c7))
    obtain ⟨r0, r1, r2, r3⟩ := BR1.out.all
    go_wp2
    have T9 := (BR1.out.set0 (.slice none 0 0)).set1 (.slice none 0 0)
    obtain ⟨t0, t1, _, _⟩ := T9.all
    refine bodyPost_ret (v := .tuple #[.agg #[.slice none 0 0, .slice none 0 0], .int .i64 E]) (by simp [results, Try.results19, go_sem, t0, t1]) rfl ?_
    exact ⟨_, rfl, IsCell.none _ _, (L1.out.setCell (by first | (simp; done) | (simp; omega)) _).setCell (by first | (simp; done) | (simp; omega)) _⟩
  subst h0
  rw [oL_0, oL_0, oL_0] at CC
  obtain ⟨hk1, hk2, hk3, hk4⟩ := coE_0 hE
  obtain ⟨hd3, hv64⟩ := cellB_small hk1
  obtain ⟨he3, hu64⟩ := cellB_small hk2
  have HDR := Lib.hid (coD_right (vn := v) (cellB_parts hk2).1)
  obtain ⟨DD, hDD⟩ : ∃ DD, coD v e = DD := ⟨_, rfl⟩
  obtain ⟨cs, hcs⟩ : ∃ cs, smL v = cs := ⟨_, rfl⟩
  obtain ⟨m, hm⟩ : ∃ m, v.length = m := ⟨_, rfl⟩
  rw [hDD] at hk4 CC HDR
  rw [hcs] at CC
  have HCL := Lib.hid (show cs.length = m by rw [← hcs, smL_len, hm])
  have HDL := Lib.hid (show DD.length = m by rw [← hk4, hm])
  have HCB := Lib.hid (fun i (hi : i < cs.length) => (show -65 ≤ cs.getD i 0 ∧ cs.getD i 0 ≤ 65 by rw [← hcs, smL_at v i (by rw [← hcs, smL_len] at hi; exact hi)]; exact sm65_bd _))
  have HDB := Lib.hid (fun i (hi : i < cs.length) => okAx_at HDR.out.1 i (by rw [HDL.out, ← HCL.out]; exact hi))
  have hm3 : m ≤ 3 := by rw [← HDL.out]; exact HDR.out.2.1
  obtain ⟨F8, hF8⟩ : ∃ F8, drF cs DD = F8 := ⟨_, rfl⟩
  obtain ⟨F9, hF9⟩ : ∃ F9, drG cs DD = F9 := ⟨_, rfl⟩
  have HMA := Lib.hid (tk_bd HCB.out HDB.out).2
  rw [HCL.out, hF9] at HMA
  have HRR := Lib.hid (dr_right (cs := cs) (D := DD) (by rw [HCL.out, HDL.out]) HDR.out.1 HDR.out.2.1 HDR.out.2.2)
  rw [HCL.out, hF8] at HRR
  have HTD := Lib.hid (show drD d v e u = rowF m F8 by unfold drD; rw [hE, oL_0, hm, hcs, hDD, hF8])
  have HTV := Lib.hid (show drV d v e u = shV (rowF m F8) (rowF m F9) DD u by unfold drV; rw [hE, oL_0, hm, hcs, hDD, hF8, hF9])
  rw [HTD.out, HTV.out, hE]
  have HF8 := Lib.hid hF8
  have HF9 := Lib.hid hF9
  have HM := Lib.hid hm
  clear hk1 hk2 hk3 hk4 hDD hcs hF8 hF9 hE 
  clear hm
  have hmk := fun W => run_make_row' (P := Try.prog) 22 3 (.int .i64 0) 8 Try.underlying22 infoInt rfl .i64 .i64 m (by omega) (by omega) W
  go_enter Try.func19, Try.ntmps19
  go_wp2_with fail
  refine (CC.out _ ID.out IV.out IE.out IU.out).mono ?_
  rintro r w1 ⟨A5, c5, A6, c6, B6, c7, rfl, hi5, hi6, hi7, hb⟩
  clear qBA0 qBA1 fBA0 fBA1 qBB0 qBB1 fBB0 fBB1
  rw [HCL.out]
  obtain ⟨s0, s1, s2, s3⟩ := (BB.out.next hb).all
  have BB0 := BB.out.next hb
  have BB1 := Lib.hid ((BB0.set0 (.slice A6 DD.length c6)).set1 (.slice B6 u.length c7))
  have BR1 := Lib.hid (((BR.out.next hb).far (p := ⟨w.heap.size + 1, 0, none⟩) (show w.heap.size + 1 + 1 ≠ w.heap.size + 1 by omega) (.slice A6 DD.length c6)).far (p := ⟨w.heap.size + 1, 1, none⟩) (show w.heap.size + 1 + 1 ≠ w.heap.size + 1 by omega) (.slice B6 u.length c7))
  have L1 := Lib.hid (((below_next L.out hb).setCell (p := ⟨w.heap.size + 1, 0, none⟩) (by simp) (.slice A6 DD.length c6)).setCell (p := ⟨w.heap.size + 1, 1, none⟩) (by simp) (.slice B6 u.length c7))
  have I5 := Lib.hid (hi5.set_box BB0 (.slice A6 DD.length c6) (.slice B6 u.length c7))
  have I6 := Lib.hid (hi6.set_box BB0 (.slice A6 DD.length c6) (.slice B6 u.length c7))
  have I7 := Lib.hid (hi7.set_box BB0 (.slice A6 DD.length c6) (.slice B6 u.length c7))
  clear BB0 hi5 hi6 hi7 hb BA BB BR L ID IV IE IU CC
  go_upto_region 4 with (fail)
  clear s0 s1 s2 s3
  generalize (w1.setCell ⟨w.heap.size + 1, 0, none⟩ (.slice A6 DD.length c6)).setCell ⟨w.heap.size + 1, 1, none⟩ (.slice B6 u.length c7) = w2 at *
  go_cut [8, 9] (fun s8 s9 wx => Cut4 w2 m s8 s9 wx)
  case first =>
    go_region
    all_goals (go_wp2_with fail; go_meet; (first | exact cut4_a _ _ | exact cut4_b _ _))
  case rest =>
    obtain ⟨g8, g9, rfl, rfl, o8, o9, hne, hg8, hg9, hb⟩ := hcut
    obtain ⟨w3, hw3⟩ : ∃ W, W = wc := ⟨_, rfl⟩
    subst hw3
    have O8 := Lib.hid o8
    have O9 := Lib.hid o9
    have L3 := Lib.hid hb
    have hl8 : g8 < w3.heap.size := o8.lt
    have hl9 : g9 < w3.heap.size := o9.lt
    have hlB := BB1.out.lt
    have hlR := BR1.out.lt
    have hlW := L1.out.size
    clear o8 o9 hb hmk
    go_wp2
    go_loopw [32] (fun j wr => ∃ k : Nat, k ≤ m ∧ j = .int .i64 (k : Int) ∧ Own wr g8 (fillK F8 m k) ∧ Own wr g9 (fillK F9 m k) ∧ Below w2.heap.size w2 wr) (fun j _ => m - (intOf j).toNat)
    case atStart => exact ⟨0, Nat.zero_le _, rfl, by rw [fillK_0]; exact O8.out, by rw [fillK_0]; exact O9.out, L3.out⟩
    case round =>
      obtain ⟨k, hk, rfl, p8, p9, hB⟩ := hrel
      have P8 := Lib.hid p8
      have P9 := Lib.hid p9
      have LB := Lib.hid hB
      clear p8 p9 hB
      by_cases hlt : k < m
      · obtain ⟨b5, o5, rfl, hb5, hc5⟩ := I5.out (by rw [HCL.out]; omega)
        obtain ⟨b6, o6, rfl, hb6, hc6⟩ := I6.out (by rw [HDL.out]; omega)
        have x5 := (LB.out.cell (p := ⟨b5, o5 + k, none⟩) hb5).trans (hc5 k (by rw [HCL.out]; exact hlt))
        have x6 := (LB.out.cell (p := ⟨b6, o6 + k, none⟩) hb6).trans (hc6 k (by rw [HDL.out]; exact hlt))
        have i0 : (0 : Int) ≤ (k : Int) := by omega
        have i1 : (k : Int) < (m : Int) := by omega
        have hyb := HCB.out k (by rw [HCL.out]; exact hlt)
        have hzb := HDB.out k (by rw [HCL.out]; exact hlt)
        have HK8 := Lib.hid (show F8 k = DD.getD k 0 - min (absI (cs.getD k 0)) (DD.getD k 0) by rw [← HF8.out]; rfl)
        have HK9 := Lib.hid (show F9 k = if 0 < cs.getD k 0 then min (absI (cs.getD k 0)) (DD.getD k 0) else 0 by rw [← HF9.out]; rfl)
        have q0 := P8.out.cell (i := k) (by rw [fillK_length]; exact hlt)
        have q1 := P8.out.frozen k
        have q2 := P9.out.cell (i := k) (by rw [fillK_length]; exact hlt)
        have q3 := P9.out.frozen k
        clear hc5 hc6
        generalize cs.getD k 0 = y at *
        generalize DD.getD k 0 = z at *
        have HS8 := Lib.hid (fillK_succ F8 m k hlt)
        have HS9 := Lib.hid (fillK_succ F9 m k hlt)
        have HZ9 := Lib.hid (fun h => fillK_same (f := F9) (n := m) (k := k) h hlt)
        have hdl : DD.length = m := HDL.out
        have i2 : (k : Int) < (DD.length : Int) := by omega
        have HDL2 := Lib.hid hdl
        clear hdl
        have yb := (BB1.out.next LB.out).c0
        have HAy := Lib.hid (show 0 ≤ min (absI y) z ∧ min (absI y) z ≤ 64 by unfold absI; omega)
        have CZ := Lib.hid (csize_any y wr.drew hyb.1 hyb.2)
        rw [HK8.out] at HS8
        go_upto_region 8 with (fail)
        go_region_held3 (fun w' => w'.cell? ⟨w.heap.size + 1, 0, none⟩ = some (.slice (some ⟨b6, o6, none⟩) DD.length c6) ∧ w'.cell? ⟨b6, o6 + k, none⟩ = some (.int .i64 z))
          (first
            | go_keep)
          (first
            | (go_at_call 43; (with_reducible refine (CZ.out).mono ?_); rintro r wy ⟨rfl, rfl⟩))
        have hab := HAy.out
        generalize min (absI y) z = mn at *
        have s8 := P8.out.drew.set_ k (z - mn)
        rw [HS8.out] at s8
        have S8 := Lib.hid s8
        have S9 := Lib.hid (P9.out.drew.far (p := ⟨g8, k, none⟩) (Ne.symm hne) (.int .i64 (z - mn)))
        have LB2 := Lib.hid (LB.out.drew.setCell (p := ⟨g8, k, none⟩) hg8 (.int .i64 (z - mn)))
        have q2' := S9.out.cell (i := k) (by rw [fillK_length]; exact hlt)
        have q3' := S9.out.frozen k
        clear s8
        by_cases hpos : 0 < y
        · have hK9 := HK9.out
          rw [if_pos hpos] at hK9
          rw [hK9] at HS9
          clear hK9
          go_wp2
          go_roundw
          case rel => exact ⟨k + 1, by omega, by go_num, S8.out.far (Ne.symm (Ne.symm hne)) _, by rw [← HS9.out]; exact S9.out.set_ k _, LB2.out.setCell hg9 _⟩
          case measure => simp [intOf]; omega
        · have hK9 := HK9.out
          rw [if_neg hpos] at hK9
          have HZ := Lib.hid (HZ9.out hK9)
          clear hK9
          go_wp2
          go_roundw
          case rel => exact ⟨k + 1, by omega, by go_num, S8.out, by rw [HZ.out]; exact S9.out, LB2.out⟩
          case measure => simp [intOf]; omega
      · obtain rfl : k = m := by omega
        have d8 := P8.out
        have d9 := P9.out
        rw [fillK_n] at d8 d9
        have D8 := Lib.hid (show Own wr g8 (rowF k F8) from d8)
        have D9 := Lib.hid (show Own wr g9 (rowF k F9) from d9)
        have BBr := Lib.hid (BB1.out.next LB.out)
        have BRr := Lib.hid (BR1.out.next LB.out)
        have Lr := Lib.hid (below_next L1.out LB.out)
        clear d8 d9 P8 P9
        obtain ⟨qb0, qb1, -, -⟩ := BBr.out.all
        have HRl := Lib.hid (rowF_len k F8)
        have HRl9 := Lib.hid (rowF_len k F9)
        have H6 := Lib.hid HRR.out
        generalize rowF k F8 = dm at *
        generalize rowF k F9 = ah at *
        have E8 := Lib.hid D8.out.ints
        have E9 := Lib.hid D9.out.ints
        clear qb0 qb1
        obtain ⟨qb0, qb1, -, -⟩ := BBr.out.all
        obtain ⟨VV, hVV⟩ : ∃ VV, shV dm ah DD u = VV := ⟨_, rfl⟩
        have SH := Lib.hid (fun W i1 i2 i3 i4 => shifted_n (some ⟨g8, 0, none⟩) k dm A6 c6 DD B6 c7 u (some ⟨g9, 0, none⟩) k ah k W HRl.out HRl9.out H6.out HMA.out i1 i2 i3 i4 (by rw [HDL.out]; omega) (by omega))
        rw [hVV] at SH
        have HVV := Lib.hid hVV
        clear hVV
        have hlt5 := BRr.out.lt
        have hle5 := Lr.out.size
        have HKl := Lib.hid HRl.out
        go_wp2_with fail
        refine (SH.out _ E8.out (I6.out.below LB.out) (I7.out.below LB.out) E9.out).mono ?_
        rintro r w6 ⟨x, rfl, ⟨A10, c10, B10, e10, rfl, f1, f2, g1, g2⟩, hb⟩
        have HC := Lib.hid (show IsCell w6 wr.heap.size dm VV (.agg #[.slice A10 dm.length c10, .slice B10 VV.length e10]) from ⟨A10, c10, B10, e10, rfl, f1, f2, g1, g2⟩)
        have BR9 := Lib.hid (BRr.out.next hb)
        have L9 := Lib.hid (below_next Lr.out hb)
        clear f1 f2 g1 g2 hb qb0 qb1
        obtain ⟨r0, r1, r2, r3⟩ := BR9.out.all
        go_wp2
        have T9 := (BR9.out.set0 (.slice A10 dm.length c10)).set1 (.slice B10 VV.length e10)
        obtain ⟨t0, t1, _, _⟩ := T9.all
        refine bodyPost_ret (v := .tuple #[.agg #[.slice A10 dm.length c10, .slice B10 VV.length e10], .int .i64 0]) (by simp [results, Try.results19, go_sem, t0, t1]) rfl ?_
        have HFC := (HC.out.set2 hlt5 (.slice A10 dm.length c10) (.slice B10 VV.length e10)).mono hle5
        first
          | exact ⟨_, rfl, HFC, (L9.out.setCell (by simp; omega) _).setCell (by simp; omega) _⟩
          | (rw [HVV.out]; exact ⟨_, rfl, HFC, (L9.out.setCell (by simp; omega) _).setCell (by simp; omega) _⟩)
          | (rw [oL_0, oL_0, HVV.out]; exact ⟨_, rfl, HFC, (L9.out.setCell (by simp; omega) _).setCell (by simp; omega) _⟩)
end Go.Proofs.Yticicfbllhnpcaa.Sh
-- CvMath
namespace Go.Proofs.Yticicfbllhnpcaa.Sh
open Go.RowKit
set_option linter.unusedVariables false

theorem atI_map {D : List Int} {N : Nat} {G : List Int → Int} {p : List Int} (hR : rightB D = true) (hN : sizeI D = N) (hp : inB D p = true) :
    atI D ((List.range N).map fun k : Nat => G (dg D (k : Int))) p = G p := by
  have hc : cellB D ((List.range N).map fun k : Nat => G (dg D (k : Int))).length = true := by unfold cellB; rw [hR, hN]; simp
  have hb := hor_bd D p hp
  have hz : sizeI D = prod D := by unfold sizeI; rw [if_pos hR]
  rw [atI_hor hc hp]
  obtain ⟨j, hj⟩ := Int.eq_ofNat_of_zero_le hb.1
  have hj2 : j < N := by omega
  rw [hj]
  simp [List.getD, hj2]
  rw [← hj, dg_hor D p hp]
theorem atI_dg {D v : List Int} {k : Nat} (h : cellB D v.length = true) (hk : k < v.length) : atI D v (dg D (k : Int)) = v.getD k 0 := by
  have hr := cellB_parts h
  have hz : sizeI D = prod D := by unfold sizeI; rw [if_pos hr.1]
  have hi := idxI_dg hr.1 (k : Int) (by omega) (by omega)
  rw [(atB_is h (by rw [hi]; omega)).2, hi, Int.toNat_natCast]
theorem inB_at {d p : List Int} (h : inB d p = true) {a : Nat} (ha : a < d.length) : 0 ≤ p.getD a 0 ∧ p.getD a 0 < d.getD a 0 := by
  induction d generalizing p a with
  | nil => simp at ha
  | cons x d ih =>
    cases p with
    | nil => simp [inB] at h
    | cons y p =>
      simp [inB] at h
      cases a with
      | zero => simpa using h.1
      | succ a => simpa using ih h.2 (a := a) (by simpa using ha)
theorem inB_set {d p : List Int} (h : inB d p = true) {a : Nat} (ha : a < d.length) {y : Int} (h0 : 0 ≤ y) (h1 : y < d.getD a 0) : inB d (p.set a y) = true := by
  induction d generalizing p a with
  | nil => simp at ha
  | cons x d ih =>
    cases p with
    | nil => simp [inB] at h
    | cons z p =>
      simp [inB] at h
      cases a with
      | zero => simp [inB]; exact ⟨⟨h0, by simpa using h1⟩, h.2⟩
      | succ a => simp [inB]; exact ⟨h.1, ih h.2 (by simpa using ha) (by simpa using h1)⟩
theorem inB_of {d p : List Int} (hl : p.length = d.length) (h : ∀ a, a < d.length → 0 ≤ p.getD a 0 ∧ p.getD a 0 < d.getD a 0) : inB d p = true := by
  induction d generalizing p with
  | nil => cases p with
    | nil => rfl
    | cons => simp at hl
  | cons x d ih =>
    cases p with
    | nil => simp at hl
    | cons z p =>
      simp [inB]
      have h0 := h 0 (by simp)
      simp at h0
      exact ⟨h0, ih (by simpa using hl) (fun a ha => by have := h (a + 1) (by simpa using ha); simpa using this)⟩
theorem rev_at (l : List Int) (i : Nat) (h : i < l.length) : l.reverse.getD i 0 = l.getD (l.length - 1 - i) 0 := by
  simp only [List.getD]
  rw [List.getElem?_reverse h]
theorem inB_rev {d p : List Int} (h : inB d p = true) : inB d.reverse p.reverse = true := by
  have hl := inB_length h
  refine inB_of (by simp [hl]) fun a ha => ?_
  rw [List.length_reverse] at ha
  rw [rev_at d a ha, rev_at p a (by omega), hl]
  exact inB_at h (by omega)
theorem mvP_is {mv : Int → Int → Int} {d p : List Int} {a : Nat} (hl : p.length = d.length) (ha : a < d.length) : mvP mv d (a : Int) p = p.set a (mv (p.getD a 0) (d.getD a 0)) := by
  unfold mvP withL
  rw [if_neg (by omega), if_pos (by omega), Int.toNat_natCast]
theorem mv_back {f g : Int → Int → Int} {d v : List Int} {b : Bool} (h : cellB d v.length = true)
    (hg : ∀ (a : Nat) i, a < d.length → 0 ≤ i → i < d.getD a 0 → 0 ≤ g i (d.getD a 0) ∧ g i (d.getD a 0) < d.getD a 0 ∧ f (g i (d.getD a 0)) (d.getD a 0) = i) : mvV g d (mvV f d v b) b = v := by
  have hr := cellB_parts h
  have hN : sizeI d = (v.length : Int) := hr.2.symm
  have hz : sizeI d = prod d := by unfold sizeI; rw [if_pos hr.1]
  symm
  unfold mvV
  rw [hN, Int.toNat_natCast]
  refine eq_map_of rfl fun k hk => ?_
  have hpos : posL d := posL_of (rightB_all hr.1).2.1 (by omega)
  have hin := dg_in hpos (k : Int)
  have hl : (dg d (k : Int)).length = d.length := dg_length _ _
  by_cases hd : d.length = 0
  · have e1 : ∀ mv : Int → Int → Int, ∀ p : List Int, p.length = 0 → mvP mv d (aI d b) p = p := fun mv p hp => by unfold mvP; rw [if_pos hp]
    rw [e1 g _ (by omega), atI_map hr.1 hN (G := fun p => atI d v (mvP f d (aI d b) p)) hin, e1 f _ (by omega), atI_dg h hk]
  · obtain ⟨a, ha, hal⟩ := aI_nat (d := d) (by omega) b
    have hat := inB_at hin hal
    have hga := hg a _ hal hat.1 hat.2
    rw [ha, mvP_is hl hal, atI_map hr.1 hN (G := fun p => atI d v (mvP f d (a : Int) p)) (inB_set hin hal hga.1 hga.2.1)]
    rw [mvP_is (by rw [List.length_set, hl]) hal]
    have e2 : ((dg d (k : Int)).set a (g ((dg d (k : Int)).getD a 0) (d.getD a 0))).getD a 0 = g ((dg d (k : Int)).getD a 0) (d.getD a 0) := by
      simp [List.getD, hl, hal]
    rw [e2, hga.2.2, List.set_set]
    have e3 : (dg d (k : Int)).set a ((dg d (k : Int)).getD a 0) = dg d (k : Int) := by
      rw [show (dg d (k : Int)).getD a 0 = (dg d (k : Int))[a]'(by omega) by simp [List.getD, hl, hal]]
      exact List.set_getElem_self _
    rw [e3, atI_dg h hk]
theorem mvV_len {f : Int → Int → Int} {d v : List Int} {b : Bool} (h : cellB d v.length = true) : (mvV f d v b).length = v.length := by
  unfold mvV; rw [← (cellB_parts h).2]; simp
theorem tuV_len {d v : List Int} (h : cellB d v.length = true) : (tuV d v).length = v.length := by
  unfold tuV; rw [(rev_right (cellB_parts h).1).2, ← (cellB_parts h).2]; simp
theorem rev_cell {d : List Int} {n : Nat} (h : cellB d n = true) : cellB d.reverse n = true := by
  have hr := cellB_parts h
  have := rev_right hr.1
  unfold cellB
  rw [this.1, this.2, ← hr.2]; simp
theorem flip_flip {d v : List Int} {b : Bool} (h : cellB d v.length = true) : mvV flI d (mvV flI d v b) b = v :=
  mv_back h fun a i ha h0 h1 => by unfold flI; omega
theorem roll_back {d v : List Int} {b : Bool} {x y : Int} (h : cellB d v.length = true) (hd : ∀ a : Nat, a < d.length → 1 ≤ d.getD a 0 → d.getD a 0 ∣ x + y) : mvV (rollI y) d (mvV (rollI x) d v b) b = v :=
  mv_back h fun a i ha h0 h1 => by
    unfold rollI
    have hL : 0 < d.getD a 0 := by omega
    refine ⟨Int.emod_nonneg _ (by omega), Int.emod_lt_of_pos _ hL, ?_⟩
    obtain ⟨q, hq⟩ := hd a ha (by omega)
    rw [Int.emod_add_emod, show i + y + x = i + d.getD a 0 * q by omega, Int.add_mul_emod_self_left, Int.emod_eq_of_lt h0 h1]
theorem turn_turn {d v : List Int} (h : cellB d v.length = true) : tuV d.reverse (tuV d v) = v := by
  have hr := cellB_parts h
  have hR := rev_right hr.1
  have hN : sizeI d = (v.length : Int) := hr.2.symm
  have hz : sizeI d = prod d := by unfold sizeI; rw [if_pos hr.1]
  symm
  unfold tuV
  rw [List.reverse_reverse, hR.2, hN, Int.toNat_natCast]
  refine eq_map_of rfl fun k hk => ?_
  have hpos : posL d := posL_of (rightB_all hr.1).2.1 (by omega)
  have hin := dg_in hpos (k : Int)
  rw [atI_map (D := d.reverse) hR.1 (hR.2.trans hN) (G := fun p => atI d v p.reverse) (inB_rev hin), List.reverse_reverse, atI_dg h hk]
/-- All lengths multiplied, one where there is none. -/
def onesP (d : List Int) : Int := d.foldl (fun n k => n * max k 1) 1
theorem onesP_snoc (d : List Int) (x : Int) : onesP (d ++ [x]) = onesP d * max x 1 := by unfold onesP; rw [List.foldl_append]; rfl
theorem onesP_take (d : List Int) (k : Nat) (h : k < d.length) : onesP (d.take (k + 1)) = onesP (d.take k) * max (d.getD k 0) 1 := by rw [take_snoc d k h, onesP_snoc]
theorem onesP_bd {d : List Int} (ha : d.all okAx = true) : ∀ k, k ≤ d.length → k ≤ 3 → 1 ≤ onesP (d.take k) ∧ onesP (d.take k) ≤ 64 ^ k := fun k => by
  induction k with
  | zero => intro _ _; simp [onesP]
  | succ k ih =>
    intro hk h3
    obtain ⟨h1, h2⟩ := ih (by omega) (by omega)
    have hx := okAx_at ha k (by omega)
    rw [onesP_take d k (by omega)]
    refine ⟨?_, ?_⟩
    · have := Int.mul_le_mul h1 (show (1 : Int) ≤ max (d.getD k 0) 1 by omega) (by omega) (by omega)
      omega
    · have := Int.mul_le_mul h2 (show max (d.getD k 0) 1 ≤ (64 : Int) by omega) (by omega) (by
        have : (0 : Int) < 64 ^ k := Int.pow_pos (by decide)
        omega)
      rw [Int.pow_succ]; exact this
theorem onesP_div (d : List Int) (a : Nat) (ha : a < d.length) (h1 : 1 ≤ d.getD a 0) : d.getD a 0 ∣ onesP d := by
  have : ∀ k, k ≤ d.length → a < k → d.getD a 0 ∣ onesP (d.take k) := fun k => by
    induction k with
    | zero => intro _ h; omega
    | succ k ih =>
      intro hk hak
      rw [onesP_take d k (by omega)]
      by_cases he : a = k
      · subst he
        exact ⟨onesP (d.take a), by rw [show max (d.getD a 0) 1 = d.getD a 0 by omega, Int.mul_comm]⟩
      · obtain ⟨q, hq⟩ := ih (by omega) (by omega)
        exact ⟨q * max (d.getD k 0) 1, by rw [hq, Int.mul_assoc]⟩
  have := this d.length (Nat.le_refl _) ha
  rwa [List.take_length] at this
theorem back_div {x n L : Int} (h : L ∣ n) : L ∣ x + -(x.tmod n) := by
  obtain ⟨q, hq⟩ := h
  have := Int.mul_tdiv_add_tmod x n
  exact ⟨q * x.tdiv n, by rw [← Int.mul_assoc, ← hq]; omega⟩
end Go.Proofs.Yticicfbllhnpcaa.Sh
-- CvLives
namespace Go.Proofs.Yticicfbllhnpcaa.Sh
open Go.RowKit
set_option linter.unusedVariables false

set_option maxHeartbeats 1000000 in
theorem list7_n (B : Option Addr) (n c : Nat) (w : World) (hn : n ≤ 1000) : Calls Try.prog 21 #[.slice B n c] w (RetLs B n c w) := by
  go_enter Try.func21, Try.ntmps21
  go_wp2
  refine bodyPost_ret (v := .agg #[.slice (some ⟨w.heap.size + 1, 0, none⟩) 1 1, .slice B n c]) (by simp [results, Try.results21, go_sem]) rfl ?_
  have hm := MineT.new 3 (w.alloc (.cells #[.slice (some ⟨w.heap.size + 1, 0, none⟩) 1 1, .slice B n c] 25)) [(n : Int)] w.heap.size (by simp) (by unfold maxLen; simp)
  rw [show (w.alloc (.cells #[.slice (some ⟨w.heap.size + 1, 0, none⟩) 1 1, .slice B n c] 25)).heap.size = w.heap.size + 1 from by simp] at hm
  exact ⟨_, rfl, hm.ints', below_next (below_new _ _) (below_new _ _)⟩
theorem take_live (A : Option Addr) (c : Nat) (B : Option Addr) (c2 : Nat) (A' : Option Addr) (c' : Nat) (B' : Option Addr) (c2' : Nat) (w : World) (id : Ints w A [1]) (iv : Ints w B [-3]) (ie : Ints w A' [2]) (iu : Ints w B' [1, 2]) :
    Calls Try.prog 17 #[.agg #[.slice A 1 c, .slice B 1 c2], .agg #[.slice A' 1 c', .slice B' 2 c2']] w (RetCI w [3] [0, 1, 2] (.int .i64 0)) := by
  have h := take_any A c [1] B c2 [-3] A' c' [2] B' c2' [1, 2] w id iv ie iu (by simp) (by simp) (by simp) (by simp)
  rw [show taE [1] [-3] [2] [1, 2] = 0 by decide, show taD [1] [-3] [2] [1, 2] = [3] by decide, show taV [1] [-3] [2] [1, 2] = [0, 1, 2] by decide] at h
  exact h.mono fun _ _ h => h.ci
theorem roll_live (A : Option Addr) (c : Nat) (B : Option Addr) (c2 : Nat) (A' : Option Addr) (c' : Nat) (B' : Option Addr) (c2' : Nat) (w : World) (id : Ints w A [1]) (iv : Ints w B [1]) (ie : Ints w A' [3]) (iu : Ints w B' [1, 2, 3]) :
    Calls Try.prog 10 #[.agg #[.slice A 1 c, .slice B 1 c2], .agg #[.slice A' 1 c', .slice B' 3 c2'], .bool false] w (RetCI w [3] [2, 3, 1] (.int .i64 0)) := by
  have h := roll_any A c [1] B c2 [1] A' c' [3] B' c2' [1, 2, 3] false w id iv ie iu (by simp) (by simp) (by simp) (by simp)
  rw [show roE [1] [1] [3] [1, 2, 3] = 0 by decide, show roD [1] [1] [3] [1, 2, 3] = [3] by decide, show roV [1] [1] [3] [1, 2, 3] false = [2, 3, 1] by decide] at h
  exact h.mono fun _ _ h => h.ci
theorem nums012 (A : Option Addr) (c : Nat) (B : Option Addr) (d : Nat) (w : World) (ha : Ints w A [0, 1, 2]) (hb : Ints w B [0, 1, 2]) :
    Calls Try.prog 22 #[.slice A 3 c, .slice B 3 d] w fun e w' => e = .returned (.bool true) ∧ Below w.heap.size w w' := nums_eq A c [0, 1, 2] B d w (by simp) ha hb
theorem nums231 (A : Option Addr) (c : Nat) (B : Option Addr) (d : Nat) (w : World) (ha : Ints w A [2, 3, 1]) (hb : Ints w B [2, 3, 1]) :
    Calls Try.prog 22 #[.slice A 3 c, .slice B 3 d] w fun e w' => e = .returned (.bool true) ∧ Below w.heap.size w w' := nums_eq A c [2, 3, 1] B d w (by simp) ha hb

set_option maxHeartbeats 2000000 in
set_option maxRecDepth 100000 in
theorem lives7_any (w : World) : Calls Try.prog 7 #[] w fun e w' => e = .returned (.bool true) ∧ Below w.heap.size w w' := by
  have L := Lib.hid (Below.refl w.heap.size w)
  have KB := Lib.hid (below_new w (.cells (cellsI [-3]) 2))
  replace L := Lib.hid (below_next L.out KB.out)
  clear KB
  have R1 := Lib.hid (row1 2 w [-3] (by simp))
  go_enter Try.func7, Try.ntmps7
  go_wp2_with fail
  refine (list7_n _ _ _ _ (by omega)).mono ?_
  rintro r w1 ⟨A1, rfl, hi, hb⟩
  replace L := Lib.hid (below_next L.out hb)
  replace R1 := Lib.hid (R1.out.below hb)
  clear hb
  have I1 := Lib.hid (hi)
  clear hi
  have KB := Lib.hid (below_new w1 (.cells (cellsI [1, 2]) 2))
  replace L := Lib.hid (below_next L.out KB.out)
  replace R1 := Lib.hid (R1.out.below KB.out)
  replace I1 := Lib.hid (I1.out.below KB.out)
  clear KB
  have R2 := Lib.hid (row1 2 w1 [1, 2] (by simp))
  go_wp2_with fail
  refine (list7_n _ _ _ _ (by omega)).mono ?_
  rintro r w2 ⟨A2, rfl, hi, hb⟩
  replace L := Lib.hid (below_next L.out hb)
  replace R1 := Lib.hid (R1.out.below hb)
  replace I1 := Lib.hid (I1.out.below hb)
  replace R2 := Lib.hid (R2.out.below hb)
  clear hb
  have I2 := Lib.hid (hi)
  clear hi
  go_wp2_with fail
  refine (take_live _ _ _ _ _ _ _ _ _ I1.out R1.out I2.out R2.out).mono ?_
  rintro r w3 ⟨A3, c3, B3, e3, rfl, j1, j2, hb⟩
  replace L := Lib.hid (below_next L.out hb)
  replace R1 := Lib.hid (R1.out.below hb)
  replace I1 := Lib.hid (I1.out.below hb)
  replace R2 := Lib.hid (R2.out.below hb)
  replace I2 := Lib.hid (I2.out.below hb)
  clear hb
  clear I1
  clear R1
  clear I2
  clear R2
  have Q3 := Lib.hid j2
  clear j1 j2
  have KB := Lib.hid (below_new w3 (.cells #[.slice A3 1 c3, .slice B3 3 e3] 25))
  have K3 := Lib.hid (Box.new w3 (.slice A3 1 c3) (.slice B3 3 e3))
  replace L := Lib.hid (below_next L.out KB.out)
  replace Q3 := Lib.hid (Q3.out.below KB.out)
  go_upto_region 2 with (fail)
  clear KB
  generalize hW : w3.alloc (.cells #[.slice A3 1 c3, .slice B3 3 e3] 25) = W3 at *
  clear hW
  generalize w3.heap.size = g3 at *
  have KB := Lib.hid (below_new W3 (.cells (cellsI [1]) 2))
  replace L := Lib.hid (below_next L.out KB.out)
  replace Q3 := Lib.hid (Q3.out.below KB.out)
  replace K3 := Lib.hid (K3.out.next KB.out)
  clear KB
  have R1 := Lib.hid (row1 2 W3 [1] (by simp))
  go_wp2_with fail
  refine (list7_n _ _ _ _ (by omega)).mono ?_
  rintro r w4 ⟨A4, rfl, hi, hb⟩
  replace L := Lib.hid (below_next L.out hb)
  replace Q3 := Lib.hid (Q3.out.below hb)
  replace K3 := Lib.hid (K3.out.next hb)
  replace R1 := Lib.hid (R1.out.below hb)
  clear hb
  have I1 := Lib.hid (hi)
  clear hi
  have KB := Lib.hid (below_new w4 (.cells (cellsI [1, 2, 3]) 2))
  replace L := Lib.hid (below_next L.out KB.out)
  replace Q3 := Lib.hid (Q3.out.below KB.out)
  replace K3 := Lib.hid (K3.out.next KB.out)
  replace R1 := Lib.hid (R1.out.below KB.out)
  replace I1 := Lib.hid (I1.out.below KB.out)
  clear KB
  have R2 := Lib.hid (row1 2 w4 [1, 2, 3] (by simp))
  go_wp2_with fail
  refine (list7_n _ _ _ _ (by omega)).mono ?_
  rintro r w5 ⟨A5, rfl, hi, hb⟩
  replace L := Lib.hid (below_next L.out hb)
  replace Q3 := Lib.hid (Q3.out.below hb)
  replace K3 := Lib.hid (K3.out.next hb)
  replace R1 := Lib.hid (R1.out.below hb)
  replace I1 := Lib.hid (I1.out.below hb)
  replace R2 := Lib.hid (R2.out.below hb)
  clear hb
  have I2 := Lib.hid (hi)
  clear hi
  go_wp2_with fail
  refine (roll_live _ _ _ _ _ _ _ _ _ I1.out R1.out I2.out R2.out).mono ?_
  rintro r w6 ⟨A6, c6, B6, e6, rfl, j1, j2, hb⟩
  replace L := Lib.hid (below_next L.out hb)
  replace Q3 := Lib.hid (Q3.out.below hb)
  replace K3 := Lib.hid (K3.out.next hb)
  replace R1 := Lib.hid (R1.out.below hb)
  replace I1 := Lib.hid (I1.out.below hb)
  replace R2 := Lib.hid (R2.out.below hb)
  replace I2 := Lib.hid (I2.out.below hb)
  clear hb
  clear I1
  clear R1
  clear I2
  clear R2
  have Q6 := Lib.hid j2
  clear j1 j2
  have KB := Lib.hid (below_new w6 (.cells #[.slice A6 1 c6, .slice B6 3 e6] 25))
  have K6 := Lib.hid (Box.new w6 (.slice A6 1 c6) (.slice B6 3 e6))
  replace L := Lib.hid (below_next L.out KB.out)
  replace Q3 := Lib.hid (Q3.out.below KB.out)
  replace K3 := Lib.hid (K3.out.next KB.out)
  replace Q6 := Lib.hid (Q6.out.below KB.out)
  go_upto_region 3 with (fail)
  clear KB
  generalize hW : w6.alloc (.cells #[.slice A6 1 c6, .slice B6 3 e6] 25) = W6 at *
  clear hW
  generalize w6.heap.size = g6 at *
  have K36 := Lib.hid K3.out.c1
  have KB := Lib.hid (below_new W6 (.cells (cellsI [0, 1, 2]) 2))
  replace L := Lib.hid (below_next L.out KB.out)
  replace Q3 := Lib.hid (Q3.out.below KB.out)
  replace K3 := Lib.hid (K3.out.next KB.out)
  replace Q6 := Lib.hid (Q6.out.below KB.out)
  replace K6 := Lib.hid (K6.out.next KB.out)
  clear KB
  have R1 := Lib.hid (row1 2 W6 [0, 1, 2] (by simp))
  obtain ⟨q0, q1, -, -⟩ := K3.out.all
  have q2 : W6.cell? ⟨g3, 1, none⟩ = some (.slice B3 3 e3) := K36.out
  go_wp2_with fail
  refine (nums012 _ _ _ _ _ Q3.out R1.out).mono ?_
  rintro r w7 ⟨rfl, hb⟩
  replace L := Lib.hid (below_next L.out hb)
  replace Q3 := Lib.hid (Q3.out.below hb)
  replace K3 := Lib.hid (K3.out.next hb)
  replace Q6 := Lib.hid (Q6.out.below hb)
  replace K6 := Lib.hid (K6.out.next hb)
  replace R1 := Lib.hid (R1.out.below hb)
  clear hb
  clear q0 q1 q2 K36
  clear R1
  have K67 := Lib.hid K6.out.c1
  have KB := Lib.hid (below_new w7 (.cells (cellsI [2, 3, 1]) 2))
  replace L := Lib.hid (below_next L.out KB.out)
  replace Q3 := Lib.hid (Q3.out.below KB.out)
  replace K3 := Lib.hid (K3.out.next KB.out)
  replace Q6 := Lib.hid (Q6.out.below KB.out)
  replace K6 := Lib.hid (K6.out.next KB.out)
  clear KB
  have R2 := Lib.hid (row1 2 w7 [2, 3, 1] (by simp))
  obtain ⟨q0, q1, -, -⟩ := K6.out.all
  have q2 : w7.cell? ⟨g6, 1, none⟩ = some (.slice B6 3 e6) := K67.out
  go_wp2_with fail
  refine (nums231 _ _ _ _ _ Q6.out R2.out).mono ?_
  rintro r w8 ⟨rfl, hb⟩
  replace L := Lib.hid (below_next L.out hb)
  replace Q3 := Lib.hid (Q3.out.below hb)
  replace K3 := Lib.hid (K3.out.next hb)
  replace Q6 := Lib.hid (Q6.out.below hb)
  replace K6 := Lib.hid (K6.out.next hb)
  replace R2 := Lib.hid (R2.out.below hb)
  clear hb
  go_wp2
  go_ret
  exact ⟨ret_bool (by first | rfl | simp), L.out⟩
end Go.Proofs.Yticicfbllhnpcaa.Sh
