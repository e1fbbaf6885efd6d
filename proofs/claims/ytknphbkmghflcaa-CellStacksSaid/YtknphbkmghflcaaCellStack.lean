/-
  What cell.Stack answers of cells that may be stacked: the cell of all their numbers, in order; nothing that was there is written. Condition: at most 70 cells, of at most 10 axes and 200 numbers.
-/
import Derived.Test.YtknphbkmghflcaaCellCopy
import Derived.Test.YtknphbkmghflcaaCellRItem
import Derived.Deep.DeepCutAuto
namespace Go.Proofs.Ytknphbkmghflcaa.Sh
open Go.RowKit
set_option linter.unusedVariables false

def catV (L : List Two) : List Int := (L.map (·.2)).flatten
theorem catV_take (L : List Two) (k : Nat) (h : k < L.length) : catV (L.take (k + 1)) = catV (L.take k) ++ L[k].2 := by
  unfold catV
  rw [List.take_succ_eq_append_getElem h, List.map_append, List.flatten_append]
  simp
theorem catV_len {L : List Two} {s : Nat} (h : ∀ x ∈ L, x.2.length = s) : (catV L).length = L.length * s := by
  unfold catV
  induction L with
  | nil => simp
  | cons x L ih =>
    rw [List.map_cons, List.flatten_cons, List.length_append, ih (fun y hy => h y (List.mem_cons_of_mem _ hy)), h x (by simp), List.length_cons, Nat.add_mul, Nat.one_mul]
    omega
/-- The row behind k copies. -/
def rowK (L : List Two) (s k : Nat) : List Int := catV (L.take k) ++ List.replicate ((L.length - k) * s) 0
theorem rowK_0 (L : List Two) (s : Nat) : rowK L s 0 = List.replicate (L.length * s) 0 := by simp [rowK, catV]
theorem rowK_n (L : List Two) (s : Nat) : rowK L s L.length = catV L := by simp [rowK]
theorem catV_take_len {L : List Two} {s k : Nat} (h : ∀ x ∈ L, x.2.length = s) (hk : k ≤ L.length) : (catV (L.take k)).length = k * s := by
  rw [catV_len (L := L.take k) (s := s) (fun x hx => h x (List.mem_of_mem_take hx)), List.length_take, Nat.min_eq_left hk]
theorem rowK_len {L : List Two} {s k : Nat} (h : ∀ x ∈ L, x.2.length = s) (hk : k ≤ L.length) : (rowK L s k).length = L.length * s := by
  unfold rowK
  rw [List.length_append, catV_take_len h hk, List.length_replicate, ← Nat.add_mul, Nat.add_sub_cancel' hk]
theorem rowK_succ {L : List Two} {s k : Nat} (h : ∀ x ∈ L, x.2.length = s) (hk : k < L.length) : splice (rowK L s k) (k * s) L[k].2 = rowK L s (k + 1) := by
  have hl := catV_take_len h (Nat.le_of_lt hk)
  have hv : L[k].2.length = s := h _ (List.getElem_mem hk)
  unfold splice
  rw [hv]
  unfold rowK
  rw [catV_take L k hk, List.take_append_of_le_length (by omega), List.take_of_length_le (by omega), List.drop_append, List.drop_of_length_le (by omega), List.nil_append, hl, List.append_assoc]
  congr 2
  rw [List.drop_replicate]
  congr 1
  have : L.length - k = (L.length - (k + 1)) + 1 := by omega
  rw [this, Nat.add_mul, Nat.one_mul]
  omega

section
variable {A : Option Addr} {c : Nat} {L : List Two} {w : World}
theorem allRight_b (b : Bool) (h : L.all pR = b) (hL : L.length ≤ 70) (hs : SmallL L) (hi : Cells w A L) :
    Calls Try.prog 39 #[.slice A L.length c, .func (.func 13) #[] #[]] w fun e w' => e = .returned (.bool b) ∧ Below w.heap.size w w' := by
  subst h; exact allRight_any A c L w hL hs hi
theorem allAlike_b (g : Nat) (A0 : Option Addr) (c0 : Nat) (d0 : List Int) (y : Value) (b : Bool) (h : L.all (pD d0) = b) (hL : L.length ≤ 70) (hs : SmallL L) (hi : Cells w A L) (h0 : d0.length ≤ 100) (hbox : Box w g (.slice A0 d0.length c0) y) (i0 : Ints w A0 d0) :
    Calls Try.prog 39 #[.slice A L.length c, .func (.func 40) #[] #[.pointer (some ⟨g, 0, none⟩)]] w fun e w' => e = .returned (.bool b) ∧ Below w.heap.size w w' := by
  subst h; exact allAlike_any A c L g A0 c0 d0 y w hL hs hi h0 hbox i0
end
theorem keepG {W w' : World} {gV g : Nat} {x : Value} (h : W.grownBy w' (some gV)) (hg : g ≠ gV) (hc : W.cell? ⟨g, 1, none⟩ = some x) : w'.cell? ⟨g, 1, none⟩ = some x :=
  (World.cell?_of_block (h.block g (World.block_lt_of_cell? W ⟨g, 1, none⟩ hc) (fun e => hg (by injection e)))).trans hc
theorem mine_turned {t : TypeId} {w w' : World} {base gV : Nat} {v : Value} {xs ys : List Int} (h : MineT t w base v xs) (hg : w.heap[gV]? = some (.cells (cellsI ys) 2 (0, 0))) (ht : t ≠ 2) (hr : w.grownBy w' (some gV)) : MineT t w' base v xs := by
  refine h.keep fun g hv => hr.block g (h.lt g hv) (fun e => ?_)
  injection e with e
  subst e
  rcases h.2 with ⟨rfl, _⟩ | ⟨g', cap, cur, rfl, _, hh, _⟩
  · simp [Value.ownBlock] at hv
  · simp [Value.ownBlock] at hv
    subst hv
    rw [hg] at hh
    injection hh with hh
    injection hh with _ hh
    exact ht hh.symm
theorem mine_block {w : World} {base gV : Nat} {xs : List Int} (hg : w.heap[gV]? = some (.cells (cellsI xs) 2 (0, 0))) (hb : base ≤ gV) (hl : xs.length ≤ maxLen) : MineT 2 w base (.slice (some ⟨gV, 0, none⟩) xs.length xs.length) xs :=
  ⟨by simp, .inr ⟨gV, xs.length, cellsI xs, rfl, hb, hg, Nat.le_refl _, hl, by simp [cellsI], by simp [cellsI, ← List.map_take]⟩⟩

set_option maxHeartbeats 4000000 in
set_option maxRecDepth 100000 in
theorem stack_ok (A : Option Addr) (c : Nat) (L : List Two) (d0 v0 : List Int) (w : World) (hL : L.length ≤ 70) (hs : SmallL L) (hi : Cells w A L) (h0 : ∃ h : 0 < L.length, L[0] = (d0, v0)) (hR : L.all pR = true) (hA : L.all (pD d0) = true) (hD : rightB ((L.length : Int) :: d0) = true) :
    Calls Try.prog 25 #[.slice A L.length c] w (RetC w ((L.length : Int) :: d0) (catV L) (.int .i64 0)) := by
  obtain ⟨hpos, hL0⟩ := h0
  have hall : ∀ x ∈ L, x.1 = d0 ∧ cellB d0 x.2.length = true := fun x hx => by
    have h1 := List.all_eq_true.1 hR x hx
    have h2 : d0 = x.1 := by simpa [pD] using List.all_eq_true.1 hA x hx
    exact ⟨h2.symm, by rw [h2]; exact h1⟩
  have hc0 := hall (d0, v0) (hL0 ▸ List.getElem_mem hpos)
  obtain ⟨hr0, hn0'⟩ := cellB_parts hc0.2
  have hn0 : (v0.length : Int) = sizeI d0 := hn0'
  clear hn0'
  have hlen : ∀ x ∈ L, x.2.length = v0.length := fun x hx => by
    have := (cellB_parts (hall x hx).2).2
    omega
  have hsd := hs (d0, v0) (hL0 ▸ List.getElem_mem hpos)
  obtain ⟨q3, qa, q64⟩ := rightB_all hD
  have hsz : (sizeI ((L.length : Int) :: d0)).toNat = L.length * v0.length := by
    have e1 : sizeI ((L.length : Int) :: d0) = prod ((L.length : Int) :: d0) := sizeI_mk q3 qa q64
    have e2 : sizeI d0 = prod d0 := by simp [sizeI, hr0]
    rw [prod_cons] at e1
    rw [e1, ← e2, ← hn0, ← Int.natCast_mul, Int.toNat_natCast]
  have hN : L.length * v0.length ≤ 64 := by
    have e1 : sizeI ((L.length : Int) :: d0) = prod ((L.length : Int) :: d0) := sizeI_mk q3 qa q64
    omega
  have hcB : cellB ((L.length : Int) :: d0) (L.length * v0.length) = true := by
    rw [cellB_is hD]
    have : 0 ≤ sizeI ((L.length : Int) :: d0) := by rw [sizeI_mk q3 qa q64]; exact (prod_bd _ qa).1
    simp
    rw [← Int.natCast_mul]
    omega
  have hdl : d0.length + 1 ≤ 3 := by simpa using q3
  have HCB := Lib.hid hcB
  have HLEN := Lib.hid hlen
  have HSZ := Lib.hid hsz
  have HR := Lib.hid hR
  have HA := Lib.hid hA
  have HD := Lib.hid hD
  have HI := Lib.hid hi
  have HS := Lib.hid hs
  have HL0 := Lib.hid hL0
  have hz0 : ((L.length : Int) == 0) = false := by simp; intro e; subst e; simp at hpos
  have hz1 : L.length ≠ 0 := by omega
  have B2 := Lib.hid (Box.new w (.slice none 0 0) (.slice none 0 0))
  have L0 := Lib.hid (below_box (Below.refl (w.alloc (.cells #[.slice none 0 0, .slice none 0 0] 25)).heap.size _))
  clear hcB hlen hsz hR hA hD hi hs hL0 hall hc0 hr0 hn0 qa q64 q3
  go_enter Try.func25, Try.ntmps25
  go_wp2_with fail
  refine (allRight_b true HR.out hL HS.out (HI.out.below L0.out)).mono ?_
  rintro e w1 ⟨rfl, hb1⟩
  have B21 := Lib.hid (B2.out.next hb1)
  have L1 := Lib.hid (below_next L0.out hb1)
  clear hb1 B2 L0
  obtain ⟨b, off, rfl, hbb, hcs⟩ := HI.out.below L1.out hpos
  obtain ⟨A0, c0, B0, e0, k0, k1, k2, k3⟩ := hcs 0 hpos
  rw [HL0.out] at k0 k1 k2 k3
  simp only [Nat.mul_zero, Nat.add_zero] at k0 k1 k2 k3
  have I0 := Lib.hid k2
  clear k2 k3 hcs
  go_upto_region 4 with (fail)
  have B4 := Lib.hid (Box.new w1 (.slice A0 d0.length c0) (.slice B0 v0.length e0))
  have B22 := Lib.hid (B21.out.alloc (.cells #[.slice A0 d0.length c0, .slice B0 v0.length e0] 25))
  have L2 := Lib.hid (L1.out.alloc L1.out.size (.cells #[.slice A0 d0.length c0, .slice B0 v0.length e0] 25))
  have I02 := Lib.hid (I0.out.below (below_box (Below.refl (w1.alloc (.cells #[.slice A0 d0.length c0, .slice B0 v0.length e0] 25)).heap.size _)))
  have g24 := B21.out.lt
  generalize w1.alloc (.cells #[.slice A0 d0.length c0, .slice B0 v0.length e0] 25) = W2 at *
  generalize w1.heap.size = g4 at *
  clear k0 k1 hbb
  go_wp2_with fail
  refine (allAlike_b g4 A0 c0 d0 (.slice B0 v0.length e0) true HA.out hL HS.out (HI.out.below L2.out) (by omega) B4.out I02.out).mono ?_
  rintro e w3 ⟨rfl, hb3⟩
  have B23 := Lib.hid (B22.out.next hb3)
  have B43 := Lib.hid (B4.out.next hb3)
  have L3 := Lib.hid (below_next L2.out hb3)
  have I03 := Lib.hid (I02.out.below hb3)
  obtain ⟨f0, f1, _, _⟩ := B43.out.all
  have g4lt := B43.out.lt
  clear hb3
  have MN := Lib.hid (MineT.new 3 w3 [(L.length : Int)] w3.heap.size (Nat.le_refl _) (by unfold maxLen; simp))
  have I03' := Lib.hid (I03.out.below (below_box (Below.refl (w3.alloc (.cells (cellsI [(L.length : Int)]) 3)).heap.size _)))
  go_wp2_with (at_builtin; refine wpList_appI numI Try.underlying22 rfl (.tmp 29) (.tmp 31) rfl w3.heap.size _ [(L.length : Int)] rfl MN.out _ _ d0 rfl I03'.out (by simp; omega) (by simp) ?_; intro vD w4 hmD hgD haD; obtain ⟨AD, cD, rfl, hiD⟩ := hmD.ints)
  have hb4 : Below w3.heap.size w3 w4 := ((Below.refl _ w3).alloc (Nat.le_refl _) _).grown hgD (by simp) MN.out.block
  have HID := Lib.hid (show Ints w4 AD ((L.length : Int) :: d0) from hiD)
  have B24 := Lib.hid (B23.out.next hb4)
  have B44 := Lib.hid (B43.out.next hb4)
  have L4 := Lib.hid (below_next L3.out hb4)
  clear hmD hgD haD hiD hb4 f0 f1
  go_wp2_with fail
  refine (zero_m _ _ ((L.length : Int) :: d0) _ (by simp; omega) HID.out HD.out).mono ?_
  rintro e w5 ⟨A5, c5, gV, rfl, hm5, hrow, hgV, hb5⟩
  rw [HSZ.out] at hrow ⊢
  have B25 := Lib.hid (B24.out.next hb5)
  have B45 := Lib.hid (B44.out.next hb5)
  have L5 := Lib.hid (below_next L4.out hb5)
  have M5 := Lib.hid hm5
  have R5 := Lib.hid hrow
  have g4V : g4 < gV := by have := B44.out.lt; omega
  have g2V : w.heap.size < gV := by omega
  have gVlt : gV < w5.heap.size := by
    rcases Nat.lt_or_ge gV w5.heap.size with h | h
    · exact h
    · rw [Array.getElem?_eq_none h] at hrow; cases hrow
  clear hb5 hm5 hrow
  go_upto_region 8 with (fail)
  have B6 := Lib.hid (Box.new w5 (.slice A5 (d0.length + 1) c5) (.slice (some ⟨gV, 0, none⟩) (L.length * v0.length) (L.length * v0.length)))
  have B26 := Lib.hid (B25.out.alloc (.cells #[.slice A5 (d0.length + 1) c5, .slice (some ⟨gV, 0, none⟩) (L.length * v0.length) (L.length * v0.length)] 25))
  have B46 := Lib.hid (B45.out.alloc (.cells #[.slice A5 (d0.length + 1) c5, .slice (some ⟨gV, 0, none⟩) (L.length * v0.length) (L.length * v0.length)] 25))
  have L6 := Lib.hid (L5.out.alloc L5.out.size (.cells #[.slice A5 (d0.length + 1) c5, .slice (some ⟨gV, 0, none⟩) (L.length * v0.length) (L.length * v0.length)] 25))
  have M6 := Lib.hid (M5.out.alloc (.cells #[.slice A5 (d0.length + 1) c5, .slice (some ⟨gV, 0, none⟩) (L.length * v0.length) (L.length * v0.length)] 25))
  have R6 := Lib.hid ((Below.heap_alloc w5 (.cells #[.slice A5 (d0.length + 1) c5, .slice (some ⟨gV, 0, none⟩) (L.length * v0.length) (L.length * v0.length)] 25) gV gVlt).trans R5.out)
  have g6 : w5.heap.size < (w5.alloc (.cells #[.slice A5 (d0.length + 1) c5, .slice (some ⟨gV, 0, none⟩) (L.length * v0.length) (L.length * v0.length)] 25)).heap.size := by simp
  generalize w5.alloc (.cells #[.slice A5 (d0.length + 1) c5, .slice (some ⟨gV, 0, none⟩) (L.length * v0.length) (L.length * v0.length)] 25) = W6 at *
  generalize hg6 : w5.heap.size = g6' at *
  have HG6 := Lib.hid hg6
  clear hg6
  obtain ⟨f0, f1, _, _⟩ := B6.out.all
  go_wp2_with fail
  refine (cright_yes _ _ ((L.length : Int) :: d0) _ _ _ _ (by unfold maxLen; simp; omega) M6.out.ints' HCB.out).mono ?_
  rintro e w7 ⟨rfl, hb7⟩
  have B67 := Lib.hid (B6.out.next hb7)
  have B27 := Lib.hid (B26.out.next hb7)
  have B47 := Lib.hid (B46.out.next hb7)
  have L7 := Lib.hid (below_next L6.out hb7)
  have M7 := Lib.hid (M6.out.below hb7 (Nat.le_refl _))
  have R7 := Lib.hid ((hb7.block gV (by omega)).trans R6.out)
  have g67 := B67.out.lt
  clear hb7 f0 f1 B6 B26 B46 L6 M6 R6
  go_wp2
  go_loopw [40] (fun j wr => ∃ k : Nat, k ≤ L.length ∧ j = .int .i64 (k : Int) ∧ w7.grownBy wr (some gV) ∧ wr.heap[gV]? = some (.cells (cellsI (rowK L v0.length k)) 2 (0, 0))) (fun j _ => L.length - (intOf j).toNat)
  case atStart => exact ⟨0, Nat.zero_le _, rfl, World.grownBy.refl _ _, by rw [rowK_0]; exact R7.out⟩
  case round =>
    obtain ⟨k, hk, rfl, hgr, hrw⟩ := hrel
    have HGR := Lib.hid hgr
    have HRW := Lib.hid hrw
    have B68 := Lib.hid (B67.out.grown hgr (by simp; omega))
    have B28 := Lib.hid (B27.out.grown hgr (by simp; omega))
    have B48 := Lib.hid (B47.out.grown hgr (by simp; omega))
    have LB := Lib.hid (below_turned L7.out hgr (by omega))
    have hsz7 := hgr.size
    clear hgr hrw
    by_cases hlt : k < L.length
    · obtain ⟨b', off', eb, hbb, hcs⟩ := HI.out.below LB.out hpos
      injection eb with eb
      injection eb with eb1 eb2
      subst eb1 eb2
      obtain ⟨Ai, ci, Bi, ei, h1, h2, h3, h4⟩ := hcs k hlt
      rw [Nat.mul_comm 2 k] at h1 h2
      have hvk := HLEN.out L[k] (List.getElem_mem hlt)
      have HSUC := Lib.hid (rowK_succ HLEN.out hlt)
      have HRL := Lib.hid (rowK_len (k := k) HLEN.out (by omega))
      have hks : (k + 1) * v0.length ≤ L.length * v0.length := Nat.mul_le_mul_right _ hlt
      have HKS := Lib.hid hks
      have i0 : (0 : Int) ≤ (k : Int) := by omega
      have i1 : (k : Int) < (L.length : Int) := by omega
      have HVK := Lib.hid hvk
      clear hcs h3 hks hvk
      generalize hx : L[k] = x at *
      obtain ⟨d, v⟩ := x
      simp only at h1 h2 h4
      have HVK' : Hid (v.length = v0.length) := HVK
      have HSUC' : Hid (splice (rowK L v0.length k) (k * v0.length) v = rowK L v0.length (k + 1)) := HSUC
      clear hx HVK HSUC
      have H4 := Lib.hid (h4.below (below_box (Below.refl (wr.alloc (.cells #[.slice Ai d.length ci, .slice Bi v.length ei] 25)).heap.size _)))
      clear h4
      go_upto_region 13 with (fail)
      have B8 := Lib.hid (Box.new wr (.slice Ai d.length ci) (.slice Bi v.length ei))
      have B69 := Lib.hid (B68.out.alloc (.cells #[.slice Ai d.length ci, .slice Bi v.length ei] 25))
      have B49 := Lib.hid (B48.out.alloc (.cells #[.slice Ai d.length ci, .slice Bi v.length ei] 25))
      have HG9 := Lib.hid (turned_alloc HGR.out (.cells #[.slice Ai d.length ci, .slice Bi v.length ei] 25))
      have HR9 := Lib.hid ((Below.heap_alloc wr (.cells #[.slice Ai d.length ci, .slice Bi v.length ei] 25) gV (by omega)).trans HRW.out)
      have g8 : gV < wr.heap.size := by omega
      generalize wr.alloc (.cells #[.slice Ai d.length ci, .slice Bi v.length ei] 25) = W9 at *
      generalize wr.heap.size = g9 at *
      have s6 := B69.out.c1
      have s4 := B49.out.c1
      have s8 := B8.out.c1
      clear h1 h2 hbb
      have hrow9 := HR9.out
      have hv9 := H4.out
      go_region_held3 (fun w' => w'.cell? ⟨g6', 1, none⟩ = some (.slice (some ⟨gV, 0, none⟩) (L.length * v0.length) (L.length * v0.length)) ∧ w'.cell? ⟨g4, 1, none⟩ = some (.slice B0 v0.length e0) ∧ w'.cell? ⟨g9, 1, none⟩ = some (.slice Bi v.length ei))
        (first
          | go_keep
          | exact ⟨s6, s4, s8⟩
          | exact ⟨keepG hgc (by omega) s6, keepG hgc (by omega) s4, keepG hgc (by omega) s8⟩)
        (first
          | (go_at_call 30; refine (cut_at gV (L.length * v0.length) (L.length * v0.length) k v0.length _ (Nat.le_refl _) (by omega) (by omega) HKS.out).mono ?_; rintro e wc ⟨Ac, rfl, hac, rfl⟩; have HAC := Lib.hid hac; clear hac)
          | (refine step_copyI rfl (.tmp 51) (.tmp 53) rfl gV (k * v0.length) (rowK L v0.length k) v Ac Bi v0.length v0.length ei (by simp [Act.eval]) (by simp [Act.eval]) (by exact hrow9) HAC.out (by exact hv9) HVK'.out (by have := HKS.out; have := HRL.out; have := HVK'.out; rw [Nat.add_mul, Nat.one_mul] at *; omega) ?_; intro wd hrd hgc))
      go_wp2
      go_roundw
      case rel => exact ⟨k + 1, by omega, by go_num, World.grownBy.trans (turned_drew HG9.out) hgc, by rw [← HSUC'.out]; exact hrd⟩
      case measure => simp [intOf]; omega
    · obtain rfl : k = L.length := by omega
      obtain ⟨f0, f1, _, _⟩ := B68.out.all
      obtain ⟨y0, y1, y2, y3⟩ := B28.out.all
      have g24' := B24.out.lt
      have hw4 := L4.out.size
      have hrn := HRW.out
      rw [rowK_n] at hrn
      have HRN := Lib.hid hrn
      have hN' := catV_len HLEN.out
      have HN' := Lib.hid hN'
      clear hrn hN'
      go_wp2
      have T := (B28.out.set0 (.slice A5 (d0.length + 1) c5)).set1 (.slice (some ⟨gV, 0, none⟩) (L.length * v0.length) (L.length * v0.length))
      obtain ⟨t0, t1, _, _⟩ := T.all
      refine bodyPost_ret (v := .tuple #[.agg #[.slice A5 (d0.length + 1) c5, .slice (some ⟨gV, 0, none⟩) (L.length * v0.length) (L.length * v0.length)], .int .i64 0]) (by simp [results, Try.results25, go_sem, t0, t1]) rfl ?_
      have m1 : MineT 3 wr w4.heap.size (.slice A5 (d0.length + 1) c5) ((L.length : Int) :: d0) := mine_turned M7.out R7.out (by decide) HGR.out
      have m2 := mine_block (base := gV) HRN.out (Nat.le_refl _) (by rw [HN'.out]; unfold maxLen; omega)
      have hic := isCell_of (base := w.heap.size) (d := (L.length : Int) :: d0) (m1.box g24' (.slice A5 (d0.length + 1) c5) (.slice (some ⟨gV, 0, none⟩) (L.length * v0.length) (L.length * v0.length))) (m2.box g2V (.slice A5 (d0.length + 1) c5) (.slice (some ⟨gV, 0, none⟩) (L.length * v0.length) (L.length * v0.length))) hw4 (Nat.le_of_lt g2V)
      rw [HN'.out] at hic
      exact ⟨_, rfl, hic, (LB.out.setCell (Nat.le_refl _) _).setCell (Nat.le_refl _) _⟩
end Go.Proofs.Ytknphbkmghflcaa.Sh
