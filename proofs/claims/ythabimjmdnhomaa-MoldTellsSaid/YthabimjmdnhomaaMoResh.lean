/-
  What mold.Reshape and the document's Reshape answer for any two cells; nothing that was there is written. Condition: at most 100 axes and 1000 numbers.
-/
import Derived.Test.YthabimjmdnhomaaMoFill
namespace Go.Proofs.Ythabimjmdnhomaa.Sh
open Go.RowKit
set_option linter.unusedVariables false

set_option maxHeartbeats 1000000 in
theorem rzero_m (A : Option Addr) (c : Nat) (d : List Int) (w : World) (hd : d.length ≤ 100) (id : Ints w A d) (hR : rightB d = true) :
    Calls Try.prog 39 #[.slice A d.length c] w (RetZ w d (sizeI d).toNat) := by
  have ID := Lib.hid (id.below (w' := w.alloc (.cells #[.slice none 0 0, .slice none 0 0] 25)) (below_box (Below.refl _ _)))
  have ID0 := Lib.hid id
  have HS := Lib.hid (Box.new w (.slice none 0 0) (.slice none 0 0))
  clear id
  · have HR := Lib.hid hR
    obtain ⟨h3, hall, h64⟩ := rightB_all hR
    have hp0 := (prod_bd d hall).1
    obtain ⟨n, hn⟩ : ∃ n : Nat, sizeI d = n := ⟨(prod d).toNat, by rw [sizeI_mk h3 hall h64]; omega⟩
    have hn64 : n ≤ 64 := by have : sizeI d = prod d := sizeI_mk h3 hall h64; omega
    rw [hn, Int.toNat_natCast]
    have HN := Lib.hid hn
    clear hR hall hn hp0 h64 h3
    have hmk := fun W => run_make_row' (P := Try.prog) 23 2 (.int .i64 0) 8 Try.underlying23 numL rfl .i64 .i64 n (by omega) (by omega) W
    go_enter Try.func39, Try.ntmps39
    go_wp2_with fail
    refine (refRightB_yes _ _ d _ HR.out (by unfold maxLen; omega) ID.out).mono ?_
    rintro r w1 ⟨rfl, hb1⟩
    have S1 := Lib.hid (HS.out.next hb1)
    have H1 := Lib.hid (below_box hb1)
    have I1 := Lib.hid (ID0.out.below H1.out)
    clear hb1
    go_wp2_with (at_builtin; refine wpList_copyI numI Try.underlying22 rfl (.tmp 7) (.tmp 8) rfl rfl _ _ d rfl I1.out (by omega) ?_; intro A2 c2 w2 hm2 hb2)
    have S2 := Lib.hid (S1.out.next hb2)
    have H2 := Lib.hid (below_next H1.out hb2)
    have I2 := Lib.hid (ID0.out.below H2.out)
    have M2 := Lib.hid hm2
    clear hb2 hm2
    go_wp2_with fail
    refine (refSizeB _ _ d _ (by unfold maxLen; omega) I2.out).mono ?_
    rintro r w3 ⟨rfl, hb3⟩
    have S3 := Lib.hid (S2.out.next hb3)
    have H3 := Lib.hid (below_next H2.out hb3)
    have M3 := Lib.hid (M2.out.below hb3 (Nat.le_refl _))
    clear hb3
    rw [HN.out]
    have S4 := Lib.hid (S3.out.alloc (.cells (madeCells #[Value.int .i64 0] n) 2))
    obtain ⟨s0, s1, s2, s3⟩ := S4.out.all
    go_wp2
    have T := (S4.out.set0 (.slice A2 d.length c2)).set1 (.slice (some ⟨w3.heap.size, 0, none⟩) n n)
    obtain ⟨t0, t1, _, _⟩ := T.all
    refine bodyPost_ret (v := .agg #[.slice A2 d.length c2, .slice (some ⟨w3.heap.size, 0, none⟩) n n]) (by simp [results, Try.results39, go_sem, t0, t1]) rfl ?_
    have m3 := (M3.out.alloc (.cells (madeCells #[Value.int .i64 0] n) 2)).box S1.out.lt (.slice A2 d.length c2) (.slice (some ⟨w3.heap.size, 0, none⟩) n n)
    have hrow : (((w3.alloc (.cells (madeCells #[Value.int .i64 0] n) 2)).setCell ⟨w.heap.size, 0, none⟩ (.slice A2 d.length c2)).setCell ⟨w.heap.size, 1, none⟩ (.slice (some ⟨w3.heap.size, 0, none⟩) n n)).heap[w3.heap.size]? = some (.cells (cellsI (List.replicate n 0)) 2 (0, 0)) := by
      have hne : ¬ w3.heap.size = w.heap.size := by have := S3.out.lt; omega
      rw [Below.heap_setCell _ ⟨w.heap.size, 1, none⟩ _ _ hne, Below.heap_setCell _ ⟨w.heap.size, 0, none⟩ _ _ hne, ← cells_made]
      exact heap_alloc_new w3 _
    exact ⟨A2, c2, w3.heap.size, rfl, m3.mono H1.out.size, hrow, H3.out.size, (((H3.out.alloc H3.out.size _).setCell (Nat.le_refl _) _).setCell (Nat.le_refl _) _)⟩

/-- The boxes of two cells and of the answer. -/
theorem w2_all (w : World) (x y z t : Value) :
    Box (((w.alloc (.cells #[x, y] 25)).alloc (.cells #[z, t] 25)).alloc (.cells #[.slice none 0 0, .slice none 0 0] 25)) w.heap.size x y ∧
    Box (((w.alloc (.cells #[x, y] 25)).alloc (.cells #[z, t] 25)).alloc (.cells #[.slice none 0 0, .slice none 0 0] 25)) (w.heap.size + 1) z t ∧
    Box (((w.alloc (.cells #[x, y] 25)).alloc (.cells #[z, t] 25)).alloc (.cells #[.slice none 0 0, .slice none 0 0] 25)) (w.heap.size + 1 + 1) (.slice none 0 0) (.slice none 0 0) ∧
    Below w.heap.size w (((w.alloc (.cells #[x, y] 25)).alloc (.cells #[z, t] 25)).alloc (.cells #[.slice none 0 0, .slice none 0 0] 25)) := by
  have e1 : (w.alloc (.cells #[x, y] 25)).heap.size = w.heap.size + 1 := by simp
  have e2 : ((w.alloc (.cells #[x, y] 25)).alloc (.cells #[z, t] 25)).heap.size = w.heap.size + 1 + 1 := by simp
  refine ⟨((Box.new w x y).alloc _).alloc _, ?_, ?_, below_next (below_new w _) (below_next (below_new _ _) (below_new _ _))⟩
  · have := (Box.new (w.alloc (.cells #[x, y] 25)) z t).alloc (.cells #[.slice none 0 0, .slice none 0 0] 25)
    rw [e1] at this; exact this
  · have := Box.new ((w.alloc (.cells #[x, y] 25)).alloc (.cells #[z, t] 25)) (.slice none 0 0) (.slice none 0 0)
    rw [e2] at this; exact this
theorem sizeI_nat (d : List Int) (h : rightB d = true) : ∃ n : Nat, sizeI d = n ∧ n ≤ 64 := by
  obtain ⟨h3, hall, h64⟩ := rightB_all h
  have hp := (prod_bd d hall).1
  exact ⟨(prod d).toNat, by rw [sizeI_mk h3 hall h64]; omega, by omega⟩
/-- What Reshape answers. -/
def rsE (d v e u : List Int) : Int := if cellB d v.length = true ∧ cellB e u.length = true then (if d.length ≤ 1 then (if negB v = true then 5 else if rightB (lensL v) = true then 0 else 4) else 2) else 1
def rsD (d v e u : List Int) : List Int := if rsE d v e u = 0 then lensL v else []
def rsV (d v e u : List Int) : List Int := if rsE d v e u = 0 then (List.range (sizeI (lensL v)).toNat).map (cyc u) else []
section
variable {d v e u : List Int}
theorem rs_1 (h : cellB d v.length = false) : rsE d v e u = 1 ∧ rsD d v e u = [] ∧ rsV d v e u = [] := by simp [rsD, rsV, rsE, h]
theorem rs_2 (h : cellB e u.length = false) : rsE d v e u = 1 ∧ rsD d v e u = [] ∧ rsV d v e u = [] := by simp [rsD, rsV, rsE, h]
theorem rs_3 (h1 : cellB d v.length = true) (h2 : cellB e u.length = true) (h : ¬ d.length ≤ 1) : rsE d v e u = 2 ∧ rsD d v e u = [] ∧ rsV d v e u = [] := by simp [rsD, rsV, rsE, h, h1, h2]
theorem rs_4 (h1 : cellB d v.length = true) (h2 : cellB e u.length = true) (h3 : d.length ≤ 1) (h : negB v = true) : rsE d v e u = 5 ∧ rsD d v e u = [] ∧ rsV d v e u = [] := by simp [rsD, rsV, rsE, h, h1, h2, h3]
theorem rs_5 (h1 : cellB d v.length = true) (h2 : cellB e u.length = true) (h3 : d.length ≤ 1) (h4 : negB v = false) (h : rightB (lensL v) = false) : rsE d v e u = 4 ∧ rsD d v e u = [] ∧ rsV d v e u = [] := by simp [rsD, rsV, rsE, h, h1, h2, h3, h4]
theorem rs_6 (h1 : cellB d v.length = true) (h2 : cellB e u.length = true) (h3 : d.length ≤ 1) (h4 : negB v = false) (h : rightB (lensL v) = true) {n : Nat} (hn : sizeI (lensL v) = n) : rsE d v e u = 0 ∧ rsD d v e u = lensL v ∧ rsV d v e u = (List.range n).map (cyc u) := by simp [rsD, rsV, rsE, h, h1, h2, h3, h4, hn]
end
theorem cellB_small {d : List Int} {n : Nat} (h : cellB d n = true) : d.length ≤ 3 ∧ n ≤ 64 := by
  obtain ⟨h1, h2⟩ := cellB_parts h
  obtain ⟨m, hm, h64⟩ := sizeI_nat d h1
  exact ⟨(rightB_all h1).1, by omega⟩

set_option maxHeartbeats 8000000 in
set_option maxRecDepth 100000 in
theorem reshape_any (A : Option Addr) (c : Nat) (d : List Int) (B : Option Addr) (c2 : Nat) (v : List Int) (A' : Option Addr) (c' : Nat) (e : List Int) (B' : Option Addr) (c2' : Nat) (u : List Int) (w : World) (id : Ints w A d) (iv : Ints w B v) (ie : Ints w A' e) (iu : Ints w B' u) (hd : d.length ≤ 100) (hv : v.length ≤ 1000) (he : e.length ≤ 100) (hu : u.length ≤ 1000) :
    Calls Try.prog 18 #[.agg #[.slice A d.length c, .slice B v.length c2], .agg #[.slice A' e.length c', .slice B' u.length c2']] w (RetC w (rsD d v e u) (rsV d v e u) (.int .i64 (rsE d v e u))) := by
  by_cases h1 : cellB d v.length = true
  · by_cases h2 : cellB e u.length = true
    · by_cases h3 : d.length ≤ 1
      · by_cases h4 : negB v = true
        · obtain ⟨e1, e2, e3⟩ := rs_4 h1 h2 h3 h4
          rw [e1, e2, e3]
          have H1 := Lib.hid h1
          have H2 := Lib.hid h2
          have H4 := Lib.hid h4
          clear h1 h2 h4 e1 e2 e3
          obtain ⟨ba0, bb0, br0, hb0⟩ := w2_all w (.slice A d.length c) (.slice B v.length c2) (.slice A' e.length c') (.slice B' u.length c2')
          have BA := Lib.hid (ba0)
          have BB := Lib.hid (bb0)
          have BR := Lib.hid (br0)
          have L := Lib.hid (hb0)
          have ID := Lib.hid (id.below hb0)
          have IV := Lib.hid (iv.below hb0)
          have IE := Lib.hid (ie.below hb0)
          have IU := Lib.hid (iu.below hb0)
          clear ba0 bb0 br0 hb0 id iv ie iu
          go_enter Try.func18, Try.ntmps18
          go_wp2_with fail
          refine (cright_yes _ _ d _ _ _ _ (by unfold maxLen; omega) ID.out H1.out).mono ?_
          rintro r w1 ⟨rfl, hb⟩
          replace BA := Lib.hid (BA.out.next hb)
          replace BB := Lib.hid (BB.out.next hb)
          replace BR := Lib.hid (BR.out.next hb)
          replace L := Lib.hid (below_next L.out hb)
          replace ID := Lib.hid (ID.out.below hb)
          replace IV := Lib.hid (IV.out.below hb)
          replace IE := Lib.hid (IE.out.below hb)
          replace IU := Lib.hid (IU.out.below hb)
          clear hb
          obtain ⟨qBB0, qBB1, -, -⟩ := BB.out.all
          go_wp2_with fail
          refine (cright_yes _ _ e _ _ _ _ (by unfold maxLen; omega) IE.out H2.out).mono ?_
          rintro r w2 ⟨rfl, hb⟩
          clear qBB0 qBB1
          replace BA := Lib.hid (BA.out.next hb)
          replace BB := Lib.hid (BB.out.next hb)
          replace BR := Lib.hid (BR.out.next hb)
          replace L := Lib.hid (below_next L.out hb)
          replace ID := Lib.hid (ID.out.below hb)
          replace IV := Lib.hid (IV.out.below hb)
          replace IE := Lib.hid (IE.out.below hb)
          replace IU := Lib.hid (IU.out.below hb)
          clear hb
          obtain ⟨qBA0, qBA1, -, -⟩ := BA.out.all
          go_wp2_with fail
          refine (contains_b _ _ v true _ H4.out hv IV.out).mono ?_
          rintro r w3 ⟨rfl, hb⟩
          clear qBA0 qBA1
          replace BA := Lib.hid (BA.out.next hb)
          replace BB := Lib.hid (BB.out.next hb)
          replace BR := Lib.hid (BR.out.next hb)
          replace L := Lib.hid (below_next L.out hb)
          replace ID := Lib.hid (ID.out.below hb)
          replace IV := Lib.hid (IV.out.below hb)
          replace IE := Lib.hid (IE.out.below hb)
          replace IU := Lib.hid (IU.out.below hb)
          clear hb
          obtain ⟨qBR0, qBR1, fBR0, fBR1⟩ := BR.out.all
          go_wp2
          have T9 := (BR.out.set0 (.slice none 0 0)).set1 (.slice none 0 0)
          obtain ⟨t0, t1, _, _⟩ := T9.all
          refine bodyPost_ret (v := .tuple #[.agg #[.slice none 0 0, .slice none 0 0], .int .i64 5]) (by simp [results, Try.results18, go_sem, t0, t1]) rfl ?_
          exact ⟨_, rfl, IsCell.none _ _, (L.out.setCell (by simp; omega) _).setCell (by simp; omega) _⟩
        · have H4 := Lib.hid (show negB v = false by simpa using h4)
          by_cases h5 : rightB (lensL v) = true
          · obtain ⟨n, hn, hn64⟩ := sizeI_nat _ h5
            obtain ⟨e1, e2, e3⟩ := rs_6 h1 h2 h3 H4.out h5 hn
            rw [e1, e2, e3]
            have H1 := Lib.hid h1
            have H2 := Lib.hid h2
            have H5 := Lib.hid h5
            have H6 := Lib.hid hn
            have HLL := Lib.hid (show (lensL v).length = v.length by simp [lensL])
            clear h1 h2 h4 h5 hn e1 e2 e3
            obtain ⟨ba0, bb0, br0, hb0⟩ := w2_all w (.slice A d.length c) (.slice B v.length c2) (.slice A' e.length c') (.slice B' u.length c2')
            have BA := Lib.hid (ba0)
            have BB := Lib.hid (bb0)
            have BR := Lib.hid (br0)
            have L := Lib.hid (hb0)
            have ID := Lib.hid (id.below hb0)
            have IV := Lib.hid (iv.below hb0)
            have IE := Lib.hid (ie.below hb0)
            have IU := Lib.hid (iu.below hb0)
            clear ba0 bb0 br0 hb0 id iv ie iu
            go_enter Try.func18, Try.ntmps18
            go_wp2_with fail
            refine (cright_yes _ _ d _ _ _ _ (by unfold maxLen; omega) ID.out H1.out).mono ?_
            rintro r w1 ⟨rfl, hb⟩
            replace BA := Lib.hid (BA.out.next hb)
            replace BB := Lib.hid (BB.out.next hb)
            replace BR := Lib.hid (BR.out.next hb)
            replace L := Lib.hid (below_next L.out hb)
            replace ID := Lib.hid (ID.out.below hb)
            replace IV := Lib.hid (IV.out.below hb)
            replace IE := Lib.hid (IE.out.below hb)
            replace IU := Lib.hid (IU.out.below hb)
            clear hb
            obtain ⟨qBB0, qBB1, -, -⟩ := BB.out.all
            go_wp2_with fail
            refine (cright_yes _ _ e _ _ _ _ (by unfold maxLen; omega) IE.out H2.out).mono ?_
            rintro r w2 ⟨rfl, hb⟩
            clear qBB0 qBB1
            replace BA := Lib.hid (BA.out.next hb)
            replace BB := Lib.hid (BB.out.next hb)
            replace BR := Lib.hid (BR.out.next hb)
            replace L := Lib.hid (below_next L.out hb)
            replace ID := Lib.hid (ID.out.below hb)
            replace IV := Lib.hid (IV.out.below hb)
            replace IE := Lib.hid (IE.out.below hb)
            replace IU := Lib.hid (IU.out.below hb)
            clear hb
            obtain ⟨qBA0, qBA1, -, -⟩ := BA.out.all
            go_wp2_with fail
            refine (contains_b _ _ v false _ H4.out hv IV.out).mono ?_
            rintro r w3 ⟨rfl, hb⟩
            clear qBA0 qBA1
            replace BA := Lib.hid (BA.out.next hb)
            replace BB := Lib.hid (BB.out.next hb)
            replace BR := Lib.hid (BR.out.next hb)
            replace L := Lib.hid (below_next L.out hb)
            replace ID := Lib.hid (ID.out.below hb)
            replace IV := Lib.hid (IV.out.below hb)
            replace IE := Lib.hid (IE.out.below hb)
            replace IU := Lib.hid (IU.out.below hb)
            clear hb
            obtain ⟨qBA0, qBA1, -, -⟩ := BA.out.all
            go_wp2_with fail
            refine (lengths_any _ _ v _ hv IV.out).mono ?_
            rintro r w4 ⟨A4, c4, rfl, hm, hb⟩
            clear qBA0 qBA1
            replace BA := Lib.hid (BA.out.next hb)
            replace BB := Lib.hid (BB.out.next hb)
            replace BR := Lib.hid (BR.out.next hb)
            replace L := Lib.hid (below_next L.out hb)
            replace ID := Lib.hid (ID.out.below hb)
            replace IV := Lib.hid (IV.out.below hb)
            replace IE := Lib.hid (IE.out.below hb)
            replace IU := Lib.hid (IU.out.below hb)
            clear hb
            have M4 := Lib.hid (hm)
            clear hm
            generalize hLV : lensL v = ll at *
            have hll : ll.length ≤ 1000 := by rw [HLL.out]; exact hv
            clear hLV
            go_wp2_with fail
            refine (right_yes _ _ ll _ H5.out (by unfold maxLen; omega) M4.out.ints').mono ?_
            rintro r w5 ⟨rfl, hb⟩
            replace BA := Lib.hid (BA.out.next hb)
            replace BB := Lib.hid (BB.out.next hb)
            replace BR := Lib.hid (BR.out.next hb)
            replace L := Lib.hid (below_next L.out hb)
            replace ID := Lib.hid (ID.out.below hb)
            replace IV := Lib.hid (IV.out.below hb)
            replace IE := Lib.hid (IE.out.below hb)
            replace IU := Lib.hid (IU.out.below hb)
            replace M4 := Lib.hid (M4.out.below hb (Nat.le_refl _))
            clear hb
            obtain ⟨qBB0, qBB1, -, -⟩ := BB.out.all
            have HG := Lib.hid BR.out.lt
            have HL := Lib.hid L.out.size
            have hl3 : ll.length ≤ 3 := (rightB_all H5.out).1
            go_wp2_with fail
            refine (filled_any _ _ ll _ _ u n _ (by omega) hu M4.out.ints' IU.out H5.out H6.out).mono ?_
            rintro r w6 ⟨x, rfl, ⟨A6, c6, B6, e6, rfl, j1, j2, j3⟩, hb⟩
            clear qBB0 qBB1
            replace BA := Lib.hid (BA.out.next hb)
            replace BB := Lib.hid (BB.out.next hb)
            replace BR := Lib.hid (BR.out.next hb)
            replace L := Lib.hid (below_next L.out hb)
            replace ID := Lib.hid (ID.out.below hb)
            replace IV := Lib.hid (IV.out.below hb)
            replace IE := Lib.hid (IE.out.below hb)
            replace IU := Lib.hid (IU.out.below hb)
            replace M4 := Lib.hid (M4.out.below hb (Nat.le_refl _))
            clear hb
            have J := Lib.hid (show IsCell w6 w5.heap.size ll ((List.range n).map (cyc u)) (.agg #[.slice A6 ll.length c6, .slice B6 ((List.range n).map (cyc u)).length e6]) from ⟨A6, c6, B6, e6, rfl, j1, j2, j3⟩)
            clear j1 j2 j3
            generalize (List.range n).map (cyc u) = V at *
            obtain ⟨qBR0, qBR1, fBR0, fBR1⟩ := BR.out.all
            go_wp2
            have T9 := (BR.out.set0 (.slice A6 ll.length c6)).set1 (.slice B6 V.length e6)
            obtain ⟨t0, t1, _, _⟩ := T9.all
            refine bodyPost_ret (v := .tuple #[.agg #[.slice A6 ll.length c6, .slice B6 V.length e6], .int .i64 0]) (by simp [results, Try.results18, go_sem, t0, t1]) rfl ?_
            exact ⟨_, rfl, (J.out.set2 HG.out _ _).mono HL.out, (L.out.setCell (by simp; omega) _).setCell (by simp; omega) _⟩
          · have H5 := Lib.hid (show rightB (lensL v) = false by simpa using h5)
            obtain ⟨e1, e2, e3⟩ := rs_5 h1 h2 h3 H4.out H5.out
            rw [e1, e2, e3]
            have H1 := Lib.hid h1
            have H2 := Lib.hid h2
            have HLL := Lib.hid (show (lensL v).length = v.length by simp [lensL])
            clear h1 h2 h4 h5 e1 e2 e3
            obtain ⟨ba0, bb0, br0, hb0⟩ := w2_all w (.slice A d.length c) (.slice B v.length c2) (.slice A' e.length c') (.slice B' u.length c2')
            have BA := Lib.hid (ba0)
            have BB := Lib.hid (bb0)
            have BR := Lib.hid (br0)
            have L := Lib.hid (hb0)
            have ID := Lib.hid (id.below hb0)
            have IV := Lib.hid (iv.below hb0)
            have IE := Lib.hid (ie.below hb0)
            have IU := Lib.hid (iu.below hb0)
            clear ba0 bb0 br0 hb0 id iv ie iu
            go_enter Try.func18, Try.ntmps18
            go_wp2_with fail
            refine (cright_yes _ _ d _ _ _ _ (by unfold maxLen; omega) ID.out H1.out).mono ?_
            rintro r w1 ⟨rfl, hb⟩
            replace BA := Lib.hid (BA.out.next hb)
            replace BB := Lib.hid (BB.out.next hb)
            replace BR := Lib.hid (BR.out.next hb)
            replace L := Lib.hid (below_next L.out hb)
            replace ID := Lib.hid (ID.out.below hb)
            replace IV := Lib.hid (IV.out.below hb)
            replace IE := Lib.hid (IE.out.below hb)
            replace IU := Lib.hid (IU.out.below hb)
            clear hb
            obtain ⟨qBB0, qBB1, -, -⟩ := BB.out.all
            go_wp2_with fail
            refine (cright_yes _ _ e _ _ _ _ (by unfold maxLen; omega) IE.out H2.out).mono ?_
            rintro r w2 ⟨rfl, hb⟩
            clear qBB0 qBB1
            replace BA := Lib.hid (BA.out.next hb)
            replace BB := Lib.hid (BB.out.next hb)
            replace BR := Lib.hid (BR.out.next hb)
            replace L := Lib.hid (below_next L.out hb)
            replace ID := Lib.hid (ID.out.below hb)
            replace IV := Lib.hid (IV.out.below hb)
            replace IE := Lib.hid (IE.out.below hb)
            replace IU := Lib.hid (IU.out.below hb)
            clear hb
            obtain ⟨qBA0, qBA1, -, -⟩ := BA.out.all
            go_wp2_with fail
            refine (contains_b _ _ v false _ H4.out hv IV.out).mono ?_
            rintro r w3 ⟨rfl, hb⟩
            clear qBA0 qBA1
            replace BA := Lib.hid (BA.out.next hb)
            replace BB := Lib.hid (BB.out.next hb)
            replace BR := Lib.hid (BR.out.next hb)
            replace L := Lib.hid (below_next L.out hb)
            replace ID := Lib.hid (ID.out.below hb)
            replace IV := Lib.hid (IV.out.below hb)
            replace IE := Lib.hid (IE.out.below hb)
            replace IU := Lib.hid (IU.out.below hb)
            clear hb
            obtain ⟨qBA0, qBA1, -, -⟩ := BA.out.all
            go_wp2_with fail
            refine (lengths_any _ _ v _ hv IV.out).mono ?_
            rintro r w4 ⟨A4, c4, rfl, hm, hb⟩
            clear qBA0 qBA1
            replace BA := Lib.hid (BA.out.next hb)
            replace BB := Lib.hid (BB.out.next hb)
            replace BR := Lib.hid (BR.out.next hb)
            replace L := Lib.hid (below_next L.out hb)
            replace ID := Lib.hid (ID.out.below hb)
            replace IV := Lib.hid (IV.out.below hb)
            replace IE := Lib.hid (IE.out.below hb)
            replace IU := Lib.hid (IU.out.below hb)
            clear hb
            have M4 := Lib.hid (hm)
            clear hm
            generalize hLV : lensL v = ll at *
            have hll : ll.length ≤ 1000 := by rw [HLL.out]; exact hv
            clear hLV
            go_wp2_with fail
            refine (right_no _ _ ll _ H5.out (by unfold maxLen; omega) M4.out.ints').mono ?_
            rintro r w5 ⟨rfl, hb⟩
            replace BA := Lib.hid (BA.out.next hb)
            replace BB := Lib.hid (BB.out.next hb)
            replace BR := Lib.hid (BR.out.next hb)
            replace L := Lib.hid (below_next L.out hb)
            replace ID := Lib.hid (ID.out.below hb)
            replace IV := Lib.hid (IV.out.below hb)
            replace IE := Lib.hid (IE.out.below hb)
            replace IU := Lib.hid (IU.out.below hb)
            replace M4 := Lib.hid (M4.out.below hb (Nat.le_refl _))
            clear hb
            obtain ⟨qBR0, qBR1, fBR0, fBR1⟩ := BR.out.all
            go_wp2
            have T9 := (BR.out.set0 (.slice none 0 0)).set1 (.slice none 0 0)
            obtain ⟨t0, t1, _, _⟩ := T9.all
            refine bodyPost_ret (v := .tuple #[.agg #[.slice none 0 0, .slice none 0 0], .int .i64 4]) (by simp [results, Try.results18, go_sem, t0, t1]) rfl ?_
            exact ⟨_, rfl, IsCell.none _ _, (L.out.setCell (by simp; omega) _).setCell (by simp; omega) _⟩
      · obtain ⟨e1, e2, e3⟩ := rs_3 h1 h2 h3
        rw [e1, e2, e3]
        have h3' : 1 < d.length := by omega
        have H1 := Lib.hid h1
        have H2 := Lib.hid h2
        clear h1 h2 h3 e1 e2 e3
        obtain ⟨ba0, bb0, br0, hb0⟩ := w2_all w (.slice A d.length c) (.slice B v.length c2) (.slice A' e.length c') (.slice B' u.length c2')
        have BA := Lib.hid (ba0)
        have BB := Lib.hid (bb0)
        have BR := Lib.hid (br0)
        have L := Lib.hid (hb0)
        have ID := Lib.hid (id.below hb0)
        have IV := Lib.hid (iv.below hb0)
        have IE := Lib.hid (ie.below hb0)
        have IU := Lib.hid (iu.below hb0)
        clear ba0 bb0 br0 hb0 id iv ie iu
        go_enter Try.func18, Try.ntmps18
        go_wp2_with fail
        refine (cright_yes _ _ d _ _ _ _ (by unfold maxLen; omega) ID.out H1.out).mono ?_
        rintro r w1 ⟨rfl, hb⟩
        replace BA := Lib.hid (BA.out.next hb)
        replace BB := Lib.hid (BB.out.next hb)
        replace BR := Lib.hid (BR.out.next hb)
        replace L := Lib.hid (below_next L.out hb)
        replace ID := Lib.hid (ID.out.below hb)
        replace IV := Lib.hid (IV.out.below hb)
        replace IE := Lib.hid (IE.out.below hb)
        replace IU := Lib.hid (IU.out.below hb)
        clear hb
        obtain ⟨qBB0, qBB1, -, -⟩ := BB.out.all
        go_wp2_with fail
        refine (cright_yes _ _ e _ _ _ _ (by unfold maxLen; omega) IE.out H2.out).mono ?_
        rintro r w2 ⟨rfl, hb⟩
        clear qBB0 qBB1
        replace BA := Lib.hid (BA.out.next hb)
        replace BB := Lib.hid (BB.out.next hb)
        replace BR := Lib.hid (BR.out.next hb)
        replace L := Lib.hid (below_next L.out hb)
        replace ID := Lib.hid (ID.out.below hb)
        replace IV := Lib.hid (IV.out.below hb)
        replace IE := Lib.hid (IE.out.below hb)
        replace IU := Lib.hid (IU.out.below hb)
        clear hb
        obtain ⟨qBA0, qBA1, -, -⟩ := BA.out.all
        clear qBA0 qBA1
        obtain ⟨qBA0, qBA1, fBA0, fBA1⟩ := BA.out.all
        obtain ⟨qBR0, qBR1, fBR0, fBR1⟩ := BR.out.all
        go_wp2
        have T9 := (BR.out.set0 (.slice none 0 0)).set1 (.slice none 0 0)
        obtain ⟨t0, t1, _, _⟩ := T9.all
        refine bodyPost_ret (v := .tuple #[.agg #[.slice none 0 0, .slice none 0 0], .int .i64 2]) (by simp [results, Try.results18, go_sem, t0, t1]) rfl ?_
        exact ⟨_, rfl, IsCell.none _ _, (L.out.setCell (by simp; omega) _).setCell (by simp; omega) _⟩
    · have H2 := Lib.hid (show cellB e u.length = false by simpa using h2)
      obtain ⟨e1, e2, e3⟩ := rs_2 (d := d) (v := v) H2.out
      rw [e1, e2, e3]
      have H1 := Lib.hid h1
      clear h1 h2 e1 e2 e3
      obtain ⟨ba0, bb0, br0, hb0⟩ := w2_all w (.slice A d.length c) (.slice B v.length c2) (.slice A' e.length c') (.slice B' u.length c2')
      have BA := Lib.hid (ba0)
      have BB := Lib.hid (bb0)
      have BR := Lib.hid (br0)
      have L := Lib.hid (hb0)
      have ID := Lib.hid (id.below hb0)
      have IV := Lib.hid (iv.below hb0)
      have IE := Lib.hid (ie.below hb0)
      have IU := Lib.hid (iu.below hb0)
      clear ba0 bb0 br0 hb0 id iv ie iu
      go_enter Try.func18, Try.ntmps18
      go_wp2_with fail
      refine (cright_yes _ _ d _ _ _ _ (by unfold maxLen; omega) ID.out H1.out).mono ?_
      rintro r w1 ⟨rfl, hb⟩
      replace BA := Lib.hid (BA.out.next hb)
      replace BB := Lib.hid (BB.out.next hb)
      replace BR := Lib.hid (BR.out.next hb)
      replace L := Lib.hid (below_next L.out hb)
      replace ID := Lib.hid (ID.out.below hb)
      replace IV := Lib.hid (IV.out.below hb)
      replace IE := Lib.hid (IE.out.below hb)
      replace IU := Lib.hid (IU.out.below hb)
      clear hb
      obtain ⟨qBB0, qBB1, -, -⟩ := BB.out.all
      go_wp2_with fail
      refine (cright_no _ _ e _ _ _ _ (by unfold maxLen; omega) IE.out H2.out).mono ?_
      rintro r w2 ⟨rfl, hb⟩
      clear qBB0 qBB1
      replace BA := Lib.hid (BA.out.next hb)
      replace BB := Lib.hid (BB.out.next hb)
      replace BR := Lib.hid (BR.out.next hb)
      replace L := Lib.hid (below_next L.out hb)
      replace ID := Lib.hid (ID.out.below hb)
      replace IV := Lib.hid (IV.out.below hb)
      replace IE := Lib.hid (IE.out.below hb)
      replace IU := Lib.hid (IU.out.below hb)
      clear hb
      obtain ⟨qBR0, qBR1, fBR0, fBR1⟩ := BR.out.all
      go_wp2
      have T9 := (BR.out.set0 (.slice none 0 0)).set1 (.slice none 0 0)
      obtain ⟨t0, t1, _, _⟩ := T9.all
      refine bodyPost_ret (v := .tuple #[.agg #[.slice none 0 0, .slice none 0 0], .int .i64 1]) (by simp [results, Try.results18, go_sem, t0, t1]) rfl ?_
      exact ⟨_, rfl, IsCell.none _ _, (L.out.setCell (by simp; omega) _).setCell (by simp; omega) _⟩
  · have H1 := Lib.hid (show cellB d v.length = false by simpa using h1)
    obtain ⟨e1, e2, e3⟩ := rs_1 (e := e) (u := u) H1.out
    rw [e1, e2, e3]
    clear h1 e1 e2 e3
    obtain ⟨ba0, bb0, br0, hb0⟩ := w2_all w (.slice A d.length c) (.slice B v.length c2) (.slice A' e.length c') (.slice B' u.length c2')
    have BA := Lib.hid (ba0)
    have BB := Lib.hid (bb0)
    have BR := Lib.hid (br0)
    have L := Lib.hid (hb0)
    have ID := Lib.hid (id.below hb0)
    have IV := Lib.hid (iv.below hb0)
    have IE := Lib.hid (ie.below hb0)
    have IU := Lib.hid (iu.below hb0)
    clear ba0 bb0 br0 hb0 id iv ie iu
    go_enter Try.func18, Try.ntmps18
    go_wp2_with fail
    refine (cright_no _ _ d _ _ _ _ (by unfold maxLen; omega) ID.out H1.out).mono ?_
    rintro r w1 ⟨rfl, hb⟩
    replace BA := Lib.hid (BA.out.next hb)
    replace BB := Lib.hid (BB.out.next hb)
    replace BR := Lib.hid (BR.out.next hb)
    replace L := Lib.hid (below_next L.out hb)
    replace ID := Lib.hid (ID.out.below hb)
    replace IV := Lib.hid (IV.out.below hb)
    replace IE := Lib.hid (IE.out.below hb)
    replace IU := Lib.hid (IU.out.below hb)
    clear hb
    obtain ⟨qBR0, qBR1, fBR0, fBR1⟩ := BR.out.all
    go_wp2
    have T9 := (BR.out.set0 (.slice none 0 0)).set1 (.slice none 0 0)
    obtain ⟨t0, t1, _, _⟩ := T9.all
    refine bodyPost_ret (v := .tuple #[.agg #[.slice none 0 0, .slice none 0 0], .int .i64 1]) (by simp [results, Try.results18, go_sem, t0, t1]) rfl ?_
    exact ⟨_, rfl, IsCell.none _ _, (L.out.setCell (by simp; omega) _).setCell (by simp; omega) _⟩
end Go.Proofs.Ythabimjmdnhomaa.Sh
