/-
  What the document's Reshape answers for any two cells; nothing that was there is written. Condition: at most 100 axes and 1000 numbers.
-/
import Derived.Test.YthabimjmdnhomaaMoResh
import Derived.Deep.QuietTactic
import Derived.BigQuiet
import Derived.IntWalk
namespace Go.Proofs.Ythabimjmdnhomaa.Sh
open Go.RowKit
set_option linter.unusedVariables false

theorem lens_take {v : List Int} {k : Nat} (hk : k < v.length) : lensL (v.take (k + 1)) = lensL (v.take k) ++ [len65 (v.getD k 0)] := by unfold lensL; rw [take_snoc v k hk]; simp
theorem one_newI (w : World) (x : Int) : Ints (w.alloc (.cells #[.int .i64 x] 3)) (some ⟨w.heap.size, 0, none⟩) [x] := (MineT.new 3 w [x] 0 (Nat.zero_le _) (by unfold maxLen; simp)).ints'
theorem below_grown {a b c : World} {r : Option Nat} (h : Below a.heap.size a b) (k : b.grownBy c r) (hr : ∀ g, r = some g → a.heap.size ≤ g) : Below a.heap.size a c := h.grown k h.size hr
theorem keep_set {W : World} {g k b o : Nat} {x y : Value} (h : W.cell? ⟨b, o, none⟩ = some y) (hne : b ≠ g) : (W.setCell ⟨g, k, none⟩ x).drew.cell? ⟨b, o, none⟩ = some y :=
  (World.cell?_setCell_other W ⟨g, k, none⟩ ⟨b, o, none⟩ x (fun e => by injection e with e1; omega)).trans h
theorem emod_nat {k n : Nat} (hn : 0 < n) : ((k : Int) % (n : Int)) = ((k % n : Nat) : Int) := (Int.natCast_emod k n).symm

set_option maxHeartbeats 8000000 in
set_option maxRecDepth 100000 in
theorem rreshape_any (A : Option Addr) (c : Nat) (d : List Int) (B : Option Addr) (c2 : Nat) (v : List Int) (A' : Option Addr) (c' : Nat) (e : List Int) (B' : Option Addr) (c2' : Nat) (u : List Int) (w : World) (id : Ints w A d) (iv : Ints w B v) (ie : Ints w A' e) (iu : Ints w B' u) (hd : d.length ≤ 100) (hv : v.length ≤ 1000) (he : e.length ≤ 100) (hu : u.length ≤ 1000) :
    Calls Try.prog 19 #[.agg #[.slice A d.length c, .slice B v.length c2], .agg #[.slice A' e.length c', .slice B' u.length c2']] w (RetC w (rsD d v e u) (rsV d v e u) (.int .i64 (rsE d v e u))) := by
  by_cases h1 : cellB d v.length = true
  · by_cases h2 : cellB e u.length = true
    · by_cases h3 : d.length ≤ 1
      · by_cases h4 : negB v = true
        · obtain ⟨e1, e2, e3⟩ := rs_4 h1 h2 h3 h4
          rw [e1, e2, e3]
          have H1 := Lib.hid h1
          have H2 := Lib.hid h2
          have H4 := Lib.hid h4
          clear h1 h2 h4 e1 e2 e3
          obtain ⟨ba0, bb0, br0, hb0⟩ := w2_all w (.slice A d.length c) (.slice B v.length c2) (.slice A' e.length c') (.slice B' u.length c2')
          have BA := Lib.hid (ba0)
          have BB := Lib.hid (bb0)
          have BR := Lib.hid (br0)
          have L := Lib.hid (hb0)
          have IU0 := Lib.hid iu
          have ID := Lib.hid (id.below hb0)
          have IV := Lib.hid (iv.below hb0)
          have IE := Lib.hid (ie.below hb0)
          clear ba0 bb0 br0 hb0 id iv ie iu
          go_enter Try.func19, Try.ntmps19
          go_wp2_with fail
          refine (rright_yes _ _ d _ _ _ _ (by unfold maxLen; omega) ID.out H1.out).mono ?_
          rintro r w1 ⟨rfl, hb⟩
          replace BA := Lib.hid (BA.out.next hb)
          replace BB := Lib.hid (BB.out.next hb)
          replace BR := Lib.hid (BR.out.next hb)
          replace L := Lib.hid (below_next L.out hb)
          replace ID := Lib.hid (ID.out.below hb)
          replace IV := Lib.hid (IV.out.below hb)
          replace IE := Lib.hid (IE.out.below hb)
          clear hb
          obtain ⟨qBB0, qBB1, -, -⟩ := BB.out.all
          go_wp2_with fail
          refine (rright_yes _ _ e _ _ _ _ (by unfold maxLen; omega) IE.out H2.out).mono ?_
          rintro r w2 ⟨rfl, hb⟩
          clear qBB0 qBB1
          replace BA := Lib.hid (BA.out.next hb)
          replace BB := Lib.hid (BB.out.next hb)
          replace BR := Lib.hid (BR.out.next hb)
          replace L := Lib.hid (below_next L.out hb)
          replace ID := Lib.hid (ID.out.below hb)
          replace IV := Lib.hid (IV.out.below hb)
          replace IE := Lib.hid (IE.out.below hb)
          clear hb
          obtain ⟨qBA0, qBA1, -, -⟩ := BA.out.all
          go_wp2
          clear qBA0 qBA1
          go_loopw [6, 7] (fun s j wr => ∃ (k : Nat) (D : Value), k ≤ v.length ∧ j = .int .i64 (k : Int) ∧ D = s ∧ negB (v.take k) = false ∧ MineT 3 wr w2.heap.size D (lensL (v.take k)) ∧ Below w2.heap.size w2 wr) (fun _ j _ => v.length - (intOf j).toNat)
          case atStart => exact ⟨0, _, Nat.zero_le _, rfl, rfl, by simp [negB], MineT.nil _ _ _, Below.refl _ _⟩
          case round =>
            obtain ⟨k, D, hk, rfl, rfl, hN, hM, hB⟩ := hrel
            have HN := Lib.hid hN
            have MK := Lib.hid hM
            have LK := Lib.hid hB
            have BAk := Lib.hid (BA.out.next hB)
            have BRk := Lib.hid (BR.out.next hB)
            have LW := Lib.hid (below_next L.out hB)
            clear hN hM hB
            by_cases hlt : k < v.length
            · obtain ⟨b, off, rfl, hb, hcs⟩ := IV.out.below LK.out (by omega)
              have hck := hcs k hlt
              have i0 : (0 : Int) ≤ (k : Int) := by omega
              have i1 : (k : Int) < (v.length : Int) := by omega
              have HT := Lib.hid (negB_take hlt)
              have HY := Lib.hid (fun h => negB_yes hlt h)
              have HS := Lib.hid (lens_take hlt)
              have HLk := Lib.hid (show (lensL (v.take k)).length = k by simp [lensL]; omega)
              clear hcs
              obtain ⟨q0, q1, -, -⟩ := BAk.out.all
              generalize v.getD k 0 = y at *
              by_cases hneg : y < 0
              · obtain ⟨r0, r1, r2, r3⟩ := BRk.out.all
                go_wp2
                have T9 := (BRk.out.set0 (.slice none 0 0)).set1 (.slice none 0 0)
                obtain ⟨t0, t1, _, _⟩ := T9.all
                refine bodyPost_ret (v := .tuple #[.agg #[.slice none 0 0, .slice none 0 0], .int .i64 5]) (by simp [results, Try.results19, go_sem, t0, t1]) rfl ?_
                exact ⟨_, rfl, IsCell.none _ _, (LW.out.setCell (by simp; omega) _).setCell (by simp; omega) _⟩
              · have HS2 := Lib.hid (show negB (v.take (k + 1)) = false by rw [HT.out, HN.out]; simpa using hneg)
                by_cases h65 : y < 65
                · have HZ := Lib.hid (show len65 y = y by unfold len65; omega)
                  go_upto_region 14 with (fail)
                  have M8 := Lib.hid (MK.out.alloc (.cells #[.int .i64 y] 3))
                  have X8 := Lib.hid (one_newI wr y)
                  have L8 := Lib.hid (below_next LK.out (below_new wr (.cells #[.int .i64 y] 3)))
                  go_wp2_with (at_builtin; refine wpList_appI numI Try.underlying22 rfl (.tmp 50) (.tmp 52) rfl w2.heap.size D (lensL (v.take k)) (by rfl) M8.out (some ⟨wr.heap.size, 0, none⟩) 1 [y] rfl X8.out (by rw [HLk.out]; simp; omega) L8.out.size ?_; intro V' w8 hm8 hg8 ha8)
                  go_roundw
                  case rel => exact ⟨k + 1, _, by omega, by go_num, rfl, HS2.out, by rw [HS.out, HZ.out]; exact hm8, below_grown L8.out hg8 MK.out.block⟩
                  case measure => simp [intOf]; omega
                · have HZ := Lib.hid (show len65 y = 65 by unfold len65; omega)
                  go_upto_region 14 with (fail)
                  have M8 := Lib.hid (MK.out.alloc (.cells #[.int .i64 65] 3))
                  have X8 := Lib.hid (one_newI wr 65)
                  have L8 := Lib.hid (below_next LK.out (below_new wr (.cells #[.int .i64 65] 3)))
                  go_wp2_with (at_builtin; refine wpList_appI numI Try.underlying22 rfl (.tmp 50) (.tmp 52) rfl w2.heap.size D (lensL (v.take k)) (by rfl) M8.out (some ⟨wr.heap.size, 0, none⟩) 1 [65] rfl X8.out (by rw [HLk.out]; simp; omega) L8.out.size ?_; intro V' w8 hm8 hg8 ha8)
                  go_roundw
                  case rel => exact ⟨k + 1, _, by omega, by go_num, rfl, HS2.out, by rw [HS.out, HZ.out]; exact hm8, below_grown L8.out hg8 MK.out.block⟩
                  case measure => simp [intOf]; omega
            · obtain rfl : k = v.length := by omega
              have h := HN.out
              rw [List.take_length, H4.out] at h
              cases h
        · have H4 := Lib.hid (show negB v = false by simpa using h4)
          by_cases h5 : rightB (lensL v) = true
          · obtain ⟨n, hn, hn64⟩ := sizeI_nat _ h5
            obtain ⟨e1, e2, e3⟩ := rs_6 h1 h2 h3 H4.out h5 hn
            rw [e1, e2, e3]
            have H1 := Lib.hid h1
            have H2 := Lib.hid h2
            have H5 := Lib.hid h5
            have H6 := Lib.hid hn
            have HLL := Lib.hid (show (lensL v).length = v.length by simp [lensL])
            clear h1 h2 h4 h5 hn e1 e2 e3
            obtain ⟨ba0, bb0, br0, hb0⟩ := w2_all w (.slice A d.length c) (.slice B v.length c2) (.slice A' e.length c') (.slice B' u.length c2')
            have BA := Lib.hid (ba0)
            have BB := Lib.hid (bb0)
            have BR := Lib.hid (br0)
            have L := Lib.hid (hb0)
            have IU0 := Lib.hid iu
            have ID := Lib.hid (id.below hb0)
            have IV := Lib.hid (iv.below hb0)
            have IE := Lib.hid (ie.below hb0)
            clear ba0 bb0 br0 hb0 id iv ie iu
            go_enter Try.func19, Try.ntmps19
            go_wp2_with fail
            refine (rright_yes _ _ d _ _ _ _ (by unfold maxLen; omega) ID.out H1.out).mono ?_
            rintro r w1 ⟨rfl, hb⟩
            replace BA := Lib.hid (BA.out.next hb)
            replace BB := Lib.hid (BB.out.next hb)
            replace BR := Lib.hid (BR.out.next hb)
            replace L := Lib.hid (below_next L.out hb)
            replace ID := Lib.hid (ID.out.below hb)
            replace IV := Lib.hid (IV.out.below hb)
            replace IE := Lib.hid (IE.out.below hb)
            clear hb
            obtain ⟨qBB0, qBB1, -, -⟩ := BB.out.all
            go_wp2_with fail
            refine (rright_yes _ _ e _ _ _ _ (by unfold maxLen; omega) IE.out H2.out).mono ?_
            rintro r w2 ⟨rfl, hb⟩
            clear qBB0 qBB1
            replace BA := Lib.hid (BA.out.next hb)
            replace BB := Lib.hid (BB.out.next hb)
            replace BR := Lib.hid (BR.out.next hb)
            replace L := Lib.hid (below_next L.out hb)
            replace ID := Lib.hid (ID.out.below hb)
            replace IV := Lib.hid (IV.out.below hb)
            replace IE := Lib.hid (IE.out.below hb)
            clear hb
            obtain ⟨qBA0, qBA1, -, -⟩ := BA.out.all
            go_wp2
            clear qBA0 qBA1
            go_loopw [6, 7] (fun s j wr => ∃ (k : Nat) (D : Value), k ≤ v.length ∧ j = .int .i64 (k : Int) ∧ D = s ∧ negB (v.take k) = false ∧ MineT 3 wr w2.heap.size D (lensL (v.take k)) ∧ Below w2.heap.size w2 wr) (fun _ j _ => v.length - (intOf j).toNat)
            case atStart => exact ⟨0, _, Nat.zero_le _, rfl, rfl, by simp [negB], MineT.nil _ _ _, Below.refl _ _⟩
            case round =>
              obtain ⟨k, D, hk, rfl, rfl, hN, hM, hB⟩ := hrel
              have HN := Lib.hid hN
              have MK := Lib.hid hM
              have LK := Lib.hid hB
              have BAk := Lib.hid (BA.out.next hB)
              have BRk := Lib.hid (BR.out.next hB)
              have LW := Lib.hid (below_next L.out hB)
              clear hN hM hB
              by_cases hlt : k < v.length
              · obtain ⟨b, off, rfl, hb, hcs⟩ := IV.out.below LK.out (by omega)
                have hck := hcs k hlt
                have i0 : (0 : Int) ≤ (k : Int) := by omega
                have i1 : (k : Int) < (v.length : Int) := by omega
                have HT := Lib.hid (negB_take hlt)
                have HY := Lib.hid (fun h => negB_yes hlt h)
                have HS := Lib.hid (lens_take hlt)
                have HLk := Lib.hid (show (lensL (v.take k)).length = k by simp [lensL]; omega)
                clear hcs
                obtain ⟨q0, q1, -, -⟩ := BAk.out.all
                generalize v.getD k 0 = y at *
                by_cases hneg : y < 0
                · exact absurd (HY.out hneg) (by rw [H4.out]; simp)
                · have HS2 := Lib.hid (show negB (v.take (k + 1)) = false by rw [HT.out, HN.out]; simpa using hneg)
                  by_cases h65 : y < 65
                  · have HZ := Lib.hid (show len65 y = y by unfold len65; omega)
                    go_upto_region 14 with (fail)
                    have M8 := Lib.hid (MK.out.alloc (.cells #[.int .i64 y] 3))
                    have X8 := Lib.hid (one_newI wr y)
                    have L8 := Lib.hid (below_next LK.out (below_new wr (.cells #[.int .i64 y] 3)))
                    go_wp2_with (at_builtin; refine wpList_appI numI Try.underlying22 rfl (.tmp 50) (.tmp 52) rfl w2.heap.size D (lensL (v.take k)) (by rfl) M8.out (some ⟨wr.heap.size, 0, none⟩) 1 [y] rfl X8.out (by rw [HLk.out]; simp; omega) L8.out.size ?_; intro V' w8 hm8 hg8 ha8)
                    go_roundw
                    case rel => exact ⟨k + 1, _, by omega, by go_num, rfl, HS2.out, by rw [HS.out, HZ.out]; exact hm8, below_grown L8.out hg8 MK.out.block⟩
                    case measure => simp [intOf]; omega
                  · have HZ := Lib.hid (show len65 y = 65 by unfold len65; omega)
                    go_upto_region 14 with (fail)
                    have M8 := Lib.hid (MK.out.alloc (.cells #[.int .i64 65] 3))
                    have X8 := Lib.hid (one_newI wr 65)
                    have L8 := Lib.hid (below_next LK.out (below_new wr (.cells #[.int .i64 65] 3)))
                    go_wp2_with (at_builtin; refine wpList_appI numI Try.underlying22 rfl (.tmp 50) (.tmp 52) rfl w2.heap.size D (lensL (v.take k)) (by rfl) M8.out (some ⟨wr.heap.size, 0, none⟩) 1 [65] rfl X8.out (by rw [HLk.out]; simp; omega) L8.out.size ?_; intro V' w8 hm8 hg8 ha8)
                    go_roundw
                    case rel => exact ⟨k + 1, _, by omega, by go_num, rfl, HS2.out, by rw [HS.out, HZ.out]; exact hm8, below_grown L8.out hg8 MK.out.block⟩
                    case measure => simp [intOf]; omega
              · obtain rfl : k = v.length := by omega
                have hM := MK.out
                rw [List.take_length] at hM
                have M4 := Lib.hid hM
                clear hM MK HN
                generalize hLV : lensL v = ll at *
                have hll : ll.length ≤ 1000 := by rw [HLL.out]; exact hv
                clear hLV
                obtain ⟨AD, cD, rfl, -⟩ := M4.out.ints
                obtain ⟨q0, q1, -, -⟩ := BAk.out.all
                have BBk := Lib.hid (BB.out.next LK.out)
                go_wp2_with fail
                refine (refRightB_yes _ _ ll _ H5.out (by unfold maxLen; omega) M4.out.ints').mono ?_
                rintro r w11 ⟨rfl, hb⟩
                replace BAk := Lib.hid (BAk.out.next hb)
                replace BBk := Lib.hid (BBk.out.next hb)
                replace BRk := Lib.hid (BRk.out.next hb)
                replace LW := Lib.hid (below_next LW.out hb)
                replace M4 := Lib.hid (M4.out.below hb (Nat.le_refl _))
                clear hb
                have hl3 : ll.length ≤ 3 := (rightB_all H5.out).1
                have hz := fun W iW => rzero_m AD cD ll W (by omega) iW H5.out
                rw [H6.out, Int.toNat_natCast] at hz
                have HZ := Lib.hid hz
                clear hz
                have hgT := BRk.out.lt
                have hgL := LW.out.size
                go_wp2_with fail
                refine (HZ.out _ M4.out.ints').mono ?_
                rintro r w12 ⟨A1, c1, g, rfl, hm1, hr1, hg1, hb⟩
                replace BAk := Lib.hid (BAk.out.next hb)
                replace BBk := Lib.hid (BBk.out.next hb)
                replace BRk := Lib.hid (BRk.out.next hb)
                replace LW := Lib.hid (below_next LW.out hb)
                replace M4 := Lib.hid (M4.out.below hb (Nat.le_refl _))
                clear hb
                have M1 := Lib.hid hm1
                have R1 := Lib.hid (show Row64 w12 g (List.replicate n 0) from hr1)
                have hg1' : g < w12.heap.size := R1.out.lt
                clear hm1 hr1 q0 q1
                have B2 := Lib.hid (Box.new w12 (.slice A1 ll.length c1) (.slice (some ⟨g, 0, none⟩) n n))
                have K2 := Lib.hid (below_new w12 (.cells #[.slice A1 ll.length c1, .slice (some ⟨g, 0, none⟩) n n] 25))
                go_wp2
                go_loopw [10] (fun j wr => ∃ k : Nat, k ≤ n ∧ j = .int .i64 (k : Int) ∧ (w12.alloc (.cells #[.slice A1 ll.length c1, .slice (some ⟨g, 0, none⟩) n n] 25)).grownBy wr (some g) ∧ Row64 wr g (fillK (cyc u) n k)) (fun j _ => n - (intOf j).toNat)
                case atStart => exact ⟨0, Nat.zero_le _, rfl, turned_refl _ _, by rw [fillK_0]; exact R1.out.alloc _⟩
                case round =>
                  obtain ⟨k, hk, rfl, hgr, hrw⟩ := hrel
                  have GR := Lib.hid hgr
                  have RW := Lib.hid hrw
                  have B5 := Lib.hid (B2.out.grown hgr (fun e => by injection e with e; omega))
                  have BBz := Lib.hid ((BBk.out.next K2.out).grown hgr (fun e => by injection e with e; omega))
                  have LZ := Lib.hid (below_turned (below_next LW.out K2.out) hgr (by omega))
                  clear hgr hrw
                  by_cases hlt : k < n ∧ 0 < u.length
                  · obtain ⟨hlt, hu0⟩ := hlt
                    obtain ⟨b, off, rfl, hb, hcs⟩ := IU0.out hu0
                    have hmod : k % u.length < u.length := Nat.mod_lt _ hu0
                    have hck := (LZ.out.cell (p := ⟨b, off + k % u.length, none⟩) hb).trans (hcs (k % u.length) hmod)
                    have HS := Lib.hid (show (fillK (cyc u) n k).set k (u.getD (k % u.length) 0) = fillK (cyc u) n (k + 1) from fillK_succ (cyc u) n k hlt)
                    obtain ⟨q0, q1, -, -⟩ := B5.out.all
                    obtain ⟨q2, q3, -, -⟩ := BBz.out.all
                    have x0 := RW.out.cell (i := k) (by rw [fillK_length]; exact hlt)
                    have x1 := RW.out.frozen k
                    have i0 : (0 : Int) ≤ (k : Int) := by omega
                    have i1 : (k : Int) < (n : Int) := by omega
                    have N1 := Lib.hid (show w12.heap.size ≠ g by omega)
                    have N2 := Lib.hid (show w.heap.size + 1 ≠ g by omega)
                    have N3 := Lib.hid (show b ≠ g by omega)
                    have i2 : (k : Int).tmod (u.length : Int) = ((k % u.length : Nat) : Int) := by rw [Int.tmod_eq_emod_of_nonneg (by omega)]; exact (Int.natCast_emod k u.length).symm
                    have i3 : (0 : Int) ≤ ((k % u.length : Nat) : Int) := by omega
                    have i4 : ((k % u.length : Nat) : Int) < (u.length : Int) := by omega
                    have i5 : ¬ u = [] := fun h => by rw [h] at hu0; simp at hu0
                    have i6 : ((u.length : Int) == 0) = false := by simp [i5]
                    have i7 : IntKind.i64.wrap ((k : Int).tmod (u.length : Int)) = ((k % u.length : Nat) : Int) := by rw [i2]; exact IntWalk.i64_in _ (by omega)
                    have i8 : IntKind.i64.wrap ((k % u.length : Nat) : Int) = ((k % u.length : Nat) : Int) := IntWalk.i64_in _ (by omega)
                    generalize u.getD (k % u.length) 0 = y at *
                    generalize k % u.length = km at *
                    clear hcs
                    have KS := Lib.hid (show (wr.setCell ⟨g, k, none⟩ (.int .i64 y)).drew.cell? ⟨w12.heap.size, 1, none⟩ = some (.slice (some ⟨g, 0, none⟩) n n) ∧ (wr.setCell ⟨g, k, none⟩ (.int .i64 y)).drew.cell? ⟨w.heap.size + 1, 1, none⟩ = some (.slice (some ⟨b, off, none⟩) u.length c2') ∧ (wr.setCell ⟨g, k, none⟩ (.int .i64 y)).drew.cell? ⟨b, off + km, none⟩ = some (.int .i64 y) from ⟨keep_set q1 N1.out, keep_set q3 N2.out, keep_set hck N3.out⟩)
                    go_wp2_with fail
                    go_region_held3 (fun w' => w'.cell? ⟨w12.heap.size, 1, none⟩ = some (.slice (some ⟨g, 0, none⟩) n n) ∧ w'.cell? ⟨w.heap.size + 1, 1, none⟩ = some (.slice (some ⟨b, off, none⟩) u.length c2') ∧ w'.cell? ⟨b, off + km, none⟩ = some (.int .i64 y))
                      (first
                        | with_reducible exact KS.out
                        | go_keep)
                      (fail)
                    clear i2 i7 i8
                    go_wp2
                    go_roundw
                    case rel => exact ⟨k + 1, by omega, by go_num, turned_set (turned_drew GR.out) k _, by rw [← HS.out]; exact RW.out.drew.set_ k _⟩
                    case measure => simp [intOf]; omega
                  · have hrn : Row64 wr g ((List.range n).map (cyc u)) := by
                      have h := RW.out
                      rcases Nat.eq_zero_or_pos u.length with hu0 | hu0
                      · have hf : fillK (cyc u) n k = (List.range n).map (cyc u) := by
                          apply List.map_congr_left
                          intro i _
                          have : cyc u i = 0 := by unfold cyc; rw [List.eq_nil_of_length_eq_zero hu0]; rfl
                          rw [this]; split <;> rfl
                        rw [hf] at h; exact h
                      · have : k = n := by omega
                        rw [this, fillK_n] at h; exact h
                    have HRN := Lib.hid hrn
                    have B3 := Lib.hid ((BRk.out.next K2.out).grown GR.out (fun e => by injection e with e; omega))
                    obtain ⟨q0, q1, -, -⟩ := B5.out.all
                    obtain ⟨q2, q3, -, -⟩ := BBz.out.all
                    obtain ⟨y0, y1, y2, y3⟩ := B3.out.all
                    have hl : ((List.range n).map (cyc u)).length = n := by simp
                    have HL := Lib.hid hl
                    clear hrn hl
                    by_cases hkn : k < n
                    · have hu0 : u.length = 0 := by omega
                      have hu1 : decide (0 < u.length) = false := by simp [hu0]
                      clear hlt hu0
                      go_wp2
                      have T9 := (B3.out.set0 (.slice A1 ll.length c1)).set1 (.slice (some ⟨g, 0, none⟩) n n)
                      obtain ⟨t0, t1, _, _⟩ := T9.all
                      refine bodyPost_ret (v := .tuple #[.agg #[.slice A1 ll.length c1, .slice (some ⟨g, 0, none⟩) n n], .int .i64 0]) (by simp [results, Try.results19, go_sem, t0, t1]) rfl ?_
                      have m1 := mine_turned (M1.out.alloc (.cells #[.slice A1 ll.length c1, .slice (some ⟨g, 0, none⟩) n n] 25)) (R1.out.alloc _) (by decide) GR.out
                      have m2 := mine_block (base := g) HRN.out (Nat.le_refl _) (by rw [HL.out]; unfold maxLen; omega)
                      have hic := isCell_of (base := w.heap.size) (m1.box hgT (.slice A1 ll.length c1) (.slice (some ⟨g, 0, none⟩) n n)) (m2.box (by omega) (.slice A1 ll.length c1) (.slice (some ⟨g, 0, none⟩) n n)) hgL (by omega)
                      rw [HL.out] at hic
                      exact ⟨_, rfl, hic, (LZ.out.setCell (by simp; omega) _).setCell (by simp; omega) _⟩
                    · clear hlt
                      go_wp2
                      have T9 := (B3.out.set0 (.slice A1 ll.length c1)).set1 (.slice (some ⟨g, 0, none⟩) n n)
                      obtain ⟨t0, t1, _, _⟩ := T9.all
                      refine bodyPost_ret (v := .tuple #[.agg #[.slice A1 ll.length c1, .slice (some ⟨g, 0, none⟩) n n], .int .i64 0]) (by simp [results, Try.results19, go_sem, t0, t1]) rfl ?_
                      have m1 := mine_turned (M1.out.alloc (.cells #[.slice A1 ll.length c1, .slice (some ⟨g, 0, none⟩) n n] 25)) (R1.out.alloc _) (by decide) GR.out
                      have m2 := mine_block (base := g) HRN.out (Nat.le_refl _) (by rw [HL.out]; unfold maxLen; omega)
                      have hic := isCell_of (base := w.heap.size) (m1.box hgT (.slice A1 ll.length c1) (.slice (some ⟨g, 0, none⟩) n n)) (m2.box (by omega) (.slice A1 ll.length c1) (.slice (some ⟨g, 0, none⟩) n n)) hgL (by omega)
                      rw [HL.out] at hic
                      exact ⟨_, rfl, hic, (LZ.out.setCell (by simp; omega) _).setCell (by simp; omega) _⟩
          · have H5 := Lib.hid (show rightB (lensL v) = false by simpa using h5)
            obtain ⟨e1, e2, e3⟩ := rs_5 h1 h2 h3 H4.out H5.out
            rw [e1, e2, e3]
            have H1 := Lib.hid h1
            have H2 := Lib.hid h2
            have HLL := Lib.hid (show (lensL v).length = v.length by simp [lensL])
            clear h1 h2 h4 h5 e1 e2 e3
            obtain ⟨ba0, bb0, br0, hb0⟩ := w2_all w (.slice A d.length c) (.slice B v.length c2) (.slice A' e.length c') (.slice B' u.length c2')
            have BA := Lib.hid (ba0)
            have BB := Lib.hid (bb0)
            have BR := Lib.hid (br0)
            have L := Lib.hid (hb0)
            have IU0 := Lib.hid iu
            have ID := Lib.hid (id.below hb0)
            have IV := Lib.hid (iv.below hb0)
            have IE := Lib.hid (ie.below hb0)
            clear ba0 bb0 br0 hb0 id iv ie iu
            go_enter Try.func19, Try.ntmps19
            go_wp2_with fail
            refine (rright_yes _ _ d _ _ _ _ (by unfold maxLen; omega) ID.out H1.out).mono ?_
            rintro r w1 ⟨rfl, hb⟩
            replace BA := Lib.hid (BA.out.next hb)
            replace BB := Lib.hid (BB.out.next hb)
            replace BR := Lib.hid (BR.out.next hb)
            replace L := Lib.hid (below_next L.out hb)
            replace ID := Lib.hid (ID.out.below hb)
            replace IV := Lib.hid (IV.out.below hb)
            replace IE := Lib.hid (IE.out.below hb)
            clear hb
            obtain ⟨qBB0, qBB1, -, -⟩ := BB.out.all
            go_wp2_with fail
            refine (rright_yes _ _ e _ _ _ _ (by unfold maxLen; omega) IE.out H2.out).mono ?_
            rintro r w2 ⟨rfl, hb⟩
            clear qBB0 qBB1
            replace BA := Lib.hid (BA.out.next hb)
            replace BB := Lib.hid (BB.out.next hb)
            replace BR := Lib.hid (BR.out.next hb)
            replace L := Lib.hid (below_next L.out hb)
            replace ID := Lib.hid (ID.out.below hb)
            replace IV := Lib.hid (IV.out.below hb)
            replace IE := Lib.hid (IE.out.below hb)
            clear hb
            obtain ⟨qBA0, qBA1, -, -⟩ := BA.out.all
            go_wp2
            clear qBA0 qBA1
            go_loopw [6, 7] (fun s j wr => ∃ (k : Nat) (D : Value), k ≤ v.length ∧ j = .int .i64 (k : Int) ∧ D = s ∧ negB (v.take k) = false ∧ MineT 3 wr w2.heap.size D (lensL (v.take k)) ∧ Below w2.heap.size w2 wr) (fun _ j _ => v.length - (intOf j).toNat)
            case atStart => exact ⟨0, _, Nat.zero_le _, rfl, rfl, by simp [negB], MineT.nil _ _ _, Below.refl _ _⟩
            case round =>
              obtain ⟨k, D, hk, rfl, rfl, hN, hM, hB⟩ := hrel
              have HN := Lib.hid hN
              have MK := Lib.hid hM
              have LK := Lib.hid hB
              have BAk := Lib.hid (BA.out.next hB)
              have BRk := Lib.hid (BR.out.next hB)
              have LW := Lib.hid (below_next L.out hB)
              clear hN hM hB
              by_cases hlt : k < v.length
              · obtain ⟨b, off, rfl, hb, hcs⟩ := IV.out.below LK.out (by omega)
                have hck := hcs k hlt
                have i0 : (0 : Int) ≤ (k : Int) := by omega
                have i1 : (k : Int) < (v.length : Int) := by omega
                have HT := Lib.hid (negB_take hlt)
                have HY := Lib.hid (fun h => negB_yes hlt h)
                have HS := Lib.hid (lens_take hlt)
                have HLk := Lib.hid (show (lensL (v.take k)).length = k by simp [lensL]; omega)
                clear hcs
                obtain ⟨q0, q1, -, -⟩ := BAk.out.all
                generalize v.getD k 0 = y at *
                by_cases hneg : y < 0
                · exact absurd (HY.out hneg) (by rw [H4.out]; simp)
                · have HS2 := Lib.hid (show negB (v.take (k + 1)) = false by rw [HT.out, HN.out]; simpa using hneg)
                  by_cases h65 : y < 65
                  · have HZ := Lib.hid (show len65 y = y by unfold len65; omega)
                    go_upto_region 14 with (fail)
                    have M8 := Lib.hid (MK.out.alloc (.cells #[.int .i64 y] 3))
                    have X8 := Lib.hid (one_newI wr y)
                    have L8 := Lib.hid (below_next LK.out (below_new wr (.cells #[.int .i64 y] 3)))
                    go_wp2_with (at_builtin; refine wpList_appI numI Try.underlying22 rfl (.tmp 50) (.tmp 52) rfl w2.heap.size D (lensL (v.take k)) (by rfl) M8.out (some ⟨wr.heap.size, 0, none⟩) 1 [y] rfl X8.out (by rw [HLk.out]; simp; omega) L8.out.size ?_; intro V' w8 hm8 hg8 ha8)
                    go_roundw
                    case rel => exact ⟨k + 1, _, by omega, by go_num, rfl, HS2.out, by rw [HS.out, HZ.out]; exact hm8, below_grown L8.out hg8 MK.out.block⟩
                    case measure => simp [intOf]; omega
                  · have HZ := Lib.hid (show len65 y = 65 by unfold len65; omega)
                    go_upto_region 14 with (fail)
                    have M8 := Lib.hid (MK.out.alloc (.cells #[.int .i64 65] 3))
                    have X8 := Lib.hid (one_newI wr 65)
                    have L8 := Lib.hid (below_next LK.out (below_new wr (.cells #[.int .i64 65] 3)))
                    go_wp2_with (at_builtin; refine wpList_appI numI Try.underlying22 rfl (.tmp 50) (.tmp 52) rfl w2.heap.size D (lensL (v.take k)) (by rfl) M8.out (some ⟨wr.heap.size, 0, none⟩) 1 [65] rfl X8.out (by rw [HLk.out]; simp; omega) L8.out.size ?_; intro V' w8 hm8 hg8 ha8)
                    go_roundw
                    case rel => exact ⟨k + 1, _, by omega, by go_num, rfl, HS2.out, by rw [HS.out, HZ.out]; exact hm8, below_grown L8.out hg8 MK.out.block⟩
                    case measure => simp [intOf]; omega
              · obtain rfl : k = v.length := by omega
                have hM := MK.out
                rw [List.take_length] at hM
                have M4 := Lib.hid hM
                clear hM MK HN
                generalize hLV : lensL v = ll at *
                have hll : ll.length ≤ 1000 := by rw [HLL.out]; exact hv
                clear hLV
                obtain ⟨AD, cD, rfl, -⟩ := M4.out.ints
                obtain ⟨q0, q1, -, -⟩ := BAk.out.all
                have BBk := Lib.hid (BB.out.next LK.out)
                go_wp2_with fail
                refine (refRightB_no _ _ ll _ H5.out (by unfold maxLen; omega) M4.out.ints').mono ?_
                rintro r w11 ⟨rfl, hb⟩
                replace BAk := Lib.hid (BAk.out.next hb)
                replace BBk := Lib.hid (BBk.out.next hb)
                replace BRk := Lib.hid (BRk.out.next hb)
                replace LW := Lib.hid (below_next LW.out hb)
                replace M4 := Lib.hid (M4.out.below hb (Nat.le_refl _))
                clear hb
                obtain ⟨r0, r1, r2, r3⟩ := BRk.out.all
                go_wp2
                have T9 := (BRk.out.set0 (.slice none 0 0)).set1 (.slice none 0 0)
                obtain ⟨t0, t1, _, _⟩ := T9.all
                refine bodyPost_ret (v := .tuple #[.agg #[.slice none 0 0, .slice none 0 0], .int .i64 4]) (by simp [results, Try.results19, go_sem, t0, t1]) rfl ?_
                exact ⟨_, rfl, IsCell.none _ _, (LW.out.setCell (by simp; omega) _).setCell (by simp; omega) _⟩
      · obtain ⟨e1, e2, e3⟩ := rs_3 h1 h2 h3
        rw [e1, e2, e3]
        have h3' : 1 < d.length := by omega
        have H1 := Lib.hid h1
        have H2 := Lib.hid h2
        clear h1 h2 h3 e1 e2 e3
        obtain ⟨ba0, bb0, br0, hb0⟩ := w2_all w (.slice A d.length c) (.slice B v.length c2) (.slice A' e.length c') (.slice B' u.length c2')
        have BA := Lib.hid (ba0)
        have BB := Lib.hid (bb0)
        have BR := Lib.hid (br0)
        have L := Lib.hid (hb0)
        have IU0 := Lib.hid iu
        have ID := Lib.hid (id.below hb0)
        have IV := Lib.hid (iv.below hb0)
        have IE := Lib.hid (ie.below hb0)
        clear ba0 bb0 br0 hb0 id iv ie iu
        go_enter Try.func19, Try.ntmps19
        go_wp2_with fail
        refine (rright_yes _ _ d _ _ _ _ (by unfold maxLen; omega) ID.out H1.out).mono ?_
        rintro r w1 ⟨rfl, hb⟩
        replace BA := Lib.hid (BA.out.next hb)
        replace BB := Lib.hid (BB.out.next hb)
        replace BR := Lib.hid (BR.out.next hb)
        replace L := Lib.hid (below_next L.out hb)
        replace ID := Lib.hid (ID.out.below hb)
        replace IV := Lib.hid (IV.out.below hb)
        replace IE := Lib.hid (IE.out.below hb)
        clear hb
        obtain ⟨qBB0, qBB1, -, -⟩ := BB.out.all
        go_wp2_with fail
        refine (rright_yes _ _ e _ _ _ _ (by unfold maxLen; omega) IE.out H2.out).mono ?_
        rintro r w2 ⟨rfl, hb⟩
        clear qBB0 qBB1
        replace BA := Lib.hid (BA.out.next hb)
        replace BB := Lib.hid (BB.out.next hb)
        replace BR := Lib.hid (BR.out.next hb)
        replace L := Lib.hid (below_next L.out hb)
        replace ID := Lib.hid (ID.out.below hb)
        replace IV := Lib.hid (IV.out.below hb)
        replace IE := Lib.hid (IE.out.below hb)
        clear hb
        obtain ⟨qBA0, qBA1, fBA0, fBA1⟩ := BA.out.all
        obtain ⟨qBR0, qBR1, fBR0, fBR1⟩ := BR.out.all
        go_wp2
        have T9 := (BR.out.set0 (.slice none 0 0)).set1 (.slice none 0 0)
        obtain ⟨t0, t1, _, _⟩ := T9.all
        refine bodyPost_ret (v := .tuple #[.agg #[.slice none 0 0, .slice none 0 0], .int .i64 2]) (by simp [results, Try.results19, go_sem, t0, t1]) rfl ?_
        exact ⟨_, rfl, IsCell.none _ _, (L.out.setCell (by simp; omega) _).setCell (by simp; omega) _⟩
    · have H2 := Lib.hid (show cellB e u.length = false by simpa using h2)
      obtain ⟨e1, e2, e3⟩ := rs_2 (d := d) (v := v) H2.out
      rw [e1, e2, e3]
      have H1 := Lib.hid h1
      clear h1 h2 e1 e2 e3
      obtain ⟨ba0, bb0, br0, hb0⟩ := w2_all w (.slice A d.length c) (.slice B v.length c2) (.slice A' e.length c') (.slice B' u.length c2')
      have BA := Lib.hid (ba0)
      have BB := Lib.hid (bb0)
      have BR := Lib.hid (br0)
      have L := Lib.hid (hb0)
      have IU0 := Lib.hid iu
      have ID := Lib.hid (id.below hb0)
      have IV := Lib.hid (iv.below hb0)
      have IE := Lib.hid (ie.below hb0)
      clear ba0 bb0 br0 hb0 id iv ie iu
      go_enter Try.func19, Try.ntmps19
      go_wp2_with fail
      refine (rright_yes _ _ d _ _ _ _ (by unfold maxLen; omega) ID.out H1.out).mono ?_
      rintro r w1 ⟨rfl, hb⟩
      replace BA := Lib.hid (BA.out.next hb)
      replace BB := Lib.hid (BB.out.next hb)
      replace BR := Lib.hid (BR.out.next hb)
      replace L := Lib.hid (below_next L.out hb)
      replace ID := Lib.hid (ID.out.below hb)
      replace IV := Lib.hid (IV.out.below hb)
      replace IE := Lib.hid (IE.out.below hb)
      clear hb
      obtain ⟨qBB0, qBB1, -, -⟩ := BB.out.all
      go_wp2_with fail
      refine (rright_no _ _ e _ _ _ _ (by unfold maxLen; omega) IE.out H2.out).mono ?_
      rintro r w2 ⟨rfl, hb⟩
      clear qBB0 qBB1
      replace BA := Lib.hid (BA.out.next hb)
      replace BB := Lib.hid (BB.out.next hb)
      replace BR := Lib.hid (BR.out.next hb)
      replace L := Lib.hid (below_next L.out hb)
      replace ID := Lib.hid (ID.out.below hb)
      replace IV := Lib.hid (IV.out.below hb)
      replace IE := Lib.hid (IE.out.below hb)
      clear hb
      obtain ⟨qBR0, qBR1, fBR0, fBR1⟩ := BR.out.all
      go_wp2
      have T9 := (BR.out.set0 (.slice none 0 0)).set1 (.slice none 0 0)
      obtain ⟨t0, t1, _, _⟩ := T9.all
      refine bodyPost_ret (v := .tuple #[.agg #[.slice none 0 0, .slice none 0 0], .int .i64 1]) (by simp [results, Try.results19, go_sem, t0, t1]) rfl ?_
      exact ⟨_, rfl, IsCell.none _ _, (L.out.setCell (by simp; omega) _).setCell (by simp; omega) _⟩
  · have H1 := Lib.hid (show cellB d v.length = false by simpa using h1)
    obtain ⟨e1, e2, e3⟩ := rs_1 (e := e) (u := u) H1.out
    rw [e1, e2, e3]
    clear h1 e1 e2 e3
    obtain ⟨ba0, bb0, br0, hb0⟩ := w2_all w (.slice A d.length c) (.slice B v.length c2) (.slice A' e.length c') (.slice B' u.length c2')
    have BA := Lib.hid (ba0)
    have BB := Lib.hid (bb0)
    have BR := Lib.hid (br0)
    have L := Lib.hid (hb0)
    have IU0 := Lib.hid iu
    have ID := Lib.hid (id.below hb0)
    have IV := Lib.hid (iv.below hb0)
    have IE := Lib.hid (ie.below hb0)
    clear ba0 bb0 br0 hb0 id iv ie iu
    go_enter Try.func19, Try.ntmps19
    go_wp2_with fail
    refine (rright_no _ _ d _ _ _ _ (by unfold maxLen; omega) ID.out H1.out).mono ?_
    rintro r w1 ⟨rfl, hb⟩
    replace BA := Lib.hid (BA.out.next hb)
    replace BB := Lib.hid (BB.out.next hb)
    replace BR := Lib.hid (BR.out.next hb)
    replace L := Lib.hid (below_next L.out hb)
    replace ID := Lib.hid (ID.out.below hb)
    replace IV := Lib.hid (IV.out.below hb)
    replace IE := Lib.hid (IE.out.below hb)
    clear hb
    obtain ⟨qBR0, qBR1, fBR0, fBR1⟩ := BR.out.all
    go_wp2
    have T9 := (BR.out.set0 (.slice none 0 0)).set1 (.slice none 0 0)
    obtain ⟨t0, t1, _, _⟩ := T9.all
    refine bodyPost_ret (v := .tuple #[.agg #[.slice none 0 0, .slice none 0 0], .int .i64 1]) (by simp [results, Try.results19, go_sem, t0, t1]) rfl ?_
    exact ⟨_, rfl, IsCell.none _ _, (L.out.setCell (by simp; omega) _).setCell (by simp; omega) _⟩
end Go.Proofs.Ythabimjmdnhomaa.Sh
