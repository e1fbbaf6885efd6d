/-
  What the document's Dims and Ravel, mold.Count and the document's Count answer for any cell; nothing that was there is written. Condition: at most 100 axes and 1000 numbers.
-/
import Derived.Test.YthabimjmdnhomaaMoTell
namespace Go.Proofs.Ythabimjmdnhomaa.Sh
open Go.RowKit
set_option linter.unusedVariables false


set_option maxHeartbeats 4000000 in
theorem rdims_any (A : Option Addr) (c : Nat) (d : List Int) (B : Option Addr) (c2 : Nat) (v : List Int) (w : World) (id : Ints w A d) (iv : Ints w B v) (hd : d.length ≤ 100) (hv : v.length ≤ 1000) :
    Calls Try.prog 10 #[.agg #[.slice A d.length c, .slice B v.length c2]] w (RetC w (okL d v.length [(d.length : Int)]) (okL d v.length d) (.int .i64 (okE d v.length))) := by
  by_cases h1 : cellB d v.length = true
  · rw [(ok_yes h1 [(d.length : Int)]).2, (ok_yes h1 d).2, (ok_yes h1 []).1]
    obtain ⟨hd3, hv64⟩ := cellB_small h1
    have H1 := Lib.hid h1
    clear h1
    obtain ⟨ba0, br0, hb0⟩ := w1_all w (.slice A d.length c) (.slice B v.length c2)
    have BA := Lib.hid (ba0)
    have BR := Lib.hid (br0)
    have L := Lib.hid (hb0)
    have ID0 := Lib.hid id
    have IV0 := Lib.hid iv
    have ID := Lib.hid (id.below hb0)
    have IV := Lib.hid (iv.below hb0)
    clear ba0 br0 hb0 id iv
    go_enter Try.func10, Try.ntmps10
    go_wp2_with fail
    refine (rright_yes _ _ d _ _ _ _ (by unfold maxLen; omega) ID.out H1.out).mono ?_
    rintro r w1 ⟨rfl, hb⟩
    replace BA := Lib.hid (BA.out.next hb)
    replace BR := Lib.hid (BR.out.next hb)
    replace L := Lib.hid (below_next L.out hb)
    replace ID := Lib.hid (ID.out.below hb)
    replace IV := Lib.hid (IV.out.below hb)
    clear hb
    obtain ⟨qBA0, qBA1, -, -⟩ := BA.out.all
    have hgT := BR.out.lt
    have hgL := L.out.size
    have KI := Lib.hid (below_new w1 (.cells (cellsI [(d.length : Int)]) 3))
    have MI := Lib.hid (MineT.new 3 w1 [(d.length : Int)] w1.heap.size (Nat.le_refl _) (by unfold maxLen; simp))
    replace BA := Lib.hid (BA.out.next KI.out)
    replace BR := Lib.hid (BR.out.next KI.out)
    replace L := Lib.hid (below_next L.out KI.out)
    replace ID := Lib.hid (ID.out.below KI.out)
    replace IV := Lib.hid (IV.out.below KI.out)
    have KJ := Lib.hid (below_new (w1.alloc (.cells (cellsI [(d.length : Int)]) 3)) (.cells #[.slice (some ⟨w1.heap.size, 0, none⟩) 1 1, .slice none 0 0] 25))
    have O0 := Lib.hid (OutSt.new (w1.alloc (.cells (cellsI [(d.length : Int)]) 3)) (.slice (some ⟨w1.heap.size, 0, none⟩) 1 1))
    have BX := Lib.hid O0.out.box
    have hgo6 := O0.out.2.2.2
    have M6 := Lib.hid (MI.out.below KJ.out (by simp))
    replace BA := Lib.hid (BA.out.next KJ.out)
    replace BR := Lib.hid (BR.out.next KJ.out)
    replace L := Lib.hid (below_next L.out KJ.out)
    replace ID := Lib.hid (ID.out.below KJ.out)
    replace IV := Lib.hid (IV.out.below KJ.out)
    clear KI KJ MI
    go_wp2
    clear qBA0 qBA1
    have hgz : (w1.alloc (.cells (cellsI [(d.length : Int)]) 3)).heap.size = w1.heap.size + 1 := by simp
    rw [hgz] at O0 BX hgo6
    clear hgz
    generalize hW : (w1.alloc (.cells (cellsI [(d.length : Int)]) 3)).alloc (.cells #[.slice (some ⟨w1.heap.size, 0, none⟩) 1 1, .slice none 0 0] 25) = w6 at *
    first | rw [show ((w1.alloc (.cells #[.int .i64 (d.length : Int)] 3)).alloc (.cells #[.slice (some ⟨w1.heap.size, 0, none⟩) 1 1, .slice none 0 0] 25)) = w6 from hW] | skip
    clear hW
    generalize hg1 : w1.heap.size = g1 at *
    have HG1 := Lib.hid hg1
    clear hg1
    go_loopw [5] (fun j wr => ∃ (k : Nat) (V : Value), k ≤ d.length ∧ j = .int .i64 (k : Int) ∧ OutSt w6 wr (g1 + 1) (.slice (some ⟨g1, 0, none⟩) 1 1) V (d.take k)) (fun j _ => d.length - (intOf j).toNat)
    case atStart => exact ⟨0, _, Nat.zero_le _, rfl, O0.out⟩
    case round =>
      obtain ⟨k, V, hk, rfl, hO⟩ := hrel
      have O := Lib.hid hO
      have LB := Lib.hid (below_turned L.out hO.1 (by omega))
      have BRk := Lib.hid (BR.out.grown hO.1 (fun e => by injection e with e; omega))
      have BAk := Lib.hid (BA.out.grown hO.1 (fun e => by injection e with e; omega))
      obtain ⟨q2, q3, -, -⟩ := BAk.out.all
      by_cases hlt : k < d.length
      · obtain ⟨bv, ov, rfl, hbv, hcv⟩ := ID0.out.below LB.out (by omega)
        have hvk := hcv k hlt
        have k0 : (0 : Int) ≤ (k : Int) := by omega
        have k1 : (k : Int) < (d.length : Int) := by omega
        have LQ := Lib.hid (show (d.take k).length = k by simp; omega)
        have HTS := Lib.hid (take_snoc d k hlt)
        clear hO hcv
        generalize d.getD k 0 = y at *
        have O8 := Lib.hid (show OutSt w6 (wr.drew.alloc (.cells #[.int .i64 y] 2)) (g1 + 1) (.slice (some ⟨g1, 0, none⟩) 1 1) V (d.take k) from (O.out.drew).alloc _)
        have X8 := Lib.hid (show Ints (wr.drew.alloc (.cells #[.int .i64 y] 2)) (some ⟨wr.heap.size, 0, none⟩) [y] from one_new wr.drew y)
        have hzz : (wr.alloc (.cells #[.int .i64 y] 2)).cell? ⟨g1 + 1, 1, none⟩ = some V := (O.out.box.alloc _).c1
        have hz0 : wr.cell? ⟨g1 + 1, 1, none⟩ = some V := O.out.box.c1
        go_wp2_with fail
        go_region_law ((refine step_appI numL Try.underlying23 rfl (.tmp 23) (.tmp 29) rfl w6.heap.size V (d.take k) (by simp [Act.eval]) O8.out.mine (some ⟨wr.heap.size, 0, none⟩) 1 [y] (by simp [Act.eval]) X8.out (by rw [LQ.out]; simp; omega) O8.out.size ?_; intro V' w8 hm8 hg8 ha8; obtain ⟨A8, c8, rfl, -⟩ := hm8.ints; obtain ⟨y0', y1', y2', y3'⟩ := (O8.out.mid hg8).all))
        all_goals
          go_wp2
          go_roundw
          case rel => exact ⟨k + 1, _, by omega, by go_num, by rw [HTS.out]; have hm9 := hm8; rw [List.length_append, LQ.out] at hm9; exact O8.out.app hm9 hg8⟩
          case measure => simp [intOf]; omega
      · obtain rfl : k = d.length := by omega
        clear hO
        have hO2 := O.out
        rw [List.take_length] at hO2
        have O2 := Lib.hid hO2
        clear hO2
        obtain ⟨AV, cV, rfl, -⟩ := O2.out.mine.ints
        obtain ⟨x0, x1, -, -⟩ := O2.out.box.all
        obtain ⟨y0, y1, y2, y3⟩ := BRk.out.all
        have JJ := Lib.hid (own_grown M6.out BX.out (by decide) O2.out.turn)
        go_wp2
        have T9 := (BRk.out.set0 (.slice (some ⟨g1, 0, none⟩) 1 1)).set1 (.slice AV d.length cV)
        obtain ⟨t0, t1, _, _⟩ := T9.all
        refine bodyPost_ret (v := .tuple #[.agg #[.slice (some ⟨g1, 0, none⟩) 1 1, .slice AV d.length cV], .int .i64 0]) (by simp [results, Try.results10, go_sem, t0, t1]) rfl ?_
        have hic := isCell_of (base := w.heap.size) (d := [(d.length : Int)]) (MineT.box (show MineT 3 _ _ _ [(d.length : Int)] from JJ.out) hgT (.slice (some ⟨g1, 0, none⟩) 1 1) (.slice AV d.length cV)) (O2.out.mine.box (by omega) (.slice (some ⟨g1, 0, none⟩) 1 1) (.slice AV d.length cV)) hgL (by omega)
        exact ⟨_, rfl, hic, (LB.out.setCell (by simp) _).setCell (by simp) _⟩
  · have H1 := Lib.hid (show cellB d v.length = false by simpa using h1)
    rw [(ok_no H1.out [(d.length : Int)]).2, (ok_no H1.out d).2, (ok_no H1.out []).1]
    clear h1
    obtain ⟨ba0, br0, hb0⟩ := w1_all w (.slice A d.length c) (.slice B v.length c2)
    have BA := Lib.hid (ba0)
    have BR := Lib.hid (br0)
    have L := Lib.hid (hb0)
    have ID0 := Lib.hid id
    have IV0 := Lib.hid iv
    have ID := Lib.hid (id.below hb0)
    have IV := Lib.hid (iv.below hb0)
    clear ba0 br0 hb0 id iv
    go_enter Try.func10, Try.ntmps10
    go_wp2_with fail
    refine (rright_no _ _ d _ _ _ _ (by unfold maxLen; omega) ID.out H1.out).mono ?_
    rintro r w1 ⟨rfl, hb⟩
    replace BA := Lib.hid (BA.out.next hb)
    replace BR := Lib.hid (BR.out.next hb)
    replace L := Lib.hid (below_next L.out hb)
    replace ID := Lib.hid (ID.out.below hb)
    replace IV := Lib.hid (IV.out.below hb)
    clear hb
    obtain ⟨qBR0, qBR1, fBR0, fBR1⟩ := BR.out.all
    go_wp2
    have T9 := (BR.out.set0 (.slice none 0 0)).set1 (.slice none 0 0)
    obtain ⟨t0, t1, _, _⟩ := T9.all
    refine bodyPost_ret (v := .tuple #[.agg #[.slice none 0 0, .slice none 0 0], .int .i64 1]) (by simp [results, Try.results10, go_sem, t0, t1]) rfl ?_
    exact ⟨_, rfl, IsCell.none _ _, (L.out.setCell (by simp) _).setCell (by simp) _⟩
end Go.Proofs.Ythabimjmdnhomaa.Sh
