/-
  What the document's Count answers for any cell; nothing that was there is written. Condition: at most 100 axes and 1000 numbers.
-/
import Derived.Test.YthabimjmdnhomaaMoTell4
namespace Go.Proofs.Ythabimjmdnhomaa.Sh
open Go.RowKit
set_option linter.unusedVariables false

theorem idN_succ (k : Nat) : (List.range (k + 1)).map idN = (List.range k).map idN ++ [(k : Int)] := by rw [List.range_succ]; simp [idN]

set_option maxHeartbeats 4000000 in
theorem rcount_any (A : Option Addr) (c : Nat) (d : List Int) (B : Option Addr) (c2 : Nat) (v : List Int) (w : World) (id : Ints w A d) (iv : Ints w B v) (hd : d.length ≤ 100) (hv : v.length ≤ 1000) :
    Calls Try.prog 16 #[.agg #[.slice A d.length c, .slice B v.length c2]] w (RetC w (cnD d v) (cnV d v) (.int .i64 (cnE d v))) := by
  by_cases h1 : cellB d v.length = true
  · obtain ⟨hd3, hv64⟩ := cellB_small h1
    have H1 := Lib.hid h1
    by_cases h2 : v.length = 1
    · have h2' : ((v.length : Int) != 1) = false := by simp [h2]
      have hv1 : 0 < v.length := by omega
      have HV := Lib.hid (one_of h2)
      have HV1 := Lib.hid h2
      by_cases h3 : v.getD 0 0 < 0
      · obtain ⟨e1, e2, e3⟩ := cn_3 h1 h2 h3
        rw [e1, e2, e3]
        clear h1 h2 e1 e2 e3
        obtain ⟨ba0, br0, hb0⟩ := w1_all w (.slice A d.length c) (.slice B v.length c2)
        have BA := Lib.hid (ba0)
        have BR := Lib.hid (br0)
        have L := Lib.hid (hb0)
        have ID0 := Lib.hid id
        have IV0 := Lib.hid iv
        have ID := Lib.hid (id.below hb0)
        have IV := Lib.hid (iv.below hb0)
        clear ba0 br0 hb0 id iv
        go_enter Try.func16, Try.ntmps16
        go_wp2_with fail
        refine (rright_yes _ _ d _ _ _ _ (by unfold maxLen; omega) ID.out H1.out).mono ?_
        rintro r w1 ⟨rfl, hb⟩
        replace BA := Lib.hid (BA.out.next hb)
        replace BR := Lib.hid (BR.out.next hb)
        replace L := Lib.hid (below_next L.out hb)
        replace ID := Lib.hid (ID.out.below hb)
        replace IV := Lib.hid (IV.out.below hb)
        clear hb
        obtain ⟨bl, ol, rfl, hbl, hcl⟩ := IV.out (by omega)
        have hc0 := hcl 0 (by omega)
        rw [Nat.add_zero] at hc0
        have hl0I : (0 : Int) < (v.length : Int) := by omega
        clear hcl
        obtain ⟨x, hx⟩ : ∃ x, v.getD 0 0 = x := ⟨_, rfl⟩
        rw [hx] at hc0 h3
        clear hx HV
        obtain ⟨qBA0, qBA1, fBA0, fBA1⟩ := BA.out.all
        obtain ⟨qBR0, qBR1, fBR0, fBR1⟩ := BR.out.all
        go_wp2
        have T9 := (BR.out.set0 (.slice none 0 0)).set1 (.slice none 0 0)
        obtain ⟨t0, t1, _, _⟩ := T9.all
        refine bodyPost_ret (v := .tuple #[.agg #[.slice none 0 0, .slice none 0 0], .int .i64 5]) (by simp [results, Try.results16, go_sem, t0, t1]) rfl ?_
        exact ⟨_, rfl, IsCell.none _ _, (L.out.setCell (by simp) _).setCell (by simp) _⟩
      · by_cases h4 : 64 < v.getD 0 0
        · obtain ⟨e1, e2, e3⟩ := cn_4 h1 h2 h3 h4
          rw [e1, e2, e3]
          clear h1 h2 e1 e2 e3
          obtain ⟨ba0, br0, hb0⟩ := w1_all w (.slice A d.length c) (.slice B v.length c2)
          have BA := Lib.hid (ba0)
          have BR := Lib.hid (br0)
          have L := Lib.hid (hb0)
          have ID0 := Lib.hid id
          have IV0 := Lib.hid iv
          have ID := Lib.hid (id.below hb0)
          have IV := Lib.hid (iv.below hb0)
          clear ba0 br0 hb0 id iv
          go_enter Try.func16, Try.ntmps16
          go_wp2_with fail
          refine (rright_yes _ _ d _ _ _ _ (by unfold maxLen; omega) ID.out H1.out).mono ?_
          rintro r w1 ⟨rfl, hb⟩
          replace BA := Lib.hid (BA.out.next hb)
          replace BR := Lib.hid (BR.out.next hb)
          replace L := Lib.hid (below_next L.out hb)
          replace ID := Lib.hid (ID.out.below hb)
          replace IV := Lib.hid (IV.out.below hb)
          clear hb
          obtain ⟨bl, ol, rfl, hbl, hcl⟩ := IV.out (by omega)
          have hc0 := hcl 0 (by omega)
          rw [Nat.add_zero] at hc0
          have hl0I : (0 : Int) < (v.length : Int) := by omega
          clear hcl
          obtain ⟨x, hx⟩ : ∃ x, v.getD 0 0 = x := ⟨_, rfl⟩
          rw [hx] at hc0 h3 h4
          clear hx HV
          obtain ⟨qBA0, qBA1, fBA0, fBA1⟩ := BA.out.all
          obtain ⟨qBR0, qBR1, fBR0, fBR1⟩ := BR.out.all
          go_wp2
          have T9 := (BR.out.set0 (.slice none 0 0)).set1 (.slice none 0 0)
          obtain ⟨t0, t1, _, _⟩ := T9.all
          refine bodyPost_ret (v := .tuple #[.agg #[.slice none 0 0, .slice none 0 0], .int .i64 4]) (by simp [results, Try.results16, go_sem, t0, t1]) rfl ?_
          exact ⟨_, rfl, IsCell.none _ _, (L.out.setCell (by simp) _).setCell (by simp) _⟩
        · obtain ⟨n, hn⟩ : ∃ n : Nat, v.getD 0 0 = n := ⟨(v.getD 0 0).toNat, by omega⟩
          obtain ⟨e1, e2, e3⟩ := cn_5 h1 h2 h3 h4 hn
          rw [e1, e2, e3]
          have HN := Lib.hid hn
          have hn64 : n ≤ 64 := by omega
          clear h1 h2 h3 h4 e1 e2 e3 hn
          obtain ⟨ba0, br0, hb0⟩ := w1_all w (.slice A d.length c) (.slice B v.length c2)
          have BA := Lib.hid (ba0)
          have BR := Lib.hid (br0)
          have L := Lib.hid (hb0)
          have ID0 := Lib.hid id
          have IV0 := Lib.hid iv
          have ID := Lib.hid (id.below hb0)
          have IV := Lib.hid (iv.below hb0)
          clear ba0 br0 hb0 id iv
          go_enter Try.func16, Try.ntmps16
          go_wp2_with fail
          refine (rright_yes _ _ d _ _ _ _ (by unfold maxLen; omega) ID.out H1.out).mono ?_
          rintro r w1 ⟨rfl, hb⟩
          replace BA := Lib.hid (BA.out.next hb)
          replace BR := Lib.hid (BR.out.next hb)
          replace L := Lib.hid (below_next L.out hb)
          replace ID := Lib.hid (ID.out.below hb)
          replace IV := Lib.hid (IV.out.below hb)
          clear hb
          obtain ⟨bl, ol, rfl, hbl, hcl⟩ := IV.out (by omega)
          have hc0 := hcl 0 (by omega)
          rw [Nat.add_zero] at hc0
          have hl0I : (0 : Int) < (v.length : Int) := by omega
          clear hcl
          rw [HN.out] at hc0
          clear HV
          obtain ⟨qBA0, qBA1, -, -⟩ := BA.out.all
          have hgT := BR.out.lt
          have hgL := L.out.size
          have KI := Lib.hid (below_new w1 (.cells (cellsI [(n : Int)]) 3))
          have MI := Lib.hid (MineT.new 3 w1 [(n : Int)] w1.heap.size (Nat.le_refl _) (by unfold maxLen; simp))
          replace BA := Lib.hid (BA.out.next KI.out)
          replace BR := Lib.hid (BR.out.next KI.out)
          replace L := Lib.hid (below_next L.out KI.out)
          replace ID := Lib.hid (ID.out.below KI.out)
          replace IV := Lib.hid (IV.out.below KI.out)
          have KJ := Lib.hid (below_new (w1.alloc (.cells (cellsI [(n : Int)]) 3)) (.cells #[.slice (some ⟨w1.heap.size, 0, none⟩) 1 1, .slice none 0 0] 25))
          have O0 := Lib.hid (OutSt.new (w1.alloc (.cells (cellsI [(n : Int)]) 3)) (.slice (some ⟨w1.heap.size, 0, none⟩) 1 1))
          have BX := Lib.hid O0.out.box
          have hgo6 := O0.out.2.2.2
          have M6 := Lib.hid (MI.out.below KJ.out (by simp))
          replace BA := Lib.hid (BA.out.next KJ.out)
          replace BR := Lib.hid (BR.out.next KJ.out)
          replace L := Lib.hid (below_next L.out KJ.out)
          replace ID := Lib.hid (ID.out.below KJ.out)
          replace IV := Lib.hid (IV.out.below KJ.out)
          clear KI KJ MI
          go_wp2
          clear hc0 hbl
          clear qBA0 qBA1
          have hgz : (w1.alloc (.cells (cellsI [(n : Int)]) 3)).heap.size = w1.heap.size + 1 := by simp
          rw [hgz] at O0 BX hgo6
          clear hgz
          generalize hW : (w1.alloc (.cells (cellsI [(n : Int)]) 3)).alloc (.cells #[.slice (some ⟨w1.heap.size, 0, none⟩) 1 1, .slice none 0 0] 25) = w6 at *
          first | rw [show ((w1.alloc (.cells #[.int .i64 (n : Int)] 3)).alloc (.cells #[.slice (some ⟨w1.heap.size, 0, none⟩) 1 1, .slice none 0 0] 25)) = w6 from hW] | skip
          clear hW
          generalize hg1 : w1.heap.size = g1 at *
          clear hg1
          go_loopw [5] (fun j wr => ∃ (k : Nat) (V : Value), k ≤ n ∧ j = .int .i64 (k : Int) ∧ OutSt w6 wr (g1 + 1) (.slice (some ⟨g1, 0, none⟩) 1 1) V ((List.range k).map idN)) (fun j _ => n - (intOf j).toNat)
          case atStart => exact ⟨0, _, Nat.zero_le _, rfl, O0.out⟩
          case round =>
            obtain ⟨k, V, hk, rfl, hO⟩ := hrel
            have O := Lib.hid hO
            have LB := Lib.hid (below_turned L.out hO.1 (by omega))
            have BRk := Lib.hid (BR.out.grown hO.1 (fun e => by injection e with e; omega))
            have BAk := Lib.hid (BA.out.grown hO.1 (fun e => by injection e with e; omega))
            obtain ⟨q2, q3, -, -⟩ := BAk.out.all
            obtain ⟨bl2, ol2, e2, -, hcl⟩ := IV0.out.below LB.out (by omega)
            injection e2 with e2
            injection e2 with e21 e22
            subst e21 e22
            have hc0 := hcl 0 (by omega)
            rw [Nat.add_zero, HN.out] at hc0
            clear hcl hO
            by_cases hlt : k < n
            · have k0 : (0 : Int) ≤ (k : Int) := by omega
              have LQ := Lib.hid (show ((List.range k).map idN).length = k by simp)
              have O8 := Lib.hid (O.out.alloc (.cells #[.int .i64 (k : Int)] 2))
              have X8 := Lib.hid (one_new wr (k : Int))
              have c7 := O.out.box.c1
              go_wp2_with (at_builtin; refine wpList_appI numL Try.underlying23 rfl (.tmp 42) (.tmp 44) rfl w6.heap.size V ((List.range k).map idN) (by rfl) O8.out.mine (some ⟨wr.heap.size, 0, none⟩) 1 [(k : Int)] rfl X8.out (by rw [LQ.out]; simp; omega) O8.out.size ?_; intro V' w8 hm8 hg8 ha8; obtain ⟨A8, c8, rfl, -⟩ := hm8.ints; obtain ⟨y0', y1', y2', y3'⟩ := (O8.out.mid hg8).all)
              go_roundw
              case rel => exact ⟨k + 1, _, by omega, by go_num, by rw [idN_succ]; have hm9 := hm8; rw [List.length_append, LQ.out] at hm9; exact O8.out.app hm9 hg8⟩
              case measure => simp [intOf]; omega
            · obtain rfl : k = n := by omega
              obtain ⟨AV, cV, rfl, -⟩ := O.out.mine.ints
              obtain ⟨x0, x1, -, -⟩ := O.out.box.all
              obtain ⟨y0, y1, y2, y3⟩ := BRk.out.all
              have JJ := Lib.hid (own_grown M6.out BX.out (by decide) O.out.turn)
              generalize (List.range k).map idN = VV at *
              go_wp2
              have T9 := (BRk.out.set0 (.slice (some ⟨g1, 0, none⟩) 1 1)).set1 (.slice AV VV.length cV)
              obtain ⟨t0, t1, _, _⟩ := T9.all
              refine bodyPost_ret (v := .tuple #[.agg #[.slice (some ⟨g1, 0, none⟩) 1 1, .slice AV VV.length cV], .int .i64 0]) (by simp [results, Try.results16, go_sem, t0, t1]) rfl ?_
              have hic := isCell_of (base := w.heap.size) (d := [(k : Int)]) (MineT.box (show MineT 3 _ _ _ [(k : Int)] from JJ.out) hgT (.slice (some ⟨g1, 0, none⟩) 1 1) (.slice AV VV.length cV)) (O.out.mine.box (by omega) (.slice (some ⟨g1, 0, none⟩) 1 1) (.slice AV VV.length cV)) hgL (by omega)
              exact ⟨_, rfl, hic, (LB.out.setCell (by simp) _).setCell (by simp) _⟩
    · obtain ⟨e1, e2, e3⟩ := cn_2 h1 h2
      rw [e1, e2, e3]
      have h2' : ((v.length : Int) != 1) = true := by simp; omega
      clear h1 h2 e1 e2 e3
      obtain ⟨ba0, br0, hb0⟩ := w1_all w (.slice A d.length c) (.slice B v.length c2)
      have BA := Lib.hid (ba0)
      have BR := Lib.hid (br0)
      have L := Lib.hid (hb0)
      have ID0 := Lib.hid id
      have IV0 := Lib.hid iv
      have ID := Lib.hid (id.below hb0)
      have IV := Lib.hid (iv.below hb0)
      clear ba0 br0 hb0 id iv
      go_enter Try.func16, Try.ntmps16
      go_wp2_with fail
      refine (rright_yes _ _ d _ _ _ _ (by unfold maxLen; omega) ID.out H1.out).mono ?_
      rintro r w1 ⟨rfl, hb⟩
      replace BA := Lib.hid (BA.out.next hb)
      replace BR := Lib.hid (BR.out.next hb)
      replace L := Lib.hid (below_next L.out hb)
      replace ID := Lib.hid (ID.out.below hb)
      replace IV := Lib.hid (IV.out.below hb)
      clear hb
      obtain ⟨qBA0, qBA1, fBA0, fBA1⟩ := BA.out.all
      obtain ⟨qBR0, qBR1, fBR0, fBR1⟩ := BR.out.all
      go_wp2
      have T9 := (BR.out.set0 (.slice none 0 0)).set1 (.slice none 0 0)
      obtain ⟨t0, t1, _, _⟩ := T9.all
      refine bodyPost_ret (v := .tuple #[.agg #[.slice none 0 0, .slice none 0 0], .int .i64 2]) (by simp [results, Try.results16, go_sem, t0, t1]) rfl ?_
      exact ⟨_, rfl, IsCell.none _ _, (L.out.setCell (by simp) _).setCell (by simp) _⟩
  · have H1 := Lib.hid (show cellB d v.length = false by simpa using h1)
    obtain ⟨e1, e2, e3⟩ := cn_1 H1.out
    rw [e1, e2, e3]
    clear h1 e1 e2 e3
    obtain ⟨ba0, br0, hb0⟩ := w1_all w (.slice A d.length c) (.slice B v.length c2)
    have BA := Lib.hid (ba0)
    have BR := Lib.hid (br0)
    have L := Lib.hid (hb0)
    have ID0 := Lib.hid id
    have IV0 := Lib.hid iv
    have ID := Lib.hid (id.below hb0)
    have IV := Lib.hid (iv.below hb0)
    clear ba0 br0 hb0 id iv
    go_enter Try.func16, Try.ntmps16
    go_wp2_with fail
    refine (rright_no _ _ d _ _ _ _ (by unfold maxLen; omega) ID.out H1.out).mono ?_
    rintro r w1 ⟨rfl, hb⟩
    replace BA := Lib.hid (BA.out.next hb)
    replace BR := Lib.hid (BR.out.next hb)
    replace L := Lib.hid (below_next L.out hb)
    replace ID := Lib.hid (ID.out.below hb)
    replace IV := Lib.hid (IV.out.below hb)
    clear hb
    obtain ⟨qBR0, qBR1, fBR0, fBR1⟩ := BR.out.all
    go_wp2
    have T9 := (BR.out.set0 (.slice none 0 0)).set1 (.slice none 0 0)
    obtain ⟨t0, t1, _, _⟩ := T9.all
    refine bodyPost_ret (v := .tuple #[.agg #[.slice none 0 0, .slice none 0 0], .int .i64 1]) (by simp [results, Try.results16, go_sem, t0, t1]) rfl ?_
    exact ⟨_, rfl, IsCell.none _ _, (L.out.setCell (by simp) _).setCell (by simp) _⟩
end Go.Proofs.Ythabimjmdnhomaa.Sh
