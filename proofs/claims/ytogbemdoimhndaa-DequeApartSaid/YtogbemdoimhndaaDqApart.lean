/-
  What rifflelaw13.DequeApart answers: true, whatever the deeds. Condition: no more deeds than fit into a machine.
-/
import Derived.Test.YtogbemdoimhndaaDqPlays
set_option maxRecDepth 100000
namespace Go.Proofs.Ytogbemdoimhndaa.Dq
open Go.Proofs.Ytogbemdoimhndaa.Sh Go.Proofs.Ytogbemdoimhndaa.St
open Go.RowKit
set_option linter.unusedVariables false

set_option maxHeartbeats 8000000 in
theorem apart_any (ls : Bool) (A : Option Addr) (c : Nat) (ds : List Deed) (x : Deed) (w : World) (hl : ds.length ≤ maxLen) (hD : Deeds w A ds) :
    Calls Try.prog 7 #[.bool ls, .slice A ds.length c, .agg #[.bool x.1, .int .i64 x.2]] w fun e w' => e = .returned (.bool true) ∧ Below w.heap.size w w' := by
  unfold maxLen at hl
  have b0 := below_new w (.cells #[.bool x.1, .int .i64 x.2] 58)
  have L0 := Lib.hid b0
  have HD := Lib.hid (hD.next b0)
  have BX := Lib.hid (Bk.new 58 w [.bool x.1, .int .i64 x.2])
  have hgb : w.heap.size < (w.alloc (.cells #[.bool x.1, .int .i64 x.2] 58)).heap.size := by simp
  have HGB := Lib.hid hgb
  clear hD b0 hgb
  by_cases hg : ds.length ≤ 100
  · have t3 : decide ((ds.length : Int) > 100) = false := decide_eq_false (by omega)
    go_enter Try.func7, Try.ntmps7
    go_wp2_with fail
    generalize w.alloc (.cells #[.bool x.1, .int .i64 x.2] 58) = wb at *
    refine (best_nil _).mono ?_
    rintro r w1 ⟨rfl, rfl⟩
    go_wp2_with fail
    refine (drop_nil _).mono ?_
    rintro r w1 ⟨rfl, rfl⟩
    go_wp2_with fail
    refine (len_nil _).mono ?_
    rintro r w1 ⟨rfl, rfl⟩
    go_wp2_with fail
    refine (kept_nil _).mono ?_
    rintro r w1 ⟨rfl, rfl⟩
    go_wp2_with fail
    refine (push_nil 1 _).mono ?_
    rintro r w1 ⟨rfl, rfl⟩
    go_wp2_with fail
    refine (clone_nil _).mono ?_
    rintro r w1 ⟨rfl, rfl⟩
    have NW := Lib.hid (new_yes ls 6 wb (by omega) (by omega))
    go_wp2_with fail
    refine NW.out.mono ?_
    rintro r w1 ⟨g, rfl, d1, hb1⟩
    have PA : Hid (PlayAt wb w1 g ls 6 0 (.slice none 0 0)) := Lib.hid ⟨_, 0, [], none, 0, rfl, d1, Seq.nil _ _ _, Nat.le_refl _, by unfold maxLen; omega, Nat.le_refl _, hb1⟩
    clear d1 hb1
    go_wp2
    go_loopw [12, 66] (fun X i wr => ∃ k : Nat, k ≤ ds.length ∧ i = .int .i64 k ∧ Hid (PlayAt wb wr g ls 6 k X)) (fun _ i _ => ds.length - (intOf i).toNat)
    case atStart => exact ⟨0, Nat.zero_le _, rfl, PA⟩
    case round =>
      obtain ⟨k, hk, rfl, HP⟩ := hrel
      by_cases hlt : k < ds.length
      · obtain ⟨V, f, l, AX, cX, rfl, p1, p2, p3, p4, p5, p6⟩ := HP.out
        obtain ⟨d, hd⟩ : ∃ d, ds[k]? = some d := ⟨_, List.getElem?_eq_getElem hlt⟩
        have i1 : (k : Int) < (ds.length : Int) := by omega
        obtain ⟨b, off, rfl, hb, hc⟩ := (HD.out.next p6) (by omega)
        obtain ⟨c1, c2⟩ := hc k d hd
        have b1 := below_new wr (.cells #[.bool d.1, .int .i64 d.2] 58)
        have DO := Lib.hid (does_any (fun b => ¬ Tq g V b) wb.heap.size g V ls 6 f l AX cX d _ (p1.next b1) (Seq.next p2 b1) (fun b hb => hb) p3 p4 (by omega))
        have D1 := Lib.hid (p1.next b1)
        have L1 := Lib.hid (below_next p6 b1)
        have hcame := do_came 6 f l d
        generalize doF f l d = f' at *
        generalize doL 6 l d = l' at *
        clear hc hd HP p1 p2 p6 b1
        go_wp2_with fail
        refine DO.out.mono ?_
        rintro r w2 ⟨A2, c2', V2, rfl, d2, s2, g1, g2, t2, -⟩
        have PA : Hid (PlayAt wb w2 g ls 6 (k + 1) (.slice A2 l'.length c2')) := Lib.hid ⟨V2, f', l', A2, c2', rfl, d2, Seq.mono s2 (fun b hb => hb.2), g1, g2, by omega, deq_below L1.out D1.out t2⟩
        clear d2 s2 t2
        go_wp2
        refine ⟨⟨k + 1, by omega, by go_num, PA⟩, by simp [intOf]; omega⟩
      · obtain rfl : k = ds.length := by omega
        obtain ⟨V, f, l, AX, cX, rfl, p1, p2, p3, p4, p5, p6⟩ := HP.out
        have D0 := Lib.hid p1
        have S0 := Lib.hid (seq_bound p2)
        have L1 := Lib.hid (below_next L0.out (show Below wb.heap.size wb wr from p6))
        have BX1 := Lib.hid (BX.out.next p6)
        have CL := Lib.hid (clone_any wb.heap.size g V ls 6 f l wr p1 (by omega))
        clear p1 p2 p6 HP
        go_wp2_with fail
        refine CL.out.mono ?_
        rintro r w2 ⟨gc, Vc, rfl, dc, hb2⟩
        have D2 := Lib.hid (D0.out.next hb2)
        have S2 := Lib.hid (S0.out.next hb2)
        have L2 := Lib.hid (below_next L1.out hb2)
        have BX2 := Lib.hid (BX1.out.next hb2)
        have SM := Lib.hid (same_any wr.heap.size gc Vc ls 6 f l AX cX w2 dc (SInts.ints S2.out) (by omega))
        have DC := Lib.hid dc
        clear dc hb2
        go_wp2_with fail
        refine SM.out.mono ?_
        rintro r w3 ⟨rfl, hb3⟩
        have D3 := Lib.hid (D2.out.next hb3)
        have S3 := Lib.hid (S2.out.next hb3)
        have L3 := Lib.hid (below_next L2.out hb3)
        have BX3 := Lib.hid (BX2.out.next hb3)
        have C3 := Lib.hid (DC.out.next hb3)
        have HAP : Hid (∀ b, b < wr.heap.size → ¬ Tq gc Vc b) := Lib.hid (fun b hb ht => by have := (DC.out.lt b ht).2; omega)
        have DO := Lib.hid (does_any (fun b => ¬ Tq g V b ∧ b < wr.heap.size) wr.heap.size gc Vc ls 6 f l AX cX x w3 C3.out S3.out (fun b hb => HAP.out b hb.2) p3 p4 (by omega))
        have hcame := do_came 6 f l x
        have x0 := BX3.out.c 0
        have x1 := BX3.out.c 1
        simp only [List.getElem?_cons_succ, List.getElem?_cons_zero] at x0 x1
        generalize doF f l x = f' at *
        generalize doL 6 l x = l' at *
        clear hb3
        go_wp2_with fail
        refine DO.out.mono ?_
        rintro r w4 ⟨A4, c4, V4, rfl, d4, s4, -, -, t4, -⟩
        have D4 := Lib.hid (D3.out.turn t4 (fun b hb => HAP.out b (D0.out.lt b hb).1))
        have S4 := Lib.hid (Seq.turn S3.out t4 (fun b hb => HAP.out b hb.2))
        have L4 := Lib.hid (L3.out.trans (t4.below L3.out.size (fun b hb => Nat.le_trans L1.out.size (DC.out.lt b hb).2)))
        have SA := Lib.hid (same_any wr.heap.size gc V4 ls 6 f' l' A4 c4 w4 d4 s4.ints (by omega))
        have SB := Lib.hid (fun W (hb : Below w4.heap.size w4 W) => same_any wb.heap.size g V ls 6 f l AX cX W (D4.out.next hb) (SInts.ints (Seq.next S4.out hb)) (by omega))
        clear d4 s4 t4
        go_wp2_with fail
        refine SA.out.mono ?_
        rintro r w5 ⟨rfl, hb5⟩
        have L5 := Lib.hid (below_next L4.out hb5)
        have K5 := Lib.hid hb5
        clear hb5
        go_wp2_with fail
        refine (SB.out _ K5.out).mono ?_
        rintro r w6 ⟨rfl, hb6⟩
        have L6 := Lib.hid (below_next L5.out hb6)
        clear hb6
        go_wp2_with fail
        refine (lives_any _).mono ?_
        rintro r w7 ⟨rfl, hb7⟩
        have L7 := Lib.hid (below_next L6.out hb7)
        clear hb7
        go_wp2
        go_ret
        exact ⟨rfl, L7.out⟩
  · have t3 : decide ((ds.length : Int) > 100) = true := decide_eq_true (by omega)
    go_enter Try.func7, Try.ntmps7
    go_wp2_with fail
    generalize w.alloc (.cells #[.bool x.1, .int .i64 x.2] 58) = wb at *
    refine (best_nil _).mono ?_
    rintro r w1 ⟨rfl, rfl⟩
    go_wp2_with fail
    refine (drop_nil _).mono ?_
    rintro r w1 ⟨rfl, rfl⟩
    go_wp2_with fail
    refine (len_nil _).mono ?_
    rintro r w1 ⟨rfl, rfl⟩
    go_wp2_with fail
    refine (kept_nil _).mono ?_
    rintro r w1 ⟨rfl, rfl⟩
    go_wp2_with fail
    refine (push_nil 1 _).mono ?_
    rintro r w1 ⟨rfl, rfl⟩
    go_wp2_with fail
    refine (clone_nil _).mono ?_
    rintro r w1 ⟨rfl, rfl⟩
    go_wp2_with fail
    refine (lives_any _).mono ?_
    rintro r w7 ⟨rfl, hb7⟩
    have L7 := Lib.hid (below_next L0.out hb7)
    clear hb7
    go_wp2
    go_ret
    exact ⟨rfl, L7.out⟩
end Go.Proofs.Ytogbemdoimhndaa.Dq
