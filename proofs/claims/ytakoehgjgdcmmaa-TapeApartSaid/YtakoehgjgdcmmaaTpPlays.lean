/-
  What rifflelaw16.TapePlays answers: true, whatever the width and the deeds. Condition: no more deeds than fit into a machine.
-/
import Derived.Test.YtakoehgjgdcmmaaTpLives
import Derived.Test.YtakoehgjgdcmmaaTpSame
set_option maxRecDepth 100000
namespace Go.Proofs.Ytakoehgjgdcmmaa.Tp
open Go.Proofs.Ytakoehgjgdcmmaa.Sh Go.Proofs.Ytakoehgjgdcmmaa.St
open Go.RowKit
set_option linter.unusedVariables false

/-- At the head of the loop over deeds: a tape, and the document's rows in the box gx. -/
def PlayAt (w0 wr : World) (g gx wd k : Nat) : Prop := ∃ base V f rows A c, Tap base wr g V wd f rows ∧ Bk 31 wr gx [.slice A rows.length c, .int .i64 f, .int .i64 wd] ∧ RwsIn (fun b => ¬ Tq g V b ∧ b ≠ gx) wr (.slice A rows.length c) rows ∧ rows.length ≤ 20 * k ∧ Below w0.heap.size w0 wr ∧ (∀ b, Tq g V b → w0.heap.size ≤ b) ∧ w0.heap.size ≤ gx
theorem tq_ne {base : Nat} {w : World} {g gx wd f : Nat} {V : Value} {rows : List (List Int)} {cs : List Value} (d : Tap base w g V wd f rows) (bx : Bk 31 w gx cs) : ¬ Tq g V gx := fun h => by
  rcases h with h | h
  · exact d.1.ne_ bx (by decide) h.symm
  · exact own_bk_ne d.2.1 bx (by decide) h.symm
/-- The box takes the answer, and a block more is made. -/
theorem box_set {base : Nat} {w : World} {g gx wd f : Nat} {V V0 : Value} {rows : List (List Int)} {A : Option Addr} {c : Nat} {cs : List Value} (bx : Bk 31 w gx cs) (hcs : cs.length = 3) (hx : RwsIn (fun b => ¬ (Tq g V0 b ∨ b = gx) ∧ ¬ Tq g V b) w (.slice A rows.length c) rows) (d : Tap base w g V wd f rows) (x y z : Value) (o : Obj) :
    Bk 31 ((((w.setCell ⟨gx, 0, none⟩ x).setCell ⟨gx, 1, none⟩ y).setCell ⟨gx, 2, none⟩ z).alloc o) gx [x, y, z] ∧
    RwsIn (fun b => ¬ Tq g V b ∧ b ≠ gx) ((((w.setCell ⟨gx, 0, none⟩ x).setCell ⟨gx, 1, none⟩ y).setCell ⟨gx, 2, none⟩ z).alloc o) (.slice A rows.length c) rows ∧
    Tap base ((((w.setCell ⟨gx, 0, none⟩ x).setCell ⟨gx, 1, none⟩ y).setCell ⟨gx, 2, none⟩ z).alloc o) g V wd f rows ∧
    Turn (fun i => i = gx) w ((((w.setCell ⟨gx, 0, none⟩ x).setCell ⟨gx, 1, none⟩ y).setCell ⟨gx, 2, none⟩ z).alloc o) := by
  have hT : Turn (fun i => i = gx) w (((w.setCell ⟨gx, 0, none⟩ x).setCell ⟨gx, 1, none⟩ y).setCell ⟨gx, 2, none⟩ z) :=
    Turn.setCell (p := ⟨gx, 2, none⟩) (Turn.setCell (p := ⟨gx, 1, none⟩) (Turn.setCell (p := ⟨gx, 0, none⟩) (Turn.refl (fun i => i = gx) w) (.inl rfl) x) (.inl rfl) y) (.inl rfl) z
  have hT2 := hT.alloc o
  have hq := tq_ne d bx
  refine ⟨?_, (RwsIn.turn hx hT2 (fun i hi he => hi.1 (.inr he))).mono fun i hi => ⟨hi.2, fun e => hi.1 (.inr e)⟩, d.turn hT2 (fun b hb e => hq (by rw [← e]; exact hb)), hT2⟩
  match cs, hcs with
  | [p, q, r], _ => exact (((bx.set_ 0 x).set_ 1 y).set_ 2 z).alloc o
set_option maxHeartbeats 8000000 in
theorem plays_any (n : Int) (A : Option Addr) (c : Nat) (ds : List Deed) (w : World) (hl : ds.length ≤ maxLen) (hD : Deeds w A ds) :
    Calls Try.prog 3 #[.int .i64 n, .slice A ds.length c] w fun e w' => e = .returned (.bool true) ∧ Below w.heap.size w w' := by
  by_cases hm : n < 0 ∨ n > 64
  · have NB := Lib.hid (new_no n w hm)
    clear hD hl
    by_cases h1 : n < 0
    · have t1 : decide (n < 0) = true := decide_eq_true h1
      clear hm h1
      go_enter Try.func3, Try.ntmps3
      go_wp2_with (first
        | (go_at_call 6; (with_reducible refine (NB.out).mono ?_); rintro r w1 ⟨rfl, rfl⟩)
        | (go_at_call 7; (with_reducible refine (lives_any _).mono ?_); rintro r w2 ⟨rfl, hb2⟩; have B2 := Lib.hid hb2; clear hb2))
      go_ret
      exact ⟨rfl, B2.out⟩
    · have t1 : decide (n < 0) = false := decide_eq_false h1
      have t2 : decide (n > 64) = true := decide_eq_true (by omega)
      clear hm h1
      go_enter Try.func3, Try.ntmps3
      go_wp2_with (first
        | (go_at_call 6; (with_reducible refine (NB.out).mono ?_); rintro r w1 ⟨rfl, rfl⟩)
        | (go_at_call 7; (with_reducible refine (lives_any _).mono ?_); rintro r w2 ⟨rfl, hb2⟩; have B2 := Lib.hid hb2; clear hb2))
      go_ret
      exact ⟨rfl, B2.out⟩
  · obtain ⟨wd, rfl⟩ : ∃ k : Nat, n = k := ⟨n.toNat, by omega⟩
    have hwd : wd ≤ 64 := by omega
    have t1 : decide ((wd : Int) < 0) = false := decide_eq_false (by omega)
    have t2 : decide ((wd : Int) > 64) = false := decide_eq_false (by omega)
    have t2' : decide (64 < wd) = false := decide_eq_false (by omega)
    have HD := Lib.hid hD
    have HL := Lib.hid hl
    have NG := Lib.hid (new_yes wd w hwd)
    have GR := fun (W : World) (h : Deeds W A ds) => great_any A c ds W HL.out h
    clear hm hD hl
    by_cases hg : greatB ds = true
    · rw [hg] at GR
      have HGR := Lib.hid GR
      clear GR hg
      go_enter Try.func3, Try.ntmps3
      go_wp2_with (first
        | (go_at_call 6; (with_reducible refine (NG.out).mono ?_); rintro r w1 ⟨g, rfl, h1, hb1⟩; have B1 := Lib.hid hb1; clear h1 hb1)
        | (go_at_call 8; (with_reducible refine (HGR.out _ (HD.out.below B1.out)).mono ?_); rintro r w2 ⟨rfl, rfl⟩)
        | (go_at_call 7; (with_reducible refine (lives_any _).mono ?_); rintro r w3 ⟨rfl, hb3⟩; have B3 := Lib.hid (below_next B1.out hb3); clear hb3))
      go_ret
      exact ⟨rfl, B3.out⟩
    · have hg' : greatB ds = false := by simpa using hg
      obtain ⟨hl8, hrows⟩ := great_no hg'
      rw [hg'] at GR
      have HGR := Lib.hid GR
      have HROWS := Lib.hid hrows
      clear GR hg hg' hrows
      go_enter Try.func3, Try.ntmps3
      go_wp2_with (first
        | (go_at_call 6; (with_reducible refine (NG.out).mono ?_); rintro r w1 ⟨g, rfl, h1, hb1⟩; have B1 := Lib.hid hb1; have O1 := Lib.hid h1; clear h1 hb1)
        | (go_at_call 8; (with_reducible refine (HGR.out _ (HD.out.below B1.out)).mono ?_); rintro r w2 ⟨rfl, rfl⟩))
      have PA : Hid (PlayAt w (w1.alloc (.cells #[.slice none 0 0, .int .i64 0, .int .i64 wd] 31)) g w1.heap.size wd 0) := Lib.hid
        ⟨_, _, 0, [], none, 0, O1.out.next (below_new _ _), Bk.new 31 w1 [.slice none 0 0, .int .i64 0, .int .i64 wd], RwsIn.none _ _, Nat.zero_le _, below_next B1.out (below_new _ _), fun b hb => (O1.out.lt b hb).2, B1.out.size⟩
      clear O1 B1
      generalize w1.heap.size = gx at *
      go_loopw [45] (fun i wr => ∃ k : Nat, k ≤ ds.length ∧ i = .int .i64 k ∧ Hid (PlayAt w wr g gx wd k)) (fun i _ => ds.length - (intOf i).toNat)
      case atStart => exact ⟨0, Nat.zero_le _, rfl, PA⟩
      case round =>
        obtain ⟨k, hk, rfl, HP⟩ := hrel
        by_cases hlt : k < ds.length
        · obtain ⟨base, V, f, rows, AR, cR, p1, p2, p3, p4, p5, p6, p7⟩ := HP.out
          obtain ⟨d, hd⟩ : ∃ d, ds[k]? = some d := ⟨_, List.getElem?_eq_getElem hlt⟩
          have i1 : (k : Int) < (ds.length : Int) := by omega
          obtain ⟨b, off, rfl, hb, hc⟩ := (HD.out.below p5) (by omega)
          obtain ⟨U, c1, c2, c3, hU⟩ := hc k d hd
          obtain ⟨b0, off0, e0, hb0, hc0⟩ := HD.out (by omega)
          injection e0 with e0
          injection e0 with e0 e1
          subst e0 e1
          obtain ⟨U0, -, -, c30, hU0⟩ := hc0 k d hd
          have hUU : U0 = U := by
            have := (p5.cell (p := ⟨b, off + k * 3 + 2, none⟩) hb0).trans c30
            rw [c3] at this
            injection this with this
            exact this.symm
          subst hUU
          have hrow := HROWS.out d (List.mem_of_getElem? hd)
          have U1 := (rws_cut hU0).turn (Turn.of_below (fun i => w.heap.size ≤ i) p5) (fun i hi h => by omega)
          obtain ⟨AU, cU, vU, rfl, -⟩ := hU0
          obtain ⟨Q, hQ⟩ : ∃ Q, step wd (rows, f) d = Q := ⟨_, rfl⟩
          have hQl := step_len (wd := wd) (s := (rows, f)) (d := d) (K := 20 * k) p4 hrow
          rw [hQ] at hQl
          have b1 := below_new wr (.cells #[.bool d.1, .int .i64 d.2.1, .slice AU d.2.2.length cU] 33)
          have hgx := p2.lt
          have PD := does_any base g wd f V (fun b => Tq g V b ∨ b = gx) AR cR rows d (.slice AU d.2.2.length cU) _ (p1.next b1) (fun b h => .inl h) (RwsIn.mono (RwsIn.next p3 b1) fun i hi h => by rcases h with h | h; exact hi.1 h; exact hi.2 h)
            (RwsIn.mono (RwsIn.next U1 b1) fun i hi h => by
              rcases h with h | h
              · have := p6 i h; omega
              · omega) (fun i hi => by
              have hs := b1.size
              rcases hi with hi | hi
              · have := (p1.lt i hi).1; omega
              · omega) (by omega)
          rw [hQ] at PD
          have HPD := Lib.hid PD
          have P2 := Lib.hid p2
          have P4 := Lib.hid (below_next p5 b1)
          have NT := Lib.hid (tq_ne p1 p2)
          have P6 := Lib.hid p6
          obtain ⟨x0, x1, x2⟩ : wr.cell? ⟨gx, 0, none⟩ = some (.slice AR rows.length cR) ∧ wr.cell? ⟨gx, 1, none⟩ = some (.int .i64 f) ∧ wr.cell? ⟨gx, 2, none⟩ = some (.int .i64 wd) := ⟨p2.c 0, p2.c 1, p2.c 2⟩
          have BX1 := Lib.hid (p2.next b1)
          have BD1 := Lib.hid (Bk.new 33 wr [.bool d.1, .int .i64 d.2.1, .slice AU d.2.2.length cU])
          have hne : ¬ wr.heap.size = gx := by omega
          have hne2 : ¬ gx = wr.heap.size := by omega
          have HTL := Lib.hid (fun i (hi : Tq g V i) => (p1.lt i hi).1)
          have HGX := Lib.hid p7
          have HQL := Lib.hid hQl
          clear p1 p2 p3 p4 p5 p6 hd hc hrow hQ PD b1 HP hU U1 hc0 c30 hb hb0 hQl p7
          unfold tv at HPD
          go_wp2_with fail
          refine HPD.out.mono ?_
          rintro r w4 ⟨A4, c4, V4, rfl, d4, r4, t4, q4⟩
          unfold tv
          have BX4 := Lib.hid (BX1.out.turn t4 NT.out)
          have BD4 := Lib.hid (BD1.out.turn t4 (fun h => by have := HTL.out _ h; omega))
          have L4 := Lib.hid (show Below w.heap.size w w4 from P4.out.trans (t4.below P4.out.size P6.out))
          have LQ := Lib.hid (show ∀ b, Tq g V4 b → w.heap.size ≤ b from fun b hb => by
            rcases q4 b hb with h | h
            · exact P6.out b h
            · have := P4.out.size; omega)
          have BB := Lib.hid (box_set BX4.out rfl r4 d4 (.slice A4 Q.1.length c4) (.int .i64 Q.2) (.int .i64 wd) (.cells #[.slice A4 Q.1.length c4, .int .i64 Q.2, .int .i64 wd] 31))
          obtain ⟨y0, y1, y2⟩ : w4.cell? ⟨gx, 0, none⟩ = some (.slice AR rows.length cR) ∧ w4.cell? ⟨gx, 1, none⟩ = some (.int .i64 f) ∧ w4.cell? ⟨gx, 2, none⟩ = some (.int .i64 wd) := ⟨BX4.out.c 0, BX4.out.c 1, BX4.out.c 2⟩
          obtain ⟨v0, v1, v2⟩ : w4.frozen? ⟨gx, 0, none⟩ = false ∧ w4.frozen? ⟨gx, 1, none⟩ = false ∧ w4.frozen? ⟨gx, 2, none⟩ = false := ⟨BX4.out.f 0, BX4.out.f 1, BX4.out.f 2⟩
          have e1 : w4.cell? ⟨wr.heap.size, 1, none⟩ = some (.int .i64 d.2.1) := BD4.out.c 1
          have g4 : gx < w4.heap.size := BX4.out.lt
          have g5 : wr.heap.size < w4.heap.size := BD4.out.lt
          clear x0 x1 x2 d4 r4 t4 q4 HPD
          go_wp2_with fail
          obtain ⟨W5, hW5⟩ : ∃ W5, ((((w4.setCell ⟨gx, 0, none⟩ (.slice A4 Q.1.length c4)).setCell ⟨gx, 1, none⟩ (.int .i64 Q.2)).setCell ⟨gx, 2, none⟩ (.int .i64 wd)).alloc (.cells #[.slice A4 Q.1.length c4, .int .i64 Q.2, .int .i64 wd] 31)) = W5 := ⟨_, rfl⟩
          rw [hW5] at BB ⊢
          have SA := Lib.hid (same_any base g wd Q.2 (Tq g V4) (fun _ => False) (.slice A4 Q.1.length c4) Q.1 d.2.1 W5 ⟨V4, BB.out.2.2.1, fun b k => k⟩ (RwsIn.mono BB.out.2.1 fun _ _ h => h))
          unfold tv at SA
          clear y0 y1 y2 v0 v1 v2 e1 g4 g5 hW5
          refine (SA.out).mono ?_
          rintro r w6 ⟨rfl, hb6⟩
          have PZ : Hid (PlayAt w w6 g gx wd (k + 1)) := Lib.hid ⟨base, V4, Q.2, Q.1, A4, c4, BB.out.2.2.1.next hb6, BB.out.1.next hb6, RwsIn.next BB.out.2.1 hb6, by have := HQL.out; omega, below_next (L4.out.trans (BB.out.2.2.2.below L4.out.size fun i hi => by rw [hi]; exact HGX.out)) hb6, LQ.out, HGX.out⟩
          clear hb6
          go_wp2
          exact ⟨⟨k + 1, by omega, by go_num, PZ⟩, by simp [intOf]; omega⟩
        · obtain rfl : k = ds.length := by omega
          obtain ⟨base, V, f, rows, AR, cR, -, -, -, -, p5, -, -⟩ := HP.out
          have L0 := Lib.hid p5
          clear HP p5 hlt
          go_wp2_with (go_at_call 7; (with_reducible refine (lives_any _).mono ?_); rintro r w3 ⟨rfl, hb3⟩; have B3 := Lib.hid (below_next L0.out hb3); clear hb3)
          go_ret
          exact ⟨rfl, B3.out⟩
end Go.Proofs.Ytakoehgjgdcmmaa.Tp
