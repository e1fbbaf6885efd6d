/-
  What rifflelaw16.TapeApart answers: true, whatever the deeds. Condition: no more deeds than fit into a machine.
-/
import Derived.Test.YtakoehgjgdcmmaaTpPlays
set_option maxRecDepth 100000
namespace Go.Proofs.Ytakoehgjgdcmmaa.Tp
open Go.Proofs.Ytakoehgjgdcmmaa.Sh Go.Proofs.Ytakoehgjgdcmmaa.St
open Go.RowKit
set_option linter.unusedVariables false

/-- One deed, just laid. -/
theorem deeds_one (w : World) (d : Deed) (U : Value) (h : RwsA w U d.2.2) : Deeds (w.alloc (.cells #[.bool d.1, .int .i64 d.2.1, U] 33)) (some ⟨w.heap.size, 0, none⟩) [d] := fun _ => by
  have hb := Bk.new 33 w [.bool d.1, .int .i64 d.2.1, U]
  refine ⟨w.heap.size, 0, rfl, Bk.lt hb, fun k d' hd => ?_⟩
  obtain rfl : k = 0 := by have := (List.getElem?_eq_some_iff.1 hd).1; simp at this; omega
  obtain rfl : d = d' := by simpa using hd
  exact ⟨U, Bk.c hb 0, Bk.c hb 1, Bk.c hb 2, RwsIn.next h (below_new w _)⟩
theorem great_one (w : World) (d : Deed) (U : Value) (h : RwsA w U d.2.2) : Calls Try.prog 8 #[.slice (some ⟨w.heap.size, 0, none⟩) 1 1] (w.alloc (.cells #[.bool d.1, .int .i64 d.2.1, U] 33)) fun e w' => e = .returned (.bool (greatB [d])) ∧ Below w.heap.size w w' :=
  (great_any (some ⟨w.heap.size, 0, none⟩) 1 [d] _ (by simp [maxLen]) (deeds_one w d U h)).mono fun e w' ⟨h1, h2⟩ => ⟨h1, by rw [← h2]; exact below_new _ _⟩
/-- The box takes the answer. -/
theorem box_set0 {base : Nat} {w : World} {g gx wd f : Nat} {V V0 : Value} {rows : List (List Int)} {A : Option Addr} {c : Nat} {cs : List Value} (bx : Bk 31 w gx cs) (hcs : cs.length = 3) (hx : RwsIn (fun b => ¬ (Tq g V0 b ∨ b = gx) ∧ ¬ Tq g V b) w (.slice A rows.length c) rows) (d : Tap base w g V wd f rows) (x y z : Value) :
    Bk 31 (((w.setCell ⟨gx, 0, none⟩ x).setCell ⟨gx, 1, none⟩ y).setCell ⟨gx, 2, none⟩ z) gx [x, y, z] ∧
    RwsIn (fun b => ¬ Tq g V b ∧ b ≠ gx) (((w.setCell ⟨gx, 0, none⟩ x).setCell ⟨gx, 1, none⟩ y).setCell ⟨gx, 2, none⟩ z) (.slice A rows.length c) rows ∧
    Tap base (((w.setCell ⟨gx, 0, none⟩ x).setCell ⟨gx, 1, none⟩ y).setCell ⟨gx, 2, none⟩ z) g V wd f rows ∧
    Turn (fun i => i = gx) w (((w.setCell ⟨gx, 0, none⟩ x).setCell ⟨gx, 1, none⟩ y).setCell ⟨gx, 2, none⟩ z) := by
  have hT : Turn (fun i => i = gx) w (((w.setCell ⟨gx, 0, none⟩ x).setCell ⟨gx, 1, none⟩ y).setCell ⟨gx, 2, none⟩ z) :=
    Turn.setCell (p := ⟨gx, 2, none⟩) (Turn.setCell (p := ⟨gx, 1, none⟩) (Turn.setCell (p := ⟨gx, 0, none⟩) (Turn.refl (fun i => i = gx) w) (.inl rfl) x) (.inl rfl) y) (.inl rfl) z
  have hq := tq_ne d bx
  refine ⟨?_, (RwsIn.turn hx hT (fun i hi he => hi.1 (.inr he))).mono fun i hi => ⟨hi.2, fun e => hi.1 (.inr e)⟩, d.turn hT (fun b hb e => hq (by rw [← e]; exact hb)), hT⟩
  match cs, hcs with
  | [p, q, r], _ => exact ((bx.set_ 0 x).set_ 1 y).set_ 2 z
theorem new2 (w : World) : Calls Try.prog 6 #[.int .i64 2] w (RetNew 2 w) := new_yes 2 w (by omega)
/-- A deed with a tape and the document's rows, in one step. -/
theorem does_step (base g wd f gx : Nat) (V : Value) (A : Option Addr) (c : Nat) (rows : List (List Int)) (d : Deed) (U : Value) (n0 : Nat) (w : World) (h : Tap base w g V wd f rows) (hL : RwsIn (fun b => ¬ Tq g V b ∧ b ≠ gx) w (.slice A rows.length c) rows) (hU : RwsIn (fun b => b < n0) w U d.2.2) (hq : ∀ b, Tq g V b → n0 ≤ b) (hg0 : n0 ≤ gx) (hgx : gx < w.heap.size) (hnl : rows.length + d.2.2.length ≤ 900) :
    Calls Try.prog 9 #[.pointer (some ⟨g, 0, none⟩), tv (.slice A rows.length c) f wd, .agg #[.bool d.1, .int .i64 d.2.1, U]] w (RetDo base g wd (step wd (rows, f) d).2 (step wd (rows, f) d).1 V (fun b => Tq g V b ∨ b = gx) w) :=
  does_any base g wd f V (fun b => Tq g V b ∨ b = gx) A c rows d U w h (fun b h => .inl h) (RwsIn.mono hL fun i hi h => by rcases h with h | h; exact hi.1 h; exact hi.2 h)
    (RwsIn.mono hU fun i hi h => by
      rcases h with h | h
      · have := hq i h; omega
      · omega) (fun i hi => by
      rcases hi with hi | hi
      · exact (h.lt i hi).1
      · omega) hnl
set_option maxHeartbeats 16000000 in
theorem apart_any (A : Option Addr) (c : Nat) (ds : List Deed) (d : Deed) (U : Value) (w : World) (hl : ds.length ≤ maxLen) (hD : Deeds w A ds) (hU : RwsA w U d.2.2) :
    Calls Try.prog 4 #[.slice A ds.length c, .agg #[.bool d.1, .int .i64 d.2.1, U]] w fun e w' => e = .returned (.bool true) ∧ Below w.heap.size w w' := by
  have HD := Lib.hid hD
  have HL := Lib.hid hl
  have HU := Lib.hid hU
  have HUC := Lib.hid (RwsIn.mono (rws_cut hU) (S' := fun b => b < w.heap.size) fun i hi => hi.2)
  have GR := fun (W : World) (h : Deeds W A ds) => great_any A c ds W HL.out h
  have G1 := fun (W : World) (h : RwsA W U d.2.2) => great_one W d U h
  have BD := Lib.hid (Bk.new 33 w [.bool d.1, .int .i64 d.2.1, U])
  have L0 := Lib.hid (below_new w (.cells #[.bool d.1, .int .i64 d.2.1, U] 33))
  obtain ⟨AU, cU, vU, rfl, -⟩ := hU
  obtain ⟨W0, hW0⟩ : ∃ W0, w.alloc (.cells #[.bool d.1, .int .i64 d.2.1, .slice AU d.2.2.length cU] 33) = W0 := ⟨_, rfl⟩
  rw [hW0] at BD L0
  have e0 : W0.cell? ⟨w.heap.size, 0, none⟩ = some (.bool d.1) := BD.out.c 0
  have e1 : W0.cell? ⟨w.heap.size, 1, none⟩ = some (.int .i64 d.2.1) := BD.out.c 1
  have e2 : W0.cell? ⟨w.heap.size, 2, none⟩ = some (.slice AU d.2.2.length cU) := BD.out.c 2
  clear hl hD
  by_cases hg : greatB ds = true
  · rw [hg] at GR
    have HGR := Lib.hid GR
    clear GR hg
    go_enter Try.func4, Try.ntmps4
    go_wp2_with (first
      | (go_at_call 11; (with_reducible refine (forget_nil _ _).mono ?_); rintro r w1 ⟨rfl, rfl⟩)
      | (go_at_call 12; (with_reducible refine (set_nil _ _ _ _ _).mono ?_); rintro r w1 ⟨rfl, rfl⟩)
      | (go_at_call 13; (with_reducible refine (row_nil _ _).mono ?_); rintro r w1 ⟨A1, c1, rfl, -, -, -, hb1⟩; have B1 := Lib.hid (below_next L0.out hb1); have BD1 := Lib.hid (BD.out.next hb1); have HU1 := Lib.hid (show RwsA w1 (.slice AU d.2.2.length cU) d.2.2 from RwsIn.next HU.out B1.out); clear hb1)
      | (go_at_call 14; (with_reducible refine (first_nil _).mono ?_); rintro r w2 ⟨rfl, rfl⟩)
      | (go_at_call 15; (with_reducible refine (end_nil _).mono ?_); rintro r w2 ⟨rfl, rfl⟩)
      | (go_at_call 16; (with_reducible refine (words_nil _).mono ?_); rintro r w2 ⟨rfl, rfl⟩)
      | (go_at_call 17; (with_reducible refine (clone_nil _).mono ?_); rintro r w2 ⟨rfl, rfl⟩)
      | (go_at_call 8; (with_reducible refine (HGR.out _ (HD.out.below B1.out)).mono ?_); rintro r w2 ⟨rfl, rfl⟩)
      | (go_at_call 7; (with_reducible refine (lives_any _).mono ?_); rintro r w3 ⟨rfl, hb3⟩; have B3 := Lib.hid (below_next B1.out hb3); clear hb3))
    go_ret
    exact ⟨rfl, B3.out⟩
  · have hg' : greatB ds = false := by simpa using hg
    obtain ⟨hl8, hrows⟩ := great_no hg'
    rw [hg'] at GR
    have HGR := Lib.hid GR
    have HROWS := Lib.hid hrows
    clear GR hg hg' hrows
    by_cases hg1 : greatB [d] = true
    · rw [hg1] at G1
      have HG1 := Lib.hid G1
      clear G1 hg1
      go_enter Try.func4, Try.ntmps4
      go_wp2_with (first
        | (go_at_call 11; (with_reducible refine (forget_nil _ _).mono ?_); rintro r w1 ⟨rfl, rfl⟩)
        | (go_at_call 12; (with_reducible refine (set_nil _ _ _ _ _).mono ?_); rintro r w1 ⟨rfl, rfl⟩)
        | (go_at_call 13; (with_reducible refine (row_nil _ _).mono ?_); rintro r w1 ⟨A1, c1, rfl, -, -, -, hb1⟩; have B1 := Lib.hid (below_next L0.out hb1); have BD1 := Lib.hid (BD.out.next hb1); have HU1 := Lib.hid (show RwsA w1 (.slice AU d.2.2.length cU) d.2.2 from RwsIn.next HU.out B1.out); clear hb1)
        | (go_at_call 14; (with_reducible refine (first_nil _).mono ?_); rintro r w2 ⟨rfl, rfl⟩)
        | (go_at_call 15; (with_reducible refine (end_nil _).mono ?_); rintro r w2 ⟨rfl, rfl⟩)
        | (go_at_call 16; (with_reducible refine (words_nil _).mono ?_); rintro r w2 ⟨rfl, rfl⟩)
        | (go_at_call 17; (with_reducible refine (clone_nil _).mono ?_); rintro r w2 ⟨rfl, rfl⟩)
        | (go_at_call 8; first
          | ((with_reducible refine (HGR.out _ (HD.out.below B1.out)).mono ?_); rintro r w2 ⟨rfl, rfl⟩; have e0 : w1.cell? ⟨w.heap.size, 0, none⟩ = some (.bool d.1) := BD1.out.c 0; have e1 : w1.cell? ⟨w.heap.size, 1, none⟩ = some (.int .i64 d.2.1) := BD1.out.c 1; have e2 : w1.cell? ⟨w.heap.size, 2, none⟩ = some (.slice AU d.2.2.length cU) := BD1.out.c 2)
          | ((with_reducible refine (HG1.out _ HU1.out).mono ?_); rintro r w2 ⟨rfl, hb2⟩; have B2 := Lib.hid (below_next B1.out hb2); clear hb2))
        | (go_at_call 7; (with_reducible refine (lives_any _).mono ?_); rintro r w3 ⟨rfl, hb3⟩; have B3 := Lib.hid (below_next B2.out hb3); clear hb3))
      go_ret
      exact ⟨rfl, B3.out⟩
    · have hg1' : greatB [d] = false := by simpa using hg1
      have hdl := (great_no hg1').2 d (by simp)
      rw [hg1'] at G1
      have HG1 := Lib.hid G1
      clear G1 hg1 hg1'
      go_enter Try.func4, Try.ntmps4
      go_wp2_with (first
        | (go_at_call 11; (with_reducible refine (forget_nil _ _).mono ?_); rintro r w1 ⟨rfl, rfl⟩)
        | (go_at_call 12; (with_reducible refine (set_nil _ _ _ _ _).mono ?_); rintro r w1 ⟨rfl, rfl⟩)
        | (go_at_call 13; (with_reducible refine (row_nil _ _).mono ?_); rintro r w1 ⟨A1, c1, rfl, -, -, -, hb1⟩; have B1 := Lib.hid (below_next L0.out hb1); have BW1 := Lib.hid hb1; have BD1 := Lib.hid (BD.out.next hb1); have HU1 := Lib.hid (show RwsA w1 (.slice AU d.2.2.length cU) d.2.2 from RwsIn.next HU.out B1.out); clear hb1)
        | (go_at_call 14; (with_reducible refine (first_nil _).mono ?_); rintro r w2 ⟨rfl, rfl⟩)
        | (go_at_call 15; (with_reducible refine (end_nil _).mono ?_); rintro r w2 ⟨rfl, rfl⟩)
        | (go_at_call 16; (with_reducible refine (words_nil _).mono ?_); rintro r w2 ⟨rfl, rfl⟩)
        | (go_at_call 17; (with_reducible refine (clone_nil _).mono ?_); rintro r w2 ⟨rfl, rfl⟩)
        | (go_at_call 8; first
          | ((with_reducible refine (HGR.out _ (HD.out.below B1.out)).mono ?_); rintro r w2 ⟨rfl, rfl⟩; have e0 : w1.cell? ⟨w.heap.size, 0, none⟩ = some (.bool d.1) := BD1.out.c 0; have e1 : w1.cell? ⟨w.heap.size, 1, none⟩ = some (.int .i64 d.2.1) := BD1.out.c 1; have e2 : w1.cell? ⟨w.heap.size, 2, none⟩ = some (.slice AU d.2.2.length cU) := BD1.out.c 2)
          | ((with_reducible refine (HG1.out _ HU1.out).mono ?_); rintro r w2 ⟨rfl, hb2⟩; have B2 := Lib.hid (below_next B1.out hb2); have BD2 := Lib.hid (BD1.out.next hb2); have BW2 := Lib.hid (below_next BW1.out hb2); clear hb2))
        | (go_at_call 6; (with_reducible refine (new2 _).mono ?_); rintro r w3 ⟨g, rfl, h3, hb3⟩; have B3 := Lib.hid (below_next B2.out hb3); have BD3 := Lib.hid (BD2.out.next hb3); have O3 := Lib.hid h3; have BW3 := Lib.hid (below_next BW2.out hb3); have LB := Lib.hid B2.out.size; clear h3 hb3))
      have HDW := Lib.hid (HD.out.below L0.out)
      have PA : Hid (PlayAt W0 (w3.alloc (.cells #[.slice none 0 0, .int .i64 0, .int .i64 2] 31)) g w3.heap.size 2 0) := Lib.hid
        ⟨_, _, 0, [], none, 0, O3.out.next (below_new _ _), Bk.new 31 w3 [.slice none 0 0, .int .i64 0, .int .i64 2], RwsIn.none _ _, Nat.zero_le _, below_next BW3.out (below_new _ _), fun b hb => Nat.le_trans BW2.out.size (O3.out.lt b hb).2, BW3.out.size⟩
      clear O3 B3 BD3 B1 B2 BD1 BD2 BW1 BW2 BW3 LB HU1
      generalize w3.heap.size = gx at *
      go_loopw [84] (fun i wr => ∃ k : Nat, k ≤ ds.length ∧ i = .int .i64 k ∧ Hid (PlayAt W0 wr g gx 2 k)) (fun i _ => ds.length - (intOf i).toNat)
      case atStart => exact ⟨0, Nat.zero_le _, rfl, PA⟩
      case round =>
        obtain ⟨k, hk, rfl, HP⟩ := hrel
        by_cases hlt : k < ds.length
        · skip
          obtain ⟨base, V, f, rows, AR, cR, p1, p2, p3, p4, p5, p6, p7⟩ := HP.out
          obtain ⟨dd, hd⟩ : ∃ d, ds[k]? = some d := ⟨_, List.getElem?_eq_getElem hlt⟩
          have i1 : (k : Int) < (ds.length : Int) := by omega
          obtain ⟨b, off, rfl, hb, hc⟩ := (HDW.out.below p5) (by omega)
          obtain ⟨U2, c1, c2, c3, hU⟩ := hc k dd hd
          obtain ⟨b0, off0, e0, hb0, hc0⟩ := HDW.out (by omega)
          injection e0 with e0
          injection e0 with e0 e1
          subst e0 e1
          obtain ⟨U0, -, -, c30, hU0⟩ := hc0 k dd hd
          have hUU : U0 = U2 := by
            have := (p5.cell (p := ⟨b, off + k * 3 + 2, none⟩) hb0).trans c30
            rw [c3] at this
            injection this with this
            exact this.symm
          subst hUU
          have hrow := HROWS.out dd (List.mem_of_getElem? hd)
          have U1 := (rws_cut hU0).turn (Turn.of_below (fun i => W0.heap.size ≤ i) p5) (fun i hi h => by omega)
          obtain ⟨AV, cV, vV, rfl, -⟩ := hU0
          obtain ⟨Q, hQ⟩ : ∃ Q, step 2 (rows, f) dd = Q := ⟨_, rfl⟩
          have hQl := step_len (wd := 2) (s := (rows, f)) (d := dd) (K := 20 * k) p4 hrow
          rw [hQ] at hQl
          have b1 := below_new wr (.cells #[.bool dd.1, .int .i64 dd.2.1, .slice AV dd.2.2.length cV] 33)
          have hgx := p2.lt
          have PD := does_any base g 2 f V (fun b => Tq g V b ∨ b = gx) AR cR rows dd (.slice AV dd.2.2.length cV) _ (p1.next b1) (fun b h => .inl h) (RwsIn.mono (RwsIn.next p3 b1) fun i hi h => by rcases h with h | h; exact hi.1 h; exact hi.2 h)
            (RwsIn.mono (RwsIn.next U1 b1) fun i hi h => by
              rcases h with h | h
              · have := p6 i h; omega
              · omega) (fun i hi => by
              have hs := b1.size
              rcases hi with hi | hi
              · have := (p1.lt i hi).1; omega
              · omega) (by omega)
          rw [hQ] at PD
          have HPD := Lib.hid PD
          have P2 := Lib.hid p2
          have P4 := Lib.hid (below_next p5 b1)
          have NT := Lib.hid (tq_ne p1 p2)
          have P6 := Lib.hid p6
          obtain ⟨x0, x1, x2⟩ : wr.cell? ⟨gx, 0, none⟩ = some (.slice AR rows.length cR) ∧ wr.cell? ⟨gx, 1, none⟩ = some (.int .i64 f) ∧ wr.cell? ⟨gx, 2, none⟩ = some (.int .i64 2) := ⟨p2.c 0, p2.c 1, p2.c 2⟩
          have BX1 := Lib.hid (p2.next b1)
          have BD1 := Lib.hid (Bk.new 33 wr [.bool dd.1, .int .i64 dd.2.1, .slice AV dd.2.2.length cV])
          have hne : ¬ wr.heap.size = gx := by omega
          have hne2 : ¬ gx = wr.heap.size := by omega
          have HTL := Lib.hid (fun i (hi : Tq g V i) => (p1.lt i hi).1)
          have HGX := Lib.hid p7
          have HQL := Lib.hid hQl
          clear p1 p2 p3 p4 p5 p6 hd hc hrow hQ PD b1 HP hU U1 hc0 c30 hb hb0 hQl p7
          unfold tv at HPD
          go_wp2_with fail
          refine HPD.out.mono ?_
          rintro r w4 ⟨A4, c4, V4, rfl, d4, r4, t4, q4⟩
          unfold tv
          have BX4 := Lib.hid (BX1.out.turn t4 NT.out)
          have L4 := Lib.hid (show Below W0.heap.size W0 w4 from P4.out.trans (t4.below P4.out.size P6.out))
          have LQ := Lib.hid (show ∀ b, Tq g V4 b → W0.heap.size ≤ b from fun b hb => by
            rcases q4 b hb with h | h
            · exact P6.out b h
            · have := P4.out.size; omega)
          have BB := Lib.hid (box_set0 BX4.out rfl r4 d4 (.slice A4 Q.1.length c4) (.int .i64 Q.2) (.int .i64 2))
          obtain ⟨y0, y1, y2⟩ : w4.cell? ⟨gx, 0, none⟩ = some (.slice AR rows.length cR) ∧ w4.cell? ⟨gx, 1, none⟩ = some (.int .i64 f) ∧ w4.cell? ⟨gx, 2, none⟩ = some (.int .i64 2) := ⟨BX4.out.c 0, BX4.out.c 1, BX4.out.c 2⟩
          obtain ⟨v0, v1, v2⟩ : w4.frozen? ⟨gx, 0, none⟩ = false ∧ w4.frozen? ⟨gx, 1, none⟩ = false ∧ w4.frozen? ⟨gx, 2, none⟩ = false := ⟨BX4.out.f 0, BX4.out.f 1, BX4.out.f 2⟩
          clear x0 x1 x2 d4 r4 t4 q4 HPD
          go_wp2_with fail
          have PZ := Lib.hid (show PlayAt W0 _ g gx 2 (k + 1) from ⟨base, V4, Q.2, Q.1, A4, c4, BB.out.2.2.1, BB.out.1, BB.out.2.1, by have := HQL.out; omega, L4.out.trans (BB.out.2.2.2.below L4.out.size fun i hi => by rw [hi]; exact HGX.out), LQ.out, HGX.out⟩)
          exact ⟨⟨k + 1, by omega, by go_num, PZ⟩, by simp [intOf]; omega⟩
        · obtain rfl : k = ds.length := by omega
          obtain ⟨base, V, f, rows, AR, cR, p1, p2, p3, p4, p5, p6, p7⟩ := HP.out
          have hN : rows.length ≤ 800 := by omega
          have CL := Lib.hid (clone_any base g V 2 f rows wr p1)
          have P1 := Lib.hid p1
          have P2 := Lib.hid p2
          have P3 := Lib.hid (rws_cut p3)
          have P5 := Lib.hid p5
          have P6 := Lib.hid p6
          have P7 := Lib.hid p7
          have BDr := Lib.hid (BD.out.next p5)
          have HGX := Lib.hid p2.lt
          have HTL := Lib.hid (fun i (hi : Tq g V i) => (p1.lt i hi).1)
          have LW := Lib.hid (Nat.le_trans L0.out.size p5.size)
          clear p1 p2 p3 p4 p5 p6 p7 HP hlt hk
          go_wp2_with fail
          refine (CL.out).mono ?_
          rintro r w5 ⟨gc, Vc, rfl, d5, hb5⟩
          have D5 := Lib.hid d5
          have B5 := Lib.hid hb5
          have X5 := Lib.hid (P2.out.next hb5)
          have R5 := Lib.hid (RwsIn.next P3.out hb5)
          have SA5 := Lib.hid (same_any wr.heap.size gc 2 f (Tq gc Vc) (fun _ => False) (.slice AR rows.length cR) rows 0 w5 ⟨Vc, d5, fun b k => k⟩ (RwsIn.mono (RwsIn.next P3.out hb5) fun _ _ h => h))
          unfold tv at SA5
          have x0 : w5.cell? ⟨gx, 0, none⟩ = some (.slice AR rows.length cR) := X5.out.c 0
          have x1 : w5.cell? ⟨gx, 1, none⟩ = some (.int .i64 f) := X5.out.c 1
          have x2 : w5.cell? ⟨gx, 2, none⟩ = some (.int .i64 2) := X5.out.c 2
          clear d5 hb5
          go_wp2_with fail
          refine (SA5.out).mono ?_
          rintro r w6 ⟨rfl, hb6⟩
          have B6 := Lib.hid (below_next B5.out hb6)
          have X6 := Lib.hid (X5.out.next hb6)
          have D6 := Lib.hid (D5.out.next hb6)
          have BD6 := Lib.hid (BDr.out.next B6.out)
          have DS := does_any wr.heap.size gc 2 f Vc (fun b => Tq gc Vc b ∨ b = gx) AR cR rows d (.slice AU d.2.2.length cU) w6 D6.out (fun b h => .inl h) (RwsIn.mono (RwsIn.next R5.out hb6) fun i hi h => by
              rcases h with h | h
              · have := (D5.out.lt i h).2; omega
              · exact hi.1.2 h)
            (RwsIn.mono (RwsIn.turn HUC.out (Turn.of_below (fun _ => False) (below_next (below_next L0.out P5.out) B6.out)) (fun _ _ h => h)) fun i hi h => by
              have h1 := LW.out
              rcases h with h | h
              · have := (D5.out.lt i h).2; omega
              · have := P7.out; have := L0.out.size; omega) (fun i hi => by
              have h1 := B6.out.size
              have h2 := HGX.out
              rcases hi with hi | hi
              · exact (D6.out.lt i hi).1
              · omega) (by omega)
          obtain ⟨Q, hQ⟩ : ∃ Q, step 2 (rows, f) d = Q := ⟨_, rfl⟩
          rw [hQ] at DS
          have HDS := Lib.hid DS
          unfold tv at HDS
          have x0 : w6.cell? ⟨gx, 0, none⟩ = some (.slice AR rows.length cR) := X6.out.c 0
          have x1 : w6.cell? ⟨gx, 1, none⟩ = some (.int .i64 f) := X6.out.c 1
          have x2 : w6.cell? ⟨gx, 2, none⟩ = some (.int .i64 2) := X6.out.c 2
          have e0 : w6.cell? ⟨w.heap.size, 0, none⟩ = some (.bool d.1) := BD6.out.c 0
          have e1 : w6.cell? ⟨w.heap.size, 1, none⟩ = some (.int .i64 d.2.1) := BD6.out.c 1
          have e2 : w6.cell? ⟨w.heap.size, 2, none⟩ = some (.slice AU d.2.2.length cU) := BD6.out.c 2
          have R6 := Lib.hid (RwsIn.next R5.out hb6)
          have P16 := Lib.hid (P1.out.next B6.out)
          clear hQ DS hb6
          go_wp2_with fail
          refine (HDS.out).mono ?_
          rintro r w7 ⟨A7, c7, V7, rfl, d7, r7, t7, q7⟩
          unfold tv
          have NG : Hid (∀ b, Tq gc Vc b → wr.heap.size ≤ b) := Lib.hid (fun b hb => (D5.out.lt b hb).2)
          have X7 := X6.out.turn t7 (fun h => by have := NG.out _ h; have := HGX.out; omega)
          have R7 := RwsIn.turn R6.out t7 (fun i hi h => by have := NG.out _ h; omega)
          have P17 := P16.out.turn t7 (fun b hb h => by have := NG.out _ h; have := HTL.out b hb; omega)
          have b8 := below_new w7 (.cells #[.slice A7 Q.1.length c7, .int .i64 Q.2, .int .i64 2] 31)
          have B7 := Lib.hid (show Below w.heap.size w w7 from (below_next (below_next L0.out P5.out) B6.out).trans (t7.below (by have := L0.out.size; have := P5.out.size; have := B6.out.size; omega) fun i hi => by have := NG.out i hi; have := LW.out; omega))
          have B8 := Lib.hid (below_next B7.out b8)
          have X8 := Lib.hid (X7.next b8)
          have R8 := Lib.hid (RwsIn.next R7 b8)
          have P18 := Lib.hid (P17.next b8)
          have Y8 := Lib.hid (Bk.new 31 w7 [.slice A7 Q.1.length c7, .int .i64 Q.2, .int .i64 2])
          have S8 := Lib.hid (same_any wr.heap.size gc 2 Q.2 (Tq gc V7) (fun _ => False) (.slice A7 Q.1.length c7) Q.1 0 _ ⟨V7, d7.next b8, fun b k => k⟩ (RwsIn.mono (RwsIn.next r7 b8) fun _ _ h => h))
          unfold tv at S8
          obtain ⟨W8, hW8⟩ : ∃ W8, w7.alloc (.cells #[.slice A7 Q.1.length c7, .int .i64 Q.2, .int .i64 2] 31) = W8 := ⟨_, rfl⟩
          rw [hW8] at S8 X8 R8 P18 B8 Y8
          have y0 : W8.cell? ⟨w7.heap.size, 0, none⟩ = some (.slice A7 Q.1.length c7) := Y8.out.c 0
          have y1 : W8.cell? ⟨w7.heap.size, 1, none⟩ = some (.int .i64 Q.2) := Y8.out.c 1
          have y2 : W8.cell? ⟨w7.heap.size, 2, none⟩ = some (.int .i64 2) := Y8.out.c 2
          clear d7 r7 t7 q7 X7 R7 P17 b8 x0 x1 x2 e0 e1 e2 HDS SA5
          go_wp2_with fail
          refine (S8.out).mono ?_
          rintro r w9 ⟨rfl, hb9⟩
          have S9 := Lib.hid (same_any base g 2 f (Tq g V) (fun _ => False) (.slice AR rows.length cR) rows 0 w9 ⟨V, P18.out.next hb9, fun b k => k⟩ (RwsIn.mono (RwsIn.next R8.out hb9) fun _ _ h => h))
          unfold tv at S9
          have B9 := Lib.hid (below_next B8.out hb9)
          have X9 := Lib.hid (X8.out.next hb9)
          have x0 : w9.cell? ⟨gx, 0, none⟩ = some (.slice AR rows.length cR) := X9.out.c 0
          have x1 : w9.cell? ⟨gx, 1, none⟩ = some (.int .i64 f) := X9.out.c 1
          have x2 : w9.cell? ⟨gx, 2, none⟩ = some (.int .i64 2) := X9.out.c 2
          clear hb9 hW8
          go_wp2_with fail
          refine (S9.out).mono ?_
          rintro r w10 ⟨rfl, hb10⟩
          have B10 := Lib.hid (below_next B9.out hb10)
          clear hb10 x0 x1 x2
          go_wp2_with fail
          refine (lives_any _).mono ?_
          rintro r w11 ⟨rfl, hb11⟩
          have B11 := Lib.hid (below_next B10.out hb11)
          clear hb11
          go_wp2
          go_ret
          exact ⟨rfl, B11.out⟩
end Go.Proofs.Ytakoehgjgdcmmaa.Tp
