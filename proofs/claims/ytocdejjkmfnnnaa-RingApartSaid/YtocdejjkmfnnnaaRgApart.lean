/-
  What rifflelaw11.RingApart answers: true, whatever the deeds. Condition: no more deeds than fit into a machine.
-/
import Derived.Test.YtocdejjkmfnnnaaRgPlays
set_option maxRecDepth 100000
namespace Go.Proofs.Ytocdejjkmfnnnaa.Rg
open Go.Proofs.Ytocdejjkmfnnnaa.Sh Go.Proofs.Ytocdejjkmfnnnaa.St
open Go.RowKit
set_option linter.unusedVariables false

theorem box_set0 {w : World} {g h gx n s : Nat} {Q : List (List Int)} {AV A : Option Addr} {N cV c : Nat} (bx : Bk 32 w gx [.slice AV N cV, .int .i64 n, .int .i64 s]) (hx : RwsIn (fun b => gx < b) w (.slice A Q.length c) Q) (r : Ring w g h n s Q) (hg : g < gx) (hh : h < gx) (x y z : Value) :
    Bk 32 (((w.setCell ⟨gx, 0, none⟩ x).setCell ⟨gx, 1, none⟩ y).setCell ⟨gx, 2, none⟩ z) gx [x, y, z] ∧
    RwsIn (fun b => gx < b) (((w.setCell ⟨gx, 0, none⟩ x).setCell ⟨gx, 1, none⟩ y).setCell ⟨gx, 2, none⟩ z) (.slice A Q.length c) Q ∧
    Ring (((w.setCell ⟨gx, 0, none⟩ x).setCell ⟨gx, 1, none⟩ y).setCell ⟨gx, 2, none⟩ z) g h n s Q ∧
    Below gx w (((w.setCell ⟨gx, 0, none⟩ x).setCell ⟨gx, 1, none⟩ y).setCell ⟨gx, 2, none⟩ z) := by
  have hT : Turn (fun i => i = gx) w (((w.setCell ⟨gx, 0, none⟩ x).setCell ⟨gx, 1, none⟩ y).setCell ⟨gx, 2, none⟩ z) :=
    Turn.setCell (p := ⟨gx, 2, none⟩) (Turn.setCell (p := ⟨gx, 1, none⟩) (Turn.setCell (p := ⟨gx, 0, none⟩) (Turn.refl (fun i => i = gx) w) (.inl rfl) x) (.inl rfl) y) (.inl rfl) z
  have hlt := bx.lt
  refine ⟨?_, hx.turn hT (fun i hi he => by omega), r.turn hT (fun e => by omega) (fun e => by omega), hT.below (by omega) (fun i hi => by omega)⟩
  exact ((bx.set_ 0 x).set_ 1 y).set_ 2 z
theorem new32 (w : World) : Calls Try.prog 9 #[.int .i64 3, .int .i64 2] w (RetNew 3 2 w) := new_yes 3 2 w (by omega) (by omega) (by omega)
/-- What is known of the deed's box. -/
def DB (w : World) (b : Nat) (d : Deed) (B : Option Addr) (c : Nat) : Prop := Bk 35 w b [.int .i64 d.1, .int .i64 d.2.1, .slice B d.2.2.length c]
set_option maxHeartbeats 4000000 in
theorem apart_any (A : Option Addr) (c : Nat) (ds : List Deed) (x : Deed) (B : Option Addr) (cB : Nat) (w : World) (hl : ds.length ≤ maxLen) (hD : Deeds w A ds) (hx : x.2.2.length ≤ maxLen) (iB : Ints w B x.2.2) :
    Calls Try.prog 4 #[.slice A ds.length c, .agg #[.int .i64 x.1, .int .i64 x.2.1, .slice B x.2.2.length cB]] w fun e w' => e = .returned (.bool true) ∧ Below w.heap.size w w' := by
  have HD := Lib.hid hD
  have HL := Lib.hid hl
  have IB := Lib.hid iB
  have BD0 := Lib.hid (Bk.new 35 w [.int .i64 x.1, .int .i64 x.2.1, .slice B x.2.2.length cB])
  have L0 := Lib.hid (below_new w (.cells #[.int .i64 x.1, .int .i64 x.2.1, .slice B x.2.2.length cB] 35))
  have GR := fun (W : World) (h : Deeds W A ds) => great_any A c ds W HL.out h
  have HGR := Lib.hid GR
  unfold maxLen at hx
  clear hD hl iB GR
  go_enter Try.func4, Try.ntmps4
  go_wp2_with fail
  refine (pop_nil _).mono ?_
  rintro r w1 ⟨rfl, hb1⟩
  have L1 := Lib.hid (below_next L0.out hb1)
  have BD1 := Lib.hid (BD0.out.next hb1)
  obtain ⟨d0, d1, d2⟩ : w1.cell? ⟨w.heap.size, 0, none⟩ = some (.int .i64 x.1) ∧ w1.cell? ⟨w.heap.size, 1, none⟩ = some (.int .i64 x.2.1) ∧ w1.cell? ⟨w.heap.size, 2, none⟩ = some (.slice B x.2.2.length cB) := ⟨BD1.out.c 0, BD1.out.c 1, BD1.out.c 2⟩
  clear hb1
  go_wp2_with fail
  refine (at_nil x.2.1 _).mono ?_
  rintro r w2 ⟨rfl, hb2⟩
  have L2 := Lib.hid (below_next L1.out hb2)
  have BD2 := Lib.hid (BD1.out.next hb2)
  clear hb2 d0 d1 d2
  obtain ⟨d0, d1, d2⟩ : w2.cell? ⟨w.heap.size, 0, none⟩ = some (.int .i64 x.1) ∧ w2.cell? ⟨w.heap.size, 1, none⟩ = some (.int .i64 x.2.1) ∧ w2.cell? ⟨w.heap.size, 2, none⟩ = some (.slice B x.2.2.length cB) := ⟨BD2.out.c 0, BD2.out.c 1, BD2.out.c 2⟩
  go_wp2_with fail
  refine (rows_nil _).mono ?_
  rintro r w3 ⟨rfl, hb3⟩
  have L3 := Lib.hid (below_next L2.out hb3)
  have BD3 := Lib.hid (BD2.out.next hb3)
  clear hb3 d0 d1 d2
  obtain ⟨d0, d1, d2⟩ : w3.cell? ⟨w.heap.size, 0, none⟩ = some (.int .i64 x.1) ∧ w3.cell? ⟨w.heap.size, 1, none⟩ = some (.int .i64 x.2.1) ∧ w3.cell? ⟨w.heap.size, 2, none⟩ = some (.slice B x.2.2.length cB) := ⟨BD3.out.c 0, BD3.out.c 1, BD3.out.c 2⟩
  go_wp2_with fail
  refine (len_nil _).mono ?_
  rintro r wL ⟨rfl, rfl⟩
  go_wp2_with fail
  refine (words_nil _).mono ?_
  rintro r w4 ⟨rfl, hb4⟩
  have L4 := Lib.hid (below_next L3.out hb4)
  have BD4 := Lib.hid (BD3.out.next hb4)
  clear hb4 d0 d1 d2
  obtain ⟨d0, d1, d2⟩ : w4.cell? ⟨w.heap.size, 0, none⟩ = some (.int .i64 x.1) ∧ w4.cell? ⟨w.heap.size, 1, none⟩ = some (.int .i64 x.2.1) ∧ w4.cell? ⟨w.heap.size, 2, none⟩ = some (.slice B x.2.2.length cB) := ⟨BD4.out.c 0, BD4.out.c 1, BD4.out.c 2⟩
  go_wp2_with fail
  refine (push_nil B x.2.2.length cB _).mono ?_
  rintro r w5 ⟨rfl, hb5⟩
  have L5 := Lib.hid (below_next L4.out hb5)
  have BD5 := Lib.hid (BD4.out.next hb5)
  clear hb5 d0 d1 d2
  obtain ⟨d0, d1, d2⟩ : w5.cell? ⟨w.heap.size, 0, none⟩ = some (.int .i64 x.1) ∧ w5.cell? ⟨w.heap.size, 1, none⟩ = some (.int .i64 x.2.1) ∧ w5.cell? ⟨w.heap.size, 2, none⟩ = some (.slice B x.2.2.length cB) := ⟨BD5.out.c 0, BD5.out.c 1, BD5.out.c 2⟩
  go_wp2_with fail
  refine (clone_nil _).mono ?_
  rintro r w6 ⟨rfl, hb6⟩
  have L6 := Lib.hid (below_next L5.out hb6)
  have BD6 := Lib.hid (BD5.out.next hb6)
  clear hb6 d0 d1 d2
  obtain ⟨d0, d1, d2⟩ : w6.cell? ⟨w.heap.size, 0, none⟩ = some (.int .i64 x.1) ∧ w6.cell? ⟨w.heap.size, 1, none⟩ = some (.int .i64 x.2.1) ∧ w6.cell? ⟨w.heap.size, 2, none⟩ = some (.slice B x.2.2.length cB) := ⟨BD6.out.c 0, BD6.out.c 1, BD6.out.c 2⟩
  have GQ := HGR.out _ (HD.out.next L6.out)
  by_cases hgr : greatB ds = true
  · rw [hgr] at GQ
    have HGQ := Lib.hid GQ
    clear GQ hgr
    go_wp2_with fail
    refine HGQ.out.mono ?_
    rintro r w7 ⟨rfl, rfl⟩
    go_wp2_with fail
    refine (lives_any _).mono ?_
    rintro r wz ⟨rfl, hbz⟩
    have LZ := Lib.hid (below_next L6.out hbz)
    clear hbz
    go_wp2
    go_ret
    exact ⟨rfl, LZ.out⟩
  · have hgr' : greatB ds = false := by simpa using hgr
    obtain ⟨hl8, hrows⟩ := great_no hgr'
    rw [hgr'] at GQ
    have HGQ := Lib.hid GQ
    have HROWS := Lib.hid hrows
    clear GQ hgr hgr' hrows
    by_cases hrow : x.2.2.length ≤ 100
    · have t1 : decide ((x.2.2.length : Int) > 100) = false := decide_eq_false (by omega)
      have BDL : w.heap.size < w6.heap.size := BD6.out.lt
      go_wp2_with fail
      refine HGQ.out.mono ?_
      rintro r wG ⟨rfl, rfl⟩
      go_wp2_with fail
      refine (new32 _).mono ?_
      rintro r w7 ⟨g, h, rfl, r7, hg, hh, hb7⟩
      have L7 := Lib.hid (below_next L6.out hb7)
      have BD7 := Lib.hid (BD6.out.next hb7)
      have PA : Hid (PlayAt w6 (w7.alloc (.cells #[.slice none 0 0, .int .i64 (3 : Nat), .int .i64 (2 : Nat)] 32)) g h w7.heap.size 3 2) := Lib.hid
        ⟨[], none, 0, r7.next (below_new _ _), Bk.new 32 w7 [.slice none 0 0, .int .i64 (3 : Nat), .int .i64 (2 : Nat)], RwsIn.none _ _, below_next hb7 (below_new _ _), hg, hh, two_lt r7 g (.inl rfl), two_lt r7 h (.inr rfl), by simp⟩
      clear hb7 r7 d0 d1 d2
      go_wp2
      generalize w7.heap.size = gx at *
      go_loopw [82] (fun i wr => ∃ k : Nat, k ≤ ds.length ∧ i = .int .i64 k ∧ Hid (PlayAt w6 wr g h gx 3 2)) (fun i _ => ds.length - (intOf i).toNat)
      case atStart => exact ⟨0, Nat.zero_le _, rfl, PA⟩
      case round =>
        obtain ⟨k, hk, rfl, HP⟩ := hrel
        by_cases hlt : k < ds.length
        · obtain ⟨rs, AV, cV, p1, p2, p3, p4, p5, p6, p7, p8, p9⟩ := HP.out
          obtain ⟨d, hd⟩ : ∃ d, ds[k]? = some d := ⟨_, List.getElem?_eq_getElem hlt⟩
          have i1 : (k : Int) < (ds.length : Int) := by omega
          obtain ⟨b, off, rfl, hb, hc⟩ := (HD.out.next (below_next L6.out p4)) (by omega)
          obtain ⟨c1, c2, Bd, cd, c3, c4, c5⟩ := hc k d hd
          have hrowd := HROWS.out d (List.mem_of_getElem? hd)
          obtain ⟨Q, hQ⟩ : ∃ Q, doL 3 2 rs d = Q := ⟨_, rfl⟩
          have b1 := below_new wr (.cells #[.int .i64 d.1, .int .i64 d.2.1, .slice Bd d.2.2.length cd] 35)
          have PD := play_does d Bd cd (p1.next b1) (p3.next b1) p7 p8 (Nat.lt_of_lt_of_le p9 b1.size) (c5.below b1) hrowd
          rw [hQ] at PD
          have HPD := Lib.hid PD
          have P4 := Lib.hid (below_next p4 b1)
          obtain ⟨x0, x1, x2⟩ : wr.cell? ⟨gx, 0, none⟩ = some (.slice AV rs.length cV) ∧ wr.cell? ⟨gx, 1, none⟩ = some (.int .i64 3) ∧ wr.cell? ⟨gx, 2, none⟩ = some (.int .i64 2) := ⟨p2.c 0, p2.c 1, p2.c 2⟩
          have BX1 := Lib.hid (p2.next b1)
          clear p1 p3 p4 p2 hd hc hrowd hQ PD c4 c5 b1 HP
          go_wp2_with fail
          refine HPD.out.mono ?_
          rintro r w8 ⟨A4, c4, rfl, hx4, r4, t4⟩
          have NT : Hid (¬ Two g h gx) := Lib.hid (fun ht => by rcases ht with ht | ht <;> omega)
          have BX4 := Lib.hid (BX1.out.turn t4 NT.out)
          have L8 := Lib.hid (two_base (T := fun _ => True) P4.out t4 p5 p6)
          have g4 : gx < w8.heap.size := BX4.out.lt
          have BB := Lib.hid (box_set0 BX4.out hx4 r4 p7 p8 (.slice A4 Q.length c4) (.int .i64 (3 : Nat)) (.int .i64 (2 : Nat)))
          have LG := Lib.hid (show w6.heap.size ≤ gx by omega)
          obtain ⟨y0, y1, y2⟩ : w8.cell? ⟨gx, 0, none⟩ = some (.slice AV rs.length cV) ∧ w8.cell? ⟨gx, 1, none⟩ = some (.int .i64 3) ∧ w8.cell? ⟨gx, 2, none⟩ = some (.int .i64 2) := ⟨BX4.out.c 0, BX4.out.c 1, BX4.out.c 2⟩
          obtain ⟨v0, v1, v2⟩ : w8.frozen? ⟨gx, 0, none⟩ = false ∧ w8.frozen? ⟨gx, 1, none⟩ = false ∧ w8.frozen? ⟨gx, 2, none⟩ = false := ⟨BX4.out.f 0, BX4.out.f 1, BX4.out.f 2⟩
          clear x0 x1 x2 hx4 r4 t4 HPD
          go_wp2
          exact ⟨⟨k + 1, by omega, by go_num, Lib.hid ⟨Q, A4, c4, BB.out.2.2.1, BB.out.1, BB.out.2.1, L8.out.trans (BB.out.2.2.2.mono LG.out), p5, p6, p7, p8, BB.out.1.lt⟩⟩, by simp [intOf]; omega⟩
        · obtain rfl : k = ds.length := by omega
          obtain ⟨rs, AV, cV, p1, p2, p3, p4, p5, p6, p7, p8, p9⟩ := HP.out
          have R9 := Lib.hid p1
          have X9 := Lib.hid (rws_bound p3)
          have BX9 := Lib.hid p2
          have BD9 := Lib.hid (BD6.out.next p4)
          have L9 := Lib.hid (below_next L6.out p4)
          clear p1 p2 p3 p4 HP
          go_wp2_with fail
          refine (clone_any g h 3 2 rs wr R9.out (by omega) (by omega)).mono ?_
          rintro r w9 ⟨g2, h2, rfl, r9, hg2, hh2, hb9⟩
          have C := Lib.hid r9
          have R := Lib.hid (R9.out.next hb9)
          have X := Lib.hid (X9.out.next hb9)
          have BX := Lib.hid (BX9.out.next hb9)
          have BD := Lib.hid (BD9.out.next hb9)
          have L := Lib.hid (below_next L9.out hb9)
          have G2 := Lib.hid (two_lt r9)
          clear hb9 r9
          obtain ⟨x0, x1, x2⟩ : w9.cell? ⟨gx, 0, none⟩ = some (.slice AV rs.length cV) ∧ w9.cell? ⟨gx, 1, none⟩ = some (.int .i64 3) ∧ w9.cell? ⟨gx, 2, none⟩ = some (.int .i64 2) := ⟨BX.out.c 0, BX.out.c 1, BX.out.c 2⟩
          obtain ⟨d0, d1, d2⟩ : w9.cell? ⟨w.heap.size, 0, none⟩ = some (.int .i64 x.1) ∧ w9.cell? ⟨w.heap.size, 1, none⟩ = some (.int .i64 x.2.1) ∧ w9.cell? ⟨w.heap.size, 2, none⟩ = some (.slice B x.2.2.length cB) := ⟨BD.out.c 0, BD.out.c 1, BD.out.c 2⟩
          go_wp2_with fail
          refine (same_law _ g2 h2 3 2 rs AV cV _ C.out X.out).mono ?_
          rintro r w10 ⟨rfl, hb⟩
          clear x0 x1 x2 d0 d1 d2
          replace C := Lib.hid (C.out.next hb)
          replace R := Lib.hid (R.out.next hb)
          replace X := Lib.hid (X.out.next hb)
          replace BX := Lib.hid (BX.out.next hb)
          replace BD := Lib.hid (BD.out.next hb)
          replace L := Lib.hid (below_next L.out hb)
          have Z : Hid (wr.heap.size ≤ w10.heap.size) := Lib.hid (by have := G2.out g2 (.inl rfl); have := hb.size; omega)
          clear hb
          obtain ⟨x0, x1, x2⟩ : w10.cell? ⟨gx, 0, none⟩ = some (.slice AV rs.length cV) ∧ w10.cell? ⟨gx, 1, none⟩ = some (.int .i64 3) ∧ w10.cell? ⟨gx, 2, none⟩ = some (.int .i64 2) := ⟨BX.out.c 0, BX.out.c 1, BX.out.c 2⟩
          obtain ⟨d0, d1, d2⟩ : w10.cell? ⟨w.heap.size, 0, none⟩ = some (.int .i64 x.1) ∧ w10.cell? ⟨w.heap.size, 1, none⟩ = some (.int .i64 x.2.1) ∧ w10.cell? ⟨w.heap.size, 2, none⟩ = some (.slice B x.2.2.length cB) := ⟨BD.out.c 0, BD.out.c 1, BD.out.c 2⟩
          obtain ⟨Q, hQ⟩ : ∃ Q, doL 3 2 rs x = Q := ⟨_, rfl⟩
          have PD := does_any _ g2 h2 3 2 rs AV cV x B cB w10 C.out X.out (fun b hb => ⟨Nat.lt_of_lt_of_le hb.2 Z.out, fun ht => by have := hb.2; rcases ht with ht | ht <;> omega⟩) (IB.out.below L.out) hrow
          rw [hQ] at PD
          have HPD := Lib.hid PD
          clear PD hQ
          go_wp2_with fail
          refine HPD.out.mono ?_
          rintro r w11 ⟨xx, rfl, ⟨A5, c5, rfl, hx5⟩, r11, t11⟩
          have b12 := below_new w11 (.cells #[.slice A5 Q.length c5, .int .i64 (3 : Nat), .int .i64 (2 : Nat)] 32)
          have NT : Hid (∀ b, b < wr.heap.size → ¬ Two g2 h2 b) := Lib.hid (fun b hb ht => by rcases ht with ht | ht <;> omega)
          have ngx : gx < wr.heap.size := p9
          replace C := Lib.hid (r11.next b12)
          have Y := Lib.hid (hx5.next b12)
          replace R := Lib.hid ((R.out.turn t11 (NT.out g (by omega)) (NT.out h (by omega))).next b12)
          replace X := Lib.hid ((X.out.turn t11 (fun b hb => NT.out b hb.2)).next b12)
          replace BX := Lib.hid ((BX.out.turn t11 (NT.out gx (by omega))).next b12)
          have BLW : w.heap.size < w6.heap.size := BD6.out.lt
          replace BD := Lib.hid ((BD.out.turn t11 (NT.out w.heap.size (by omega))).next b12)
          have WSZ : Hid (w.heap.size ≤ g2 ∧ w.heap.size ≤ h2) := Lib.hid (by omega)
          replace L := Lib.hid (below_next (two_base (T := fun _ => True) L.out t11 WSZ.out.1 WSZ.out.2) b12)
          clear hx5 r11 t11 b12 HPD x0 x1 x2 d0 d1 d2
          have q0 : w11.heap.size = w11.heap.size := rfl
          obtain ⟨x0, x1, x2⟩ : (w11.alloc (.cells #[.slice A5 Q.length c5, .int .i64 (3 : Nat), .int .i64 (2 : Nat)] 32)).cell? ⟨gx, 0, none⟩ = some (.slice AV rs.length cV) ∧ (w11.alloc (.cells #[.slice A5 Q.length c5, .int .i64 (3 : Nat), .int .i64 (2 : Nat)] 32)).cell? ⟨gx, 1, none⟩ = some (.int .i64 3) ∧ (w11.alloc (.cells #[.slice A5 Q.length c5, .int .i64 (3 : Nat), .int .i64 (2 : Nat)] 32)).cell? ⟨gx, 2, none⟩ = some (.int .i64 2) := ⟨BX.out.c 0, BX.out.c 1, BX.out.c 2⟩
          clear q0
          go_wp2_with fail
          refine (same_law _ g2 h2 3 2 Q A5 c5 _ C.out Y.out).mono ?_
          rintro r w13 ⟨rfl, hb⟩
          replace R := Lib.hid (R.out.next hb)
          replace X := Lib.hid (X.out.next hb)
          replace BX := Lib.hid (BX.out.next hb)
          replace L := Lib.hid (below_next L.out hb)
          clear hb x0 x1 x2
          obtain ⟨x0, x1, x2⟩ : w13.cell? ⟨gx, 0, none⟩ = some (.slice AV rs.length cV) ∧ w13.cell? ⟨gx, 1, none⟩ = some (.int .i64 3) ∧ w13.cell? ⟨gx, 2, none⟩ = some (.int .i64 2) := ⟨BX.out.c 0, BX.out.c 1, BX.out.c 2⟩
          go_wp2_with fail
          refine (same_law _ g h 3 2 rs AV cV _ R.out X.out).mono ?_
          rintro r w14 ⟨rfl, hb⟩
          replace L := Lib.hid (below_next L.out hb)
          clear hb x0 x1 x2
          go_wp2_with fail
          refine (lives_any _).mono ?_
          rintro r w15 ⟨rfl, hb⟩
          replace L := Lib.hid (below_next L.out hb)
          clear hb
          go_wp2
          go_ret
          exact ⟨rfl, L.out⟩
    · have t1 : decide ((x.2.2.length : Int) > 100) = true := decide_eq_true (by omega)
      go_wp2_with fail
      refine HGQ.out.mono ?_
      rintro r w7 ⟨rfl, rfl⟩
      go_wp2_with fail
      refine (lives_any _).mono ?_
      rintro r wz ⟨rfl, hbz⟩
      have LZ := Lib.hid (below_next L6.out hbz)
      clear hbz
      go_wp2
      go_ret
      exact ⟨rfl, LZ.out⟩
end Go.Proofs.Ytocdejjkmfnnnaa.Rg
