/-
  What rifflelaw11.RingPlays answers: true, whatever the room, the width and the deeds. Condition: no more deeds than fit into a machine.
-/
import Derived.Test.YtocdejjkmfnnnaaRgLives
import Derived.Test.YtocdejjkmfnnnaaRgDoD
set_option maxRecDepth 100000
namespace Go.Proofs.Ytocdejjkmfnnnaa.Rg
open Go.Proofs.Ytocdejjkmfnnnaa.Sh Go.Proofs.Ytocdejjkmfnnnaa.St
open Go.RowKit
set_option linter.unusedVariables false

theorem seq_bound {S : Nat → Prop} {w : World} {A : Option Addr} {vs : List Value} (h : Seq S w A vs) : Seq (fun b => S b ∧ b < w.heap.size) w A vs := fun hp => by
  obtain ⟨b, off, e, h1, h2, h3⟩ := h hp
  exact ⟨b, off, e, ⟨h1, h2⟩, h2, h3⟩
theorem rws_bound {S : Nat → Prop} {w : World} {V : Value} {rs : List (List Int)} (h : RwsIn S w V rs) : RwsIn (fun b => S b ∧ b < w.heap.size) w V rs := by
  obtain ⟨A, c, vs, e, h1, h2, h3, h4, h5⟩ := h
  refine ⟨A, c, vs, e, h1, h2, h3, seq_bound h4, fun t r hr => ?_⟩
  obtain ⟨B, d, k1, k2, k3, k4⟩ := h5 t r hr
  exact ⟨B, d, k1, k2, k3, seq_bound k4⟩
/-- At the head of the loop over deeds: a ring, and the document's ring in the box gx, with the same rows. -/
def PlayAt (w0 wr : World) (g h gx n s : Nat) : Prop := ∃ rs AV cV, Ring wr g h n s rs ∧ Bk 32 wr gx [.slice AV rs.length cV, .int .i64 n, .int .i64 s] ∧ RwsIn (fun b => gx < b) wr (.slice AV rs.length cV) rs ∧ Below w0.heap.size w0 wr ∧ w0.heap.size ≤ g ∧ w0.heap.size ≤ h ∧ g < gx ∧ h < gx ∧ gx < wr.heap.size
/-- A deed is done with both. -/
theorem play_does {w : World} {g h gx n s : Nat} {rs : List (List Int)} {AV : Option Addr} {cV : Nat} (d : Deed) (B : Option Addr) (cB : Nat) (r : Ring w g h n s rs) (hr : RwsIn (fun b => gx < b) w (.slice AV rs.length cV) rs) (hg : g < gx) (hh : h < gx) (hx : gx < w.heap.size) (ib : Ints w B d.2.2) (hrow : d.2.2.length ≤ 100) :
    Calls Try.prog 13 #[.pointer (some ⟨g, 0, none⟩), .agg #[.slice AV rs.length cV, .int .i64 n, .int .i64 s], .agg #[.int .i64 d.1, .int .i64 d.2.1, .slice B d.2.2.length cB]] w
      fun e w' => ∃ A c, e = .returned (.tuple #[.agg #[.slice A (doL n s rs d).length c, .int .i64 n, .int .i64 s], .bool true]) ∧ RwsIn (fun b => gx < b) w' (.slice A (doL n s rs d).length c) (doL n s rs d) ∧ Ring w' g h n s (doL n s rs d) ∧ Turn (Two g h) w w' :=
  (does_any _ g h n s rs AV cV d B cB w r (rws_bound hr) (fun b hb => ⟨hb.2, fun ht => by have := hb.1; rcases ht with ht | ht <;> omega⟩) ib hrow).mono fun e w' ⟨x, h1, h2, h3, h4⟩ => by
    obtain ⟨A, c, rfl, hx'⟩ := h2
    exact ⟨A, c, h1, hx'.mono (fun b hb => by rcases hb with hb | hb; exact hb.1; omega), h3, h4⟩
/-- The box takes the answer, and a block more is made. -/
theorem box_set {w : World} {g h gx n s : Nat} {Q : List (List Int)} {AV A : Option Addr} {N cV c : Nat} (bx : Bk 32 w gx [.slice AV N cV, .int .i64 n, .int .i64 s]) (hx : RwsIn (fun b => gx < b) w (.slice A Q.length c) Q) (r : Ring w g h n s Q) (hg : g < gx) (hh : h < gx) (x y z : Value) (o : Obj) :
    Bk 32 ((((w.setCell ⟨gx, 0, none⟩ x).setCell ⟨gx, 1, none⟩ y).setCell ⟨gx, 2, none⟩ z).alloc o) gx [x, y, z] ∧
    RwsIn (fun b => gx < b) ((((w.setCell ⟨gx, 0, none⟩ x).setCell ⟨gx, 1, none⟩ y).setCell ⟨gx, 2, none⟩ z).alloc o) (.slice A Q.length c) Q ∧
    Ring ((((w.setCell ⟨gx, 0, none⟩ x).setCell ⟨gx, 1, none⟩ y).setCell ⟨gx, 2, none⟩ z).alloc o) g h n s Q ∧
    Below gx w ((((w.setCell ⟨gx, 0, none⟩ x).setCell ⟨gx, 1, none⟩ y).setCell ⟨gx, 2, none⟩ z).alloc o) := by
  have hT : Turn (fun i => i = gx) w (((w.setCell ⟨gx, 0, none⟩ x).setCell ⟨gx, 1, none⟩ y).setCell ⟨gx, 2, none⟩ z) :=
    Turn.setCell (p := ⟨gx, 2, none⟩) (Turn.setCell (p := ⟨gx, 1, none⟩) (Turn.setCell (p := ⟨gx, 0, none⟩) (Turn.refl (fun i => i = gx) w) (.inl rfl) x) (.inl rfl) y) (.inl rfl) z
  have hT2 := hT.alloc o
  have hlt := bx.lt
  refine ⟨?_, hx.turn hT2 (fun i hi he => by omega), r.turn hT2 (fun e => by omega) (fun e => by omega), hT2.below (by omega) (fun i hi => by omega)⟩
  exact (((bx.set_ 0 x).set_ 1 y).set_ 2 z).alloc o
set_option maxHeartbeats 4000000 in
theorem plays_any (n s : Int) (A : Option Addr) (c : Nat) (ds : List Deed) (w : World) (hl : ds.length ≤ maxLen) (hD : Deeds w A ds) :
    Calls Try.prog 3 #[.int .i64 n, .int .i64 s, .slice A ds.length c] w fun e w' => e = .returned (.bool true) ∧ Below w.heap.size w w' := by
  by_cases hm : mayB n s = true
  · have hm' : 1 ≤ n ∧ n ≤ 64 ∧ 0 ≤ s ∧ s ≤ 64 := by simpa [mayB] using hm
    obtain ⟨n', rfl⟩ : ∃ k : Nat, n = k := ⟨n.toNat, by omega⟩
    obtain ⟨s', rfl⟩ : ∃ k : Nat, s = k := ⟨s.toNat, by omega⟩
    have hn0 : 0 < n' := by omega
    have hn : n' ≤ 64 := by omega
    have hs : s' ≤ 64 := by omega
    have HD := Lib.hid hD
    have HL := Lib.hid hl
    clear hm hm' hD hl
    by_cases hg : greatB ds = true
    · have GR := fun (W : World) (h : Deeds W A ds) => great_any A c ds W HL.out h
      rw [hg] at GR
      have HGR := Lib.hid GR
      clear GR hg
      go_enter Try.func3, Try.ntmps3
      go_wp2_with fail
      refine (new_yes n' s' w hn0 hn hs).mono ?_
      rintro r w1 ⟨g, h, rfl, r1, hgg, hh, hb1⟩
      have L1 := Lib.hid hb1
      clear hb1 r1
      go_wp2_with fail
      refine (may_yes n' s' _ (by omega) (by omega) (by omega) (by omega)).mono ?_
      rintro r w2 ⟨rfl, hb2⟩
      have L2 := Lib.hid (below_next L1.out hb2)
      clear hb2 L1
      go_wp2_with fail
      refine (HGR.out _ (HD.out.next L2.out)).mono ?_
      rintro r w3 ⟨rfl, rfl⟩
      go_wp2_with fail
      refine (lives_any _).mono ?_
      rintro r w4 ⟨rfl, hb4⟩
      have L4 := Lib.hid (below_next L2.out hb4)
      clear hb4
      go_wp2
      go_ret
      exact ⟨rfl, L4.out⟩
    · have hg' : greatB ds = false := by simpa using hg
      obtain ⟨hl8, hrows⟩ := great_no hg'
      have GR := fun (W : World) (h : Deeds W A ds) => great_any A c ds W HL.out h
      rw [hg'] at GR
      have HGR := Lib.hid GR
      have HROWS := Lib.hid hrows
      clear GR hg hg' hrows
      go_enter Try.func3, Try.ntmps3
      go_wp2_with fail
      refine (new_yes n' s' w hn0 hn hs).mono ?_
      rintro r w1 ⟨g, h, rfl, r1, hgg, hh, hb1⟩
      have R1 := Lib.hid r1
      have L1 := Lib.hid hb1
      clear hb1 r1
      go_wp2_with fail
      refine (may_yes n' s' _ (by omega) (by omega) (by omega) (by omega)).mono ?_
      rintro r w2 ⟨rfl, hb2⟩
      have R2 := Lib.hid (R1.out.next hb2)
      have L2 := Lib.hid (below_next L1.out hb2)
      clear hb2 L1 R1
      go_wp2_with fail
      refine (HGR.out _ (HD.out.next L2.out)).mono ?_
      rintro r w3 ⟨rfl, rfl⟩
      have PA : Hid (PlayAt w (w2.alloc (.cells #[.slice none 0 0, .int .i64 n', .int .i64 s'] 32)) g h w2.heap.size n' s') := Lib.hid
        ⟨[], none, 0, R2.out.next (below_new _ _), Bk.new 32 w2 [.slice none 0 0, .int .i64 n', .int .i64 s'], RwsIn.none _ _, below_next L2.out (below_new _ _), hgg, hh, two_lt R2.out g (.inl rfl), two_lt R2.out h (.inr rfl), by simp⟩
      go_wp2
      generalize w2.heap.size = gx at *
      go_loopw [47] (fun i wr => ∃ k : Nat, k ≤ ds.length ∧ i = .int .i64 k ∧ Hid (PlayAt w wr g h gx n' s')) (fun i _ => ds.length - (intOf i).toNat)
      case atStart => exact ⟨0, Nat.zero_le _, rfl, PA⟩
      case round =>
        obtain ⟨k, hk, rfl, HP⟩ := hrel
        by_cases hlt : k < ds.length
        · obtain ⟨rs, AV, cV, p1, p2, p3, p4, p5, p6, p7, p8, p9⟩ := HP.out
          obtain ⟨d, hd⟩ : ∃ d, ds[k]? = some d := ⟨_, List.getElem?_eq_getElem hlt⟩
          have i1 : (k : Int) < (ds.length : Int) := by omega
          obtain ⟨b, off, rfl, hb, hc⟩ := (HD.out.next p4) (by omega)
          obtain ⟨c1, c2, B, cB, c3, c4, c5⟩ := hc k d hd
          have hrow := HROWS.out d (List.mem_of_getElem? hd)
          obtain ⟨Q, hQ⟩ : ∃ Q, doL n' s' rs d = Q := ⟨_, rfl⟩
          have b1 := below_new wr (.cells #[.int .i64 d.1, .int .i64 d.2.1, .slice B d.2.2.length cB] 35)
          have PD := play_does d B cB (p1.next b1) (p3.next b1) p7 p8 (Nat.lt_of_lt_of_le p9 b1.size) (c5.below b1) hrow
          rw [hQ] at PD
          have HPD := Lib.hid PD
          have P2 := Lib.hid p2
          have P4 := Lib.hid (below_next p4 b1)
          obtain ⟨x0, x1, x2⟩ : wr.cell? ⟨gx, 0, none⟩ = some (.slice AV rs.length cV) ∧ wr.cell? ⟨gx, 1, none⟩ = some (.int .i64 n') ∧ wr.cell? ⟨gx, 2, none⟩ = some (.int .i64 s') := ⟨p2.c 0, p2.c 1, p2.c 2⟩
          have BX1 := Lib.hid (p2.next b1)
          clear p1 p3 p4 p2 hd hc hrow hQ PD c4 c5 b1 HP
          go_wp2_with fail
          refine HPD.out.mono ?_
          rintro r w4 ⟨A4, c4, rfl, hx4, r4, t4⟩
          have NT : Hid (¬ Two g h gx) := Lib.hid (fun ht => by rcases ht with ht | ht <;> omega)
          have BX4 := Lib.hid (BX1.out.turn t4 NT.out)
          have L4 := Lib.hid (two_base (T := fun _ => True) P4.out t4 p5 p6)
          have g4 : gx < w4.heap.size := BX4.out.lt
          have BB := Lib.hid (box_set BX4.out hx4 r4 p7 p8 (.slice A4 Q.length c4) (.int .i64 n') (.int .i64 s') (.cells #[.slice A4 Q.length c4, .int .i64 n', .int .i64 s'] 32))
          have LG := Lib.hid (show w.heap.size ≤ gx by omega)
          obtain ⟨y0, y1, y2⟩ : w4.cell? ⟨gx, 0, none⟩ = some (.slice AV rs.length cV) ∧ w4.cell? ⟨gx, 1, none⟩ = some (.int .i64 n') ∧ w4.cell? ⟨gx, 2, none⟩ = some (.int .i64 s') := ⟨BX4.out.c 0, BX4.out.c 1, BX4.out.c 2⟩
          obtain ⟨v0, v1, v2⟩ : w4.frozen? ⟨gx, 0, none⟩ = false ∧ w4.frozen? ⟨gx, 1, none⟩ = false ∧ w4.frozen? ⟨gx, 2, none⟩ = false := ⟨BX4.out.f 0, BX4.out.f 1, BX4.out.f 2⟩
          clear x0 x1 x2 hx4 r4 t4 HPD
          go_wp2_with fail
          refine (same_law _ g h n' s' Q A4 c4 _ BB.out.2.2.1 BB.out.2.1).mono ?_
          rintro r w7 ⟨rfl, hb7⟩
          have PA : Hid (PlayAt w w7 g h gx n' s') := Lib.hid ⟨Q, A4, c4, BB.out.2.2.1.next hb7, BB.out.1.next hb7, BB.out.2.1.next hb7, below_next (L4.out.trans (BB.out.2.2.2.mono LG.out)) hb7, p5, p6, p7, p8, (BB.out.1.next hb7).lt⟩
          clear hb7
          go_wp2
          refine ⟨⟨k + 1, by omega, by go_num, PA⟩, by simp [intOf]; omega⟩
        · obtain rfl : k = ds.length := by omega
          obtain ⟨rs, AV, cV, p1, p2, p3, p4, p5, p6, p7, p8, p9⟩ := HP.out
          have P4 := Lib.hid p4
          clear p1 p2 p3 p4 HP
          go_wp2_with fail
          refine (lives_any _).mono ?_
          rintro r w5 ⟨rfl, hb5⟩
          have L5 := Lib.hid (below_next P4.out hb5)
          clear hb5
          go_wp2
          go_ret
          exact ⟨rfl, L5.out⟩
  · have hm' : mayB n s = false := by simpa using hm
    have NN := Lib.hid (fun W => new_no n s W hm')
    have MM := Lib.hid (fun W => may_no n s W hm')
    clear hm hm' hD hl
    go_enter Try.func3, Try.ntmps3
    go_wp2_with fail
    refine (NN.out w).mono ?_
    rintro r w1 ⟨rfl, hb1⟩
    have L1 := Lib.hid hb1
    clear hb1
    go_wp2_with fail
    refine (MM.out w1).mono ?_
    rintro r w2 ⟨rfl, hb2⟩
    have L2 := Lib.hid (below_next L1.out hb2)
    clear hb2
    go_wp2_with fail
    refine (lives_any _).mono ?_
    rintro r w3 ⟨rfl, hb3⟩
    have L3 := Lib.hid (below_next L2.out hb3)
    clear hb3
    go_wp2
    go_ret
    exact ⟨rfl, L3.out⟩
end Go.Proofs.Ytocdejjkmfnnnaa.Rg
