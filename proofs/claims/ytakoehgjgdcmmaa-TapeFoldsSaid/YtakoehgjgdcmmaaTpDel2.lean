/-
  What (*tape.Tape).deltas tells: the walk. Conditions: as told in it.
-/
import Derived.Test.YtakoehgjgdcmmaaTpDel
set_option maxRecDepth 100000
namespace Go.Proofs.Ytakoehgjgdcmmaa.Tp
open Go.Proofs.Ytakoehgjgdcmmaa.Sh Go.Proofs.Ytakoehgjgdcmmaa.St
open Go.RowKit
set_option linter.unusedVariables false

set_option maxHeartbeats 16000000 in
theorem deltas_any (base g : Nat) (V : Value) (wd f : Nat) (rows news : List (List Int)) (p : Nat) (S : Nat → Prop) (U : Value) (w : World) (d : Tap base w g V wd f rows) (hf : f ≤ p) (hp : p ≤ rows.length) (hn : RwsIn S w U news) (hnw : ∀ r ∈ news, r.length = wd) (hnl : news.length ≤ 1000) :
    Calls Try.prog 26 #[.pointer (some ⟨g, 0, none⟩), .int .i64 p, U] w (RetDs rows news p w) := by
  obtain ⟨-, -, -, c3⟩ := d.1.all
  have hr9 := d.2.2.2.2.2.2
  have hwd := d.2.2.2.2.1
  have HC := Lib.hid (fun k W (hk : k ≤ 1000) (hb : Below w.heap.size w W) => change_any base g V wd f rows news p k S U W (d.next hb) hf hp (hn.next hb) hk hnl)
  obtain ⟨A, c, vs, rfl, _, _, hvl, hs, hrr⟩ := hn
  have HS := Lib.hid hs
  have HRR := Lib.hid hrr
  have HNW := Lib.hid hnw
  obtain ⟨K, hK⟩ : ∃ K, max (rows.length - p) news.length = K := ⟨_, rfl⟩
  have w1 : IntKind.i64.wrap ((rows.length : Int) - (p : Int)) = (rows.length : Int) - (p : Int) := IntWalk.i64_in _ (by omega)
  have hmax : max ((rows.length : Int) - (p : Int)) (news.length : Int) = (K : Int) := by omega
  have hK1 : K ≤ 1000 := by omega
  have HK := Lib.hid hK
  clear d hs hrr hnw hK hf
  go_enter Try.func26, Try.ntmps26
  go_wp2
  go_loopw [7, 8, 9, 21] (fun V1 V2 V3 i wr => ∃ k : Nat, k ≤ K ∧ i = .int .i64 k ∧ Hid (DelAt w.heap.size w wr rows news p V1 V2 V3 k)) (fun _ _ _ i _ => K - (intOf i).toNat)
  case atStart => exact ⟨0, Nat.zero_le _, rfl, Lib.hid ⟨[], [], [], Live.nil' _ _, Live.nil' _ _, Live.nil' _ _, rfl, rfl, rfl, Off.nil _, Off.nil _, Off.nil _, Below.refl _ _⟩⟩
  case round =>
    obtain ⟨k, hk, rfl, HP⟩ := hrel
    by_cases hlt : k < K
    · have i1 : (k : Int) < (K : Int) := by omega
      obtain ⟨q1, q2, q3, l1, l2, l3, e1, e2, e3, o12, o13, o23, hB⟩ := HP.out
      have L1 := Lib.hid l1
      have L2 := Lib.hid l2
      have L3 := Lib.hid l3
      have EE := Lib.hid (And.intro e1 (And.intro e2 e3))
      have OO := Lib.hid (And.intro o12 (And.intro o13 o23))
      have HB := Lib.hid hB
      have CH := HC.out k wr (by omega) hB
      have w2 : IntKind.i64.wrap ((p : Int) + (k : Int)) = (p : Int) + (k : Int) := IntWalk.i64_in _ (by omega)
      have cst : Hid (((p + k : Nat) : Int) = (p : Int) + (k : Int)) := Lib.hid (by omega)
      have TL1 := Lib.hid (app_room e1 (by omega))
      have TL2 := Lib.hid (app_room e2 (by omega))
      have TL3 := Lib.hid (app_room e3 (by omega))
      rcases kind_cases rows news p k with ⟨hkd, n1, n2, n3⟩ | ⟨s, hks, hkd, n1, n2, n3⟩ | ⟨hkd, n1, n2, n3⟩ | ⟨s, hks, hkd, n1, n2, n3⟩
      · rw [hkd] at CH
        have CH := Lib.hid CH
        have NN := Lib.hid (And.intro n1 (And.intro n2 n3))
        have TL := TL2
        clear l1 l2 l3 e1 e2 e3 o12 o13 o23 hB hkd n1 n2 n3
        · go_wp2_with (first
            | (go_at_call 31; (with_reducible refine (CH.out).mono ?_); rintro r3 w3 ⟨rfl, hb3⟩; have B3 := Lib.hid hb3; have B03 := Lib.hid (below_next HB.out hb3); have L13 := Lib.hid (L1.out.next hb3); have L23 := Lib.hid (L2.out.next hb3); have L33 := Lib.hid (L3.out.next hb3); have OW := Lib.hid (World.ownsRow.alloc L23.out.1 (.cells #[.int .i64 3, .int .i64 ((p : Int) + (k : Int)), .slice none 0 0] 54)); have YY := Lib.hid (seq_new 54 w3 [.int .i64 3, .int .i64 ((p : Int) + (k : Int)), .slice none 0 0]); have LB := Lib.hid (show w.heap.size ≤ (w3.alloc (.cells #[.int .i64 3, .int .i64 ((p : Int) + (k : Int)), .slice none 0 0] 54)).heap.size by have := B03.out.size; simp; omega); clear hb3)
            | (at_builtin; refine wpList_appS infoD rfl (by decide) (by decide) Try.underlying39 rfl (.tmp 46) (.tmp 49) rfl w.heap.size u8 q2.length (flat3 q2) rfl OW.out (fun _ => True) (some ⟨w3.heap.size, 0, none⟩) 1 1 [.int .i64 3, .int .i64 ((p : Int) + (k : Int)), .slice none 0 0] rfl rfl YY.out (three_one _ _ _ _ _) TL.out LB.out ?_; intro v5 w5 hv5 hg5 ha5; have V5 := Lib.hid hv5; have G5 := Lib.hid hg5; have A5 := Lib.hid ha5; clear hv5 hg5 ha5))
          have PZ : Hid (DelAt w.heap.size w w5 rows news p u7 v5 u9 (k + 1)) := Lib.hid (del_2 (o := .cells #[.int .i64 3, .int .i64 ((p : Int) + (k : Int)), .slice none 0 0] 54) (A := none) (c := 0) L13.out L23.out L33.out EE.out.1 EE.out.2.1 EE.out.2.2 OO.out.1 OO.out.2.1 OO.out.2.2 B03.out B03.out.size NN.out.1 NN.out.2.1 NN.out.2.2 (MineT.nil _ _ _) (by rw [cst.out]; exact V5.out) G5.out A5.out)
          exact ⟨⟨k + 1, by omega, by go_num, PZ⟩, by simp [intOf]; omega⟩
      · rw [hkd] at CH
        have CH := Lib.hid CH
        have NN := Lib.hid (And.intro n1 (And.intro n2 n3))
        have TL := TL3
        obtain ⟨B, b, hvk, hb1, hb2, hsb⟩ := HRR.out k s hks
        obtain ⟨bb, off, rfl, -, hltb, hck⟩ := HS.out.one hvk
        have hsl := HNW.out s (List.mem_of_getElem? hks)
        have HSL := Lib.hid (show s.length ≤ 60000 by omega)
        have i2 : (k : Int) < (news.length : Int) := by have := (List.getElem?_eq_some_iff.1 hks).1; omega
        have CK := Lib.hid hck
        have LT := Lib.hid hltb
        have SB := Lib.hid hsb
        clear l1 l2 l3 e1 e2 e3 o12 o13 o23 hB hkd n1 n2 n3 hks hvk hb1 hb2 hsb hck hltb hsl
        · go_wp2_with (first
            | (go_at_call 31; (with_reducible refine (CH.out).mono ?_); rintro r3 w3 ⟨rfl, hb3⟩; have B3 := Lib.hid hb3; have B03 := Lib.hid (below_next HB.out hb3); have L13 := Lib.hid (L1.out.next hb3); have L23 := Lib.hid (L2.out.next hb3); have L33 := Lib.hid (L3.out.next hb3); have qc := (B03.out.cell (p := ⟨bb, off + k, none⟩) LT.out).trans CK.out; have S3 := Lib.hid (SInts.ints (Seq.next SB.out B03.out)); clear hb3)
            | (go_at_call 27; (with_reducible refine (cl64_any B b s _ HSL.out S3.out).mono ?_); rintro r4 w4 ⟨A4, c4, rfl, m4, hb4⟩; have B04 := Lib.hid (below_next B03.out hb4); have M4 := Lib.hid (MineT.mono m4 B03.out.size); have L14 := Lib.hid (L13.out.next hb4); have L24 := Lib.hid (L23.out.next hb4); have L34 := Lib.hid (L33.out.next hb4); have OW := Lib.hid (World.ownsRow.alloc L34.out.1 (.cells #[.int .i64 1, .int .i64 ((p : Int) + (k : Int)), .slice A4 s.length c4] 54)); have YY := Lib.hid (seq_new 54 w4 [.int .i64 1, .int .i64 ((p : Int) + (k : Int)), .slice A4 s.length c4]); have LB := Lib.hid (show w.heap.size ≤ (w4.alloc (.cells #[.int .i64 1, .int .i64 ((p : Int) + (k : Int)), .slice A4 s.length c4] 54)).heap.size by have := B04.out.size; simp; omega); clear m4 hb4)
            | (at_builtin; refine wpList_appS infoD rfl (by decide) (by decide) Try.underlying39 rfl (.tmp 53) (.tmp 61) rfl w.heap.size u9 q3.length (flat3 q3) rfl OW.out (fun _ => True) (some ⟨w4.heap.size, 0, none⟩) 1 1 [.int .i64 1, .int .i64 ((p : Int) + (k : Int)), .slice A4 s.length c4] rfl rfl YY.out (three_one _ _ _ _ _) TL.out LB.out ?_; intro v5 w5 hv5 hg5 ha5; have V5 := Lib.hid hv5; have G5 := Lib.hid hg5; have A5 := Lib.hid ha5; clear hv5 hg5 ha5))
          have PZ : Hid (DelAt w.heap.size w w5 rows news p u7 u8 v5 (k + 1)) := Lib.hid (del_3 (o := .cells #[.int .i64 1, .int .i64 ((p : Int) + (k : Int)), .slice A4 s.length c4] 54) L14.out L24.out L34.out EE.out.1 EE.out.2.1 EE.out.2.2 OO.out.1 OO.out.2.1 OO.out.2.2 B04.out B04.out.size NN.out.1 NN.out.2.1 NN.out.2.2 M4.out (by rw [cst.out]; exact V5.out) G5.out A5.out)
          exact ⟨⟨k + 1, by omega, by go_num, PZ⟩, by simp [intOf]; omega⟩
      · rw [hkd] at CH
        have CH := Lib.hid CH
        have D0 := Lib.hid (del_0 HP.out n1 n2 n3)
        clear l1 l2 l3 e1 e2 e3 o12 o13 o23 hB hkd n1 n2 n3
        · go_wp2_with (go_at_call 31; (with_reducible refine (CH.out).mono ?_); rintro r3 w3 ⟨rfl, hb3⟩; have PZ := Lib.hid (D0.out.next HB.out.size hb3); clear hb3)
          exact ⟨⟨k + 1, by omega, by go_num, PZ⟩, by simp [intOf]; omega⟩
      · rw [hkd] at CH
        have CH := Lib.hid CH
        have NN := Lib.hid (And.intro n1 (And.intro n2 n3))
        have TL := TL1
        obtain ⟨B, b, hvk, hb1, hb2, hsb⟩ := HRR.out k s hks
        obtain ⟨bb, off, rfl, -, hltb, hck⟩ := HS.out.one hvk
        have hsl := HNW.out s (List.mem_of_getElem? hks)
        have HSL := Lib.hid (show s.length ≤ 60000 by omega)
        have i2 : (k : Int) < (news.length : Int) := by have := (List.getElem?_eq_some_iff.1 hks).1; omega
        have CK := Lib.hid hck
        have LT := Lib.hid hltb
        have SB := Lib.hid hsb
        clear l1 l2 l3 e1 e2 e3 o12 o13 o23 hB hkd n1 n2 n3 hks hvk hb1 hb2 hsb hck hltb hsl
        · go_wp2_with (first
            | (go_at_call 31; (with_reducible refine (CH.out).mono ?_); rintro r3 w3 ⟨rfl, hb3⟩; have B3 := Lib.hid hb3; have B03 := Lib.hid (below_next HB.out hb3); have L13 := Lib.hid (L1.out.next hb3); have L23 := Lib.hid (L2.out.next hb3); have L33 := Lib.hid (L3.out.next hb3); have qc := (B03.out.cell (p := ⟨bb, off + k, none⟩) LT.out).trans CK.out; have S3 := Lib.hid (SInts.ints (Seq.next SB.out B03.out)); clear hb3)
            | (go_at_call 27; (with_reducible refine (cl64_any B b s _ HSL.out S3.out).mono ?_); rintro r4 w4 ⟨A4, c4, rfl, m4, hb4⟩; have B04 := Lib.hid (below_next B03.out hb4); have M4 := Lib.hid (MineT.mono m4 B03.out.size); have L14 := Lib.hid (L13.out.next hb4); have L24 := Lib.hid (L23.out.next hb4); have L34 := Lib.hid (L33.out.next hb4); have OW := Lib.hid (World.ownsRow.alloc L14.out.1 (.cells #[.int .i64 2, .int .i64 ((p : Int) + (k : Int)), .slice A4 s.length c4] 54)); have YY := Lib.hid (seq_new 54 w4 [.int .i64 2, .int .i64 ((p : Int) + (k : Int)), .slice A4 s.length c4]); have LB := Lib.hid (show w.heap.size ≤ (w4.alloc (.cells #[.int .i64 2, .int .i64 ((p : Int) + (k : Int)), .slice A4 s.length c4] 54)).heap.size by have := B04.out.size; simp; omega); clear m4 hb4)
            | (at_builtin; refine wpList_appS infoD rfl (by decide) (by decide) Try.underlying39 rfl (.tmp 34) (.tmp 42) rfl w.heap.size u7 q1.length (flat3 q1) rfl OW.out (fun _ => True) (some ⟨w4.heap.size, 0, none⟩) 1 1 [.int .i64 2, .int .i64 ((p : Int) + (k : Int)), .slice A4 s.length c4] rfl rfl YY.out (three_one _ _ _ _ _) TL.out LB.out ?_; intro v5 w5 hv5 hg5 ha5; have V5 := Lib.hid hv5; have G5 := Lib.hid hg5; have A5 := Lib.hid ha5; clear hv5 hg5 ha5))
          have PZ : Hid (DelAt w.heap.size w w5 rows news p v5 u8 u9 (k + 1)) := Lib.hid (del_1 (o := .cells #[.int .i64 2, .int .i64 ((p : Int) + (k : Int)), .slice A4 s.length c4] 54) L14.out L24.out L34.out EE.out.1 EE.out.2.1 EE.out.2.2 OO.out.1 OO.out.2.1 OO.out.2.2 B04.out B04.out.size NN.out.1 NN.out.2.1 NN.out.2.2 M4.out (by rw [cst.out]; exact V5.out) G5.out A5.out)
          exact ⟨⟨k + 1, by omega, by go_num, PZ⟩, by simp [intOf]; omega⟩
    · obtain rfl : k = K := by omega
      obtain ⟨q1, q2, q3, l1, l2, l3, e1, e2, e3, o12, o13, o23, hB⟩ := HP.out
      have ql : q1.length ≤ 1000 ∧ q2.length ≤ 1000 ∧ q3.length ≤ 1000 := by
        have h1 := congrArg List.length e1
        have h2 := congrArg List.length e2
        have h3 := congrArg List.length e3
        have k1 := acc_len (f := f2 rows news p) (k := k)
        have k2 := acc_len (f := f3 rows news p) (k := k)
        have k3 := acc_len (f := f1 rows news p) (k := k)
        rw [List.length_map] at h1 h2 h3
        omega
      have RV := Lib.hid (rev_any w.heap.size u8 q2 wr l2.1 (by omega))
      have L1 := Lib.hid l1
      have L2 := Lib.hid l2
      have L3 := Lib.hid l3
      have EE := Lib.hid (And.intro e1 (And.intro e2 e3))
      have OO := Lib.hid (And.intro o12 (And.intro o13 o23))
      have HB := Lib.hid hB
      have QL := Lib.hid ql
      clear l1 l2 l3 e1 e2 e3 o12 o13 o23 hB hlt hk HP ql
      go_wp2_with fail
      refine (RV.out).mono ?_
      rintro r3 w3 ⟨rfl, d3, t3⟩
      have L13 := Lib.hid (show Live w.heap.size w3 u7 q1 from ⟨own_turn L1.out.1 t3 (fun x hx h => OO.out.1 x hx h), fun q hq => own_turn (L1.out.2 q hq) t3 (fun x hx h => by
        rcases own_apart (L1.out.2 q hq) L2.out.1 (by decide) with e | e
        · rw [e] at hx; cases hx
        · exact e (hx.trans h.symm))⟩)
      have L23 := Lib.hid (show Live w.heap.size w3 u8 q2.reverse from ⟨d3, fun q hq => own_turn (L2.out.2 q (List.mem_reverse.1 hq)) t3 (fun x hx h => by
        rcases own_apart (L2.out.2 q (List.mem_reverse.1 hq)) L2.out.1 (by decide) with e | e
        · rw [e] at hx; cases hx
        · exact e (hx.trans h.symm))⟩)
      have L33 := Lib.hid (show Live w.heap.size w3 u9 q3 from ⟨own_turn L3.out.1 t3 (fun x hx h => OO.out.2.2 x h hx), fun q hq => own_turn (L3.out.2 q hq) t3 (fun x hx h => by
        rcases own_apart (L3.out.2 q hq) L2.out.1 (by decide) with e | e
        · rw [e] at hx; cases hx
        · exact e (hx.trans h.symm))⟩)
      have B3 := Lib.hid (show Below w.heap.size w w3 from HB.out.trans (t3.below HB.out.size fun i hi => own_base L2.out.1 i hi))
      clear d3 t3
      obtain ⟨A1, c1, rfl, -, -, -⟩ := L13.out.1.view
      obtain ⟨A2, c2, he2, -, -, -⟩ := L23.out.1.view
      subst he2
      obtain ⟨A3, c3', rfl, -, -, -⟩ := L33.out.1.view
      have hr2 : q2.reverse.length = q2.length := List.length_reverse
      rw [hr2] at L23
      have b4 := below_new w3 (.cells #[.slice A1 q1.length c1, .slice A2 q2.length c2, .slice A3 q3.length c3'] 39)
      have BX := Lib.hid (Bk.new 39 w3 [.slice A1 q1.length c1, .slice A2 q2.length c2, .slice A3 q3.length c3'])
      have B4 := Lib.hid (below_next B3.out b4)
      have L14 := Lib.hid (L13.out.next b4)
      have L24 := Lib.hid (L23.out.next b4)
      have L34 := Lib.hid (L33.out.next b4)
      have HR2 := Lib.hid hr2
      have CA := Lib.hid (concat_any w3.heap.size (fun _ => True) [q1, q2.reverse, q3] 3 _ rfl (by
        intro k l hl
        have hk : k < 3 := (List.getElem?_eq_some_iff.1 hl).1
        obtain ⟨X1, y1, z1, -, -, s1⟩ := L14.out.1.view
        obtain ⟨X2, y2, z2, -, -, s2⟩ := L24.out.1.view
        obtain ⟨X3, y3, z3, -, -, s3⟩ := L34.out.1.view
        cases z1
        cases z3
        injection z2 with z21 z22 z23
        subst z21 z23
        match k, hk with
        | 0, _ =>
          obtain rfl : q1 = l := by simpa using hl
          exact ⟨_, _, BX.out.c 0, s1.mono fun _ _ => trivial⟩
        | 1, _ =>
          obtain rfl : q2.reverse = l := by simpa using hl
          exact ⟨_, _, (BX.out.c 1).trans (by rw [HR2.out]; rfl), s2.mono fun _ _ => trivial⟩
        | 2, _ =>
          obtain rfl : q3 = l := by simpa using hl
          exact ⟨_, _, BX.out.c 2, s3.mono fun _ _ => trivial⟩) (by simp; have := QL.out; omega) (Nat.le_refl _))
      clear b4 hr2
      go_wp2_with fail
      refine (CA.out).mono ?_
      rintro r5 w5 ⟨V5, rfl, d5, hb5⟩
      have D5 := Lib.hid d5
      have B5 := Lib.hid hb5
      clear d5 hb5
      go_wp2
      go_ret
      refine ⟨V5, _, rfl, ⟨own_mono D5.out B4.out.size, fun q hq => ?_⟩, ?_, below_next B4.out B5.out⟩
      · simp only [List.flatten_cons, List.flatten_nil, List.append_nil, List.mem_append] at hq
        rcases hq with hq | hq | hq
        · exact own_below (L14.out.2 q hq) B5.out
        · exact own_below (L24.out.2 q hq) B5.out
        · exact own_below (L34.out.2 q hq) B5.out
      · obtain ⟨e1, e2, e3⟩ := EE.out
        simp only [List.flatten_cons, List.flatten_nil, List.append_nil, List.map_append, List.map_reverse, e1, e2, e3]
        unfold deltasL
        rw [HK.out]
end Go.Proofs.Ytakoehgjgdcmmaa.Tp
