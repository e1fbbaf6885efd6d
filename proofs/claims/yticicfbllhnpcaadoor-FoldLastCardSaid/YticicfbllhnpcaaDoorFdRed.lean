/-
  What fold.Reduce answers, in all its ways; nothing that was there is written. Conditions: the table of traits holds what its text lays; the numbers are int64.
-/
import Derived.Test.YticicfbllhnpcaaDoorFdRed0
set_option maxRecDepth 100000
namespace Go.Proofs.YticicfbllhnpcaaDoor.Fd
open Go.Proofs.YticicfbllhnpcaaDoor.Sh
open Go.RowKit
set_option linter.unusedVariables false

set_option maxHeartbeats 8000000 in
set_option maxRecDepth 100000 in
theorem red_0 (c : Int) (s : Bool) (A : Option Addr) (c1 : Nat) (d : List Int) (B : Option Addr) (c2 : Nat) (v : List Int) (b : Bool) (a P st : Nat) (O : List Int) (n : Nat) (w : World) (hT : Sc.Tab w) (id : Ints w A d) (iv : Ints w B v) (hd : d.length ≤ 100) (h : cellB d v.length = true) (h2 : Sc.hasB c 2 = true) (ok : AxOk d b a P st) (hpass : P = 0 → (Sc.trOf c).starts = true) (hO : withoutL d (a : Int) = O) (hdO : O.length ≤ 100) (hR : rightB O = true) (hn : sizeI O = (n : Int)) (sc : RdOk v P st n) (rv : AllR v) :
    Calls Tryd.prog 16 #[.agg #[.int .i64 c, .bool s], .agg #[.slice A d.length c1, .slice B v.length c2], .bool b] w (RetC w O ((List.range n).map (rdF c s v P st)) (.int .i64 0)) := by
  obtain ⟨f0, b0, r0, hb0⟩ := red_all w c s (.slice A d.length c1) (.slice B v.length c2)
  have FN := Lib.hid (f0)
  have BC := Lib.hid (b0)
  have BR := Lib.hid (r0)
  have L := Lib.hid (hb0)
  have T := Lib.hid (hT.below L.out)
  have ID := Lib.hid (id.below L.out)
  have IV := Lib.hid (iv.below L.out)
  clear f0 b0 r0 hb0 hT id iv
  have HO := Lib.hid hO
  have HRO := Lib.hid hR
  have HN := Lib.hid hn
  have SC := Lib.hid sc
  have RV := Lib.hid rv
  have n64 := sc.n64
  have v64 := sc.v64
  clear hO hn sc rv
  have OK := Lib.hid ok
  have P64 := ok.P64
  clear ok
  have hz : ((d.length : Int) == 0) = false := by
    have := OK.out.lt
    simp; intro h0; rw [h0] at this; simp at this
  go_enter Tryd.func16, Tryd.ntmps16
  obtain ⟨qFN0, qFN1⟩ := FN.out
  obtain ⟨qBC0, qBC1, -, -⟩ := BC.out.all
  go_wp2_with fail
  refine (fit_0 c s _ _ d _ _ v _ T.out ID.out IV.out hd h h2).mono ?_
  rintro r w1 ⟨g, rfl, hf, hgl, hb⟩
  clear qFN0 qFN1 qBC0 qBC1
  replace FN := Lib.hid (FN.out.below hb)
  replace BC := Lib.hid (BC.out.next hb)
  replace BR := Lib.hid (BR.out.next hb)
  replace L := Lib.hid (below_next L.out hb)
  replace T := Lib.hid (T.out.below hb)
  replace ID := Lib.hid (ID.out.below hb)
  replace IV := Lib.hid (IV.out.below hb)
  clear hb
  have FG := Lib.hid hf
  clear hf hgl
  have KB := Lib.hid (below_new w1 (.cells #[(.func (.func 114) #[] #[.pointer (some ⟨g, 0, none⟩)]), .int .i64 (Sc.trOf c).unit, .bool (Sc.trOf c).starts] 68))
  have BF := Lib.hid (Bx.new 68 w1 #[(.func (.func 114) #[] #[.pointer (some ⟨g, 0, none⟩)]), .int .i64 (Sc.trOf c).unit, .bool (Sc.trOf c).starts])
  have hg8 := BR.out.lt
  replace FN := Lib.hid (FN.out.below KB.out)
  replace BC := Lib.hid (BC.out.next KB.out)
  replace BR := Lib.hid (BR.out.next KB.out)
  replace L := Lib.hid (below_next L.out KB.out)
  replace T := Lib.hid (T.out.below KB.out)
  replace ID := Lib.hid (ID.out.below KB.out)
  replace IV := Lib.hid (IV.out.below KB.out)
  replace FG := Lib.hid (FG.out.below KB.out)
  go_upto_region 2 with (fail)
  clear KB
  generalize hW : w1.alloc (.cells #[(.func (.func 114) #[] #[.pointer (some ⟨g, 0, none⟩)]), .int .i64 (Sc.trOf c).unit, .bool (Sc.trOf c).starts] 68) = W1 at *
  clear hW
  generalize w1.heap.size = g8 at *
  clear FN
  obtain ⟨qBC0, qBC1, -, -⟩ := BC.out.all
  go_wp2_with fail
  refine (along_x _ d.length _ b (a : Int) _ (by omega) OK.out.ax).mono ?_
  rintro r w2 ⟨rfl, hb⟩
  clear qBC0 qBC1
  replace BC := Lib.hid (BC.out.next hb)
  replace BR := Lib.hid (BR.out.next hb)
  replace L := Lib.hid (below_next L.out hb)
  replace T := Lib.hid (T.out.below hb)
  replace ID := Lib.hid (ID.out.below hb)
  replace IV := Lib.hid (IV.out.below hb)
  replace FG := Lib.hid (FG.out.below hb)
  replace BF := Lib.hid (BF.out.next hb)
  clear hb
  obtain ⟨qBC0, qBC1, -, -⟩ := BC.out.all
  obtain ⟨bd, od, rfl, hbd, hcd⟩ := ID.out (by have := OK.out.lt; omega)
  have xd := hcd a OK.out.lt
  rw [OK.out.hP] at xd
  have hal := OK.out.lt
  have a0 : (0 : Int) ≤ (a : Int) := by omega
  have a1 : (a : Int) < (d.length : Int) := by omega
  have ST := Lib.hid (strides_any (some ⟨bd, od, none⟩) c1 d w2.drew (by unfold maxLen; omega) (ID.out.below ((Below.refl _ w2).drew)))
  have HSL := Lib.hid OK.out.sl
  have haS : a < (strB d).length := by rw [HSL.out]; omega
  have a2 : (a : Int) < ((strB d).length : Int) := by omega
  clear hcd
  go_upto_region 7 with (fail)
  go_cut [11, 12] (fun s11 s12 wx => s11 = .int .i64 (P : Int) ∧ s12 = .int .i64 (st : Int) ∧ Below w2.heap.size w2 wx)
  case first =>
    go_region_with
      (first
        | (go_at_call 52; (with_reducible refine (ST.out).mono ?_); rintro r w10 ⟨A10, c10, rfl, hi10, hb10⟩; obtain ⟨b10, o10, rfl, hb10', hc10⟩ := hi10 (by omega); have s10 := hc10 a haS; rw [OK.out.hst] at s10; have xd2 := keepC hb10 xd; have qc2 := keepC hb10 qBC0; have qc3 := keepC hb10 qBC1; have LS := Lib.hid (below_next ((Below.refl w2.heap.size w2).drew) hb10); clear hc10 hb10 hb10'))
    all_goals (go_wp2_with fail; go_meet; exact ⟨rfl, rfl, LS.out⟩)
  case rest =>
    obtain ⟨rfl, rfl, hb⟩ := hcut
    clear xd haS a2 hbd ST HSL
    clear qBC0 qBC1
    replace BC := Lib.hid (BC.out.next hb)
    replace BR := Lib.hid (BR.out.next hb)
    replace L := Lib.hid (below_next L.out hb)
    replace T := Lib.hid (T.out.below hb)
    replace ID := Lib.hid (ID.out.below hb)
    replace IV := Lib.hid (IV.out.below hb)
    replace FG := Lib.hid (FG.out.below hb)
    replace BF := Lib.hid (BF.out.next hb)
    clear hb
    obtain ⟨w3, hws⟩ : ∃ W, W = wc := ⟨_, rfl⟩
    subst hws
    obtain ⟨qBF0, qBF1, qBF2, -, -, -⟩ := bx3 BF.out
    go_upto_region 8 with (fail)
    go_cut [59] (fun s59 wx => s59 = .bool false ∧ w3 = wx)
    case first =>
      by_cases hP0 : P = 0
      · have hzp : ((P : Int) == 0) = true := by rw [hP0]; rfl
        rw [hpass hP0] at qBF2
        clear hP0
        go_wp2
        go_meet
        exact ⟨rfl, rfl⟩
      · have hzp : ((P : Int) == 0) = false := by simp; omega
        go_wp2
        go_meet
        exact ⟨rfl, rfl⟩
    case rest =>
      obtain ⟨rfl, rfl⟩ := hcut
      clear qBF0 qBF1 qBF2
      obtain ⟨qBC0, qBC1, -, -⟩ := BC.out.all
      go_wp2_with fail
      refine (without_o _ _ d O (a : Int) _ HO.out hd ID.out).mono ?_
      rintro r w4 ⟨AO, cO, rfl, hiO, hb⟩
      clear qBC0 qBC1
      replace BC := Lib.hid (BC.out.next hb)
      replace BR := Lib.hid (BR.out.next hb)
      replace L := Lib.hid (below_next L.out hb)
      replace T := Lib.hid (T.out.below hb)
      replace ID := Lib.hid (ID.out.below hb)
      replace IV := Lib.hid (IV.out.below hb)
      replace FG := Lib.hid (FG.out.below hb)
      replace BF := Lib.hid (BF.out.next hb)
      clear hb
      have IO := Lib.hid hiO
      clear hiO
      go_wp2_with fail
      refine (right_x _ _ O true _ hR (by omega) IO.out).mono ?_
      rintro r w5 ⟨rfl, hb⟩
      replace BC := Lib.hid (BC.out.next hb)
      replace BR := Lib.hid (BR.out.next hb)
      replace L := Lib.hid (below_next L.out hb)
      replace T := Lib.hid (T.out.below hb)
      replace ID := Lib.hid (ID.out.below hb)
      replace IV := Lib.hid (IV.out.below hb)
      replace FG := Lib.hid (FG.out.below hb)
      replace BF := Lib.hid (BF.out.next hb)
      replace IO := Lib.hid (IO.out.below hb)
      clear hb
      have HZ := Lib.hid (fun W iW => zero_m AO cO O W hdO iW HRO.out)
      rw [HN.out, Int.toNat_natCast] at HZ
      have T3 := Lib.hid T.out
      have FG3 := Lib.hid FG.out
      have BC3 := Lib.hid BC.out
      have BF3 := Lib.hid BF.out
      have BR3 := Lib.hid BR.out
      have IV3 := Lib.hid IV.out
      have L03 := Lib.hid L.out
      have L34 := Lib.hid (Below.refl w5.heap.size w5)
      go_wp2_with fail
      refine (HZ.out _ IO.out).mono ?_
      rintro r w6 ⟨A1, k1, g1, rfl, hm1, hr1, hg1, hb⟩
      replace BC := Lib.hid (BC.out.next hb)
      replace BR := Lib.hid (BR.out.next hb)
      replace L := Lib.hid (below_next L.out hb)
      replace T := Lib.hid (T.out.below hb)
      replace ID := Lib.hid (ID.out.below hb)
      replace IV := Lib.hid (IV.out.below hb)
      replace FG := Lib.hid (FG.out.below hb)
      replace BF := Lib.hid (BF.out.next hb)
      replace IO := Lib.hid (IO.out.below hb)
      replace L34 := Lib.hid (below_next L34.out hb)
      clear hb
      have M1 := Lib.hid hm1
      have R1 := Lib.hid (show Row64 w6 g1 (List.replicate n 0) from hr1)
      clear hm1 hr1
      have KB := Lib.hid (below_new w6 (.cells #[.slice A1 O.length k1, .slice (some ⟨g1, 0, none⟩) n n] 27))
      have B13 := Lib.hid (Box.new w6 (.slice A1 O.length k1) (.slice (some ⟨g1, 0, none⟩) n n))
      have hg1lt : g1 < w6.heap.size := R1.out.lt
      have hbr := BR3.out.lt
      have hbc := BC3.out.lt
      have hbf := BF3.out.lt
      have hsz := L34.out.size
      replace L34 := Lib.hid (below_next L34.out KB.out)
      replace R1 := Lib.hid (R1.out.alloc (.cells #[.slice A1 O.length k1, .slice (some ⟨g1, 0, none⟩) n n] 27))
      replace M1 := Lib.hid (M1.out.alloc (.cells #[.slice A1 O.length k1, .slice (some ⟨g1, 0, none⟩) n n] 27))
      clear KB
      clear BC
      clear BR
      clear L
      clear T
      clear ID
      clear IV
      clear FG
      clear BF
      clear IO
      obtain ⟨qB130, qB131, -, -⟩ := B13.out.all
      obtain ⟨FF, hFF⟩ : ∃ FF, (rdF c s v P st) = FF := ⟨_, rfl⟩
      have HFF := Lib.hid hFF
      clear hFF
      go_wp2
      generalize hW : w6.alloc (.cells #[.slice A1 O.length k1, .slice (some ⟨g1, 0, none⟩) n n] 27) = W4 at *
      clear hW
      generalize w6.heap.size = g13 at *
      clear qB130 qB131
      go_loopw [74] (fun j wr => ∃ k : Nat, k ≤ n ∧ j = .int .i64 (k : Int) ∧ W4.grownBy wr (some g1) ∧ Row64 wr g1 (fillK FF n k)) (fun j _ => n - (intOf j).toNat)
      case atStart => exact ⟨0, Nat.zero_le _, rfl, turned_refl _ _, by rw [fillK_0]; exact R1.out⟩
      case round =>
        obtain ⟨k, hk, rfl, hgr, hrw⟩ := hrel
        have GR := Lib.hid hgr
        have RW := Lib.hid hrw
        have LB := Lib.hid (below_turned L34.out hgr hg1)
        have B13r := Lib.hid (B13.out.grown hgr (fun e => by injection e with e; omega))
        clear hgr hrw
        by_cases hlt : k < n
        · obtain ⟨hp, st64⟩ := SC.out.pos (by omega)
          obtain ⟨o, ho⟩ : ∃ o, k / st = o := ⟨_, rfl⟩
          obtain ⟨q, hq⟩ : ∃ q, k % st = q := ⟨_, rfl⟩
          obtain ⟨f, hf⟩ : ∃ f, o * st * P + q = f := ⟨_, rfl⟩
          have e1 : Int.tdiv (k : Int) (st : Int) = (o : Int) := by rw [← ho]; exact (Int.ofNat_tdiv k st).symm
          have e2 : Int.tmod (k : Int) (st : Int) = (q : Int) := by rw [← hq]; exact (Int.ofNat_tmod k st).symm
          have m0 : o * st ≤ 64 := by rw [← ho]; exact Nat.le_trans (Nat.div_mul_le_self k st) (by omega)
          have m1 : 0 ≤ (o : Int) * (st : Int) ∧ (o : Int) * (st : Int) ≤ 64 := by
            have : (o : Int) * (st : Int) = ((o * st : Nat) : Int) := by simp
            omega
          have h5 : o * st * P ≤ 64 * 64 := Nat.mul_le_mul m0 P64
          have m2 : 0 ≤ (o : Int) * (st : Int) * (P : Int) ∧ (o : Int) * (st : Int) * (P : Int) ≤ 4096 := by
            have : (o : Int) * (st : Int) * (P : Int) = ((o * st * P : Nat) : Int) := by simp
            omega
          have e3 : (o : Int) * (st : Int) * (P : Int) + (q : Int) = (f : Int) := by rw [← hf]; simp
          have hq1 : q < st := by rw [← hq]; exact Nat.mod_lt _ hp
          have ho64 : o ≤ 64 := by rw [← ho]; exact Nat.le_trans (Nat.div_le_self k st) (by omega)
          have hs0 : ¬ (st : Int) = 0 := by omega
          have HLN := Lib.hid (show ∀ j, j < P → f + j * st < v.length from fun j hj => by have := SC.out.at_ k hlt j hj; rw [ho, hq, hf] at this; exact this)
          have HFK := Lib.hid (show rowI c s (lineL v f st P) = FF k by rw [← HFF.out]; unfold rdF; rw [ho, hq, hf])
          have u1 : IntKind.i64.wrap ((o : Int) * (st : Int)) = (o : Int) * (st : Int) := IntWalk.i64_in _ (by omega)
          have u2 : IntKind.i64.wrap ((o : Int) * (st : Int) * (P : Int)) = (o : Int) * (st : Int) * (P : Int) := IntWalk.i64_in _ (by omega)
          have u3 : IntKind.i64.wrap ((o : Int) * (st : Int) * (P : Int) + (q : Int)) = (f : Int) := by rw [e3]; exact IntWalk.i64_in _ (by omega)
          have u4 : IntKind.i64.wrap (f : Int) = (f : Int) := IntWalk.i64_in _ (by omega)
          have hsb : ((st : Int) == 0) = false := by simp; omega
          have u5 : IntKind.i64.wrap (Int.tdiv (k : Int) (st : Int)) = (o : Int) := by rw [e1]; exact IntWalk.i64_in _ (by omega)
          have u6 : IntKind.i64.wrap (Int.tmod (k : Int) (st : Int)) = (q : Int) := by rw [e2]; exact IntWalk.i64_in _ (by omega)
          have u7 : IntKind.i64.wrap (o : Int) = (o : Int) := IntWalk.i64_in _ (by omega)
          have u8 : IntKind.i64.wrap (q : Int) = (q : Int) := IntWalk.i64_in _ (by omega)
          clear ho hq hf m0 h5 hp
          go_upto_region 17 with (fail)
          go_quiet (fail)
          replace RW := Lib.hid (RW.out.drewN nq)
          replace GR := Lib.hid (turned_below GR.out (Sc.below_drewN (Below.refl wr.heap.size wr) nq))
          replace LB := Lib.hid (Sc.below_drewN LB.out nq)
          replace B13r := Lib.hid (B13r.out.drewN nq)
          generalize hwq : wr.drewN nq = wq at *
          clear hwq
          have LC := Lib.hid (line_any B c2 v f st P wq.drew (by omega) (by omega) (by omega) HLN.out (by omega) (IV3.out.below LB.out.drew))
          have RC := Lib.hid (fun A' c' W hT hF hI => row_any c s g A' c' (lineL v f st P) W hT hF (by rw [lineL_len]; omega) (lineL_R RV.out _ _ _) hI)
          simp only [lineL_len, HFK.out] at RC
          obtain ⟨q13, q13', -, -⟩ := B13r.out.all
          obtain ⟨x0, x1, x2, -, -, -⟩ := bx3 (BF3.out.next LB.out)
          have y1 := (BC3.out.next LB.out).c1
          have Tr := Lib.hid (T3.out.below LB.out.drew)
          have FGr := Lib.hid (FG3.out.below LB.out.drew)
          have i0 : (0 : Int) ≤ (k : Int) := by omega
          have i1 : (k : Int) < (n : Int) := by omega
          have d1 : ¬ g13 = g1 := by omega
          have d2 : ¬ g8 = g1 := by omega
          have d3 : ¬ w.heap.size + 1 = g1 := by omega
          clear q13
          go_upto_region 18 with (fail)
          go_region_held3 (fun w' => w'.cell? ⟨g13, 1, none⟩ = some (.slice (some ⟨g1, 0, none⟩) n n) ∧ w'.cell? ⟨g8, 0, none⟩ = some (.func (.func 114) #[] #[.pointer (some ⟨g, 0, none⟩)]) ∧ w'.cell? ⟨g8, 1, none⟩ = some (.int .i64 (Sc.trOf c).unit) ∧ w'.cell? ⟨g8, 2, none⟩ = some (.bool (Sc.trOf c).starts) ∧ w'.cell? ⟨w.heap.size + 1, 1, none⟩ = some (.slice B v.length c2))
            (first
              | with_reducible exact KK2.out
              | with_reducible exact KK.out
              | with_reducible exact far5 KK2.out d1 d2 d2 d2 d3
              | go_keep)
            (first
              | (go_at_call 57; (with_reducible refine (LC.out).mono ?_); rintro r w10 ⟨A10, c10, rfl, hi10, hb10⟩; have I10 := Lib.hid hi10; have H10 := Lib.hid hb10; have KK := Lib.hid (show w10.cell? ⟨g13, 1, none⟩ = some (.slice (some ⟨g1, 0, none⟩) n n) ∧ w10.cell? ⟨g8, 0, none⟩ = some (.func (.func 114) #[] #[.pointer (some ⟨g, 0, none⟩)]) ∧ w10.cell? ⟨g8, 1, none⟩ = some (.int .i64 (Sc.trOf c).unit) ∧ w10.cell? ⟨g8, 2, none⟩ = some (.bool (Sc.trOf c).starts) ∧ w10.cell? ⟨w.heap.size + 1, 1, none⟩ = some (.slice B v.length c2) from ⟨keepC hb10 q13', keepC hb10 x0, keepC hb10 x1, keepC hb10 x2, keepC hb10 y1⟩); clear hi10 hb10)
              | (go_at_call 56; (with_reducible refine (RC.out _ _ _ (Tr.out.below H10.out) (FGr.out.below H10.out) I10.out).mono ?_); rintro r w11 ⟨rfl, hb11⟩; have R11 := Lib.hid ((RW.out.drew.next H10.out).next hb11); have f2 := R11.out.frozen k; have z2 := R11.out.cell (i := k) (by rw [fillK_length]; exact hlt); have G11 := Lib.hid (turned_below (turned_below (turned_drew GR.out) H10.out) hb11); obtain ⟨c10a, c10b, c10c, c10d, c10e⟩ := KK.out; have k1 := keepB hb11 c10a; have k2 := keepB hb11 c10b; have k3 := keepB hb11 c10c; have k4 := keepB hb11 c10d; have k5 := keepB hb11 c10e; have KK2 := Lib.hid (show w11.cell? ⟨g13, 1, none⟩ = some (.slice (some ⟨g1, 0, none⟩) n n) ∧ w11.cell? ⟨g8, 0, none⟩ = some (.func (.func 114) #[] #[.pointer (some ⟨g, 0, none⟩)]) ∧ w11.cell? ⟨g8, 1, none⟩ = some (.int .i64 (Sc.trOf c).unit) ∧ w11.cell? ⟨g8, 2, none⟩ = some (.bool (Sc.trOf c).starts) ∧ w11.cell? ⟨w.heap.size + 1, 1, none⟩ = some (.slice B v.length c2) from ⟨k1, k2, k3, k4, k5⟩); clear hb11 c10a c10b c10c c10d c10e))
          go_wp2
          go_roundw
          case rel => exact ⟨k + 1, by omega, by go_num, turned_set G11.out k _, by rw [← fillK_succ FF n k hlt]; exact R11.out.set_ k _⟩
          case measure => simp [intOf]; omega
        · obtain rfl : k = n := by omega
          obtain ⟨s0, s1, _, _⟩ := B13r.out.all
          have BRr := Lib.hid (BR3.out.next LB.out)
          have LL := Lib.hid (below_next L03.out LB.out)
          obtain ⟨y0, y1, y2, y3⟩ := BRr.out.all
          go_wp2
          obtain ⟨t0, t1, _, _⟩ := ((BRr.out.set0 (.slice A1 O.length k1)).set1 (.slice (some ⟨g1, 0, none⟩) k k)).all
          refine bodyPost_ret (v := .tuple #[.agg #[.slice A1 O.length k1, .slice (some ⟨g1, 0, none⟩) k k], .int .i64 0]) (by simp [results, Tryd.results16, go_sem, t0, t1]) rfl ?_
          have hrn := RW.out
          rw [fillK_n] at hrn
          have hl : ((List.range k).map FF).length = k := by simp
          have m1 := mine_turned M1.out R1.out (by decide) GR.out
          have m2 := mine_block (base := g1) hrn (Nat.le_refl _) (by rw [hl]; unfold maxLen; omega)
          have hic := isCell_of (base := w.heap.size) (m1.box (g := w.heap.size + 1 + 1) (by omega) (.slice A1 O.length k1) (.slice (some ⟨g1, 0, none⟩) k k)) (m2.box (g := w.heap.size + 1 + 1) (by omega) (.slice A1 O.length k1) (.slice (some ⟨g1, 0, none⟩) k k)) (by omega) (by omega)
          rw [hl, ← HFF.out] at hic
          exact ⟨_, rfl, hic, (LL.out.setCell (by simp; omega) _).setCell (by simp; omega) _⟩
end Go.Proofs.YticicfbllhnpcaaDoor.Fd
