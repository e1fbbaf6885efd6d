/-
  What mold.Copy answers where it answers a cell; nothing that was there is written. Conditions: as told; at most 100 axes and 1000 numbers. What mold.Copy answers where it answers a cell; nothing that was there is written. Conditions: as told; at most 100 axes and 1000 numbers. What mold.Copy answers where it answers an error; nothing that was there is written. Conditions: as told; at most 100 axes and 1000 numbers.
-/
import Derived.Test.YtfnpdflapmbnjaaPkM
-- MoCopy
namespace Go.Proofs.Ytfnpdflapmbnjaa.Sh
open Go.RowKit
set_option linter.unusedVariables false

theorem total_b (A : Option Addr) (c : Nat) (l : List Int) (S : Int) (w : World) (hS : sumL l = S) (hl : l.length ≤ 1000) (il : Ints w A l) (hs : SmallT l) :
    Calls Try.prog 42 #[.slice A l.length c] w fun e w' => e = .returned (.int .i64 S) ∧ Below w.heap.size w w' :=
  (total_any A c l w hl il hs).mono fun _ _ ⟨h1, h2⟩ => ⟨by rw [h1, hS], by subst h2; exact Below.refl _ _⟩
theorem keep2 {W w1 : World} {p1 p2 : Addr} {x1 x2 : Value} (hb : Below W.heap.size W w1) (h : W.cell? p1 = some x1 ∧ W.cell? p2 = some x2) : w1.cell? p1 = some x1 ∧ w1.cell? p2 = some x2 :=
  have k : ∀ {p : Addr} {x : Value}, W.cell? p = some x → w1.cell? p = some x := fun {p x} hp => (hb.cell (World.block_lt_of_cell? W p hp)).trans hp
  ⟨k h.1, k h.2⟩
theorem keep3' {W w1 : World} {p1 p2 p3 : Addr} {x1 x2 x3 : Value} (hb : Below W.heap.size W w1) (h : W.cell? p1 = some x1 ∧ W.cell? p2 = some x2 ∧ W.cell? p3 = some x3) : w1.cell? p1 = some x1 ∧ w1.cell? p2 = some x2 ∧ w1.cell? p3 = some x3 :=
  have k : ∀ {p : Addr} {x : Value}, W.cell? p = some x → w1.cell? p = some x := fun {p x} hp => (hb.cell (World.block_lt_of_cell? W p hp)).trans hp
  ⟨k h.1, k h.2.1, k h.2.2⟩
theorem keepG2 {W w' : World} {gV g1 g2 : Nat} {x y : Value} (h : W.grownBy w' (some gV)) (h1 : g1 ≠ gV) (h2 : g2 ≠ gV) (hc : W.cell? ⟨g1, 1, none⟩ = some x ∧ W.cell? ⟨g2, 1, none⟩ = some y) : w'.cell? ⟨g1, 1, none⟩ = some x ∧ w'.cell? ⟨g2, 1, none⟩ = some y :=
  ⟨keepG h h1 hc.1, keepG h h2 hc.2⟩

set_option maxHeartbeats 8000000 in
set_option maxRecDepth 100000 in
theorem copy_first (A : Option Addr) (c : Nat) (d : List Int) (B : Option Addr) (c2 : Nat) (v : List Int) (A' : Option Addr) (c' : Nat) (e : List Int) (B' : Option Addr) (c2' : Nat) (u : List Int) (a P s N : Nat) (D T : List Int) (w : World) (id : Ints w A d) (iv : Ints w B v) (ie : Ints w A' e) (iu : Ints w B' u) (hcu : u.length ≤ c2') (hcm : c2' ≤ maxLen) (h : CopyOk d v e u a P s N D T) (hax : a = 0) :
    Calls Try.prog 12 #[.agg #[.slice A d.length c, .slice B v.length c2], .agg #[.slice A' e.length c', .slice B' u.length c2'], .bool true] w (RetC w (withL D (a : Int) (sumL T)) (copV u s T) (.int .i64 0)) := by
  obtain ⟨hTl, hsm, hP64, hDr, hD3, hu64, hv64, hN64, hS0⟩ := h.small
  have hroom := h.room
  have hv1 := h.vlen.1
  have hvl : (copV u s T).length = N := by
    unfold copV
    rcases hroom with ⟨q1, q2, _⟩ | ⟨q1, q2⟩
    · by_cases hs0 : s = 0
      · rw [if_pos hs0]; rw [hs0] at q2; simpa using q2
      · rw [if_neg hs0, cpL_len T (by rw [← q1]; exact Nat.le_refl _), q2]
    · rw [if_pos q1, q2]; rfl
  have hst : (strB D).getD a 0 = (s : Int) ∧ (strB D).length = D.length := by
    unfold strB
    rw [if_pos hDr, strL_length]
    refine ⟨?_, rfl⟩
    have h1 := strL_drop D a h.ha
    have h2 : (strL D).getD a 0 = ((strL D).drop a).getD 0 0 := by simp [List.getD]
    rw [h2, h1, ← h.hs]
    rfl
  obtain ⟨r1, r2, r3, r4, r5, r6, r7, r8, r9, r10, r11, r12⟩ := h
  have H1 := Lib.hid r1
  have H2 := Lib.hid r2
  have H4 := Lib.hid r4
  have H6 := Lib.hid r6
  have H8 := Lib.hid r8
  have H9 := Lib.hid r9
  have H10 := Lib.hid r10
  have H11 := Lib.hid r11
  have HST := Lib.hid hst.1
  have HSL := Lib.hid hst.2
  have HV1 := Lib.hid hv1
  have HROOM := Lib.hid hroom
  have HSM := Lib.hid hsm
  have HVL := Lib.hid hvl
  have HTL := Lib.hid hTl
  have HDR := Lib.hid hDr
  have hT64 : T.length ≤ 64 := by omega
  have hd1 : d.length ≤ 1 := r3
  have hDl : D.length ≤ 3 := hD3
  have HHL := Lib.hid r7
  have haL : a < D.length := r5
  have IU0 := Lib.hid iu
  have HCM := Lib.hid hcm
  clear r1 r2 r3 r4 r6 r7 r8 r9 r10 r11 r12 hst hvl hroom hv1 hsm hTl hDr hS0 hcm
  obtain ⟨ba0, bb0, br0, hb0⟩ := w2_all w (.slice A d.length c) (.slice B v.length c2) (.slice A' e.length c') (.slice B' u.length c2')
  have BA := Lib.hid (ba0)
  have BB := Lib.hid (bb0)
  have BR := Lib.hid (br0)
  have L := Lib.hid (hb0)
  have ID := Lib.hid (id.below hb0)
  have IV := Lib.hid (iv.below hb0)
  have IE := Lib.hid (ie.below hb0)
  have IU := Lib.hid (iu.below hb0)
  clear ba0 bb0 br0 hb0 id iv ie iu
  obtain ⟨S, hS⟩ : ∃ S, sumL T = S := ⟨_, rfl⟩
  rw [hS] at H10 H11 ⊢
  have HSS := Lib.hid hS
  clear hS
  obtain ⟨D2, hD2⟩ : ∃ D2, withL D (a : Int) S = D2 := ⟨_, rfl⟩
  rw [hD2] at H10 H11 ⊢
  have HD2 := Lib.hid hD2
  clear hD2
  go_enter Try.func12, Try.ntmps12
  go_wp2_with fail
  refine (cright_yes _ _ d _ _ _ _ (by unfold maxLen; omega) ID.out H1.out).mono ?_
  rintro r w1 ⟨rfl, hb⟩
  replace BA := Lib.hid (BA.out.next hb)
  replace BB := Lib.hid (BB.out.next hb)
  replace BR := Lib.hid (BR.out.next hb)
  replace L := Lib.hid (below_next L.out hb)
  replace ID := Lib.hid (ID.out.below hb)
  replace IV := Lib.hid (IV.out.below hb)
  replace IE := Lib.hid (IE.out.below hb)
  replace IU := Lib.hid (IU.out.below hb)
  clear hb
  obtain ⟨qBB0, qBB1, -, -⟩ := BB.out.all
  go_wp2_with fail
  refine (cright_yes _ _ e _ _ _ _ (by have := (cellB_small H2.out).1; unfold maxLen; omega) IE.out H2.out).mono ?_
  rintro r w2 ⟨rfl, hb⟩
  clear qBB0 qBB1
  replace BA := Lib.hid (BA.out.next hb)
  replace BB := Lib.hid (BB.out.next hb)
  replace BR := Lib.hid (BR.out.next hb)
  replace L := Lib.hid (below_next L.out hb)
  replace ID := Lib.hid (ID.out.below hb)
  replace IV := Lib.hid (IV.out.below hb)
  replace IE := Lib.hid (IE.out.below hb)
  replace IU := Lib.hid (IU.out.below hb)
  clear hb
  obtain ⟨qBA0, qBA1, -, -⟩ := BA.out.all
  obtain ⟨qBB0, qBB1, -, -⟩ := BB.out.all
  go_wp2_with fail
  refine (listed_any _ _ e _ (by have := (cellB_small H2.out).1; omega) IE.out).mono ?_
  rintro r w3 ⟨A3, c3, rfl, hi, hb⟩
  clear qBA0 qBA1 qBB0 qBB1
  replace BA := Lib.hid (BA.out.next hb)
  replace BB := Lib.hid (BB.out.next hb)
  replace BR := Lib.hid (BR.out.next hb)
  replace L := Lib.hid (below_next L.out hb)
  replace ID := Lib.hid (ID.out.below hb)
  replace IV := Lib.hid (IV.out.below hb)
  replace IE := Lib.hid (IE.out.below hb)
  replace IU := Lib.hid (IU.out.below hb)
  clear hb
  rw [H4.out] at hi
  rw [H4.out]
  have IDD := Lib.hid (hi)
  clear hi
  subst hax
  have ha0 : (0 : Int) < (D.length : Int) := by omega
  obtain ⟨qBA0, qBA1, -, -⟩ := BA.out.all
  go_upto_region 9 with (fail)
  obtain ⟨bd, od, rfl, hbd, hcd⟩ := IDD.out (by omega)
  have hda := hcd 0 (by omega)
  rw [H6.out] at hda
  clear hcd
  rw [Nat.add_zero] at hda
  go_cut [47] (fun s47 wx => s47 = .bool false ∧ ∃ n, wx = w3.drewN n)
  case first =>
    rcases HHL.out with h0 | h0
    · have hz : ((d.length : Int) == 1) = false := by simp [h0]
      clear h0
      go_quiet (fail)
      go_wp2_with fail
      go_meet
      exact ⟨rfl, _, rfl⟩
    · have hz : ((d.length : Int) == 1) = true := by rw [h0]; rfl
      obtain ⟨bn, on, rfl, hbn, hcn⟩ := ID.out (by rw [h0]; simp)
      have hdn : w3.cell? ⟨bn, on, none⟩ = some (.int .i64 (P : Int)) := by have := hcn 0 (by rw [h0]; simp); rw [h0] at this; simpa using this
      have z0 : (0 : Int) < (d.length : Int) := by rw [h0]; simp
      clear h0 hcn
      go_quiet (fail)
      go_wp2_with fail
      go_meet
      exact ⟨rfl, _, rfl⟩
  case rest =>
    obtain ⟨rfl, nq, rfl⟩ := hcut
    clear qBA0 qBA1
    have KQ := Lib.hid (below_drewN (Below.refl w3.heap.size w3) nq)
    replace BA := Lib.hid (BA.out.next KQ.out)
    replace BB := Lib.hid (BB.out.next KQ.out)
    replace BR := Lib.hid (BR.out.next KQ.out)
    replace L := Lib.hid (below_next L.out KQ.out)
    replace ID := Lib.hid (ID.out.below KQ.out)
    replace IV := Lib.hid (IV.out.below KQ.out)
    replace IE := Lib.hid (IE.out.below KQ.out)
    replace IU := Lib.hid (IU.out.below KQ.out)
    replace IDD := Lib.hid (IDD.out.below KQ.out)
    clear KQ
    obtain ⟨qBA0, qBA1, -, -⟩ := BA.out.all
    go_wp2_with fail
    refine (contains_b _ _ v false _ H8.out (by omega) IV.out).mono ?_
    rintro r w4 ⟨rfl, hb⟩
    clear qBA0 qBA1
    replace BA := Lib.hid (BA.out.next hb)
    replace BB := Lib.hid (BB.out.next hb)
    replace BR := Lib.hid (BR.out.next hb)
    replace L := Lib.hid (below_next L.out hb)
    replace ID := Lib.hid (ID.out.below hb)
    replace IV := Lib.hid (IV.out.below hb)
    replace IE := Lib.hid (IE.out.below hb)
    replace IU := Lib.hid (IU.out.below hb)
    replace IDD := Lib.hid (IDD.out.below hb)
    clear hb
    have BX3 := Lib.hid IDD.out
    obtain ⟨bd2, od2, e2, hbd2, hcd2⟩ := IDD.out (by omega)
    injection e2 with e2
    injection e2 with e21 e22
    subst e21 e22
    have hda2 := hcd2 0 (by omega)
    rw [H6.out] at hda2
    clear hcd2 hda BX3
    rw [Nat.add_zero] at hda2
    clear hbd hbd2
    obtain ⟨qBA0, qBA1, -, -⟩ := BA.out.all
    have OF := Lib.hid (often_any A c d B c2 v P w4.drew (by omega) (by omega) (IV.out.below ((Below.refl _ w4).drew)) hP64 HV1.out)
    have WD := Lib.hid ((Below.refl w4.heap.size w4).drew)
    go_upto_region 13 with (fail)
    go_region_held3 (fun w' => w'.cell? ⟨w.heap.size, 0, none⟩ = some (.slice A d.length c) ∧ w'.cell? ⟨w.heap.size, 1, none⟩ = some (.slice B v.length c2) ∧ w'.cell? ⟨bd, od, none⟩ = some (.int .i64 (P : Int)))
      (first
        | go_keep
        | with_reducible exact keep3' hb KK.out)
      (first
        | (go_at_call 39; (with_reducible refine (OF.out).mono ?_); rintro r w5 ⟨A5, c5, rfl, hi, hb⟩; have KK := Lib.hid (show w4.drew.cell? ⟨w.heap.size, 0, none⟩ = some (.slice A d.length c) ∧ w4.drew.cell? ⟨w.heap.size, 1, none⟩ = some (.slice B v.length c2) ∧ w4.drew.cell? ⟨bd, od, none⟩ = some (.int .i64 (P : Int)) from ⟨qBA0, qBA1, hda2⟩)))
    clear qBA0 qBA1
    have HB5 := Lib.hid (below_next WD.out hb)
    clear hb
    replace BA := Lib.hid (BA.out.next HB5.out)
    replace BB := Lib.hid (BB.out.next HB5.out)
    replace BR := Lib.hid (BR.out.next HB5.out)
    replace L := Lib.hid (below_next L.out HB5.out)
    replace ID := Lib.hid (ID.out.below HB5.out)
    replace IV := Lib.hid (IV.out.below HB5.out)
    replace IE := Lib.hid (IE.out.below HB5.out)
    replace IU := Lib.hid (IU.out.below HB5.out)
    replace IDD := Lib.hid (IDD.out.below HB5.out)
    rw [H9.out] at hi
    rw [H9.out]
    have IT := Lib.hid (hi)
    clear hi hda2 KK OF WD HB5
    go_wp2_with fail
    refine (total_b _ _ T S _ HSS.out (by omega) IT.out HSM.out).mono ?_
    rintro r w6 ⟨rfl, hb⟩
    replace BA := Lib.hid (BA.out.next hb)
    replace BB := Lib.hid (BB.out.next hb)
    replace BR := Lib.hid (BR.out.next hb)
    replace L := Lib.hid (below_next L.out hb)
    replace ID := Lib.hid (ID.out.below hb)
    replace IV := Lib.hid (IV.out.below hb)
    replace IE := Lib.hid (IE.out.below hb)
    replace IU := Lib.hid (IU.out.below hb)
    replace IDD := Lib.hid (IDD.out.below hb)
    replace IT := Lib.hid (IT.out.below hb)
    clear hb
    go_wp2_with fail
    refine (with_any _ _ D 0 S _ (by omega) IDD.out).mono ?_
    rintro r w7 ⟨A7, c7, rfl, hi, hb⟩
    replace BA := Lib.hid (BA.out.next hb)
    replace BB := Lib.hid (BB.out.next hb)
    replace BR := Lib.hid (BR.out.next hb)
    replace L := Lib.hid (below_next L.out hb)
    replace ID := Lib.hid (ID.out.below hb)
    replace IV := Lib.hid (IV.out.below hb)
    replace IE := Lib.hid (IE.out.below hb)
    replace IU := Lib.hid (IU.out.below hb)
    replace IDD := Lib.hid (IDD.out.below hb)
    replace IT := Lib.hid (IT.out.below hb)
    clear hb
    have IW := Lib.hid (hi)
    clear hi
    have hD2' : withL D 0 S = D2 := HD2.out
    rw [hD2'] at IW
    rw [hD2']
    clear hD2' HD2
    have hD23 : D2.length ≤ 3 := (rightB_all H10.out).1
    have hzz := fun W iW => zero_m A7 c7 D2 W (by omega) iW H10.out
    rw [H11.out, Int.toNat_natCast] at hzz
    have HZ := Lib.hid hzz
    clear hzz
    have HG := Lib.hid BR.out.lt
    have HL := Lib.hid L.out.size
    have HW7 := Lib.hid (Below.refl w7.heap.size w7)
    have IT7 := Lib.hid IT.out
    have IDD7 := Lib.hid IDD.out
    go_wp2_with fail
    refine (HZ.out _ IW.out).mono ?_
    rintro r w8 ⟨A8, c8, g, rfl, hm8, hr8, hg8, hb⟩
    replace BA := Lib.hid (BA.out.next hb)
    replace BB := Lib.hid (BB.out.next hb)
    replace BR := Lib.hid (BR.out.next hb)
    replace L := Lib.hid (below_next L.out hb)
    replace ID := Lib.hid (ID.out.below hb)
    replace IV := Lib.hid (IV.out.below hb)
    replace IE := Lib.hid (IE.out.below hb)
    replace IU := Lib.hid (IU.out.below hb)
    replace IDD := Lib.hid (IDD.out.below hb)
    replace IT := Lib.hid (IT.out.below hb)
    replace IW := Lib.hid (IW.out.below hb)
    replace HW7 := Lib.hid (below_next HW7.out hb)
    clear hb
    have M8 := Lib.hid hm8
    have R8 := Lib.hid (show Row64 w8 g (List.replicate N 0) from hr8)
    have hgl : g < w8.heap.size := R8.out.lt
    clear hm8 hr8 HZ
    have KB := Lib.hid (below_new w8 (.cells #[.slice A8 D2.length c8, .slice (some ⟨g, 0, none⟩) N N] 25))
    have B11 := Lib.hid (Box.new w8 (.slice A8 D2.length c8) (.slice (some ⟨g, 0, none⟩) N N))
    replace BA := Lib.hid (BA.out.next KB.out)
    replace BB := Lib.hid (BB.out.next KB.out)
    replace BR := Lib.hid (BR.out.next KB.out)
    replace L := Lib.hid (below_next L.out KB.out)
    replace ID := Lib.hid (ID.out.below KB.out)
    replace IV := Lib.hid (IV.out.below KB.out)
    replace IE := Lib.hid (IE.out.below KB.out)
    replace IU := Lib.hid (IU.out.below KB.out)
    replace IDD := Lib.hid (IDD.out.below KB.out)
    replace IT := Lib.hid (IT.out.below KB.out)
    replace IW := Lib.hid (IW.out.below KB.out)
    replace HW7 := Lib.hid (below_next HW7.out KB.out)
    replace M8 := Lib.hid (M8.out.below KB.out (Nat.le_refl _))
    replace R8 := Lib.hid (R8.out.next KB.out)
    go_upto_region 15 with (fail)
    clear KB
    generalize hW : w8.alloc (.cells #[.slice A8 D2.length c8, .slice (some ⟨g, 0, none⟩) N N] 25) = W8 at *
    clear hW
    generalize w8.heap.size = g11 at *
    obtain ⟨qB110, qB111, -, -⟩ := B11.out.all
    go_wp2_with fail
    refine (cright_yes _ _ D2 _ N _ _ (by unfold maxLen; omega) M8.out.ints' (by unfold cellB; rw [H10.out, H11.out]; simp)).mono ?_
    rintro r w9 ⟨rfl, hb⟩
    clear qB110 qB111
    replace BA := Lib.hid (BA.out.next hb)
    replace BB := Lib.hid (BB.out.next hb)
    replace BR := Lib.hid (BR.out.next hb)
    replace L := Lib.hid (below_next L.out hb)
    replace ID := Lib.hid (ID.out.below hb)
    replace IV := Lib.hid (IV.out.below hb)
    replace IE := Lib.hid (IE.out.below hb)
    replace IU := Lib.hid (IU.out.below hb)
    replace IDD := Lib.hid (IDD.out.below hb)
    replace IT := Lib.hid (IT.out.below hb)
    replace IW := Lib.hid (IW.out.below hb)
    replace HW7 := Lib.hid (below_next HW7.out hb)
    replace M8 := Lib.hid (M8.out.below hb (Nat.le_refl _))
    replace R8 := Lib.hid (R8.out.next hb)
    replace B11 := Lib.hid (B11.out.next hb)
    clear hb
    obtain ⟨qB110, qB111, -, -⟩ := B11.out.all
    obtain ⟨qBB0, qBB1, -, -⟩ := BB.out.all
    have g11b := B11.out.lt
    have HG8 := HG.out
    have hLL : w7.heap.size ≤ w9.heap.size := HW7.out.size
    have IUW := Lib.hid (fun (W : World) (hW : w9.grownBy W (some g)) => IU0.out.below (below_turned L.out hW (by have := HL.out; omega)))
    have ITW := Lib.hid (fun (W : World) (hW : w9.grownBy W (some g)) => IT7.out.below (below_turned HW7.out hW hg8))
    have ST := Lib.hid (strides_any (some ⟨bd, od, none⟩) c3 D w9.drew (by unfold maxLen; omega) (IDD.out.below ((Below.refl _ w9).drew)))
    have RD := Lib.hid (R8.out.drew)
    have GD := Lib.hid (turned_drew (turned_refl w9 (some g)))
    have N1 := Lib.hid (show g11 ≠ g by omega)
    have N2 := Lib.hid (show w.heap.size + 1 ≠ g by omega)
    have haS : 0 < (strB D).length := by rw [HSL.out]; omega
    have haSI : (0 : Int) < ((strB D).length : Int) := by omega
    go_upto_region 17 with (fail)
    go_cut [] (fun wx => Row64 wx g (copV u s T) ∧ w9.grownBy wx (some g))
    case first =>
      go_region_with
        (first
          | (go_at_call 44; (with_reducible refine (ST.out).mono ?_); rintro r w10 ⟨A10, c10, rfl, hi10, hb10⟩; have KS1 := Lib.hid (keep2 hb10 (show w9.drew.cell? ⟨g11, 1, none⟩ = some (.slice (some ⟨g, 0, none⟩) N N) ∧ w9.drew.cell? ⟨w.heap.size + 1, 1, none⟩ = some (.slice B' u.length c2') from ⟨qB111, qBB1⟩)); obtain ⟨b10, o10, rfl, hb10', hc10⟩ := hi10 (by omega); have s10 := hc10 0 haS; rw [HST.out, Nat.add_zero] at s10; have R10 := Lib.hid (RD.out.next hb10); have G10 := Lib.hid (turned_below GD.out hb10); obtain ⟨k1, k2⟩ := KS1.out; clear hi10 hb10' hc10 hb10)
          | (go_at_call 43; (with_reducible refine (layParts_all g N s B' c2' u A5 c5 T w10 HROOM.out hu64 hcu HCM.out hT64 HSM.out hN64 R10.out (fun W hW => IUW.out W (World.grownBy.trans G10.out hW)) (fun W hW => ITW.out W (World.grownBy.trans G10.out hW))).mono ?_); rintro r w11 ⟨rfl, hr11, hg11⟩; have KS2 := Lib.hid (keepG2 hg11 N1.out N2.out KS1.out); have R11 := Lib.hid hr11; have G11 := Lib.hid (World.grownBy.trans G10.out hg11); clear hr11 hg11))
      all_goals (go_wp2_with fail; go_meet; exact ⟨R11.out, G11.out⟩)
    case rest =>
      obtain ⟨hR, hG⟩ := hcut
      have RX := Lib.hid hR
      have GX := Lib.hid hG
      have LX := Lib.hid (below_turned L.out hG (by have := HL.out; omega))
      have BX := Lib.hid (B11.out.grown hG (fun e => by injection e with e; omega))
      have BRX := Lib.hid (BR.out.grown hG (fun e => by injection e with e; omega))
      have hVl : (copV u s T).length = N := HVL.out
      have HVL2 := Lib.hid hVl
      clear hR hG qB110 qB111 qBB0 qBB1 hVl
      obtain ⟨s0, s1, -, -⟩ := BX.out.all
      obtain ⟨y0, y1, y2, y3⟩ := BRX.out.all
      generalize copV u s T = VV at *
      go_wp2
      have T9 := (BRX.out.set0 (.slice A8 D2.length c8)).set1 (.slice (some ⟨g, 0, none⟩) N N)
      obtain ⟨t0, t1, _, _⟩ := T9.all
      refine bodyPost_ret (v := .tuple #[.agg #[.slice A8 D2.length c8, .slice (some ⟨g, 0, none⟩) N N], .int .i64 0]) (by simp [results, Try.results12, go_sem, t0, t1]) rfl ?_
      have m1 := mine_turned M8.out R8.out (by decide) GX.out
      have m2 := mine_block (base := g) RX.out (Nat.le_refl _) (by rw [HVL2.out]; unfold maxLen; omega)
      have hic := isCell_of (base := w.heap.size) (m1.box HG8 (.slice A8 D2.length c8) (.slice (some ⟨g, 0, none⟩) N N)) (m2.box (by omega) (.slice A8 D2.length c8) (.slice (some ⟨g, 0, none⟩) N N)) HL.out (by have := HL.out; omega)
      rw [HVL2.out] at hic
      exact ⟨_, rfl, hic, (LX.out.setCell (by simp; omega) _).setCell (by simp; omega) _⟩
end Go.Proofs.Ytfnpdflapmbnjaa.Sh
-- MoCopyL
namespace Go.Proofs.Ytfnpdflapmbnjaa.Sh
open Go.RowKit
set_option linter.unusedVariables false


set_option maxHeartbeats 8000000 in
set_option maxRecDepth 100000 in
theorem copy_last (A : Option Addr) (c : Nat) (d : List Int) (B : Option Addr) (c2 : Nat) (v : List Int) (A' : Option Addr) (c' : Nat) (e : List Int) (B' : Option Addr) (c2' : Nat) (u : List Int) (a P s N : Nat) (D T : List Int) (w : World) (id : Ints w A d) (iv : Ints w B v) (ie : Ints w A' e) (iu : Ints w B' u) (hcu : u.length ≤ c2') (hcm : c2' ≤ maxLen) (h : CopyOk d v e u a P s N D T) (hax : a + 1 = D.length) :
    Calls Try.prog 12 #[.agg #[.slice A d.length c, .slice B v.length c2], .agg #[.slice A' e.length c', .slice B' u.length c2'], .bool false] w (RetC w (withL D (a : Int) (sumL T)) (copV u s T) (.int .i64 0)) := by
  obtain ⟨hTl, hsm, hP64, hDr, hD3, hu64, hv64, hN64, hS0⟩ := h.small
  have hroom := h.room
  have hv1 := h.vlen.1
  have hvl : (copV u s T).length = N := by
    unfold copV
    rcases hroom with ⟨q1, q2, _⟩ | ⟨q1, q2⟩
    · by_cases hs0 : s = 0
      · rw [if_pos hs0]; rw [hs0] at q2; simpa using q2
      · rw [if_neg hs0, cpL_len T (by rw [← q1]; exact Nat.le_refl _), q2]
    · rw [if_pos q1, q2]; rfl
  have hst : (strB D).getD a 0 = (s : Int) ∧ (strB D).length = D.length := by
    unfold strB
    rw [if_pos hDr, strL_length]
    refine ⟨?_, rfl⟩
    have h1 := strL_drop D a h.ha
    have h2 : (strL D).getD a 0 = ((strL D).drop a).getD 0 0 := by simp [List.getD]
    rw [h2, h1, ← h.hs]
    rfl
  obtain ⟨r1, r2, r3, r4, r5, r6, r7, r8, r9, r10, r11, r12⟩ := h
  have H1 := Lib.hid r1
  have H2 := Lib.hid r2
  have H4 := Lib.hid r4
  have H6 := Lib.hid r6
  have H8 := Lib.hid r8
  have H9 := Lib.hid r9
  have H10 := Lib.hid r10
  have H11 := Lib.hid r11
  have HST := Lib.hid hst.1
  have HSL := Lib.hid hst.2
  have HV1 := Lib.hid hv1
  have HROOM := Lib.hid hroom
  have HSM := Lib.hid hsm
  have HVL := Lib.hid hvl
  have HTL := Lib.hid hTl
  have HDR := Lib.hid hDr
  have hT64 : T.length ≤ 64 := by omega
  have hd1 : d.length ≤ 1 := r3
  have hDl : D.length ≤ 3 := hD3
  have HHL := Lib.hid r7
  have haL : a < D.length := r5
  have IU0 := Lib.hid iu
  have HCM := Lib.hid hcm
  clear r1 r2 r3 r4 r6 r7 r8 r9 r10 r11 r12 hst hvl hroom hv1 hsm hTl hDr hS0 hcm
  obtain ⟨ba0, bb0, br0, hb0⟩ := w2_all w (.slice A d.length c) (.slice B v.length c2) (.slice A' e.length c') (.slice B' u.length c2')
  have BA := Lib.hid (ba0)
  have BB := Lib.hid (bb0)
  have BR := Lib.hid (br0)
  have L := Lib.hid (hb0)
  have ID := Lib.hid (id.below hb0)
  have IV := Lib.hid (iv.below hb0)
  have IE := Lib.hid (ie.below hb0)
  have IU := Lib.hid (iu.below hb0)
  clear ba0 bb0 br0 hb0 id iv ie iu
  obtain ⟨S, hS⟩ : ∃ S, sumL T = S := ⟨_, rfl⟩
  rw [hS] at H10 H11 ⊢
  have HSS := Lib.hid hS
  clear hS
  obtain ⟨D2, hD2⟩ : ∃ D2, withL D (a : Int) S = D2 := ⟨_, rfl⟩
  rw [hD2] at H10 H11 ⊢
  have HD2 := Lib.hid hD2
  clear hD2
  go_enter Try.func12, Try.ntmps12
  go_wp2_with fail
  refine (cright_yes _ _ d _ _ _ _ (by unfold maxLen; omega) ID.out H1.out).mono ?_
  rintro r w1 ⟨rfl, hb⟩
  replace BA := Lib.hid (BA.out.next hb)
  replace BB := Lib.hid (BB.out.next hb)
  replace BR := Lib.hid (BR.out.next hb)
  replace L := Lib.hid (below_next L.out hb)
  replace ID := Lib.hid (ID.out.below hb)
  replace IV := Lib.hid (IV.out.below hb)
  replace IE := Lib.hid (IE.out.below hb)
  replace IU := Lib.hid (IU.out.below hb)
  clear hb
  obtain ⟨qBB0, qBB1, -, -⟩ := BB.out.all
  go_wp2_with fail
  refine (cright_yes _ _ e _ _ _ _ (by have := (cellB_small H2.out).1; unfold maxLen; omega) IE.out H2.out).mono ?_
  rintro r w2 ⟨rfl, hb⟩
  clear qBB0 qBB1
  replace BA := Lib.hid (BA.out.next hb)
  replace BB := Lib.hid (BB.out.next hb)
  replace BR := Lib.hid (BR.out.next hb)
  replace L := Lib.hid (below_next L.out hb)
  replace ID := Lib.hid (ID.out.below hb)
  replace IV := Lib.hid (IV.out.below hb)
  replace IE := Lib.hid (IE.out.below hb)
  replace IU := Lib.hid (IU.out.below hb)
  clear hb
  obtain ⟨qBA0, qBA1, -, -⟩ := BA.out.all
  obtain ⟨qBB0, qBB1, -, -⟩ := BB.out.all
  go_wp2_with fail
  refine (listed_any _ _ e _ (by have := (cellB_small H2.out).1; omega) IE.out).mono ?_
  rintro r w3 ⟨A3, c3, rfl, hi, hb⟩
  clear qBA0 qBA1 qBB0 qBB1
  replace BA := Lib.hid (BA.out.next hb)
  replace BB := Lib.hid (BB.out.next hb)
  replace BR := Lib.hid (BR.out.next hb)
  replace L := Lib.hid (below_next L.out hb)
  replace ID := Lib.hid (ID.out.below hb)
  replace IV := Lib.hid (IV.out.below hb)
  replace IE := Lib.hid (IE.out.below hb)
  replace IU := Lib.hid (IU.out.below hb)
  clear hb
  rw [H4.out] at hi
  rw [H4.out]
  have IDD := Lib.hid (hi)
  clear hi
  have haI : (D.length : Int) - 1 = (a : Int) := by omega
  have ha0 : (0 : Int) ≤ (a : Int) := by omega
  have ha1 : (a : Int) < (D.length : Int) := by omega
  obtain ⟨qBA0, qBA1, -, -⟩ := BA.out.all
  go_upto_region 9 with (fail)
  clear haI
  obtain ⟨bd, od, rfl, hbd, hcd⟩ := IDD.out (by omega)
  have hda := hcd a (by omega)
  rw [H6.out] at hda
  clear hcd
  go_cut [47] (fun s47 wx => s47 = .bool false ∧ ∃ n, wx = w3.drewN n)
  case first =>
    rcases HHL.out with h0 | h0
    · have hz : ((d.length : Int) == 1) = false := by simp [h0]
      clear h0
      go_quiet (fail)
      go_wp2_with fail
      go_meet
      exact ⟨rfl, _, rfl⟩
    · have hz : ((d.length : Int) == 1) = true := by rw [h0]; rfl
      obtain ⟨bn, on, rfl, hbn, hcn⟩ := ID.out (by rw [h0]; simp)
      have hdn : w3.cell? ⟨bn, on, none⟩ = some (.int .i64 (P : Int)) := by have := hcn 0 (by rw [h0]; simp); rw [h0] at this; simpa using this
      have z0 : (0 : Int) < (d.length : Int) := by rw [h0]; simp
      clear h0 hcn
      go_quiet (fail)
      go_wp2_with fail
      go_meet
      exact ⟨rfl, _, rfl⟩
  case rest =>
    obtain ⟨rfl, nq, rfl⟩ := hcut
    clear qBA0 qBA1
    have KQ := Lib.hid (below_drewN (Below.refl w3.heap.size w3) nq)
    replace BA := Lib.hid (BA.out.next KQ.out)
    replace BB := Lib.hid (BB.out.next KQ.out)
    replace BR := Lib.hid (BR.out.next KQ.out)
    replace L := Lib.hid (below_next L.out KQ.out)
    replace ID := Lib.hid (ID.out.below KQ.out)
    replace IV := Lib.hid (IV.out.below KQ.out)
    replace IE := Lib.hid (IE.out.below KQ.out)
    replace IU := Lib.hid (IU.out.below KQ.out)
    replace IDD := Lib.hid (IDD.out.below KQ.out)
    clear KQ
    obtain ⟨qBA0, qBA1, -, -⟩ := BA.out.all
    go_wp2_with fail
    refine (contains_b _ _ v false _ H8.out (by omega) IV.out).mono ?_
    rintro r w4 ⟨rfl, hb⟩
    clear qBA0 qBA1
    replace BA := Lib.hid (BA.out.next hb)
    replace BB := Lib.hid (BB.out.next hb)
    replace BR := Lib.hid (BR.out.next hb)
    replace L := Lib.hid (below_next L.out hb)
    replace ID := Lib.hid (ID.out.below hb)
    replace IV := Lib.hid (IV.out.below hb)
    replace IE := Lib.hid (IE.out.below hb)
    replace IU := Lib.hid (IU.out.below hb)
    replace IDD := Lib.hid (IDD.out.below hb)
    clear hb
    have BX3 := Lib.hid IDD.out
    obtain ⟨bd2, od2, e2, hbd2, hcd2⟩ := IDD.out (by omega)
    injection e2 with e2
    injection e2 with e21 e22
    subst e21 e22
    have hda2 := hcd2 a (by omega)
    rw [H6.out] at hda2
    clear hcd2 hda BX3
    clear hbd hbd2
    obtain ⟨qBA0, qBA1, -, -⟩ := BA.out.all
    have OF := Lib.hid (often_any A c d B c2 v P w4.drew (by omega) (by omega) (IV.out.below ((Below.refl _ w4).drew)) hP64 HV1.out)
    have WD := Lib.hid ((Below.refl w4.heap.size w4).drew)
    go_upto_region 13 with (fail)
    go_region_held3 (fun w' => w'.cell? ⟨w.heap.size, 0, none⟩ = some (.slice A d.length c) ∧ w'.cell? ⟨w.heap.size, 1, none⟩ = some (.slice B v.length c2) ∧ w'.cell? ⟨bd, od + a, none⟩ = some (.int .i64 (P : Int)))
      (first
        | go_keep
        | with_reducible exact keep3' hb KK.out)
      (first
        | (go_at_call 39; (with_reducible refine (OF.out).mono ?_); rintro r w5 ⟨A5, c5, rfl, hi, hb⟩; have KK := Lib.hid (show w4.drew.cell? ⟨w.heap.size, 0, none⟩ = some (.slice A d.length c) ∧ w4.drew.cell? ⟨w.heap.size, 1, none⟩ = some (.slice B v.length c2) ∧ w4.drew.cell? ⟨bd, od + a, none⟩ = some (.int .i64 (P : Int)) from ⟨qBA0, qBA1, hda2⟩)))
    clear qBA0 qBA1
    have HB5 := Lib.hid (below_next WD.out hb)
    clear hb
    replace BA := Lib.hid (BA.out.next HB5.out)
    replace BB := Lib.hid (BB.out.next HB5.out)
    replace BR := Lib.hid (BR.out.next HB5.out)
    replace L := Lib.hid (below_next L.out HB5.out)
    replace ID := Lib.hid (ID.out.below HB5.out)
    replace IV := Lib.hid (IV.out.below HB5.out)
    replace IE := Lib.hid (IE.out.below HB5.out)
    replace IU := Lib.hid (IU.out.below HB5.out)
    replace IDD := Lib.hid (IDD.out.below HB5.out)
    rw [H9.out] at hi
    rw [H9.out]
    have IT := Lib.hid (hi)
    clear hi hda2 KK OF WD HB5
    go_wp2_with fail
    refine (total_b _ _ T S _ HSS.out (by omega) IT.out HSM.out).mono ?_
    rintro r w6 ⟨rfl, hb⟩
    replace BA := Lib.hid (BA.out.next hb)
    replace BB := Lib.hid (BB.out.next hb)
    replace BR := Lib.hid (BR.out.next hb)
    replace L := Lib.hid (below_next L.out hb)
    replace ID := Lib.hid (ID.out.below hb)
    replace IV := Lib.hid (IV.out.below hb)
    replace IE := Lib.hid (IE.out.below hb)
    replace IU := Lib.hid (IU.out.below hb)
    replace IDD := Lib.hid (IDD.out.below hb)
    replace IT := Lib.hid (IT.out.below hb)
    clear hb
    go_wp2_with fail
    refine (with_any _ _ D (a : Int) S _ (by omega) IDD.out).mono ?_
    rintro r w7 ⟨A7, c7, rfl, hi, hb⟩
    replace BA := Lib.hid (BA.out.next hb)
    replace BB := Lib.hid (BB.out.next hb)
    replace BR := Lib.hid (BR.out.next hb)
    replace L := Lib.hid (below_next L.out hb)
    replace ID := Lib.hid (ID.out.below hb)
    replace IV := Lib.hid (IV.out.below hb)
    replace IE := Lib.hid (IE.out.below hb)
    replace IU := Lib.hid (IU.out.below hb)
    replace IDD := Lib.hid (IDD.out.below hb)
    replace IT := Lib.hid (IT.out.below hb)
    clear hb
    have IW := Lib.hid (hi)
    clear hi
    have hD2' : withL D (a : Int) S = D2 := HD2.out
    rw [hD2'] at IW
    rw [hD2']
    clear hD2' HD2
    have hD23 : D2.length ≤ 3 := (rightB_all H10.out).1
    have hzz := fun W iW => zero_m A7 c7 D2 W (by omega) iW H10.out
    rw [H11.out, Int.toNat_natCast] at hzz
    have HZ := Lib.hid hzz
    clear hzz
    have HG := Lib.hid BR.out.lt
    have HL := Lib.hid L.out.size
    have HW7 := Lib.hid (Below.refl w7.heap.size w7)
    have IT7 := Lib.hid IT.out
    have IDD7 := Lib.hid IDD.out
    go_wp2_with fail
    refine (HZ.out _ IW.out).mono ?_
    rintro r w8 ⟨A8, c8, g, rfl, hm8, hr8, hg8, hb⟩
    replace BA := Lib.hid (BA.out.next hb)
    replace BB := Lib.hid (BB.out.next hb)
    replace BR := Lib.hid (BR.out.next hb)
    replace L := Lib.hid (below_next L.out hb)
    replace ID := Lib.hid (ID.out.below hb)
    replace IV := Lib.hid (IV.out.below hb)
    replace IE := Lib.hid (IE.out.below hb)
    replace IU := Lib.hid (IU.out.below hb)
    replace IDD := Lib.hid (IDD.out.below hb)
    replace IT := Lib.hid (IT.out.below hb)
    replace IW := Lib.hid (IW.out.below hb)
    replace HW7 := Lib.hid (below_next HW7.out hb)
    clear hb
    have M8 := Lib.hid hm8
    have R8 := Lib.hid (show Row64 w8 g (List.replicate N 0) from hr8)
    have hgl : g < w8.heap.size := R8.out.lt
    clear hm8 hr8 HZ
    have KB := Lib.hid (below_new w8 (.cells #[.slice A8 D2.length c8, .slice (some ⟨g, 0, none⟩) N N] 25))
    have B11 := Lib.hid (Box.new w8 (.slice A8 D2.length c8) (.slice (some ⟨g, 0, none⟩) N N))
    replace BA := Lib.hid (BA.out.next KB.out)
    replace BB := Lib.hid (BB.out.next KB.out)
    replace BR := Lib.hid (BR.out.next KB.out)
    replace L := Lib.hid (below_next L.out KB.out)
    replace ID := Lib.hid (ID.out.below KB.out)
    replace IV := Lib.hid (IV.out.below KB.out)
    replace IE := Lib.hid (IE.out.below KB.out)
    replace IU := Lib.hid (IU.out.below KB.out)
    replace IDD := Lib.hid (IDD.out.below KB.out)
    replace IT := Lib.hid (IT.out.below KB.out)
    replace IW := Lib.hid (IW.out.below KB.out)
    replace HW7 := Lib.hid (below_next HW7.out KB.out)
    replace M8 := Lib.hid (M8.out.below KB.out (Nat.le_refl _))
    replace R8 := Lib.hid (R8.out.next KB.out)
    go_upto_region 15 with (fail)
    clear KB
    generalize hW : w8.alloc (.cells #[.slice A8 D2.length c8, .slice (some ⟨g, 0, none⟩) N N] 25) = W8 at *
    clear hW
    generalize w8.heap.size = g11 at *
    obtain ⟨qB110, qB111, -, -⟩ := B11.out.all
    go_wp2_with fail
    refine (cright_yes _ _ D2 _ N _ _ (by unfold maxLen; omega) M8.out.ints' (by unfold cellB; rw [H10.out, H11.out]; simp)).mono ?_
    rintro r w9 ⟨rfl, hb⟩
    clear qB110 qB111
    replace BA := Lib.hid (BA.out.next hb)
    replace BB := Lib.hid (BB.out.next hb)
    replace BR := Lib.hid (BR.out.next hb)
    replace L := Lib.hid (below_next L.out hb)
    replace ID := Lib.hid (ID.out.below hb)
    replace IV := Lib.hid (IV.out.below hb)
    replace IE := Lib.hid (IE.out.below hb)
    replace IU := Lib.hid (IU.out.below hb)
    replace IDD := Lib.hid (IDD.out.below hb)
    replace IT := Lib.hid (IT.out.below hb)
    replace IW := Lib.hid (IW.out.below hb)
    replace HW7 := Lib.hid (below_next HW7.out hb)
    replace M8 := Lib.hid (M8.out.below hb (Nat.le_refl _))
    replace R8 := Lib.hid (R8.out.next hb)
    replace B11 := Lib.hid (B11.out.next hb)
    clear hb
    obtain ⟨qB110, qB111, -, -⟩ := B11.out.all
    obtain ⟨qBB0, qBB1, -, -⟩ := BB.out.all
    have g11b := B11.out.lt
    have HG8 := HG.out
    have hLL : w7.heap.size ≤ w9.heap.size := HW7.out.size
    have IUW := Lib.hid (fun (W : World) (hW : w9.grownBy W (some g)) => IU0.out.below (below_turned L.out hW (by have := HL.out; omega)))
    have ITW := Lib.hid (fun (W : World) (hW : w9.grownBy W (some g)) => IT7.out.below (below_turned HW7.out hW hg8))
    have ST := Lib.hid (strides_any (some ⟨bd, od, none⟩) c3 D w9.drew (by unfold maxLen; omega) (IDD.out.below ((Below.refl _ w9).drew)))
    have RD := Lib.hid (R8.out.drew)
    have GD := Lib.hid (turned_drew (turned_refl w9 (some g)))
    have N1 := Lib.hid (show g11 ≠ g by omega)
    have N2 := Lib.hid (show w.heap.size + 1 ≠ g by omega)
    have haS : a < (strB D).length := by rw [HSL.out]; omega
    have haSI : ((a : Int) : Int) < ((strB D).length : Int) := by omega
    go_upto_region 17 with (fail)
    go_cut [] (fun wx => Row64 wx g (copV u s T) ∧ w9.grownBy wx (some g))
    case first =>
      go_region_with
        (first
          | (go_at_call 44; (with_reducible refine (ST.out).mono ?_); rintro r w10 ⟨A10, c10, rfl, hi10, hb10⟩; have KS1 := Lib.hid (keep2 hb10 (show w9.drew.cell? ⟨g11, 1, none⟩ = some (.slice (some ⟨g, 0, none⟩) N N) ∧ w9.drew.cell? ⟨w.heap.size + 1, 1, none⟩ = some (.slice B' u.length c2') from ⟨qB111, qBB1⟩)); obtain ⟨b10, o10, rfl, hb10', hc10⟩ := hi10 (by omega); have s10 := hc10 a haS; rw [HST.out] at s10; have R10 := Lib.hid (RD.out.next hb10); have G10 := Lib.hid (turned_below GD.out hb10); obtain ⟨k1, k2⟩ := KS1.out; clear hi10 hb10' hc10 hb10)
          | (go_at_call 43; (with_reducible refine (layParts_all g N s B' c2' u A5 c5 T w10 HROOM.out hu64 hcu HCM.out hT64 HSM.out hN64 R10.out (fun W hW => IUW.out W (World.grownBy.trans G10.out hW)) (fun W hW => ITW.out W (World.grownBy.trans G10.out hW))).mono ?_); rintro r w11 ⟨rfl, hr11, hg11⟩; have KS2 := Lib.hid (keepG2 hg11 N1.out N2.out KS1.out); have R11 := Lib.hid hr11; have G11 := Lib.hid (World.grownBy.trans G10.out hg11); clear hr11 hg11))
      all_goals (go_wp2_with fail; go_meet; exact ⟨R11.out, G11.out⟩)
    case rest =>
      obtain ⟨hR, hG⟩ := hcut
      have RX := Lib.hid hR
      have GX := Lib.hid hG
      have LX := Lib.hid (below_turned L.out hG (by have := HL.out; omega))
      have BX := Lib.hid (B11.out.grown hG (fun e => by injection e with e; omega))
      have BRX := Lib.hid (BR.out.grown hG (fun e => by injection e with e; omega))
      have hVl : (copV u s T).length = N := HVL.out
      have HVL2 := Lib.hid hVl
      clear hR hG qB110 qB111 qBB0 qBB1 hVl
      obtain ⟨s0, s1, -, -⟩ := BX.out.all
      obtain ⟨y0, y1, y2, y3⟩ := BRX.out.all
      generalize copV u s T = VV at *
      go_wp2
      have T9 := (BRX.out.set0 (.slice A8 D2.length c8)).set1 (.slice (some ⟨g, 0, none⟩) N N)
      obtain ⟨t0, t1, _, _⟩ := T9.all
      refine bodyPost_ret (v := .tuple #[.agg #[.slice A8 D2.length c8, .slice (some ⟨g, 0, none⟩) N N], .int .i64 0]) (by simp [results, Try.results12, go_sem, t0, t1]) rfl ?_
      have m1 := mine_turned M8.out R8.out (by decide) GX.out
      have m2 := mine_block (base := g) RX.out (Nat.le_refl _) (by rw [HVL2.out]; unfold maxLen; omega)
      have hic := isCell_of (base := w.heap.size) (m1.box HG8 (.slice A8 D2.length c8) (.slice (some ⟨g, 0, none⟩) N N)) (m2.box (by omega) (.slice A8 D2.length c8) (.slice (some ⟨g, 0, none⟩) N N)) HL.out (by have := HL.out; omega)
      rw [HVL2.out] at hic
      exact ⟨_, rfl, hic, (LX.out.setCell (by simp; omega) _).setCell (by simp; omega) _⟩
end Go.Proofs.Ytfnpdflapmbnjaa.Sh
-- MoCopyE
namespace Go.Proofs.Ytfnpdflapmbnjaa.Sh
open Go.RowKit
set_option linter.unusedVariables false

set_option maxHeartbeats 8000000 in
set_option maxRecDepth 100000 in
theorem copy_e1 (A : Option Addr) (c : Nat) (d : List Int) (B : Option Addr) (c2 : Nat) (v : List Int) (A' : Option Addr) (c' : Nat) (e : List Int) (B' : Option Addr) (c2' : Nat) (u : List Int) (w : World) (id : Ints w A d) (iv : Ints w B v) (ie : Ints w A' e) (iu : Ints w B' u) (hd : d.length ≤ 100) (hv : v.length ≤ 1000) (he : e.length ≤ 100) (hu : u.length ≤ 1000) (b : Bool) (h1 : cellB d v.length = false) :
    Calls Try.prog 12 #[.agg #[.slice A d.length c, .slice B v.length c2], .agg #[.slice A' e.length c', .slice B' u.length c2'], .bool b] w (RetC w [] [] (.int .i64 1)) := by
  have H1 := Lib.hid h1
  clear h1
  obtain ⟨ba0, bb0, br0, hb0⟩ := w2_all w (.slice A d.length c) (.slice B v.length c2) (.slice A' e.length c') (.slice B' u.length c2')
  have BA := Lib.hid (ba0)
  have BB := Lib.hid (bb0)
  have BR := Lib.hid (br0)
  have L := Lib.hid (hb0)
  have ID := Lib.hid (id.below hb0)
  have IV := Lib.hid (iv.below hb0)
  have IE := Lib.hid (ie.below hb0)
  have IU := Lib.hid (iu.below hb0)
  clear ba0 bb0 br0 hb0 id iv ie iu
  go_enter Try.func12, Try.ntmps12
  go_wp2_with fail
  refine (cright_no _ _ d _ _ _ _ (by unfold maxLen; omega) ID.out H1.out).mono ?_
  rintro r w1 ⟨rfl, hb⟩
  replace BA := Lib.hid (BA.out.next hb)
  replace BB := Lib.hid (BB.out.next hb)
  replace BR := Lib.hid (BR.out.next hb)
  replace L := Lib.hid (below_next L.out hb)
  replace ID := Lib.hid (ID.out.below hb)
  replace IV := Lib.hid (IV.out.below hb)
  replace IE := Lib.hid (IE.out.below hb)
  replace IU := Lib.hid (IU.out.below hb)
  clear hb
  obtain ⟨qBR0, qBR1, fBR0, fBR1⟩ := BR.out.all
  go_wp2
  have T9 := (BR.out.set0 (.slice none 0 0)).set1 (.slice none 0 0)
  obtain ⟨t0, t1, _, _⟩ := T9.all
  refine bodyPost_ret (v := .tuple #[.agg #[.slice none 0 0, .slice none 0 0], .int .i64 1]) (by simp [results, Try.results12, go_sem, t0, t1]) rfl ?_
  exact ⟨_, rfl, IsCell.none _ _, (L.out.setCell (by simp; omega) _).setCell (by simp; omega) _⟩

set_option maxHeartbeats 8000000 in
set_option maxRecDepth 100000 in
theorem copy_e1' (A : Option Addr) (c : Nat) (d : List Int) (B : Option Addr) (c2 : Nat) (v : List Int) (A' : Option Addr) (c' : Nat) (e : List Int) (B' : Option Addr) (c2' : Nat) (u : List Int) (w : World) (id : Ints w A d) (iv : Ints w B v) (ie : Ints w A' e) (iu : Ints w B' u) (hd : d.length ≤ 100) (hv : v.length ≤ 1000) (he : e.length ≤ 100) (hu : u.length ≤ 1000) (b : Bool) (h1 : cellB d v.length = true) (h2 : cellB e u.length = false) :
    Calls Try.prog 12 #[.agg #[.slice A d.length c, .slice B v.length c2], .agg #[.slice A' e.length c', .slice B' u.length c2'], .bool b] w (RetC w [] [] (.int .i64 1)) := by
  have H1 := Lib.hid h1
  have H2 := Lib.hid h2
  clear h1 h2
  obtain ⟨ba0, bb0, br0, hb0⟩ := w2_all w (.slice A d.length c) (.slice B v.length c2) (.slice A' e.length c') (.slice B' u.length c2')
  have BA := Lib.hid (ba0)
  have BB := Lib.hid (bb0)
  have BR := Lib.hid (br0)
  have L := Lib.hid (hb0)
  have ID := Lib.hid (id.below hb0)
  have IV := Lib.hid (iv.below hb0)
  have IE := Lib.hid (ie.below hb0)
  have IU := Lib.hid (iu.below hb0)
  clear ba0 bb0 br0 hb0 id iv ie iu
  go_enter Try.func12, Try.ntmps12
  go_wp2_with fail
  refine (cright_yes _ _ d _ _ _ _ (by unfold maxLen; omega) ID.out H1.out).mono ?_
  rintro r w1 ⟨rfl, hb⟩
  replace BA := Lib.hid (BA.out.next hb)
  replace BB := Lib.hid (BB.out.next hb)
  replace BR := Lib.hid (BR.out.next hb)
  replace L := Lib.hid (below_next L.out hb)
  replace ID := Lib.hid (ID.out.below hb)
  replace IV := Lib.hid (IV.out.below hb)
  replace IE := Lib.hid (IE.out.below hb)
  replace IU := Lib.hid (IU.out.below hb)
  clear hb
  obtain ⟨qBB0, qBB1, -, -⟩ := BB.out.all
  go_wp2_with fail
  refine (cright_no _ _ e _ _ _ _ (by unfold maxLen; omega) IE.out H2.out).mono ?_
  rintro r w2 ⟨rfl, hb⟩
  clear qBB0 qBB1
  replace BA := Lib.hid (BA.out.next hb)
  replace BB := Lib.hid (BB.out.next hb)
  replace BR := Lib.hid (BR.out.next hb)
  replace L := Lib.hid (below_next L.out hb)
  replace ID := Lib.hid (ID.out.below hb)
  replace IV := Lib.hid (IV.out.below hb)
  replace IE := Lib.hid (IE.out.below hb)
  replace IU := Lib.hid (IU.out.below hb)
  clear hb
  obtain ⟨qBR0, qBR1, fBR0, fBR1⟩ := BR.out.all
  go_wp2
  have T9 := (BR.out.set0 (.slice none 0 0)).set1 (.slice none 0 0)
  obtain ⟨t0, t1, _, _⟩ := T9.all
  refine bodyPost_ret (v := .tuple #[.agg #[.slice none 0 0, .slice none 0 0], .int .i64 1]) (by simp [results, Try.results12, go_sem, t0, t1]) rfl ?_
  exact ⟨_, rfl, IsCell.none _ _, (L.out.setCell (by simp; omega) _).setCell (by simp; omega) _⟩

set_option maxHeartbeats 8000000 in
set_option maxRecDepth 100000 in
theorem copy_e2 (A : Option Addr) (c : Nat) (d : List Int) (B : Option Addr) (c2 : Nat) (v : List Int) (A' : Option Addr) (c' : Nat) (e : List Int) (B' : Option Addr) (c2' : Nat) (u : List Int) (w : World) (id : Ints w A d) (iv : Ints w B v) (ie : Ints w A' e) (iu : Ints w B' u) (hd : d.length ≤ 100) (hv : v.length ≤ 1000) (he : e.length ≤ 100) (hu : u.length ≤ 1000) (b : Bool) (h1 : cellB d v.length = true) (h2 : cellB e u.length = true) (h3 : 1 < d.length) :
    Calls Try.prog 12 #[.agg #[.slice A d.length c, .slice B v.length c2], .agg #[.slice A' e.length c', .slice B' u.length c2'], .bool b] w (RetC w [] [] (.int .i64 2)) := by
  have H1 := Lib.hid h1
  have H2 := Lib.hid h2
  clear h1 h2
  obtain ⟨ba0, bb0, br0, hb0⟩ := w2_all w (.slice A d.length c) (.slice B v.length c2) (.slice A' e.length c') (.slice B' u.length c2')
  have BA := Lib.hid (ba0)
  have BB := Lib.hid (bb0)
  have BR := Lib.hid (br0)
  have L := Lib.hid (hb0)
  have ID := Lib.hid (id.below hb0)
  have IV := Lib.hid (iv.below hb0)
  have IE := Lib.hid (ie.below hb0)
  have IU := Lib.hid (iu.below hb0)
  clear ba0 bb0 br0 hb0 id iv ie iu
  go_enter Try.func12, Try.ntmps12
  go_wp2_with fail
  refine (cright_yes _ _ d _ _ _ _ (by unfold maxLen; omega) ID.out H1.out).mono ?_
  rintro r w1 ⟨rfl, hb⟩
  replace BA := Lib.hid (BA.out.next hb)
  replace BB := Lib.hid (BB.out.next hb)
  replace BR := Lib.hid (BR.out.next hb)
  replace L := Lib.hid (below_next L.out hb)
  replace ID := Lib.hid (ID.out.below hb)
  replace IV := Lib.hid (IV.out.below hb)
  replace IE := Lib.hid (IE.out.below hb)
  replace IU := Lib.hid (IU.out.below hb)
  clear hb
  obtain ⟨qBB0, qBB1, -, -⟩ := BB.out.all
  go_wp2_with fail
  refine (cright_yes _ _ e _ _ _ _ (by unfold maxLen; omega) IE.out H2.out).mono ?_
  rintro r w2 ⟨rfl, hb⟩
  clear qBB0 qBB1
  replace BA := Lib.hid (BA.out.next hb)
  replace BB := Lib.hid (BB.out.next hb)
  replace BR := Lib.hid (BR.out.next hb)
  replace L := Lib.hid (below_next L.out hb)
  replace ID := Lib.hid (ID.out.below hb)
  replace IV := Lib.hid (IV.out.below hb)
  replace IE := Lib.hid (IE.out.below hb)
  replace IU := Lib.hid (IU.out.below hb)
  clear hb
  obtain ⟨qBA0, qBA1, fBA0, fBA1⟩ := BA.out.all
  obtain ⟨qBR0, qBR1, fBR0, fBR1⟩ := BR.out.all
  go_wp2
  have T9 := (BR.out.set0 (.slice none 0 0)).set1 (.slice none 0 0)
  obtain ⟨t0, t1, _, _⟩ := T9.all
  refine bodyPost_ret (v := .tuple #[.agg #[.slice none 0 0, .slice none 0 0], .int .i64 2]) (by simp [results, Try.results12, go_sem, t0, t1]) rfl ?_
  exact ⟨_, rfl, IsCell.none _ _, (L.out.setCell (by simp; omega) _).setCell (by simp; omega) _⟩

set_option maxHeartbeats 8000000 in
set_option maxRecDepth 100000 in
theorem copy_e3f (A : Option Addr) (c : Nat) (d : List Int) (B : Option Addr) (c2 : Nat) (v : List Int) (A' : Option Addr) (c' : Nat) (e : List Int) (B' : Option Addr) (c2' : Nat) (u : List Int) (w : World) (id : Ints w A d) (iv : Ints w B v) (ie : Ints w A' e) (iu : Ints w B' u) (hd : d.length ≤ 100) (hv : v.length ≤ 1000) (he : e.length ≤ 100) (hu : u.length ≤ 1000) (a P : Nat) (D : List Int) (h1 : cellB d v.length = true) (h2 : cellB e u.length = true) (hd1 : d.length ≤ 1) (hD : listedL e = D) (haL : a < D.length) (hP : D.getD a 0 = (P : Int)) (hP64 : P ≤ 64) (hax : a = 0) (p : Int) (hlen : d = [p]) (hne : ¬ p = (P : Int)) :
    Calls Try.prog 12 #[.agg #[.slice A d.length c, .slice B v.length c2], .agg #[.slice A' e.length c', .slice B' u.length c2'], .bool true] w (RetC w [] [] (.int .i64 3)) := by
  obtain ⟨hD3, hu64⟩ := cellB_small h2
  have hD30 : D.length ≤ 3 := by rw [← hD]; exact (rightB_all (listed_right (cellB_parts h2).1)).1
  have H1 := Lib.hid h1
  have H2 := Lib.hid h2
  have H4 := Lib.hid hD
  have H6 := Lib.hid hP
  have HHL := Lib.hid hlen
  clear h1 h2 hD hP hlen
  obtain ⟨ba0, bb0, br0, hb0⟩ := w2_all w (.slice A d.length c) (.slice B v.length c2) (.slice A' e.length c') (.slice B' u.length c2')
  have BA := Lib.hid (ba0)
  have BB := Lib.hid (bb0)
  have BR := Lib.hid (br0)
  have L := Lib.hid (hb0)
  have ID := Lib.hid (id.below hb0)
  have IV := Lib.hid (iv.below hb0)
  have IE := Lib.hid (ie.below hb0)
  have IU := Lib.hid (iu.below hb0)
  clear ba0 bb0 br0 hb0 id iv ie iu
  go_enter Try.func12, Try.ntmps12
  go_wp2_with fail
  refine (cright_yes _ _ d _ _ _ _ (by unfold maxLen; omega) ID.out H1.out).mono ?_
  rintro r w1 ⟨rfl, hb⟩
  replace BA := Lib.hid (BA.out.next hb)
  replace BB := Lib.hid (BB.out.next hb)
  replace BR := Lib.hid (BR.out.next hb)
  replace L := Lib.hid (below_next L.out hb)
  replace ID := Lib.hid (ID.out.below hb)
  replace IV := Lib.hid (IV.out.below hb)
  replace IE := Lib.hid (IE.out.below hb)
  replace IU := Lib.hid (IU.out.below hb)
  clear hb
  obtain ⟨qBB0, qBB1, -, -⟩ := BB.out.all
  go_wp2_with fail
  refine (cright_yes _ _ e _ _ _ _ (by unfold maxLen; omega) IE.out H2.out).mono ?_
  rintro r w2 ⟨rfl, hb⟩
  clear qBB0 qBB1
  replace BA := Lib.hid (BA.out.next hb)
  replace BB := Lib.hid (BB.out.next hb)
  replace BR := Lib.hid (BR.out.next hb)
  replace L := Lib.hid (below_next L.out hb)
  replace ID := Lib.hid (ID.out.below hb)
  replace IV := Lib.hid (IV.out.below hb)
  replace IE := Lib.hid (IE.out.below hb)
  replace IU := Lib.hid (IU.out.below hb)
  clear hb
  obtain ⟨qBA0, qBA1, -, -⟩ := BA.out.all
  obtain ⟨qBB0, qBB1, -, -⟩ := BB.out.all
  go_wp2_with fail
  refine (listed_any _ _ e _ (by omega) IE.out).mono ?_
  rintro r w3 ⟨A3, c3, rfl, hi, hb⟩
  clear qBA0 qBA1 qBB0 qBB1
  replace BA := Lib.hid (BA.out.next hb)
  replace BB := Lib.hid (BB.out.next hb)
  replace BR := Lib.hid (BR.out.next hb)
  replace L := Lib.hid (below_next L.out hb)
  replace ID := Lib.hid (ID.out.below hb)
  replace IV := Lib.hid (IV.out.below hb)
  replace IE := Lib.hid (IE.out.below hb)
  replace IU := Lib.hid (IU.out.below hb)
  clear hb
  rw [H4.out] at hi
  rw [H4.out]
  have IDD := Lib.hid (hi)
  clear hi
  subst hax
  have ha0 : (0 : Int) < (D.length : Int) := by omega
  obtain ⟨qBA0, qBA1, -, -⟩ := BA.out.all
  go_upto_region 9 with (fail)
  obtain ⟨bd, od, rfl, hbd, hcd⟩ := IDD.out (by omega)
  have hda := hcd 0 (by omega)
  rw [H6.out] at hda
  clear hcd
  rw [Nat.add_zero] at hda
  obtain ⟨bn, on, rfl, hbn, hcn⟩ := ID.out (by rw [HHL.out]; simp)
  have hdn : w3.cell? ⟨bn, on, none⟩ = some (.int .i64 p) := by have := hcn 0 (by rw [HHL.out]; simp); rw [HHL.out] at this; simpa using this
  have hz : ((d.length : Int) == 1) = true := by rw [HHL.out]; rfl
  have z0 : (0 : Int) < (d.length : Int) := by rw [HHL.out]; simp
  have hne2 : (p != (P : Int)) = true := by simpa using hne
  clear hcn hne
  go_quiet (fail)
  have KQ := Lib.hid (below_drewN (Below.refl w3.heap.size w3) nq)
  clear qBA0 qBA1
  replace BA := Lib.hid (BA.out.next KQ.out)
  replace BB := Lib.hid (BB.out.next KQ.out)
  replace BR := Lib.hid (BR.out.next KQ.out)
  replace L := Lib.hid (below_next L.out KQ.out)
  replace ID := Lib.hid (ID.out.below KQ.out)
  replace IV := Lib.hid (IV.out.below KQ.out)
  replace IE := Lib.hid (IE.out.below KQ.out)
  replace IU := Lib.hid (IU.out.below KQ.out)
  replace IDD := Lib.hid (IDD.out.below KQ.out)
  obtain ⟨qBR0, qBR1, fBR0, fBR1⟩ := BR.out.all
  go_wp2
  have T9 := (BR.out.set0 (.slice none 0 0)).set1 (.slice none 0 0)
  obtain ⟨t0, t1, _, _⟩ := T9.all
  refine bodyPost_ret (v := .tuple #[.agg #[.slice none 0 0, .slice none 0 0], .int .i64 3]) (by simp [results, Try.results12, go_sem, t0, t1]) rfl ?_
  exact ⟨_, rfl, IsCell.none _ _, (L.out.setCell (by simp; omega) _).setCell (by simp; omega) _⟩

set_option maxHeartbeats 8000000 in
set_option maxRecDepth 100000 in
theorem copy_e5f (A : Option Addr) (c : Nat) (d : List Int) (B : Option Addr) (c2 : Nat) (v : List Int) (A' : Option Addr) (c' : Nat) (e : List Int) (B' : Option Addr) (c2' : Nat) (u : List Int) (w : World) (id : Ints w A d) (iv : Ints w B v) (ie : Ints w A' e) (iu : Ints w B' u) (hd : d.length ≤ 100) (hv : v.length ≤ 1000) (he : e.length ≤ 100) (hu : u.length ≤ 1000) (a P : Nat) (D : List Int) (h1 : cellB d v.length = true) (h2 : cellB e u.length = true) (hd1 : d.length ≤ 1) (hD : listedL e = D) (haL : a < D.length) (hP : D.getD a 0 = (P : Int)) (hP64 : P ≤ 64) (hax : a = 0) (hlen : d.length = 0 ∨ d = [(P : Int)]) (hneg : negB v = true) :
    Calls Try.prog 12 #[.agg #[.slice A d.length c, .slice B v.length c2], .agg #[.slice A' e.length c', .slice B' u.length c2'], .bool true] w (RetC w [] [] (.int .i64 5)) := by
  obtain ⟨hD3, hu64⟩ := cellB_small h2
  have hD30 : D.length ≤ 3 := by rw [← hD]; exact (rightB_all (listed_right (cellB_parts h2).1)).1
  have H1 := Lib.hid h1
  have H2 := Lib.hid h2
  have H4 := Lib.hid hD
  have H6 := Lib.hid hP
  have HHL := Lib.hid hlen
  have H8 := Lib.hid hneg
  clear h1 h2 hD hP hlen hneg
  obtain ⟨ba0, bb0, br0, hb0⟩ := w2_all w (.slice A d.length c) (.slice B v.length c2) (.slice A' e.length c') (.slice B' u.length c2')
  have BA := Lib.hid (ba0)
  have BB := Lib.hid (bb0)
  have BR := Lib.hid (br0)
  have L := Lib.hid (hb0)
  have ID := Lib.hid (id.below hb0)
  have IV := Lib.hid (iv.below hb0)
  have IE := Lib.hid (ie.below hb0)
  have IU := Lib.hid (iu.below hb0)
  clear ba0 bb0 br0 hb0 id iv ie iu
  go_enter Try.func12, Try.ntmps12
  go_wp2_with fail
  refine (cright_yes _ _ d _ _ _ _ (by unfold maxLen; omega) ID.out H1.out).mono ?_
  rintro r w1 ⟨rfl, hb⟩
  replace BA := Lib.hid (BA.out.next hb)
  replace BB := Lib.hid (BB.out.next hb)
  replace BR := Lib.hid (BR.out.next hb)
  replace L := Lib.hid (below_next L.out hb)
  replace ID := Lib.hid (ID.out.below hb)
  replace IV := Lib.hid (IV.out.below hb)
  replace IE := Lib.hid (IE.out.below hb)
  replace IU := Lib.hid (IU.out.below hb)
  clear hb
  obtain ⟨qBB0, qBB1, -, -⟩ := BB.out.all
  go_wp2_with fail
  refine (cright_yes _ _ e _ _ _ _ (by unfold maxLen; omega) IE.out H2.out).mono ?_
  rintro r w2 ⟨rfl, hb⟩
  clear qBB0 qBB1
  replace BA := Lib.hid (BA.out.next hb)
  replace BB := Lib.hid (BB.out.next hb)
  replace BR := Lib.hid (BR.out.next hb)
  replace L := Lib.hid (below_next L.out hb)
  replace ID := Lib.hid (ID.out.below hb)
  replace IV := Lib.hid (IV.out.below hb)
  replace IE := Lib.hid (IE.out.below hb)
  replace IU := Lib.hid (IU.out.below hb)
  clear hb
  obtain ⟨qBA0, qBA1, -, -⟩ := BA.out.all
  obtain ⟨qBB0, qBB1, -, -⟩ := BB.out.all
  go_wp2_with fail
  refine (listed_any _ _ e _ (by omega) IE.out).mono ?_
  rintro r w3 ⟨A3, c3, rfl, hi, hb⟩
  clear qBA0 qBA1 qBB0 qBB1
  replace BA := Lib.hid (BA.out.next hb)
  replace BB := Lib.hid (BB.out.next hb)
  replace BR := Lib.hid (BR.out.next hb)
  replace L := Lib.hid (below_next L.out hb)
  replace ID := Lib.hid (ID.out.below hb)
  replace IV := Lib.hid (IV.out.below hb)
  replace IE := Lib.hid (IE.out.below hb)
  replace IU := Lib.hid (IU.out.below hb)
  clear hb
  rw [H4.out] at hi
  rw [H4.out]
  have IDD := Lib.hid (hi)
  clear hi
  subst hax
  have ha0 : (0 : Int) < (D.length : Int) := by omega
  obtain ⟨qBA0, qBA1, -, -⟩ := BA.out.all
  go_upto_region 9 with (fail)
  obtain ⟨bd, od, rfl, hbd, hcd⟩ := IDD.out (by omega)
  have hda := hcd 0 (by omega)
  rw [H6.out] at hda
  clear hcd
  rw [Nat.add_zero] at hda
  go_cut [47] (fun s47 wx => s47 = .bool false ∧ ∃ n, wx = w3.drewN n)
  case first =>
    rcases HHL.out with h0 | h0
    · have hz : ((d.length : Int) == 1) = false := by simp [h0]
      clear h0
      go_quiet (fail)
      go_wp2_with fail
      go_meet
      exact ⟨rfl, _, rfl⟩
    · have hz : ((d.length : Int) == 1) = true := by rw [h0]; rfl
      obtain ⟨bn, on, rfl, hbn, hcn⟩ := ID.out (by rw [h0]; simp)
      have hdn : w3.cell? ⟨bn, on, none⟩ = some (.int .i64 (P : Int)) := by have := hcn 0 (by rw [h0]; simp); rw [h0] at this; simpa using this
      have z0 : (0 : Int) < (d.length : Int) := by rw [h0]; simp
      clear h0 hcn
      go_quiet (fail)
      go_wp2_with fail
      go_meet
      exact ⟨rfl, _, rfl⟩
  case rest =>
    obtain ⟨rfl, nq, rfl⟩ := hcut
    clear qBA0 qBA1
    have KQ := Lib.hid (below_drewN (Below.refl w3.heap.size w3) nq)
    replace BA := Lib.hid (BA.out.next KQ.out)
    replace BB := Lib.hid (BB.out.next KQ.out)
    replace BR := Lib.hid (BR.out.next KQ.out)
    replace L := Lib.hid (below_next L.out KQ.out)
    replace ID := Lib.hid (ID.out.below KQ.out)
    replace IV := Lib.hid (IV.out.below KQ.out)
    replace IE := Lib.hid (IE.out.below KQ.out)
    replace IU := Lib.hid (IU.out.below KQ.out)
    replace IDD := Lib.hid (IDD.out.below KQ.out)
    clear KQ
    obtain ⟨qBA0, qBA1, -, -⟩ := BA.out.all
    go_wp2_with fail
    refine (contains_b _ _ v true _ H8.out (by omega) IV.out).mono ?_
    rintro r w4 ⟨rfl, hb⟩
    clear qBA0 qBA1
    replace BA := Lib.hid (BA.out.next hb)
    replace BB := Lib.hid (BB.out.next hb)
    replace BR := Lib.hid (BR.out.next hb)
    replace L := Lib.hid (below_next L.out hb)
    replace ID := Lib.hid (ID.out.below hb)
    replace IV := Lib.hid (IV.out.below hb)
    replace IE := Lib.hid (IE.out.below hb)
    replace IU := Lib.hid (IU.out.below hb)
    replace IDD := Lib.hid (IDD.out.below hb)
    clear hb
    obtain ⟨qBR0, qBR1, fBR0, fBR1⟩ := BR.out.all
    go_wp2
    have T9 := (BR.out.set0 (.slice none 0 0)).set1 (.slice none 0 0)
    obtain ⟨t0, t1, _, _⟩ := T9.all
    refine bodyPost_ret (v := .tuple #[.agg #[.slice none 0 0, .slice none 0 0], .int .i64 5]) (by simp [results, Try.results12, go_sem, t0, t1]) rfl ?_
    exact ⟨_, rfl, IsCell.none _ _, (L.out.setCell (by simp; omega) _).setCell (by simp; omega) _⟩

set_option maxHeartbeats 8000000 in
set_option maxRecDepth 100000 in
theorem copy_e4f (A : Option Addr) (c : Nat) (d : List Int) (B : Option Addr) (c2 : Nat) (v : List Int) (A' : Option Addr) (c' : Nat) (e : List Int) (B' : Option Addr) (c2' : Nat) (u : List Int) (w : World) (id : Ints w A d) (iv : Ints w B v) (ie : Ints w A' e) (iu : Ints w B' u) (hd : d.length ≤ 100) (hv : v.length ≤ 1000) (he : e.length ≤ 100) (hu : u.length ≤ 1000) (a P : Nat) (D : List Int) (h1 : cellB d v.length = true) (h2 : cellB e u.length = true) (hd1 : d.length ≤ 1) (hD : listedL e = D) (haL : a < D.length) (hP : D.getD a 0 = (P : Int)) (hP64 : P ≤ 64) (hax : a = 0) (hlen : d.length = 0 ∨ d = [(P : Int)]) (hneg : negB v = false) (T : List Int) (S : Int) (hT : timesL d v P = T) (hTl : T.length ≤ 64) (hsm : SmallT T) (hS : sumL T = S) (hR : rightB (withL D (a : Int) S) = false) (hv1 : d.length = 0 → v.length = 1) :
    Calls Try.prog 12 #[.agg #[.slice A d.length c, .slice B v.length c2], .agg #[.slice A' e.length c', .slice B' u.length c2'], .bool true] w (RetC w [] [] (.int .i64 4)) := by
  obtain ⟨hD3, hu64⟩ := cellB_small h2
  have hD30 : D.length ≤ 3 := by rw [← hD]; exact (rightB_all (listed_right (cellB_parts h2).1)).1
  have H1 := Lib.hid h1
  have H2 := Lib.hid h2
  have H4 := Lib.hid hD
  have H6 := Lib.hid hP
  have HHL := Lib.hid hlen
  have H8 := Lib.hid hneg
  have H9 := Lib.hid hT
  have HSM := Lib.hid hsm
  have HSS := Lib.hid hS
  have HV1 := Lib.hid hv1
  obtain ⟨D2, hD2⟩ : ∃ D2, withL D (a : Int) S = D2 := ⟨_, rfl⟩
  have hD2l : D2.length = D.length := by rw [← hD2, withL_len]
  rw [hD2] at hR
  have HD2 := Lib.hid hD2
  have H10 := Lib.hid hR
  have hD2m : D2.length ≤ 100 := by omega
  clear hT hsm hS hv1 hD2 hR hD2l
  clear h1 h2 hD hP hlen hneg
  obtain ⟨ba0, bb0, br0, hb0⟩ := w2_all w (.slice A d.length c) (.slice B v.length c2) (.slice A' e.length c') (.slice B' u.length c2')
  have BA := Lib.hid (ba0)
  have BB := Lib.hid (bb0)
  have BR := Lib.hid (br0)
  have L := Lib.hid (hb0)
  have ID := Lib.hid (id.below hb0)
  have IV := Lib.hid (iv.below hb0)
  have IE := Lib.hid (ie.below hb0)
  have IU := Lib.hid (iu.below hb0)
  clear ba0 bb0 br0 hb0 id iv ie iu
  go_enter Try.func12, Try.ntmps12
  go_wp2_with fail
  refine (cright_yes _ _ d _ _ _ _ (by unfold maxLen; omega) ID.out H1.out).mono ?_
  rintro r w1 ⟨rfl, hb⟩
  replace BA := Lib.hid (BA.out.next hb)
  replace BB := Lib.hid (BB.out.next hb)
  replace BR := Lib.hid (BR.out.next hb)
  replace L := Lib.hid (below_next L.out hb)
  replace ID := Lib.hid (ID.out.below hb)
  replace IV := Lib.hid (IV.out.below hb)
  replace IE := Lib.hid (IE.out.below hb)
  replace IU := Lib.hid (IU.out.below hb)
  clear hb
  obtain ⟨qBB0, qBB1, -, -⟩ := BB.out.all
  go_wp2_with fail
  refine (cright_yes _ _ e _ _ _ _ (by unfold maxLen; omega) IE.out H2.out).mono ?_
  rintro r w2 ⟨rfl, hb⟩
  clear qBB0 qBB1
  replace BA := Lib.hid (BA.out.next hb)
  replace BB := Lib.hid (BB.out.next hb)
  replace BR := Lib.hid (BR.out.next hb)
  replace L := Lib.hid (below_next L.out hb)
  replace ID := Lib.hid (ID.out.below hb)
  replace IV := Lib.hid (IV.out.below hb)
  replace IE := Lib.hid (IE.out.below hb)
  replace IU := Lib.hid (IU.out.below hb)
  clear hb
  obtain ⟨qBA0, qBA1, -, -⟩ := BA.out.all
  obtain ⟨qBB0, qBB1, -, -⟩ := BB.out.all
  go_wp2_with fail
  refine (listed_any _ _ e _ (by omega) IE.out).mono ?_
  rintro r w3 ⟨A3, c3, rfl, hi, hb⟩
  clear qBA0 qBA1 qBB0 qBB1
  replace BA := Lib.hid (BA.out.next hb)
  replace BB := Lib.hid (BB.out.next hb)
  replace BR := Lib.hid (BR.out.next hb)
  replace L := Lib.hid (below_next L.out hb)
  replace ID := Lib.hid (ID.out.below hb)
  replace IV := Lib.hid (IV.out.below hb)
  replace IE := Lib.hid (IE.out.below hb)
  replace IU := Lib.hid (IU.out.below hb)
  clear hb
  rw [H4.out] at hi
  rw [H4.out]
  have IDD := Lib.hid (hi)
  clear hi
  subst hax
  have ha0 : (0 : Int) < (D.length : Int) := by omega
  obtain ⟨qBA0, qBA1, -, -⟩ := BA.out.all
  go_upto_region 9 with (fail)
  obtain ⟨bd, od, rfl, hbd, hcd⟩ := IDD.out (by omega)
  have hda := hcd 0 (by omega)
  rw [H6.out] at hda
  clear hcd
  rw [Nat.add_zero] at hda
  go_cut [47] (fun s47 wx => s47 = .bool false ∧ ∃ n, wx = w3.drewN n)
  case first =>
    rcases HHL.out with h0 | h0
    · have hz : ((d.length : Int) == 1) = false := by simp [h0]
      clear h0
      go_quiet (fail)
      go_wp2_with fail
      go_meet
      exact ⟨rfl, _, rfl⟩
    · have hz : ((d.length : Int) == 1) = true := by rw [h0]; rfl
      obtain ⟨bn, on, rfl, hbn, hcn⟩ := ID.out (by rw [h0]; simp)
      have hdn : w3.cell? ⟨bn, on, none⟩ = some (.int .i64 (P : Int)) := by have := hcn 0 (by rw [h0]; simp); rw [h0] at this; simpa using this
      have z0 : (0 : Int) < (d.length : Int) := by rw [h0]; simp
      clear h0 hcn
      go_quiet (fail)
      go_wp2_with fail
      go_meet
      exact ⟨rfl, _, rfl⟩
  case rest =>
    obtain ⟨rfl, nq, rfl⟩ := hcut
    clear qBA0 qBA1
    have KQ := Lib.hid (below_drewN (Below.refl w3.heap.size w3) nq)
    replace BA := Lib.hid (BA.out.next KQ.out)
    replace BB := Lib.hid (BB.out.next KQ.out)
    replace BR := Lib.hid (BR.out.next KQ.out)
    replace L := Lib.hid (below_next L.out KQ.out)
    replace ID := Lib.hid (ID.out.below KQ.out)
    replace IV := Lib.hid (IV.out.below KQ.out)
    replace IE := Lib.hid (IE.out.below KQ.out)
    replace IU := Lib.hid (IU.out.below KQ.out)
    replace IDD := Lib.hid (IDD.out.below KQ.out)
    clear KQ
    obtain ⟨qBA0, qBA1, -, -⟩ := BA.out.all
    go_wp2_with fail
    refine (contains_b _ _ v false _ H8.out (by omega) IV.out).mono ?_
    rintro r w4 ⟨rfl, hb⟩
    clear qBA0 qBA1
    replace BA := Lib.hid (BA.out.next hb)
    replace BB := Lib.hid (BB.out.next hb)
    replace BR := Lib.hid (BR.out.next hb)
    replace L := Lib.hid (below_next L.out hb)
    replace ID := Lib.hid (ID.out.below hb)
    replace IV := Lib.hid (IV.out.below hb)
    replace IE := Lib.hid (IE.out.below hb)
    replace IU := Lib.hid (IU.out.below hb)
    replace IDD := Lib.hid (IDD.out.below hb)
    clear hb
    obtain ⟨bd2, od2, e2, hbd2, hcd2⟩ := IDD.out (by omega)
    injection e2 with e2
    injection e2 with e21 e22
    subst e21 e22
    have hda2 := hcd2 0 (by omega)
    rw [H6.out] at hda2
    clear hcd2 hda
    rw [Nat.add_zero] at hda2
    clear hbd hbd2
    obtain ⟨qBA0, qBA1, -, -⟩ := BA.out.all
    have OF := Lib.hid (often_any A c d B c2 v P w4.drew (by omega) (by omega) (IV.out.below ((Below.refl _ w4).drew)) hP64 HV1.out)
    have WD := Lib.hid ((Below.refl w4.heap.size w4).drew)
    go_upto_region 13 with (fail)
    go_region_held3 (fun w' => w'.cell? ⟨w.heap.size, 0, none⟩ = some (.slice A d.length c) ∧ w'.cell? ⟨w.heap.size, 1, none⟩ = some (.slice B v.length c2) ∧ w'.cell? ⟨bd, od, none⟩ = some (.int .i64 (P : Int)))
      (first
        | go_keep
        | with_reducible exact keep3' hb KK.out)
      (first
        | (go_at_call 39; (with_reducible refine (OF.out).mono ?_); rintro r w5 ⟨A5, c5, rfl, hi, hb⟩; have KK := Lib.hid (show w4.drew.cell? ⟨w.heap.size, 0, none⟩ = some (.slice A d.length c) ∧ w4.drew.cell? ⟨w.heap.size, 1, none⟩ = some (.slice B v.length c2) ∧ w4.drew.cell? ⟨bd, od, none⟩ = some (.int .i64 (P : Int)) from ⟨qBA0, qBA1, hda2⟩)))
    clear qBA0 qBA1
    have HB5 := Lib.hid (below_next WD.out hb)
    clear hb
    replace BA := Lib.hid (BA.out.next HB5.out)
    replace BB := Lib.hid (BB.out.next HB5.out)
    replace BR := Lib.hid (BR.out.next HB5.out)
    replace L := Lib.hid (below_next L.out HB5.out)
    replace ID := Lib.hid (ID.out.below HB5.out)
    replace IV := Lib.hid (IV.out.below HB5.out)
    replace IE := Lib.hid (IE.out.below HB5.out)
    replace IU := Lib.hid (IU.out.below HB5.out)
    replace IDD := Lib.hid (IDD.out.below HB5.out)
    rw [H9.out] at hi
    rw [H9.out]
    have IT := Lib.hid (hi)
    clear hi hda2 KK OF WD HB5
    go_wp2_with fail
    refine (total_b _ _ T S _ HSS.out (by omega) IT.out HSM.out).mono ?_
    rintro r w6 ⟨rfl, hb⟩
    replace BA := Lib.hid (BA.out.next hb)
    replace BB := Lib.hid (BB.out.next hb)
    replace BR := Lib.hid (BR.out.next hb)
    replace L := Lib.hid (below_next L.out hb)
    replace ID := Lib.hid (ID.out.below hb)
    replace IV := Lib.hid (IV.out.below hb)
    replace IE := Lib.hid (IE.out.below hb)
    replace IU := Lib.hid (IU.out.below hb)
    replace IDD := Lib.hid (IDD.out.below hb)
    replace IT := Lib.hid (IT.out.below hb)
    clear hb
    go_wp2_with fail
    refine (with_any _ _ D 0 S _ (by omega) IDD.out).mono ?_
    rintro r w7 ⟨A7, c7, rfl, hi, hb⟩
    replace BA := Lib.hid (BA.out.next hb)
    replace BB := Lib.hid (BB.out.next hb)
    replace BR := Lib.hid (BR.out.next hb)
    replace L := Lib.hid (below_next L.out hb)
    replace ID := Lib.hid (ID.out.below hb)
    replace IV := Lib.hid (IV.out.below hb)
    replace IE := Lib.hid (IE.out.below hb)
    replace IU := Lib.hid (IU.out.below hb)
    replace IDD := Lib.hid (IDD.out.below hb)
    replace IT := Lib.hid (IT.out.below hb)
    clear hb
    have IW := Lib.hid (hi)
    clear hi
    have hD2' : withL D 0 S = D2 := HD2.out
    rw [hD2'] at IW
    rw [hD2']
    clear hD2' HD2
    have hzz := fun W iW => zero_any A7 c7 D2 W hD2m iW
    rw [show zeroD D2 = [] by unfold zeroD; rw [H10.out]; rfl, show zeroV D2 = [] by unfold zeroV sizeI; rw [H10.out]; rfl] at hzz
    have HZ := Lib.hid hzz
    clear hzz
    go_wp2_with fail
    refine (HZ.out _ IW.out).mono ?_
    rintro r w8 ⟨x, rfl, ⟨A8, c8, B8, e8, rfl, j1, j2, -⟩, hb⟩
    replace BA := Lib.hid (BA.out.next hb)
    replace BB := Lib.hid (BB.out.next hb)
    replace BR := Lib.hid (BR.out.next hb)
    replace L := Lib.hid (below_next L.out hb)
    replace ID := Lib.hid (ID.out.below hb)
    replace IV := Lib.hid (IV.out.below hb)
    replace IE := Lib.hid (IE.out.below hb)
    replace IU := Lib.hid (IU.out.below hb)
    replace IDD := Lib.hid (IDD.out.below hb)
    replace IT := Lib.hid (IT.out.below hb)
    replace IW := Lib.hid (IW.out.below hb)
    clear hb
    clear j1 j2
    have KB := Lib.hid (below_new w8 (.cells #[.slice A8 0 c8, .slice B8 0 e8] 25))
    have B11 := Lib.hid (Box.new w8 (.slice A8 0 c8) (.slice B8 0 e8))
    replace BA := Lib.hid (BA.out.next KB.out)
    replace BB := Lib.hid (BB.out.next KB.out)
    replace BR := Lib.hid (BR.out.next KB.out)
    replace L := Lib.hid (below_next L.out KB.out)
    replace ID := Lib.hid (ID.out.below KB.out)
    replace IV := Lib.hid (IV.out.below KB.out)
    replace IE := Lib.hid (IE.out.below KB.out)
    replace IU := Lib.hid (IU.out.below KB.out)
    replace IDD := Lib.hid (IDD.out.below KB.out)
    replace IT := Lib.hid (IT.out.below KB.out)
    replace IW := Lib.hid (IW.out.below KB.out)
    go_upto_region 15 with (fail)
    clear KB
    generalize hW : w8.alloc (.cells #[.slice A8 0 c8, .slice B8 0 e8] 25) = W8 at *
    clear hW
    generalize w8.heap.size = g11 at *
    obtain ⟨qB110, qB111, -, -⟩ := B11.out.all
    go_wp2_with fail
    refine (cright_no _ _ [] _ 0 _ _ (by simp) (fun h => absurd h (by simp)) (by decide)).mono ?_
    rintro r w9 ⟨rfl, hb⟩
    clear qB110 qB111
    replace BA := Lib.hid (BA.out.next hb)
    replace BB := Lib.hid (BB.out.next hb)
    replace BR := Lib.hid (BR.out.next hb)
    replace L := Lib.hid (below_next L.out hb)
    replace ID := Lib.hid (ID.out.below hb)
    replace IV := Lib.hid (IV.out.below hb)
    replace IE := Lib.hid (IE.out.below hb)
    replace IU := Lib.hid (IU.out.below hb)
    replace IDD := Lib.hid (IDD.out.below hb)
    replace IT := Lib.hid (IT.out.below hb)
    replace IW := Lib.hid (IW.out.below hb)
    replace B11 := Lib.hid (B11.out.next hb)
    clear hb
    obtain ⟨qBR0, qBR1, fBR0, fBR1⟩ := BR.out.all
    go_wp2
    have T9 := (BR.out.set0 (.slice none 0 0)).set1 (.slice none 0 0)
    obtain ⟨t0, t1, _, _⟩ := T9.all
    refine bodyPost_ret (v := .tuple #[.agg #[.slice none 0 0, .slice none 0 0], .int .i64 4]) (by simp [results, Try.results12, go_sem, t0, t1]) rfl ?_
    exact ⟨_, rfl, IsCell.none _ _, (L.out.setCell (by simp; omega) _).setCell (by simp; omega) _⟩

set_option maxHeartbeats 8000000 in
set_option maxRecDepth 100000 in
theorem copy_e3l (A : Option Addr) (c : Nat) (d : List Int) (B : Option Addr) (c2 : Nat) (v : List Int) (A' : Option Addr) (c' : Nat) (e : List Int) (B' : Option Addr) (c2' : Nat) (u : List Int) (w : World) (id : Ints w A d) (iv : Ints w B v) (ie : Ints w A' e) (iu : Ints w B' u) (hd : d.length ≤ 100) (hv : v.length ≤ 1000) (he : e.length ≤ 100) (hu : u.length ≤ 1000) (a P : Nat) (D : List Int) (h1 : cellB d v.length = true) (h2 : cellB e u.length = true) (hd1 : d.length ≤ 1) (hD : listedL e = D) (haL : a < D.length) (hP : D.getD a 0 = (P : Int)) (hP64 : P ≤ 64) (hax : a + 1 = D.length) (p : Int) (hlen : d = [p]) (hne : ¬ p = (P : Int)) :
    Calls Try.prog 12 #[.agg #[.slice A d.length c, .slice B v.length c2], .agg #[.slice A' e.length c', .slice B' u.length c2'], .bool false] w (RetC w [] [] (.int .i64 3)) := by
  obtain ⟨hD3, hu64⟩ := cellB_small h2
  have hD30 : D.length ≤ 3 := by rw [← hD]; exact (rightB_all (listed_right (cellB_parts h2).1)).1
  have H1 := Lib.hid h1
  have H2 := Lib.hid h2
  have H4 := Lib.hid hD
  have H6 := Lib.hid hP
  have HHL := Lib.hid hlen
  clear h1 h2 hD hP hlen
  obtain ⟨ba0, bb0, br0, hb0⟩ := w2_all w (.slice A d.length c) (.slice B v.length c2) (.slice A' e.length c') (.slice B' u.length c2')
  have BA := Lib.hid (ba0)
  have BB := Lib.hid (bb0)
  have BR := Lib.hid (br0)
  have L := Lib.hid (hb0)
  have ID := Lib.hid (id.below hb0)
  have IV := Lib.hid (iv.below hb0)
  have IE := Lib.hid (ie.below hb0)
  have IU := Lib.hid (iu.below hb0)
  clear ba0 bb0 br0 hb0 id iv ie iu
  go_enter Try.func12, Try.ntmps12
  go_wp2_with fail
  refine (cright_yes _ _ d _ _ _ _ (by unfold maxLen; omega) ID.out H1.out).mono ?_
  rintro r w1 ⟨rfl, hb⟩
  replace BA := Lib.hid (BA.out.next hb)
  replace BB := Lib.hid (BB.out.next hb)
  replace BR := Lib.hid (BR.out.next hb)
  replace L := Lib.hid (below_next L.out hb)
  replace ID := Lib.hid (ID.out.below hb)
  replace IV := Lib.hid (IV.out.below hb)
  replace IE := Lib.hid (IE.out.below hb)
  replace IU := Lib.hid (IU.out.below hb)
  clear hb
  obtain ⟨qBB0, qBB1, -, -⟩ := BB.out.all
  go_wp2_with fail
  refine (cright_yes _ _ e _ _ _ _ (by unfold maxLen; omega) IE.out H2.out).mono ?_
  rintro r w2 ⟨rfl, hb⟩
  clear qBB0 qBB1
  replace BA := Lib.hid (BA.out.next hb)
  replace BB := Lib.hid (BB.out.next hb)
  replace BR := Lib.hid (BR.out.next hb)
  replace L := Lib.hid (below_next L.out hb)
  replace ID := Lib.hid (ID.out.below hb)
  replace IV := Lib.hid (IV.out.below hb)
  replace IE := Lib.hid (IE.out.below hb)
  replace IU := Lib.hid (IU.out.below hb)
  clear hb
  obtain ⟨qBA0, qBA1, -, -⟩ := BA.out.all
  obtain ⟨qBB0, qBB1, -, -⟩ := BB.out.all
  go_wp2_with fail
  refine (listed_any _ _ e _ (by omega) IE.out).mono ?_
  rintro r w3 ⟨A3, c3, rfl, hi, hb⟩
  clear qBA0 qBA1 qBB0 qBB1
  replace BA := Lib.hid (BA.out.next hb)
  replace BB := Lib.hid (BB.out.next hb)
  replace BR := Lib.hid (BR.out.next hb)
  replace L := Lib.hid (below_next L.out hb)
  replace ID := Lib.hid (ID.out.below hb)
  replace IV := Lib.hid (IV.out.below hb)
  replace IE := Lib.hid (IE.out.below hb)
  replace IU := Lib.hid (IU.out.below hb)
  clear hb
  rw [H4.out] at hi
  rw [H4.out]
  have IDD := Lib.hid (hi)
  clear hi
  have haI : (D.length : Int) - 1 = (a : Int) := by omega
  have ha0 : (0 : Int) ≤ (a : Int) := by omega
  have ha1 : (a : Int) < (D.length : Int) := by omega
  obtain ⟨qBA0, qBA1, -, -⟩ := BA.out.all
  go_upto_region 9 with (fail)
  clear haI
  obtain ⟨bd, od, rfl, hbd, hcd⟩ := IDD.out (by omega)
  have hda := hcd a (by omega)
  rw [H6.out] at hda
  clear hcd
  obtain ⟨bn, on, rfl, hbn, hcn⟩ := ID.out (by rw [HHL.out]; simp)
  have hdn : w3.cell? ⟨bn, on, none⟩ = some (.int .i64 p) := by have := hcn 0 (by rw [HHL.out]; simp); rw [HHL.out] at this; simpa using this
  have hz : ((d.length : Int) == 1) = true := by rw [HHL.out]; rfl
  have z0 : (0 : Int) < (d.length : Int) := by rw [HHL.out]; simp
  have hne2 : (p != (P : Int)) = true := by simpa using hne
  clear hcn hne
  go_quiet (fail)
  have KQ := Lib.hid (below_drewN (Below.refl w3.heap.size w3) nq)
  clear qBA0 qBA1
  replace BA := Lib.hid (BA.out.next KQ.out)
  replace BB := Lib.hid (BB.out.next KQ.out)
  replace BR := Lib.hid (BR.out.next KQ.out)
  replace L := Lib.hid (below_next L.out KQ.out)
  replace ID := Lib.hid (ID.out.below KQ.out)
  replace IV := Lib.hid (IV.out.below KQ.out)
  replace IE := Lib.hid (IE.out.below KQ.out)
  replace IU := Lib.hid (IU.out.below KQ.out)
  replace IDD := Lib.hid (IDD.out.below KQ.out)
  obtain ⟨qBR0, qBR1, fBR0, fBR1⟩ := BR.out.all
  go_wp2
  have T9 := (BR.out.set0 (.slice none 0 0)).set1 (.slice none 0 0)
  obtain ⟨t0, t1, _, _⟩ := T9.all
  refine bodyPost_ret (v := .tuple #[.agg #[.slice none 0 0, .slice none 0 0], .int .i64 3]) (by simp [results, Try.results12, go_sem, t0, t1]) rfl ?_
  exact ⟨_, rfl, IsCell.none _ _, (L.out.setCell (by simp; omega) _).setCell (by simp; omega) _⟩

set_option maxHeartbeats 8000000 in
set_option maxRecDepth 100000 in
theorem copy_e5l (A : Option Addr) (c : Nat) (d : List Int) (B : Option Addr) (c2 : Nat) (v : List Int) (A' : Option Addr) (c' : Nat) (e : List Int) (B' : Option Addr) (c2' : Nat) (u : List Int) (w : World) (id : Ints w A d) (iv : Ints w B v) (ie : Ints w A' e) (iu : Ints w B' u) (hd : d.length ≤ 100) (hv : v.length ≤ 1000) (he : e.length ≤ 100) (hu : u.length ≤ 1000) (a P : Nat) (D : List Int) (h1 : cellB d v.length = true) (h2 : cellB e u.length = true) (hd1 : d.length ≤ 1) (hD : listedL e = D) (haL : a < D.length) (hP : D.getD a 0 = (P : Int)) (hP64 : P ≤ 64) (hax : a + 1 = D.length) (hlen : d.length = 0 ∨ d = [(P : Int)]) (hneg : negB v = true) :
    Calls Try.prog 12 #[.agg #[.slice A d.length c, .slice B v.length c2], .agg #[.slice A' e.length c', .slice B' u.length c2'], .bool false] w (RetC w [] [] (.int .i64 5)) := by
  obtain ⟨hD3, hu64⟩ := cellB_small h2
  have hD30 : D.length ≤ 3 := by rw [← hD]; exact (rightB_all (listed_right (cellB_parts h2).1)).1
  have H1 := Lib.hid h1
  have H2 := Lib.hid h2
  have H4 := Lib.hid hD
  have H6 := Lib.hid hP
  have HHL := Lib.hid hlen
  have H8 := Lib.hid hneg
  clear h1 h2 hD hP hlen hneg
  obtain ⟨ba0, bb0, br0, hb0⟩ := w2_all w (.slice A d.length c) (.slice B v.length c2) (.slice A' e.length c') (.slice B' u.length c2')
  have BA := Lib.hid (ba0)
  have BB := Lib.hid (bb0)
  have BR := Lib.hid (br0)
  have L := Lib.hid (hb0)
  have ID := Lib.hid (id.below hb0)
  have IV := Lib.hid (iv.below hb0)
  have IE := Lib.hid (ie.below hb0)
  have IU := Lib.hid (iu.below hb0)
  clear ba0 bb0 br0 hb0 id iv ie iu
  go_enter Try.func12, Try.ntmps12
  go_wp2_with fail
  refine (cright_yes _ _ d _ _ _ _ (by unfold maxLen; omega) ID.out H1.out).mono ?_
  rintro r w1 ⟨rfl, hb⟩
  replace BA := Lib.hid (BA.out.next hb)
  replace BB := Lib.hid (BB.out.next hb)
  replace BR := Lib.hid (BR.out.next hb)
  replace L := Lib.hid (below_next L.out hb)
  replace ID := Lib.hid (ID.out.below hb)
  replace IV := Lib.hid (IV.out.below hb)
  replace IE := Lib.hid (IE.out.below hb)
  replace IU := Lib.hid (IU.out.below hb)
  clear hb
  obtain ⟨qBB0, qBB1, -, -⟩ := BB.out.all
  go_wp2_with fail
  refine (cright_yes _ _ e _ _ _ _ (by unfold maxLen; omega) IE.out H2.out).mono ?_
  rintro r w2 ⟨rfl, hb⟩
  clear qBB0 qBB1
  replace BA := Lib.hid (BA.out.next hb)
  replace BB := Lib.hid (BB.out.next hb)
  replace BR := Lib.hid (BR.out.next hb)
  replace L := Lib.hid (below_next L.out hb)
  replace ID := Lib.hid (ID.out.below hb)
  replace IV := Lib.hid (IV.out.below hb)
  replace IE := Lib.hid (IE.out.below hb)
  replace IU := Lib.hid (IU.out.below hb)
  clear hb
  obtain ⟨qBA0, qBA1, -, -⟩ := BA.out.all
  obtain ⟨qBB0, qBB1, -, -⟩ := BB.out.all
  go_wp2_with fail
  refine (listed_any _ _ e _ (by omega) IE.out).mono ?_
  rintro r w3 ⟨A3, c3, rfl, hi, hb⟩
  clear qBA0 qBA1 qBB0 qBB1
  replace BA := Lib.hid (BA.out.next hb)
  replace BB := Lib.hid (BB.out.next hb)
  replace BR := Lib.hid (BR.out.next hb)
  replace L := Lib.hid (below_next L.out hb)
  replace ID := Lib.hid (ID.out.below hb)
  replace IV := Lib.hid (IV.out.below hb)
  replace IE := Lib.hid (IE.out.below hb)
  replace IU := Lib.hid (IU.out.below hb)
  clear hb
  rw [H4.out] at hi
  rw [H4.out]
  have IDD := Lib.hid (hi)
  clear hi
  have haI : (D.length : Int) - 1 = (a : Int) := by omega
  have ha0 : (0 : Int) ≤ (a : Int) := by omega
  have ha1 : (a : Int) < (D.length : Int) := by omega
  obtain ⟨qBA0, qBA1, -, -⟩ := BA.out.all
  go_upto_region 9 with (fail)
  clear haI
  obtain ⟨bd, od, rfl, hbd, hcd⟩ := IDD.out (by omega)
  have hda := hcd a (by omega)
  rw [H6.out] at hda
  clear hcd
  go_cut [47] (fun s47 wx => s47 = .bool false ∧ ∃ n, wx = w3.drewN n)
  case first =>
    rcases HHL.out with h0 | h0
    · have hz : ((d.length : Int) == 1) = false := by simp [h0]
      clear h0
      go_quiet (fail)
      go_wp2_with fail
      go_meet
      exact ⟨rfl, _, rfl⟩
    · have hz : ((d.length : Int) == 1) = true := by rw [h0]; rfl
      obtain ⟨bn, on, rfl, hbn, hcn⟩ := ID.out (by rw [h0]; simp)
      have hdn : w3.cell? ⟨bn, on, none⟩ = some (.int .i64 (P : Int)) := by have := hcn 0 (by rw [h0]; simp); rw [h0] at this; simpa using this
      have z0 : (0 : Int) < (d.length : Int) := by rw [h0]; simp
      clear h0 hcn
      go_quiet (fail)
      go_wp2_with fail
      go_meet
      exact ⟨rfl, _, rfl⟩
  case rest =>
    obtain ⟨rfl, nq, rfl⟩ := hcut
    clear qBA0 qBA1
    have KQ := Lib.hid (below_drewN (Below.refl w3.heap.size w3) nq)
    replace BA := Lib.hid (BA.out.next KQ.out)
    replace BB := Lib.hid (BB.out.next KQ.out)
    replace BR := Lib.hid (BR.out.next KQ.out)
    replace L := Lib.hid (below_next L.out KQ.out)
    replace ID := Lib.hid (ID.out.below KQ.out)
    replace IV := Lib.hid (IV.out.below KQ.out)
    replace IE := Lib.hid (IE.out.below KQ.out)
    replace IU := Lib.hid (IU.out.below KQ.out)
    replace IDD := Lib.hid (IDD.out.below KQ.out)
    clear KQ
    obtain ⟨qBA0, qBA1, -, -⟩ := BA.out.all
    go_wp2_with fail
    refine (contains_b _ _ v true _ H8.out (by omega) IV.out).mono ?_
    rintro r w4 ⟨rfl, hb⟩
    clear qBA0 qBA1
    replace BA := Lib.hid (BA.out.next hb)
    replace BB := Lib.hid (BB.out.next hb)
    replace BR := Lib.hid (BR.out.next hb)
    replace L := Lib.hid (below_next L.out hb)
    replace ID := Lib.hid (ID.out.below hb)
    replace IV := Lib.hid (IV.out.below hb)
    replace IE := Lib.hid (IE.out.below hb)
    replace IU := Lib.hid (IU.out.below hb)
    replace IDD := Lib.hid (IDD.out.below hb)
    clear hb
    obtain ⟨qBR0, qBR1, fBR0, fBR1⟩ := BR.out.all
    go_wp2
    have T9 := (BR.out.set0 (.slice none 0 0)).set1 (.slice none 0 0)
    obtain ⟨t0, t1, _, _⟩ := T9.all
    refine bodyPost_ret (v := .tuple #[.agg #[.slice none 0 0, .slice none 0 0], .int .i64 5]) (by simp [results, Try.results12, go_sem, t0, t1]) rfl ?_
    exact ⟨_, rfl, IsCell.none _ _, (L.out.setCell (by simp; omega) _).setCell (by simp; omega) _⟩

set_option maxHeartbeats 8000000 in
set_option maxRecDepth 100000 in
theorem copy_e4l (A : Option Addr) (c : Nat) (d : List Int) (B : Option Addr) (c2 : Nat) (v : List Int) (A' : Option Addr) (c' : Nat) (e : List Int) (B' : Option Addr) (c2' : Nat) (u : List Int) (w : World) (id : Ints w A d) (iv : Ints w B v) (ie : Ints w A' e) (iu : Ints w B' u) (hd : d.length ≤ 100) (hv : v.length ≤ 1000) (he : e.length ≤ 100) (hu : u.length ≤ 1000) (a P : Nat) (D : List Int) (h1 : cellB d v.length = true) (h2 : cellB e u.length = true) (hd1 : d.length ≤ 1) (hD : listedL e = D) (haL : a < D.length) (hP : D.getD a 0 = (P : Int)) (hP64 : P ≤ 64) (hax : a + 1 = D.length) (hlen : d.length = 0 ∨ d = [(P : Int)]) (hneg : negB v = false) (T : List Int) (S : Int) (hT : timesL d v P = T) (hTl : T.length ≤ 64) (hsm : SmallT T) (hS : sumL T = S) (hR : rightB (withL D (a : Int) S) = false) (hv1 : d.length = 0 → v.length = 1) :
    Calls Try.prog 12 #[.agg #[.slice A d.length c, .slice B v.length c2], .agg #[.slice A' e.length c', .slice B' u.length c2'], .bool false] w (RetC w [] [] (.int .i64 4)) := by
  obtain ⟨hD3, hu64⟩ := cellB_small h2
  have hD30 : D.length ≤ 3 := by rw [← hD]; exact (rightB_all (listed_right (cellB_parts h2).1)).1
  have H1 := Lib.hid h1
  have H2 := Lib.hid h2
  have H4 := Lib.hid hD
  have H6 := Lib.hid hP
  have HHL := Lib.hid hlen
  have H8 := Lib.hid hneg
  have H9 := Lib.hid hT
  have HSM := Lib.hid hsm
  have HSS := Lib.hid hS
  have HV1 := Lib.hid hv1
  obtain ⟨D2, hD2⟩ : ∃ D2, withL D (a : Int) S = D2 := ⟨_, rfl⟩
  have hD2l : D2.length = D.length := by rw [← hD2, withL_len]
  rw [hD2] at hR
  have HD2 := Lib.hid hD2
  have H10 := Lib.hid hR
  have hD2m : D2.length ≤ 100 := by omega
  clear hT hsm hS hv1 hD2 hR hD2l
  clear h1 h2 hD hP hlen hneg
  obtain ⟨ba0, bb0, br0, hb0⟩ := w2_all w (.slice A d.length c) (.slice B v.length c2) (.slice A' e.length c') (.slice B' u.length c2')
  have BA := Lib.hid (ba0)
  have BB := Lib.hid (bb0)
  have BR := Lib.hid (br0)
  have L := Lib.hid (hb0)
  have ID := Lib.hid (id.below hb0)
  have IV := Lib.hid (iv.below hb0)
  have IE := Lib.hid (ie.below hb0)
  have IU := Lib.hid (iu.below hb0)
  clear ba0 bb0 br0 hb0 id iv ie iu
  go_enter Try.func12, Try.ntmps12
  go_wp2_with fail
  refine (cright_yes _ _ d _ _ _ _ (by unfold maxLen; omega) ID.out H1.out).mono ?_
  rintro r w1 ⟨rfl, hb⟩
  replace BA := Lib.hid (BA.out.next hb)
  replace BB := Lib.hid (BB.out.next hb)
  replace BR := Lib.hid (BR.out.next hb)
  replace L := Lib.hid (below_next L.out hb)
  replace ID := Lib.hid (ID.out.below hb)
  replace IV := Lib.hid (IV.out.below hb)
  replace IE := Lib.hid (IE.out.below hb)
  replace IU := Lib.hid (IU.out.below hb)
  clear hb
  obtain ⟨qBB0, qBB1, -, -⟩ := BB.out.all
  go_wp2_with fail
  refine (cright_yes _ _ e _ _ _ _ (by unfold maxLen; omega) IE.out H2.out).mono ?_
  rintro r w2 ⟨rfl, hb⟩
  clear qBB0 qBB1
  replace BA := Lib.hid (BA.out.next hb)
  replace BB := Lib.hid (BB.out.next hb)
  replace BR := Lib.hid (BR.out.next hb)
  replace L := Lib.hid (below_next L.out hb)
  replace ID := Lib.hid (ID.out.below hb)
  replace IV := Lib.hid (IV.out.below hb)
  replace IE := Lib.hid (IE.out.below hb)
  replace IU := Lib.hid (IU.out.below hb)
  clear hb
  obtain ⟨qBA0, qBA1, -, -⟩ := BA.out.all
  obtain ⟨qBB0, qBB1, -, -⟩ := BB.out.all
  go_wp2_with fail
  refine (listed_any _ _ e _ (by omega) IE.out).mono ?_
  rintro r w3 ⟨A3, c3, rfl, hi, hb⟩
  clear qBA0 qBA1 qBB0 qBB1
  replace BA := Lib.hid (BA.out.next hb)
  replace BB := Lib.hid (BB.out.next hb)
  replace BR := Lib.hid (BR.out.next hb)
  replace L := Lib.hid (below_next L.out hb)
  replace ID := Lib.hid (ID.out.below hb)
  replace IV := Lib.hid (IV.out.below hb)
  replace IE := Lib.hid (IE.out.below hb)
  replace IU := Lib.hid (IU.out.below hb)
  clear hb
  rw [H4.out] at hi
  rw [H4.out]
  have IDD := Lib.hid (hi)
  clear hi
  have haI : (D.length : Int) - 1 = (a : Int) := by omega
  have ha0 : (0 : Int) ≤ (a : Int) := by omega
  have ha1 : (a : Int) < (D.length : Int) := by omega
  obtain ⟨qBA0, qBA1, -, -⟩ := BA.out.all
  go_upto_region 9 with (fail)
  clear haI
  obtain ⟨bd, od, rfl, hbd, hcd⟩ := IDD.out (by omega)
  have hda := hcd a (by omega)
  rw [H6.out] at hda
  clear hcd
  go_cut [47] (fun s47 wx => s47 = .bool false ∧ ∃ n, wx = w3.drewN n)
  case first =>
    rcases HHL.out with h0 | h0
    · have hz : ((d.length : Int) == 1) = false := by simp [h0]
      clear h0
      go_quiet (fail)
      go_wp2_with fail
      go_meet
      exact ⟨rfl, _, rfl⟩
    · have hz : ((d.length : Int) == 1) = true := by rw [h0]; rfl
      obtain ⟨bn, on, rfl, hbn, hcn⟩ := ID.out (by rw [h0]; simp)
      have hdn : w3.cell? ⟨bn, on, none⟩ = some (.int .i64 (P : Int)) := by have := hcn 0 (by rw [h0]; simp); rw [h0] at this; simpa using this
      have z0 : (0 : Int) < (d.length : Int) := by rw [h0]; simp
      clear h0 hcn
      go_quiet (fail)
      go_wp2_with fail
      go_meet
      exact ⟨rfl, _, rfl⟩
  case rest =>
    obtain ⟨rfl, nq, rfl⟩ := hcut
    clear qBA0 qBA1
    have KQ := Lib.hid (below_drewN (Below.refl w3.heap.size w3) nq)
    replace BA := Lib.hid (BA.out.next KQ.out)
    replace BB := Lib.hid (BB.out.next KQ.out)
    replace BR := Lib.hid (BR.out.next KQ.out)
    replace L := Lib.hid (below_next L.out KQ.out)
    replace ID := Lib.hid (ID.out.below KQ.out)
    replace IV := Lib.hid (IV.out.below KQ.out)
    replace IE := Lib.hid (IE.out.below KQ.out)
    replace IU := Lib.hid (IU.out.below KQ.out)
    replace IDD := Lib.hid (IDD.out.below KQ.out)
    clear KQ
    obtain ⟨qBA0, qBA1, -, -⟩ := BA.out.all
    go_wp2_with fail
    refine (contains_b _ _ v false _ H8.out (by omega) IV.out).mono ?_
    rintro r w4 ⟨rfl, hb⟩
    clear qBA0 qBA1
    replace BA := Lib.hid (BA.out.next hb)
    replace BB := Lib.hid (BB.out.next hb)
    replace BR := Lib.hid (BR.out.next hb)
    replace L := Lib.hid (below_next L.out hb)
    replace ID := Lib.hid (ID.out.below hb)
    replace IV := Lib.hid (IV.out.below hb)
    replace IE := Lib.hid (IE.out.below hb)
    replace IU := Lib.hid (IU.out.below hb)
    replace IDD := Lib.hid (IDD.out.below hb)
    clear hb
    obtain ⟨bd2, od2, e2, hbd2, hcd2⟩ := IDD.out (by omega)
    injection e2 with e2
    injection e2 with e21 e22
    subst e21 e22
    have hda2 := hcd2 a (by omega)
    rw [H6.out] at hda2
    clear hcd2 hda
    clear hbd hbd2
    obtain ⟨qBA0, qBA1, -, -⟩ := BA.out.all
    have OF := Lib.hid (often_any A c d B c2 v P w4.drew (by omega) (by omega) (IV.out.below ((Below.refl _ w4).drew)) hP64 HV1.out)
    have WD := Lib.hid ((Below.refl w4.heap.size w4).drew)
    go_upto_region 13 with (fail)
    go_region_held3 (fun w' => w'.cell? ⟨w.heap.size, 0, none⟩ = some (.slice A d.length c) ∧ w'.cell? ⟨w.heap.size, 1, none⟩ = some (.slice B v.length c2) ∧ w'.cell? ⟨bd, od + a, none⟩ = some (.int .i64 (P : Int)))
      (first
        | go_keep
        | with_reducible exact keep3' hb KK.out)
      (first
        | (go_at_call 39; (with_reducible refine (OF.out).mono ?_); rintro r w5 ⟨A5, c5, rfl, hi, hb⟩; have KK := Lib.hid (show w4.drew.cell? ⟨w.heap.size, 0, none⟩ = some (.slice A d.length c) ∧ w4.drew.cell? ⟨w.heap.size, 1, none⟩ = some (.slice B v.length c2) ∧ w4.drew.cell? ⟨bd, od + a, none⟩ = some (.int .i64 (P : Int)) from ⟨qBA0, qBA1, hda2⟩)))
    clear qBA0 qBA1
    have HB5 := Lib.hid (below_next WD.out hb)
    clear hb
    replace BA := Lib.hid (BA.out.next HB5.out)
    replace BB := Lib.hid (BB.out.next HB5.out)
    replace BR := Lib.hid (BR.out.next HB5.out)
    replace L := Lib.hid (below_next L.out HB5.out)
    replace ID := Lib.hid (ID.out.below HB5.out)
    replace IV := Lib.hid (IV.out.below HB5.out)
    replace IE := Lib.hid (IE.out.below HB5.out)
    replace IU := Lib.hid (IU.out.below HB5.out)
    replace IDD := Lib.hid (IDD.out.below HB5.out)
    rw [H9.out] at hi
    rw [H9.out]
    have IT := Lib.hid (hi)
    clear hi hda2 KK OF WD HB5
    go_wp2_with fail
    refine (total_b _ _ T S _ HSS.out (by omega) IT.out HSM.out).mono ?_
    rintro r w6 ⟨rfl, hb⟩
    replace BA := Lib.hid (BA.out.next hb)
    replace BB := Lib.hid (BB.out.next hb)
    replace BR := Lib.hid (BR.out.next hb)
    replace L := Lib.hid (below_next L.out hb)
    replace ID := Lib.hid (ID.out.below hb)
    replace IV := Lib.hid (IV.out.below hb)
    replace IE := Lib.hid (IE.out.below hb)
    replace IU := Lib.hid (IU.out.below hb)
    replace IDD := Lib.hid (IDD.out.below hb)
    replace IT := Lib.hid (IT.out.below hb)
    clear hb
    go_wp2_with fail
    refine (with_any _ _ D (a : Int) S _ (by omega) IDD.out).mono ?_
    rintro r w7 ⟨A7, c7, rfl, hi, hb⟩
    replace BA := Lib.hid (BA.out.next hb)
    replace BB := Lib.hid (BB.out.next hb)
    replace BR := Lib.hid (BR.out.next hb)
    replace L := Lib.hid (below_next L.out hb)
    replace ID := Lib.hid (ID.out.below hb)
    replace IV := Lib.hid (IV.out.below hb)
    replace IE := Lib.hid (IE.out.below hb)
    replace IU := Lib.hid (IU.out.below hb)
    replace IDD := Lib.hid (IDD.out.below hb)
    replace IT := Lib.hid (IT.out.below hb)
    clear hb
    have IW := Lib.hid (hi)
    clear hi
    have hD2' : withL D (a : Int) S = D2 := HD2.out
    rw [hD2'] at IW
    rw [hD2']
    clear hD2' HD2
    have hzz := fun W iW => zero_any A7 c7 D2 W hD2m iW
    rw [show zeroD D2 = [] by unfold zeroD; rw [H10.out]; rfl, show zeroV D2 = [] by unfold zeroV sizeI; rw [H10.out]; rfl] at hzz
    have HZ := Lib.hid hzz
    clear hzz
    go_wp2_with fail
    refine (HZ.out _ IW.out).mono ?_
    rintro r w8 ⟨x, rfl, ⟨A8, c8, B8, e8, rfl, j1, j2, -⟩, hb⟩
    replace BA := Lib.hid (BA.out.next hb)
    replace BB := Lib.hid (BB.out.next hb)
    replace BR := Lib.hid (BR.out.next hb)
    replace L := Lib.hid (below_next L.out hb)
    replace ID := Lib.hid (ID.out.below hb)
    replace IV := Lib.hid (IV.out.below hb)
    replace IE := Lib.hid (IE.out.below hb)
    replace IU := Lib.hid (IU.out.below hb)
    replace IDD := Lib.hid (IDD.out.below hb)
    replace IT := Lib.hid (IT.out.below hb)
    replace IW := Lib.hid (IW.out.below hb)
    clear hb
    clear j1 j2
    have KB := Lib.hid (below_new w8 (.cells #[.slice A8 0 c8, .slice B8 0 e8] 25))
    have B11 := Lib.hid (Box.new w8 (.slice A8 0 c8) (.slice B8 0 e8))
    replace BA := Lib.hid (BA.out.next KB.out)
    replace BB := Lib.hid (BB.out.next KB.out)
    replace BR := Lib.hid (BR.out.next KB.out)
    replace L := Lib.hid (below_next L.out KB.out)
    replace ID := Lib.hid (ID.out.below KB.out)
    replace IV := Lib.hid (IV.out.below KB.out)
    replace IE := Lib.hid (IE.out.below KB.out)
    replace IU := Lib.hid (IU.out.below KB.out)
    replace IDD := Lib.hid (IDD.out.below KB.out)
    replace IT := Lib.hid (IT.out.below KB.out)
    replace IW := Lib.hid (IW.out.below KB.out)
    go_upto_region 15 with (fail)
    clear KB
    generalize hW : w8.alloc (.cells #[.slice A8 0 c8, .slice B8 0 e8] 25) = W8 at *
    clear hW
    generalize w8.heap.size = g11 at *
    obtain ⟨qB110, qB111, -, -⟩ := B11.out.all
    go_wp2_with fail
    refine (cright_no _ _ [] _ 0 _ _ (by simp) (fun h => absurd h (by simp)) (by decide)).mono ?_
    rintro r w9 ⟨rfl, hb⟩
    clear qB110 qB111
    replace BA := Lib.hid (BA.out.next hb)
    replace BB := Lib.hid (BB.out.next hb)
    replace BR := Lib.hid (BR.out.next hb)
    replace L := Lib.hid (below_next L.out hb)
    replace ID := Lib.hid (ID.out.below hb)
    replace IV := Lib.hid (IV.out.below hb)
    replace IE := Lib.hid (IE.out.below hb)
    replace IU := Lib.hid (IU.out.below hb)
    replace IDD := Lib.hid (IDD.out.below hb)
    replace IT := Lib.hid (IT.out.below hb)
    replace IW := Lib.hid (IW.out.below hb)
    replace B11 := Lib.hid (B11.out.next hb)
    clear hb
    obtain ⟨qBR0, qBR1, fBR0, fBR1⟩ := BR.out.all
    go_wp2
    have T9 := (BR.out.set0 (.slice none 0 0)).set1 (.slice none 0 0)
    obtain ⟨t0, t1, _, _⟩ := T9.all
    refine bodyPost_ret (v := .tuple #[.agg #[.slice none 0 0, .slice none 0 0], .int .i64 4]) (by simp [results, Try.results12, go_sem, t0, t1]) rfl ?_
    exact ⟨_, rfl, IsCell.none _ _, (L.out.setCell (by simp; omega) _).setCell (by simp; omega) _⟩
end Go.Proofs.Ytfnpdflapmbnjaa.Sh
