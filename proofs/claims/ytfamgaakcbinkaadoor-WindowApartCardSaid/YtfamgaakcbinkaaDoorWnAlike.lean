/-
  What rifflelaw15.WindowAlike answers: true, whatever the window and the pairs. Conditions: the table of traits holds what its text lays; the numbers have 64 bits; no more pairs than fit into a machine.
-/
import Derived.Test.YtfamgaakcbinkaaDoorPkWn
set_option maxRecDepth 100000
namespace Go.Proofs.YtfamgaakcbinkaaDoor.Wn
open Go.Proofs.YtfamgaakcbinkaaDoor.Sh Go.Proofs.YtfamgaakcbinkaaDoor.St Go.Proofs.YtfamgaakcbinkaaDoor.Fd
open Go.RowKit
set_option linter.unusedVariables false

/-- A pair as a row. -/
def rowP (d : Int × Int) : List Int := [d.1, d.2]
def fsts (ps : List (Int × Int)) : List Int := ps.map Prod.fst
def snds (ps : List (Int × Int)) : List Int := ps.map Prod.snd
theorem fsts_len (ps : List (Int × Int)) : (fsts ps).length = ps.length := by simp [fsts]
theorem snds_len (ps : List (Int × Int)) : (snds ps).length = ps.length := by simp [snds]
theorem rowP_len (ps : List (Int × Int)) : (ps.map rowP).length = ps.length := by simp
theorem fsts_R {ps : List (Int × Int)} (h : ∀ q ∈ ps, Sc.InR q.1 ∧ Sc.InR q.2) : AllR (fsts ps) := fun x hx => by
  obtain ⟨q, hq, rfl⟩ := List.mem_map.1 hx
  exact (h q hq).1
theorem snds_R {ps : List (Int × Int)} (h : ∀ q ∈ ps, Sc.InR q.1 ∧ Sc.InR q.2) : AllR (snds ps) := fun x hx => by
  obtain ⟨q, hq, rfl⟩ := List.mem_map.1 hx
  exact (h q hq).2
theorem col_fst (ps : List (Int × Int)) : colL 0 (ps.map rowP) = fsts ps := by
  unfold colL fsts
  rw [List.map_map]
  rfl
theorem col_snd (ps : List (Int × Int)) : colL 1 (ps.map rowP) = snds ps := by
  unfold colL snds
  rw [List.map_map]
  rfl
theorem pair_ans (c : Int) (s : Bool) (back look : Nat) (ps : List (Int × Int)) (told k : Nat) (hk : k = told + look + 1 ∨ (k = ps.length ∧ k ≤ told + look + 1)) : ansI c s 2 (((ps.take k).map rowP).drop (told - back)) = [ansN c s back look (fsts ps) told, ansN c s back look (snds ps) told] := by
  show [rowV c s (colL 0 (((ps.take k).map rowP).drop (told - back))), rowV c s (colL 1 (((ps.take k).map rowP).drop (told - back)))] = _
  rw [← List.map_drop, col_fst, col_snd]
  unfold ansN fsts snds
  rw [List.map_drop, List.map_drop, List.map_take, List.map_take]
  rcases hk with rfl | ⟨rfl, hk⟩
  · rfl
  · have e1 : ((ps.map Prod.fst).take ps.length) = (ps.map Prod.fst).take (told + look + 1) := by rw [List.take_of_length_le (by simp), List.take_of_length_le (by simp; omega)]
    have e2 : ((ps.map Prod.snd).take ps.length) = (ps.map Prod.snd).take (told + look + 1) := by rw [List.take_of_length_le (by simp), List.take_of_length_le (by simp; omega)]
    rw [e1, e2]
theorem take_more {ps : List (Int × Int)} {k : Nat} {d : Int × Int} (h : ps[k]? = some d) : ps.take (k + 1) = ps.take k ++ [d] := by rw [List.take_add_one, h]; rfl
/-- At the head of the loop over pairs. -/
def AlkAt (w1 wr : World) (g : Nat) (V : Value) (c : Int) (s : Bool) (Y : Nat → Value) (back look : Nat) (ps : List (Int × Int)) (k : Nat) (X1 X2 X3 X4 : Value) : Prop :=
  Al w1 wr w1.heap.size g V c s 2 Y back look ((ps.take k).map rowP) (k - look) false (fun _ => False) X1 X2 X3 X4 (fsts (ps.take k)) (snds (ps.take k)) (allN c s back look (fsts ps) (k - look)) (allN c s back look (snds ps) (k - look))
/-- At the head of the loop over answers. -/
def EndA (w1 wr : World) (g : Nat) (V : Value) (c : Int) (s : Bool) (Y : Nat → Value) (back look : Nat) (ps : List (Int × Int)) (told : Nat) (X1 X2 X3 X4 : Value) : Prop :=
  ∃ over, Al w1 wr w1.heap.size g V c s 2 Y back look (ps.map rowP) told over (fun _ => False) X1 X2 X3 X4 (fsts ps) (snds ps) (allN c s back look (fsts ps) told) (allN c s back look (snds ps) told)
theorem two_sints {w : World} {g : Nat} {x y : Int} (h : Bk 62 w g [.int .i64 x, .int .i64 y]) : SInts (fun b => b = g) w (some ⟨g, 0, none⟩) [x, y] := fun _ => ⟨g, 0, rfl, rfl, h.lt, fun j u hu => by rw [Nat.zero_add, h.c j]; exact hu⟩
theorem mine_n {w : World} {base n : Nat} {X : Value} {xs : List Int} (h : MineT 2 w base X xs) (hn : xs.length = n) : w.ownsRow base 2 1 X n (xs.map (Value.int .i64)) := by subst hn; exact h
set_option maxHeartbeats 16000000 in
theorem alike_yes (c : Int) (s : Bool) (back look : Nat) (wd : Int) (A : Option Addr) (cA : Nat) (ps : List (Int × Int)) (w : World) (h0 : 0 < w.heap.size) (hT : Sc.Tab w) (hV : Prs w A ps) (hR : ∀ q ∈ ps, Sc.InR q.1 ∧ Sc.InR q.2) (hl : ps.length ≤ 30) (h2 : Sc.hasB c 2 = true) (hbl : back + look ≤ 31) :
    Calls Tryd.prog 10 #[.agg #[.int .i64 c, .bool s, .int .i64 (back : Nat), .int .i64 (look : Nat), .int .i64 wd], .slice A ps.length cA] w fun e w' => e = .returned (.bool true) ∧ Below w.heap.size w w' := by
  have b0 := below_new w (.cells #[.int .i64 c, .bool s, .int .i64 (back : Nat), .int .i64 (look : Nat), .int .i64 wd] 45)
  have BN := Lib.hid (Bk.new 45 w [.int .i64 c, .bool s, .int .i64 (back : Nat), .int .i64 (look : Nat), .int .i64 wd])
  have T1 := Lib.hid (hT.below b0)
  have V1 := Lib.hid (hV.next b0)
  have L0 := Lib.hid b0
  have H0 := Lib.hid (Nat.lt_of_lt_of_le h0 b0.size)
  have HR := Lib.hid hR
  have H2 := Lib.hid h2
  have t1 : decide ((ps.length : Int) > 30) = false := decide_eq_false (by omega)
  clear b0 h0 hT hV hR h2
  obtain ⟨x0, x1, x2, x3, x4⟩ := of_cells BN.out
  go_enter Tryd.func10, Tryd.ntmps10
  go_wp2_with fail
  generalize hW1 : w.alloc (.cells #[.int .i64 c, .bool s, .int .i64 (back : Nat), .int .i64 (look : Nat), .int .i64 wd] 45) = w1 at *
  clear hW1
  have NW := Lib.hid (show Calls Tryd.prog 22 #[.agg #[.int .i64 c, .bool s], .int .i64 (back : Nat), .int .i64 (look : Nat), .int .i64 2] w1 (RetNew c s 2 back look w1) from new_yes c s 2 back look w1 H0.out T1.out (by omega) H2.out hbl)
  refine NW.out.mono ?_
  rintro r w2 ⟨g, V, Y, T, rfl, d2, hb2⟩
  have PA : Hid (AlkAt w1 w2 g V c s Y back look ps 0 (.slice none 0 0) (.slice none 0 0) (.slice none 0 0) (.slice none 0 0)) := Lib.hid (by
    unfold AlkAt
    rw [Nat.zero_sub]
    exact ⟨Kf.of d2 hb2 (fun b h => h.elim (fun h => (own4_nil b h).elim) fun h => h.elim), Four.nil _ _, fun b h => (own4_nil b h).elim⟩)
  clear d2 hb2 x0 x1 x2 x3 x4 NW
  go_wp2
  clear t1
  go_loopw [7, 8, 9, 10, 44] (fun s7 s8 s9 s10 i wr => ∃ (k : Nat) (X1 X2 X3 X4 : Value), X1 = s7 ∧ X2 = s8 ∧ X3 = s9 ∧ X4 = s10 ∧ k ≤ ps.length ∧ i = .int .i64 k ∧ Hid (AlkAt w1 wr g V c s Y back look ps k X1 X2 X3 X4)) (fun _ _ _ _ i _ => ps.length - (intOf i).toNat)
  case atStart => exact ⟨0, _, _, _, _, rfl, rfl, rfl, rfl, Nat.zero_le _, rfl, PA⟩
  case round =>
    obtain ⟨k, X1, X2, X3, X4, rfl, rfl, rfl, rfl, hk, rfl, HP⟩ := hrel
    clear PA
    by_cases hlt : k < ps.length
    · obtain ⟨d, hd⟩ : ∃ d, ps[k]? = some d := ⟨_, List.getElem?_eq_getElem hlt⟩
      have i1 : (k : Int) < (ps.length : Int) := by omega
      have i0 : (0 : Int) ≤ (k : Int) := by omega
      have DR := Lib.hid (HR.out d (List.mem_of_getElem? hd))
      obtain ⟨b, off, rfl, hbl2, hc⟩ := (V1.out.next HP.out.1.b) (by omega)
      obtain ⟨c1, c2⟩ := hc k d hd
      have TK := Lib.hid (take_more hd)
      have TL := Lib.hid (show (ps.take k).length = k by rw [List.length_take]; omega)
      obtain ⟨x, y⟩ := d
      have XR : Hid (AllR [x, y]) := Lib.hid fun z hz => by
        simp at hz
        rcases hz with rfl | rfl
        · exact DR.out.1
        · exact DR.out.2
      have A0 := Lib.hid (Al.more HP.out (below_new wr (.cells #[.int .i64 x, .int .i64 y] 62)) (B1 := fun b => b = wr.heap.size) (fun b hb => .inr ⟨Nat.le_of_eq hb.symm, by subst hb; simp⟩))
      have BP := Lib.hid (Bk.new 62 wr [.int .i64 x, .int .i64 y])
      have z0 := BP.out.c 0
      have z1 := BP.out.c 1
      simp only [List.getElem?_cons_zero, List.getElem?_cons_succ] at z0 z1
      have TN : Hid (k + 1 ≤ 100000) := Lib.hid (by omega)
      clear hc hd hbl2
      go_upto_region 8 with (fail)
      generalize hW0 : wr.alloc (.cells #[.int .i64 x, .int .i64 y] 62) = w0 at *
      clear hW0
      have O0 := Lib.hid (show w0.ownsRow w1.heap.size 2 1 X1 k ((fsts (ps.take k)).map (Value.int .i64)) from mine_n A0.out.2.1.1 (by rw [fsts_len, TL.out]))
      have O8 := Lib.hid (World.ownsRow.alloc O0.out (.cells #[.int .i64 x] 2))
      have LB8 := Lib.hid (Nat.le_trans A0.out.1.size (below_new w0 (.cells #[.int .i64 x] 2)).size)
      clear O0
      go_wp2_with (first
        | (at_builtin; refine wpList_appS infoN rfl (by decide) (by decide) Tryd.underlying27 rfl (.tmp 48) (.tmp 51) rfl w1.heap.size _ k _ rfl O8.out (fun _ => True) _ 1 1 [.int .i64 x] rfl rfl (seq1 _ _ _) (ints_one [x]) TN.out LB8.out ?_; intro v7 w7 hv7 hg7 ha7; have k7 := Al.app (ys := [x]) A0.out (by rw [fsts_len, TL.out]; exact hv7) rfl hg7 ha7; have A7 := Lib.hid k7.1; have BP7 := Lib.hid (BP.out.turn k7.2 fun h => h.2 rfl); have z3 := BP7.out.c 1; simp only [List.getElem?_cons_zero, List.getElem?_cons_succ] at z3; have O9 := Lib.hid (World.ownsRow.alloc (mine_n A7.out.2.1.2.1 (n := k) (by rw [snds_len, TL.out])) (.cells #[.int .i64 y] 2)); have LB9 := Lib.hid (Nat.le_trans A7.out.1.size (below_new w7 (.cells #[.int .i64 y] 2)).size); clear hv7 hg7 ha7 k7)
        | (at_builtin; refine wpList_appS infoN rfl (by decide) (by decide) Tryd.underlying27 rfl (.tmp 53) (.tmp 56) rfl w1.heap.size _ k _ rfl O9.out (fun _ => True) _ 1 1 [.int .i64 y] rfl rfl (seq1 _ _ _) (ints_one [y]) TN.out LB9.out ?_; intro v8 w8 hv8 hg8 ha8; have k8 := Al.app (ys := [y]) A7.out.rot (by rw [snds_len, TL.out]; exact hv8) rfl hg8 ha8; have A8 := Lib.hid k8.1.rot.rot.rot; have BP8 := Lib.hid (BP7.out.turn k8.2 fun h => h.2 rfl); clear hv8 hg8 ha8 k8))
      have LT := Lib.hid (fun b (h : Own4 v7 v8 X3 X4 b) => (A8.out.2.1.lt b h).1)
      have SQ := Lib.hid (two_sints BP8.out)
      have HS : Hid (∀ b, b = wr.heap.size → b < w8.heap.size ∧ b = wr.heap.size) := Lib.hid fun b hb => ⟨by subst hb; exact BP8.out.lt, hb⟩
      have RW : Hid ((ps.take k).map rowP ++ [[x, y]] = (ps.take (k + 1)).map rowP) := Lib.hid (by rw [TK.out, List.map_append]; rfl)
      have FW : Hid (fsts (ps.take k) ++ [x] = fsts (ps.take (k + 1))) := Lib.hid (by rw [TK.out]; unfold fsts; rw [List.map_append]; rfl)
      have SW : Hid (snds (ps.take k) ++ [y] = snds (ps.take (k + 1))) := Lib.hid (by rw [TK.out]; unfold snds; rw [List.map_append]; rfl)
      have RL : Hid (((ps.take k).map rowP).length = k) := Lib.hid (by rw [rowP_len, TL.out])
      clear A0 A7 BP BP7 BP8 O8 O9 LB8 LB9 TN z0 z1 z3
      by_cases hd : k < look
      · have PU := push_a_wait w1 w8 w1.heap.size g V c s 2 Y back look ((ps.take k).map rowP) (k - look) (fun b => b = wr.heap.size) v7 v8 X3 X4 _ _ _ _ (fun b => b = wr.heap.size) (some ⟨wr.heap.size, 0, none⟩) 2 [x, y] A8.out SQ.out HS.out rfl XR.out (by omega) (by rw [RL.out]; omega) (by rw [RL.out]; omega)
        rw [RW.out, FW.out, SW.out] at PU
        have PUH := Lib.hid PU
        have TD := Lib.hid (show k + 1 - look = k - look by omega)
        clear PU hd
        go_wp2_with fail
        refine PUH.out.mono ?_
        rintro r w9 ⟨rfl, A9, -⟩
        have PA : Hid (AlkAt w1 w9 g V c s Y back look ps (k + 1) v7 v8 X3 X4) := Lib.hid (by unfold AlkAt; rw [TD.out]; exact A9.more (Below.refl _ _) fun b h => h.elim)
        clear A9 PUH
        go_wp2
        exact ⟨⟨k + 1, _, _, _, _, rfl, rfl, rfl, rfl, by omega, by go_num, PA⟩, by simp [intOf]; omega⟩
      · obtain ⟨told, htd⟩ : ∃ told, k - look = told := ⟨_, rfl⟩
        obtain ⟨p, hp⟩ : ∃ p, ansN c s back look (fsts ps) told = p := ⟨_, rfl⟩
        obtain ⟨q, hq⟩ : ∃ q, ansN c s back look (snds ps) told = q := ⟨_, rfl⟩
        have hv := pair_ans c s back look ps told (k + 1) (.inl (by omega))
        rw [hp, hq, ← RW.out] at hv
        have PU := push_a_due w1 w8 w1.heap.size g V c s 2 Y back look ((ps.take k).map rowP) told (fun b => b = wr.heap.size) v7 v8 X3 X4 _ _ _ _ (fun b => b = wr.heap.size) (some ⟨wr.heap.size, 0, none⟩) 2 [x, y] (by rw [← htd]; exact A8.out) SQ.out HS.out rfl XR.out (by omega) (by rw [RL.out]; omega) (by rw [RL.out]; omega) H2.out [p, q] hv
        rw [RW.out, FW.out, SW.out] at PU
        have PUH := Lib.hid PU
        have TD := Lib.hid (show k + 1 - look = told + 1 by omega)
        have TP : Hid (told + 1 ≤ 100000) := Lib.hid (by omega)
        have HPQ := Lib.hid (show allN c s back look (fsts ps) told ++ [p] = allN c s back look (fsts ps) (told + 1) ∧ allN c s back look (snds ps) told ++ [q] = allN c s back look (snds ps) (told + 1) by rw [allN_succ, allN_succ, hp, hq]; exact ⟨rfl, rfl⟩)
        rw [htd] at PUH
        clear PU hd hv hp hq htd
        go_wp2_with fail
        refine PUH.out.mono ?_
        rintro r w9 ⟨A5, c5, rfl, m9, a9, -⟩
        have A9 := Lib.hid a9
        have M9 := Lib.hid m9
        obtain ⟨b5, o5, rfl, y0⟩ := mine_at m9 (j := 0) (x := p) rfl
        rw [Nat.add_zero] at y0
        have OP := Lib.hid (World.ownsRow.alloc (mine_n a9.2.1.2.2.1 (n := told) (allN_len _ _ _ _ _ _)) (.cells #[.int .i64 p] 2))
        have LP := Lib.hid (Nat.le_trans a9.1.size (below_new w9 (.cells #[.int .i64 p] 2)).size)
        clear a9 m9 PUH A8
        go_wp2_with (first
          | (at_builtin; refine wpList_appS infoN rfl (by decide) (by decide) Tryd.underlying27 rfl (.tmp 72) (.tmp 76) rfl w1.heap.size _ told _ rfl OP.out (fun _ => True) _ 1 1 [.int .i64 p] rfl rfl (seq1 _ _ _) (ints_one [p]) TP.out LP.out ?_; intro v10 w10 hv10 hg10 ha10; have k10 := Al.app (ys := [p]) A9.out.rot.rot (by rw [allN_len]; exact hv10) rfl hg10 ha10; have A10 := Lib.hid k10.1; have M10 := Lib.hid (own_turn M9.out ((Turn.of_below (fun b => X3.ownBlock = some b) (below_new _ _)).trans (Turn.of_grown hg10 fun g e => e)) (fun b hb hX => by have h1 := own_base M9.out b hb; have h2 := LT.out b (.inr (.inr (.inl hX))); omega)); obtain ⟨b5', o5', e5', y1⟩ := mine_at M10.out (j := 1) (x := q) rfl; injection e5' with e5'; injection e5' with e5a e5b; subst e5a e5b; have OQ := Lib.hid (World.ownsRow.alloc (mine_n A10.out.2.1.2.1 (n := told) (allN_len _ _ _ _ _ _)) (.cells #[.int .i64 q] 2)); have LQ := Lib.hid (Nat.le_trans A10.out.1.size (below_new w10 (.cells #[.int .i64 q] 2)).size); clear hv10 hg10 ha10 k10)
          | (at_builtin; refine wpList_appS infoN rfl (by decide) (by decide) Tryd.underlying27 rfl (.tmp 78) (.tmp 82) rfl w1.heap.size _ told _ rfl OQ.out (fun _ => True) _ 1 1 [.int .i64 q] rfl rfl (seq1 _ _ _) (ints_one [q]) TP.out LQ.out ?_; intro v11 w11 hv11 hg11 ha11; have k11 := Al.app (ys := [q]) A10.out.rot (by rw [allN_len]; exact hv11) rfl hg11 ha11; have PA : Hid (AlkAt w1 w11 g V c s Y back look ps (k + 1) v7 v8 v10 v11) := Lib.hid (by unfold AlkAt; rw [TD.out, ← HPQ.out.1, ← HPQ.out.2]; exact k11.1.rot.more (Below.refl _ _) fun b h => h.elim); clear hv11 hg11 ha11 k11))
        exact ⟨⟨k + 1, _, _, _, _, rfl, rfl, rfl, rfl, by omega, by go_num, PA⟩, by simp [intOf]; omega⟩
    · obtain rfl : k = ps.length := by omega
      obtain ⟨told0, htd⟩ : ∃ told, ps.length - look = told := ⟨_, rfl⟩
      have hp := HP.out
      unfold AlkAt at hp
      rw [List.take_length, htd] at hp
      obtain ⟨A7, c7, rfl, -⟩ := own_seq hp.2.1.1 (by decide)
      obtain ⟨A8, c8, rfl, -⟩ := own_seq hp.2.1.2.1 (by decide)
      rw [fsts_len, snds_len] at hp
      rw [fsts_len, snds_len]
      have PB : Hid (EndA w1 wr g V c s Y back look ps told0 (.slice A7 ps.length c7) (.slice A8 ps.length c8) X3 X4) := Lib.hid ⟨_, hp⟩
      have HTD := Lib.hid htd
      clear hp HP htd
      go_wp2
      go_loopw [9, 10, 87] (fun s9 s10 i wr' => ∃ (j : Nat) (X3 X4 : Value), X3 = s9 ∧ X4 = s10 ∧ j ≤ ps.length ∧ i = .int .i64 j ∧ Hid (EndA w1 wr' g V c s Y back look ps (min (told0 + j) ps.length) (.slice A7 ps.length c7) (.slice A8 ps.length c8) X3 X4)) (fun _ _ i _ => ps.length - (intOf i).toNat)
      case atStart => exact ⟨0, X3, X4, rfl, rfl, Nat.zero_le _, rfl, by rw [show min (told0 + 0) ps.length = told0 by have := HTD.out; omega]; exact PB⟩
      case round =>
        clear PB
        obtain ⟨j, X3, X4, rfl, rfl, hj, rfl, HE⟩ := hrel
        by_cases hlt : j < ps.length
        · have i1 : (j : Int) < (ps.length : Int) := by omega
          obtain ⟨over, a8⟩ := HE.out
          have A8 := Lib.hid a8
          clear a8 HE
          by_cases hd : told0 + j < ps.length
          · obtain ⟨e, he⟩ : ∃ e, told0 + j = e := ⟨_, rfl⟩
            have hm : min (told0 + j) ps.length = e := by omega
            have hm2 : min (told0 + (j + 1)) ps.length = e + 1 := by omega
            rw [hm] at A8
            have HM2 := Lib.hid hm2
            obtain ⟨p, hp⟩ : ∃ p, ansN c s back look (fsts ps) e = p := ⟨_, rfl⟩
            obtain ⟨q, hq⟩ : ∃ q, ansN c s back look (snds ps) e = q := ⟨_, rfl⟩
            have hv := pair_ans c s back look ps e ps.length (.inr ⟨rfl, by have := HTD.out; omega⟩)
            rw [hp, hq, List.take_length] at hv
            have PUH := Lib.hid (drain_a_some w1 wr w1.heap.size g V c s 2 Y back look (ps.map rowP) e (fun _ => False) (.slice A7 ps.length c7) (.slice _ ps.length c8) X3 X4 _ _ _ _ over A8.out H2.out (by omega) (by rw [rowP_len]; omega) (by rw [rowP_len]; omega) [p, q] hv)
            have TP : Hid (e + 1 ≤ 100000) := Lib.hid (by omega)
            have HPQ := Lib.hid (show allN c s back look (fsts ps) e ++ [p] = allN c s back look (fsts ps) (e + 1) ∧ allN c s back look (snds ps) e ++ [q] = allN c s back look (snds ps) (e + 1) by rw [allN_succ, allN_succ, hp, hq]; exact ⟨rfl, rfl⟩)
            have LT := Lib.hid (fun b (h : Own4 _ _ X3 X4 b) => (A8.out.2.1.lt b h).1)
            clear hv hp hq hd he hm hm2
            go_wp2_with fail
            refine PUH.out.mono ?_
            rintro r w9 ⟨A5, c5, rfl, m9, a9, -⟩
            have A9 := Lib.hid a9
            have M9 := Lib.hid m9
            obtain ⟨b5, o5, rfl, y0⟩ := mine_at m9 (j := 0) (x := p) rfl
            rw [Nat.add_zero] at y0
            have OP := Lib.hid (World.ownsRow.alloc (mine_n a9.2.1.2.2.1 (n := e) (allN_len _ _ _ _ _ _)) (.cells #[.int .i64 p] 2))
            have LP := Lib.hid (Nat.le_trans a9.1.size (below_new w9 (.cells #[.int .i64 p] 2)).size)
            clear a9 m9 PUH A8
            go_wp2_with (first
            | (at_builtin; refine wpList_appS infoN rfl (by decide) (by decide) Tryd.underlying27 rfl (.tmp 101) (.tmp 105) rfl w1.heap.size _ e _ rfl OP.out (fun _ => True) _ 1 1 [.int .i64 p] rfl rfl (seq1 _ _ _) (ints_one [p]) TP.out LP.out ?_; intro v10 w10 hv10 hg10 ha10; have k10 := Al.app (ys := [p]) A9.out.rot.rot (by rw [allN_len]; exact hv10) rfl hg10 ha10; have A10 := Lib.hid k10.1; have M10 := Lib.hid (own_turn M9.out ((Turn.of_below (fun b => X3.ownBlock = some b) (below_new _ _)).trans (Turn.of_grown hg10 fun g e => e)) (fun b hb hX => by have h1 := own_base M9.out b hb; have h2 := LT.out b (.inr (.inr (.inl hX))); omega)); obtain ⟨b5', o5', e5', y1⟩ := mine_at M10.out (j := 1) (x := q) rfl; injection e5' with e5'; injection e5' with e5a e5b; subst e5a e5b; have OQ := Lib.hid (World.ownsRow.alloc (mine_n A10.out.2.1.2.1 (n := e) (allN_len _ _ _ _ _ _)) (.cells #[.int .i64 q] 2)); have LQ := Lib.hid (Nat.le_trans A10.out.1.size (below_new w10 (.cells #[.int .i64 q] 2)).size); clear hv10 hg10 ha10 k10)
            | (at_builtin; refine wpList_appS infoN rfl (by decide) (by decide) Tryd.underlying27 rfl (.tmp 107) (.tmp 111) rfl w1.heap.size _ e _ rfl OQ.out (fun _ => True) _ 1 1 [.int .i64 q] rfl rfl (seq1 _ _ _) (ints_one [q]) TP.out LQ.out ?_; intro v11 w11 hv11 hg11 ha11; have k11 := Al.app (ys := [q]) A10.out.rot (by rw [allN_len]; exact hv11) rfl hg11 ha11; have PB : Hid (EndA w1 w11 g V c s Y back look ps (min (told0 + (j + 1)) ps.length) (.slice A7 ps.length c7) (.slice _ ps.length c8) v10 v11) := Lib.hid ⟨_, by rw [HM2.out, ← HPQ.out.1, ← HPQ.out.2]; exact k11.1.rot⟩; clear hv11 hg11 ha11 k11))
            exact ⟨⟨j + 1, _, _, rfl, rfl, by omega, by go_num, PB⟩, by simp [intOf]; omega⟩
          · have hm : min (told0 + j) ps.length = ps.length := by omega
            have hm2 : min (told0 + (j + 1)) ps.length = ps.length := by omega
            rw [hm] at A8
            have HM2 := Lib.hid hm2
            have PUH := Lib.hid (drain_a_none w1 wr w1.heap.size g V c s 2 Y back look (ps.map rowP) ps.length (fun _ => False) (.slice A7 ps.length c7) (.slice _ ps.length c8) X3 X4 _ _ _ _ over A8.out (by rw [rowP_len]))
            clear hd hm hm2
            go_wp2_with fail
            refine PUH.out.mono ?_
            rintro r w5 ⟨rfl, a5, -⟩
            have PB : Hid (EndA w1 w5 g V c s Y back look ps (min (told0 + (j + 1)) ps.length) (.slice A7 ps.length c7) (.slice _ ps.length c8) X3 X4) := Lib.hid ⟨_, by rw [HM2.out]; exact a5⟩
            clear a5
            go_wp2
            exact ⟨⟨j + 1, X3, X4, rfl, rfl, by omega, by go_num, PB⟩, by simp [intOf]; omega⟩
        · obtain rfl : j = ps.length := by omega
          obtain ⟨over, a8⟩ := HE.out
          rw [show min (told0 + ps.length) ps.length = ps.length by omega] at a8
          obtain ⟨A9, c9, rfl, -⟩ := own_seq a8.2.1.2.2.1 (by decide)
          obtain ⟨A10, c10, rfl, -⟩ := own_seq a8.2.1.2.2.2.1 (by decide)
          have AE := Lib.hid a8
          obtain ⟨x0, x1, x2, x3, x4⟩ := of_cells (BN.out.next a8.1.b)
          have AN := answers_yes c s back look wd A7 c7 (fsts ps) wr (Nat.lt_of_lt_of_le H0.out a8.1.b.size) (T1.out.below a8.1.b) (mine_lt a8.2.1.1) (fsts_R HR.out) (by rw [fsts_len]; omega) H2.out hbl
          unfold RetAw at AN
          rw [fsts_len] at AN
          have ANH := Lib.hid AN
          clear AN HE a8
          go_wp2_with fail
          refine ANH.out.mono ?_
          rintro r w20 ⟨A20, c20, mo20, rfl, m20, -, hb20⟩
          have M20 := Lib.hid m20
          have E20 := Lib.hid (AE.out.next hb20)
          obtain ⟨y0, y1, y2, y3, y4⟩ := of_cells (BN.out.next E20.out.1.b)
          have AN := answers_yes c s back look wd _ c8 (snds ps) w20 (Nat.lt_of_lt_of_le H0.out E20.out.1.b.size) (T1.out.below E20.out.1.b) (mine_lt E20.out.2.1.2.1) (snds_R HR.out) (by rw [snds_len]; omega) H2.out hbl
          unfold RetAw at AN
          rw [snds_len] at AN
          have ANK := Lib.hid AN
          clear AN m20 hb20 ANH AE x0 x1 x2 x3 x4
          go_wp2_with fail
          refine ANK.out.mono ?_
          rintro r w21 ⟨A21, c21, mo21, rfl, m21, -, hb21⟩
          have M21 := Lib.hid m21
          have E21 := Lib.hid (E20.out.next hb21)
          have M20b := Lib.hid (own_below M20.out hb21)
          have N1 := nums_same A20 c20 (allN c s back look (fsts ps) ps.length) A9 c9 w21 (by rw [allN_len]; unfold maxLen; omega) (MineT.ints' M20b.out) (MineT.ints' E21.out.2.1.2.2.1)
          have N2 := fun W (h : Below w21.heap.size w21 W) => nums_same A21 c21 (allN c s back look (snds ps) ps.length) A10 c10 W (by rw [allN_len]; unfold maxLen; omega) (MineT.ints' (own_below M21.out h)) (MineT.ints' (own_below E21.out.2.1.2.2.2.1 h))
          rw [allN_len] at N1
          simp only [allN_len] at N2
          have N1H := Lib.hid N1
          have N2H := Lib.hid N2
          clear N1 N2 m21 hb21 ANK E20 M20 y0 y1 y2 y3 y4
          simp only [allN_len]
          go_wp2_with fail
          refine N1H.out.mono ?_
          rintro r w22 ⟨rfl, hb22⟩
          have B22 := Lib.hid hb22
          clear hb22
          go_wp2_with fail
          refine (N2H.out _ B22.out).mono ?_
          rintro r w23 ⟨rfl, hb23⟩
          have B23 := Lib.hid (below_next B22.out hb23)
          have L23 := Lib.hid (below_next E21.out.1.b B23.out)
          clear hb23
          go_wp2_with fail
          refine (lives_any _ (T1.out.below L23.out) (Nat.lt_of_lt_of_le H0.out L23.out.size)).mono ?_
          rintro r w24 ⟨rfl, hb24⟩
          have L24 := Lib.hid (below_next (below_next L0.out L23.out) hb24)
          clear hb24
          go_wp2
          go_ret
          exact ⟨rfl, L24.out⟩
set_option maxHeartbeats 2000000 in
theorem alike_none (c : Int) (s : Bool) (bk lk wd : Int) (A : Option Addr) (cA : Nat) (n : Nat) (w : World) (h0 : 0 < w.heap.size) (hT : Sc.Tab w) (hbR : Sc.InR bk) (hw : whyW c bk lk 2 ≠ 0) (hm : n ≤ 2 ^ 63 - 1) :
    Calls Tryd.prog 10 #[.agg #[.int .i64 c, .bool s, .int .i64 bk, .int .i64 lk, .int .i64 wd], .slice A n cA] w fun e w' => e = .returned (.bool true) ∧ Below w.heap.size w w' := by
  have b0 := below_new w (.cells #[.int .i64 c, .bool s, .int .i64 bk, .int .i64 lk, .int .i64 wd] 45)
  have BN := Lib.hid (Bk.new 45 w [.int .i64 c, .bool s, .int .i64 bk, .int .i64 lk, .int .i64 wd])
  have T1 := Lib.hid (hT.below b0)
  have L0 := Lib.hid b0
  have H0 := Lib.hid (Nat.lt_of_lt_of_le h0 b0.size)
  have NN := Lib.hid (fun W (h : Sc.Tab W) => new_no c s bk lk 2 W h hbR hw)
  obtain ⟨y, hy⟩ : ∃ y, whyW c bk lk 2 = y := ⟨_, rfl⟩
  rw [hy] at NN hw
  have e1 : (y != 0) = true := by simpa using hw
  clear b0 h0 hT hw hy hbR
  obtain ⟨x0, x1, x2, x3, x4⟩ := of_cells BN.out
  obtain ⟨d, hd⟩ : ∃ d, decide ((n : Int) > 30) = d := ⟨_, rfl⟩
  cases d
  all_goals
    go_enter Tryd.func10, Tryd.ntmps10
    go_wp2_with fail
    refine (NN.out _ T1.out).mono ?_
    rintro r w2 ⟨rfl, hb2⟩
    have L2 := Lib.hid (below_next L0.out hb2)
    have LV := Lib.hid (lives_any _ (T1.out.below hb2) (Nat.lt_of_lt_of_le H0.out hb2.size))
    clear hb2 x0 x1 x2 x3 x4
    go_wp2_with fail
    refine LV.out.mono ?_
    rintro r w5 ⟨rfl, hb5⟩
    have L5 := Lib.hid (below_next L2.out hb5)
    clear hb5
    go_wp2
    go_ret
    exact ⟨rfl, L5.out⟩
set_option maxHeartbeats 2000000 in
theorem alike_many (c : Int) (s : Bool) (back look : Nat) (wd : Int) (A : Option Addr) (cA : Nat) (n : Nat) (w : World) (h0 : 0 < w.heap.size) (hT : Sc.Tab w) (h2 : Sc.hasB c 2 = true) (hbl : back + look ≤ 31) (hm : n ≤ 2 ^ 63 - 1) (hn : n > 30) :
    Calls Tryd.prog 10 #[.agg #[.int .i64 c, .bool s, .int .i64 (back : Nat), .int .i64 (look : Nat), .int .i64 wd], .slice A n cA] w fun e w' => e = .returned (.bool true) ∧ Below w.heap.size w w' := by
  have b0 := below_new w (.cells #[.int .i64 c, .bool s, .int .i64 (back : Nat), .int .i64 (look : Nat), .int .i64 wd] 45)
  have BN := Lib.hid (Bk.new 45 w [.int .i64 c, .bool s, .int .i64 (back : Nat), .int .i64 (look : Nat), .int .i64 wd])
  have T1 := Lib.hid (hT.below b0)
  have L0 := Lib.hid b0
  have H0 := Lib.hid (Nat.lt_of_lt_of_le h0 b0.size)
  have NW := Lib.hid (fun W (hT : Sc.Tab W) (h0 : 0 < W.heap.size) => show Calls Tryd.prog 22 #[.agg #[.int .i64 c, .bool s], .int .i64 (back : Nat), .int .i64 (look : Nat), .int .i64 2] W (RetNew c s 2 back look W) from new_yes c s 2 back look W h0 hT (by omega) h2 hbl)
  have t1 : decide ((n : Int) > 30) = true := decide_eq_true (by omega)
  clear b0 h0 hT h2 hn
  obtain ⟨x0, x1, x2, x3, x4⟩ := of_cells BN.out
  go_enter Tryd.func10, Tryd.ntmps10
  go_wp2_with fail
  refine (NW.out _ T1.out H0.out).mono ?_
  rintro r w2 ⟨g, V, Y, T, rfl, -, hb2⟩
  have L2 := Lib.hid (below_next L0.out hb2)
  have LV := Lib.hid (lives_any _ (T1.out.below hb2) (Nat.lt_of_lt_of_le H0.out hb2.size))
  clear hb2 x0 x1 x2 x3 x4
  go_wp2_with fail
  refine LV.out.mono ?_
  rintro r w5 ⟨rfl, hb5⟩
  have L5 := Lib.hid (below_next L2.out hb5)
  clear hb5
  go_wp2
  go_ret
  exact ⟨rfl, L5.out⟩
theorem alike_any (c : Int) (s : Bool) (bk lk wd : Int) (A : Option Addr) (cA : Nat) (ps : List (Int × Int)) (w : World) (h0 : 0 < w.heap.size) (hT : Sc.Tab w) (hbR : Sc.InR bk) (hV : Prs w A ps) (hR : ∀ q ∈ ps, Sc.InR q.1 ∧ Sc.InR q.2) (hm : ps.length ≤ maxLen) :
    Calls Tryd.prog 10 #[.agg #[.int .i64 c, .bool s, .int .i64 bk, .int .i64 lk, .int .i64 wd], .slice A ps.length cA] w fun e w' => e = .returned (.bool true) ∧ Below w.heap.size w w' := by
  unfold maxLen at hm
  by_cases hw : whyW c bk lk 2 = 0
  · obtain ⟨_, _, h3, h4, h5, h6⟩ := why_yes hw
    obtain ⟨back, rfl⟩ : ∃ k : Nat, bk = k := ⟨bk.toNat, by omega⟩
    obtain ⟨look, rfl⟩ : ∃ k : Nat, lk = k := ⟨lk.toNat, by omega⟩
    by_cases h1 : ps.length > 30
    · exact alike_many c s back look wd A cA ps.length w h0 hT h3 (by omega) (by omega) h1
    · exact alike_yes c s back look wd A cA ps w h0 hT hV hR (by omega) h3 (by omega)
  · exact alike_none c s bk lk wd A cA ps.length w h0 hT hbR hw (by omega)
end Go.Proofs.YtfamgaakcbinkaaDoor.Wn
