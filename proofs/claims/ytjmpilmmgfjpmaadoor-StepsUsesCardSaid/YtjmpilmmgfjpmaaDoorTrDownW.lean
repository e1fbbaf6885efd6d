/-
  Layer 18, tree: riffleref18.Down: what it answers. Condition: at most 320 nodes of at most 20 parts each.
-/
import Derived.Test.YtjmpilmmgfjpmaaDoorTrDown
set_option maxRecDepth 100000
namespace Go.Proofs.YtjmpilmmgfjpmaaDoor.Tr
open Go.Proofs.YtjmpilmmgfjpmaaDoor.Sh Go.Proofs.YtjmpilmmgfjpmaaDoor.St
open Go.RowKit
set_option linter.unusedVariables false

def RetDn (i : Int) (o : Option Int) (w : World) (e : Ending) (w' : World) : Prop := match o with
  | some a => e = .returned (.tuple #[.int .i64 a, .bool true]) ∧ Below w.heap.size w w'
  | none => e = .returned (.tuple #[.int .i64 i, .bool false]) ∧ Below w.heap.size w w'
theorem want_none {k : Int} (h : ¬ (1 ≤ k ∧ k ≤ 12)) : wantL k = [110, 111, 110, 101] := by unfold wantL; rw [if_neg h]
theorem want_some {k : Int} (h : 1 ≤ k ∧ k ≤ 12) : wantL k = (partsL k).map chJ := by unfold wantL; rw [if_pos h]
theorem want_ne {k : Int} (h : 1 ≤ k ∧ k ≤ 12) : ¬ (⟨((partsL k).map chJ).toArray⟩ : ByteArray) = ⟨#[110, 111, 110, 101]⟩ := by
  intro e
  have e2 := congrArg (fun s : ByteArray => s.data.toList.length) e
  simp at e2
  unfold partsL at e2
  repeat' split at e2
  all_goals simp at e2
theorem kidsDown_skip {D : Int → Option Int} {qs : List Nq} {l : List (Nat × Int)} {c : Nat} {j : Nat} {x : Int} (h : l[c]? = some (j, x)) (at_ : Int) : kidsDown D qs (l.take (c + 1)).reverse at_ = if x = at_ ∧ 0 ≤ at_ ∧ mayB j (kindAt qs at_) = true then match D at_ with
    | some a => kidsDown D qs (l.take c).reverse a
    | none => none else none := by
  rw [List.take_add_one, h]
  simp only [Option.toList_some, List.reverse_append, List.reverse_cons, List.reverse_nil, List.nil_append, List.singleton_append]
  rw [kidsDown]
  rfl
set_option maxHeartbeats 8000000 in
theorem rdown_out (A : Option Addr) (c : Nat) (qs : List Nq) (i : Int) (w : World) (hi : i < 0 ∨ (qs.length : Int) ≤ i) : Calls Tryd.prog 42 #[.slice A qs.length c, .int .i64 i] w (RetDn i none w) := by
  by_cases h0 : i < 0
  · have t0 : decide (i < 0) = true := by simpa using h0
    clear h0 hi
    go_enter Tryd.func42, Tryd.ntmps42
    go_wp2
    go_ret2
    exact ⟨rfl, Below.refl _ _⟩
  · have t0 : decide (i < 0) = false := by simpa using h0
    have t1 : decide ((qs.length : Int) ≤ i) = true := by simp; omega
    clear h0 hi
    go_enter Tryd.func42, Tryd.ntmps42
    go_wp2
    go_ret2
    exact ⟨rfl, Below.refl _ _⟩
set_option maxRecDepth 100000 in
set_option maxHeartbeats 16000000 in
theorem rdown_k (A : Option Addr) (c : Nat) (qs : List Nq) (h3 : qs.length ≤ 1000) (h20 : ∀ q ∈ qs, q.n.kids.length ≤ 1000) : ∀ (k : Nat) (w : World), Nodes w A qs → k < qs.length → Calls Tryd.prog 42 #[.slice A qs.length c, .int .i64 (k : Int)] w (RetDn (k : Int) (down qs (k : Int)) w) := by
  intro k
  induction k using Nat.strongRecOn with
  | ind k ih =>
  intro w hn hk
  obtain ⟨q, hq⟩ : ∃ q, qs[k]? = some q := ⟨_, List.getElem?_eq_getElem hk⟩
  obtain ⟨b0, o0, rfl, hb0, ⟨c0, c1, c2, c3, c4, c5⟩, hin⟩ := hn.at_ hq
  have hdn : down qs (k : Int) = if nodeOk q = true then kidsDown (down qs) qs ((partsL q.n.kind).zip q.n.kids).reverse ((k : Int) - 1) else none := by
    rw [down_eq, if_pos (by omega), show ((k : Int)).toNat = k by simp, hq]
  have HDN := Lib.hid hdn
  have HIH := Lib.hid ih
  have HNO := Lib.hid hn
  have HIN := Lib.hid hin
  have H20 := Lib.hid (h20 q (List.mem_of_getElem? hq))
  have t0 : decide ((k : Int) < 0) = false := by simp
  have t1 : decide ((qs.length : Int) ≤ (k : Int)) = false := by simp; omega
  have i0 : (0 : Int) ≤ (k : Int) := by omega
  have i1 : (k : Int) < (qs.length : Int) := by omega
  have BX := Lib.hid (Bk.new 45 w [.int .i64 q.n.kind, .int .i64 q.n.pos, .int .i64 q.n.code, .slice q.ka q.n.kids.length q.kc, .slice q.na q.n.nums.length q.nc, .string q.n.name])
  have LX := Lib.hid (below_new w (.cells #[.int .i64 q.n.kind, .int .i64 q.n.pos, .int .i64 q.n.code, .slice q.ka q.n.kids.length q.kc, .slice q.na q.n.nums.length q.nc, .string q.n.name] 45))
  have HWA := Lib.hid (fun W => rwant_any q.n.kind W)
  have HK := Lib.hid hk
  clear hdn ih hn hin hq
  go_enter Tryd.func42, Tryd.ntmps42
  go_wp2_with fail
  refine (HWA.out _).mono ?_
  rintro e w1 ⟨rfl, hb1⟩
  have L1 := Lib.hid (Gl.below_next LX.out hb1)
  have B1 := Lib.hid (BX.out.next hb1)
  clear hb1 c0 c1 c2 c3 c4 c5
  by_cases hkd : 1 ≤ q.n.kind ∧ q.n.kind ≤ 12
  · obtain ⟨s, hs0⟩ : ∃ s : ByteArray, (⟨(wantL q.n.kind).toArray⟩ : ByteArray) = s := ⟨_, rfl⟩
    rw [hs0]
    have hsl : s.data.toList = (partsL q.n.kind).map chJ := by rw [← hs0, want_some hkd]
    have q0 : (s.toList == [110, 111, 110, 101]) = false := by
      rw [beq_eq_false_iff_ne, Gl.toList_data, hsl]
      exact fun e => want_ne hkd (by rw [e])
    have hj2 : ∀ j ∈ partsL q.n.kind, j ≤ 2 := by
      unfold partsL
      repeat' split
      all_goals decide
    have hjl := partsL_short q.n.kind
    have hno : nodeOk q = (decide ((partsL q.n.kind).length = q.n.kids.length) && fieldsB q.n) := by
      unfold nodeOk; rw [decide_eq_true hkd.1, decide_eq_true hkd.2]; rfl
    have HNOK := Lib.hid hno
    generalize partsL q.n.kind = js at *
    have hss : s.size = js.length := by
      have h1 : s.data.toList.length = s.size := by simp
      rw [← h1, hsl, List.length_map]
    have HSL := Lib.hid hsl
    have HJ2 := Lib.hid hj2
    have HSS := Lib.hid hss
    have z0 := B1.out.c 0
    have z1 := B1.out.c 1
    have z2 := B1.out.c 2
    have z3 := B1.out.c 3
    have z4 := B1.out.c 4
    have z5 := B1.out.c 5
    simp only [List.getElem?_cons_zero, List.getElem?_cons_succ] at z0 z1 z2 z3 z4 z5
    clear hs0 hsl hkd hj2 hno HWA
    by_cases hkl : js.length = q.n.kids.length
    · have q1 : ((s.size : Int) != (q.n.kids.length : Int)) = false := by simp; omega
      obtain ⟨fb, hfb⟩ : ∃ fb, fieldsB q.n = fb := ⟨_, rfl⟩
      have HFI := Lib.hid (fun W => rfields_b q fb W HIN.out.2.2.2.2 hfb)
      unfold nodeV at HFI
      have HN2 : Hid (nodeOk q = fb) := Lib.hid (by rw [HNOK.out, decide_eq_true hkl, hfb]; rfl)
      have HKL := Lib.hid hkl
      clear hfb hkl hss
      cases fb with
      | false =>
        have HS := Lib.hid (show down qs (k : Int) = none by rw [HDN.out, if_neg (by rw [HN2.out]; simp)])
        go_wp2_with fail
        refine (HFI.out _).mono ?_
        rintro e w2 ⟨rfl, hb2⟩
        have L2 := Lib.hid (Gl.below_next L1.out hb2)
        clear hb2
        go_wp2
        go_ret2
        rw [HS.out]
        exact ⟨rfl, L2.out⟩
      | true =>
        have HDD : Hid (down qs (k : Int) = kidsDown (down qs) qs (js.zip q.n.kids).reverse ((k : Int) - 1)) := Lib.hid (by rw [HDN.out, if_pos HN2.out])
        have hsub : IntKind.i64.wrap ((k : Int) - 1) = (k : Int) - 1 := IntWalk.i64_in _ (by omega)
        have hsub2 : IntKind.i64.wrap ((s.size : Int) - 1) = (s.size : Int) - 1 := IntWalk.i64_in _ (by have := HSS.out; omega)
        go_wp2_with fail
        refine (HFI.out _).mono ?_
        rintro e w2 ⟨rfl, hb2⟩
        have L2 := Lib.hid (Gl.below_next L1.out hb2)
        have B2 := Lib.hid (B1.out.next hb2)
        clear hb2 z0 z1 z2 z3 z4 z5
        go_wp2_with fail
        go_loopw [8, 9] (fun at_ kk wr => ∃ (c' : Nat) (a : Int), c' ≤ js.length ∧ at_ = .int .i64 a ∧ kk = .int .i64 ((c' : Int) - 1) ∧ a < (k : Int) ∧ kidsDown (down qs) qs (js.zip q.n.kids).reverse ((k : Int) - 1) = kidsDown (down qs) qs ((js.zip q.n.kids).take c').reverse a ∧ Hid (Below w2.heap.size w2 wr)) (fun _ kk _ => (intOf kk + 1).toNat)
        case atStart => exact ⟨js.length, (k : Int) - 1, Nat.le_refl _, rfl, by rw [HSS.out], by omega, by rw [List.take_of_length_le (by rw [List.length_zip]; omega)], Lib.hid (Below.refl _ _)⟩
        case round =>
          obtain ⟨c', a, hc', rfl, rfl, hak, hinv, HW⟩ := hrel
          have HINV := Lib.hid hinv
          have LR := Lib.hid (Gl.below_next L2.out HW.out)
          have HNR := Lib.hid (HNO.out.next LR.out)
          clear hinv
          cases c' with
          | zero =>
            have HS : Hid (down qs (k : Int) = some a) := Lib.hid (by rw [HDD.out, HINV.out]; rfl)
            rw [show ((0 : Nat) : Int) - 1 = -1 by rfl]
            go_wp2
            go_ret2
            rw [HS.out]
            exact ⟨rfl, LR.out⟩
          | succ c2 =>
            rw [show ((c2 + 1 : Nat) : Int) - 1 = (c2 : Int) by omega]
            obtain ⟨j, hj⟩ : ∃ j, js[c2]? = some j := ⟨_, List.getElem?_eq_getElem (by omega)⟩
            obtain ⟨x, hx⟩ : ∃ x, q.n.kids[c2]? = some x := ⟨_, List.getElem?_eq_getElem (by have := HKL.out; omega)⟩
            have hz : (js.zip q.n.kids)[c2]? = some (j, x) := by rw [List.getElem?_zip_eq_some]; exact ⟨hj, hx⟩
            have HZ := Lib.hid hz
            have B3 := Lib.hid (B2.out.next HW.out)
            have z3 := B3.out.c 3
            simp only [List.getElem?_cons_zero, List.getElem?_cons_succ] at z3
            have hki := HIN.out.1.below (LX.out)
            obtain ⟨bK, oK, hKA, hbK, hcK⟩ := (HIN.out.1.below LR.out) (by have := HKL.out; omega)
            have hcx := hcK c2 (by have := HKL.out; omega)
            rw [show q.n.kids.getD c2 0 = x by rw [List.getD_eq_getElem?_getD, hx]; rfl] at hcx
            rw [hKA] at z3
            have ic0 : (0 : Int) ≤ (c2 : Int) := by omega
            have ic1 : (c2 : Int) < (q.n.kids.length : Int) := by have := HKL.out; omega
            have tc : decide ((0 : Int) ≤ (c2 : Int)) = true := by simp
            have hsubc : IntKind.i64.wrap ((c2 : Int) - 1) = (c2 : Int) - 1 := IntWalk.i64_in _ (by omega)
            have hjm := HJ2.out j (List.mem_of_getElem? hj)
            have hcs : c2 < s.size := by have := HSS.out; omega
            have hsc : s[c2] = chJ j := by
              have h1 := Gl.at_list s c2 hcs
              rw [HSL.out, List.getElem?_map, hj] at h1
              simpa using h1.symm
            clear hz hki hcK hbK hx hj hKA
            by_cases hxa : x = a ∧ 0 ≤ a
            · obtain ⟨hx1, ha0⟩ := hxa
              obtain ⟨a', ha'⟩ : ∃ a' : Nat, a = (a' : Int) := ⟨a.toNat, by omega⟩
              subst ha'
              subst hx1
              have HX := Lib.hid (rfl : (a' : Int) = (a' : Int))
              have HAK := Lib.hid (show a' < k by omega)
              obtain ⟨q2, hq2⟩ : ∃ q, qs[a']? = some q := ⟨_, List.getElem?_eq_getElem (by have := HK.out; omega)⟩
              have hkd2 : kindAt qs (a' : Int) = q2.n.kind := by unfold kindAt; rw [show ((a' : Int)).toNat = a' by simp, hq2]
              obtain ⟨b9, o9, e9, hb9, ⟨n0, -, -, -, -, -⟩, -⟩ := HNR.out.at_ hq2
              injection e9 with e9
              injection e9 with e9 e10 e11
              subst e9 e10
              have e1 : ((a' : Int) != (a' : Int)) = false := by simp
              have t2 : decide ((a' : Int) < 0) = false := by simp
              have ia0 : (0 : Int) ≤ (a' : Int) := by omega
              have ia1 : (a' : Int) < (qs.length : Int) := by have := HK.out; omega
              clear hq2 hb9 hak ha0
              rcases (show j = 0 ∨ j = 1 ∨ j = 2 by omega) with rfl | rfl | rfl
              · have y1 : ((s[c2].toNat : Int) == 118) = true := by rw [hsc]; rfl
                have y2 : ((s[c2].toNat : Int) == 102) = false := by rw [hsc]; rfl
                have y3 : ((s[c2].toNat : Int) == 110) = false := by rw [hsc]; rfl
                obtain ⟨vb, hvb⟩ : ∃ vb, valI q2.n.kind = vb := ⟨_, rfl⟩
                have HV := Lib.hid (fun W => rvalue_b q2.n.kind vb W hvb)
                have HMY0 : Hid (mayB 0 (kindAt qs (a' : Int)) = vb) := Lib.hid (by rw [hkd2]; exact hvb)
                clear hvb hkd2 hsc
                cases vb with
                | false =>
                  have HS := Lib.hid (show down qs (k : Int) = none by rw [HDD.out, HINV.out, kidsDown_skip HZ.out, if_neg (by rw [HMY0.out]; simp)])
                  go_wp2_with fail
                  refine (HV.out _).mono ?_
                  rintro e w8 ⟨rfl, rfl⟩
                  go_wp2
                  go_ret2
                  rw [HS.out]
                  exact ⟨rfl, LR.out⟩
                | true =>
                  have HMY := HMY0
                  obtain ⟨o, ho⟩ : ∃ o, down qs (a' : Int) = o := ⟨_, rfl⟩
                  have HIHA := Lib.hid (HIH.out a' HAK.out wr HNR.out (by have := HK.out; have := HAK.out; omega))
                  rw [ho] at HIHA
                  have HOO := Lib.hid ho
                  clear ho
                  cases o with
                  | none =>
                    have HS := Lib.hid (show down qs (k : Int) = none by rw [HDD.out, HINV.out, kidsDown_skip HZ.out, if_pos ⟨rfl, by omega, HMY.out⟩, HOO.out])
                    go_wp2_with fail
                    refine (HV.out _).mono ?_
                    rintro e w8 ⟨rfl, rfl⟩
                    go_wp2_with fail
                    refine (HIHA.out).mono ?_
                    rintro e w9 ⟨rfl, hb9⟩
                    have LR9 := Lib.hid (Gl.below_next LR.out hb9)
                    clear hb9
                    go_wp2
                    go_ret2
                    rw [HS.out]
                    exact ⟨rfl, LR9.out⟩
                  | some a2 =>
                    have HLT := Lib.hid (down_lt HOO.out)
                    go_wp2_with fail
                    refine (HV.out _).mono ?_
                    rintro e w8 ⟨rfl, rfl⟩
                    go_wp2_with fail
                    refine (HIHA.out).mono ?_
                    rintro e w9 ⟨rfl, hb9⟩
                    have HW9 := Lib.hid (Gl.below_next HW.out hb9)
                    clear hb9
                    go_wp2
                    go_round
                    case rel => exact ⟨c2, a2, by omega, rfl, rfl, by have := HLT.out; have := HAK.out; omega, (by have h := HINV.out; rw [kidsDown_skip HZ.out, if_pos ⟨rfl, by omega, HMY.out⟩, HOO.out] at h; exact h), HW9⟩
                    case measure => first | (simp [intOf]; done) | (simp [intOf]; omega)
              · have y1 : ((s[c2].toNat : Int) == 118) = false := by rw [hsc]; rfl
                have y2 : ((s[c2].toNat : Int) == 102) = true := by rw [hsc]; rfl
                have y3 : ((s[c2].toNat : Int) == 110) = false := by rw [hsc]; rfl
                obtain ⟨vb, hvb⟩ : ∃ vb, funI q2.n.kind = vb := ⟨_, rfl⟩
                have HV := Lib.hid (fun W => rfunction_b q2.n.kind vb W hvb)
                have HMY0 : Hid (mayB 1 (kindAt qs (a' : Int)) = vb) := Lib.hid (by rw [hkd2]; exact hvb)
                clear hvb hkd2 hsc
                cases vb with
                | false =>
                  have HS := Lib.hid (show down qs (k : Int) = none by rw [HDD.out, HINV.out, kidsDown_skip HZ.out, if_neg (by rw [HMY0.out]; simp)])
                  go_wp2_with fail
                  refine (HV.out _).mono ?_
                  rintro e w8 ⟨rfl, rfl⟩
                  go_wp2
                  go_ret2
                  rw [HS.out]
                  exact ⟨rfl, LR.out⟩
                | true =>
                  have HMY := HMY0
                  obtain ⟨o, ho⟩ : ∃ o, down qs (a' : Int) = o := ⟨_, rfl⟩
                  have HIHA := Lib.hid (HIH.out a' HAK.out wr HNR.out (by have := HK.out; have := HAK.out; omega))
                  rw [ho] at HIHA
                  have HOO := Lib.hid ho
                  clear ho
                  cases o with
                  | none =>
                    have HS := Lib.hid (show down qs (k : Int) = none by rw [HDD.out, HINV.out, kidsDown_skip HZ.out, if_pos ⟨rfl, by omega, HMY.out⟩, HOO.out])
                    go_wp2_with fail
                    refine (HV.out _).mono ?_
                    rintro e w8 ⟨rfl, rfl⟩
                    go_wp2_with fail
                    refine (HIHA.out).mono ?_
                    rintro e w9 ⟨rfl, hb9⟩
                    have LR9 := Lib.hid (Gl.below_next LR.out hb9)
                    clear hb9
                    go_wp2
                    go_ret2
                    rw [HS.out]
                    exact ⟨rfl, LR9.out⟩
                  | some a2 =>
                    have HLT := Lib.hid (down_lt HOO.out)
                    go_wp2_with fail
                    refine (HV.out _).mono ?_
                    rintro e w8 ⟨rfl, rfl⟩
                    go_wp2_with fail
                    refine (HIHA.out).mono ?_
                    rintro e w9 ⟨rfl, hb9⟩
                    have HW9 := Lib.hid (Gl.below_next HW.out hb9)
                    clear hb9
                    go_wp2
                    go_round
                    case rel => exact ⟨c2, a2, by omega, rfl, rfl, by have := HLT.out; have := HAK.out; omega, (by have h := HINV.out; rw [kidsDown_skip HZ.out, if_pos ⟨rfl, by omega, HMY.out⟩, HOO.out] at h; exact h), HW9⟩
                    case measure => first | (simp [intOf]; done) | (simp [intOf]; omega)
              · have y1 : ((s[c2].toNat : Int) == 118) = false := by rw [hsc]; rfl
                have y2 : ((s[c2].toNat : Int) == 102) = false := by rw [hsc]; rfl
                have y3 : ((s[c2].toNat : Int) == 110) = true := by rw [hsc]; rfl
                obtain ⟨vb, hvb⟩ : ∃ vb, funI q2.n.kind = vb := ⟨_, rfl⟩
                have HV := Lib.hid (fun W => rfunction_b q2.n.kind vb W hvb)
                have HMY0 : Hid (mayB 2 (kindAt qs (a' : Int)) = (vb || decide (q2.n.kind = 1))) := Lib.hid (by rw [hkd2, ← hvb]; rfl)
                clear hvb hkd2 hsc
                cases vb with
                | true =>
                  have HMY : Hid (mayB 2 (kindAt qs (a' : Int)) = true) := Lib.hid (by rw [HMY0.out]; rfl)
                  obtain ⟨o, ho⟩ : ∃ o, down qs (a' : Int) = o := ⟨_, rfl⟩
                  have HIHA := Lib.hid (HIH.out a' HAK.out wr HNR.out (by have := HK.out; have := HAK.out; omega))
                  rw [ho] at HIHA
                  have HOO := Lib.hid ho
                  clear ho
                  cases o with
                  | none =>
                    have HS := Lib.hid (show down qs (k : Int) = none by rw [HDD.out, HINV.out, kidsDown_skip HZ.out, if_pos ⟨rfl, by omega, HMY.out⟩, HOO.out])
                    go_wp2_with fail
                    refine (HV.out _).mono ?_
                    rintro e w8 ⟨rfl, rfl⟩
                    go_wp2_with fail
                    refine (HIHA.out).mono ?_
                    rintro e w9 ⟨rfl, hb9⟩
                    have LR9 := Lib.hid (Gl.below_next LR.out hb9)
                    clear hb9
                    go_wp2
                    go_ret2
                    rw [HS.out]
                    exact ⟨rfl, LR9.out⟩
                  | some a2 =>
                    have HLT := Lib.hid (down_lt HOO.out)
                    go_wp2_with fail
                    refine (HV.out _).mono ?_
                    rintro e w8 ⟨rfl, rfl⟩
                    go_wp2_with fail
                    refine (HIHA.out).mono ?_
                    rintro e w9 ⟨rfl, hb9⟩
                    have HW9 := Lib.hid (Gl.below_next HW.out hb9)
                    clear hb9
                    go_wp2
                    go_round
                    case rel => exact ⟨c2, a2, by omega, rfl, rfl, by have := HLT.out; have := HAK.out; omega, (by have h := HINV.out; rw [kidsDown_skip HZ.out, if_pos ⟨rfl, by omega, HMY.out⟩, HOO.out] at h; exact h), HW9⟩
                    case measure => first | (simp [intOf]; done) | (simp [intOf]; omega)
                | false =>
                  by_cases hk1 : q2.n.kind = 1
                  · have HMY : Hid (mayB 2 (kindAt qs (a' : Int)) = true) := Lib.hid (by rw [HMY0.out, hk1]; rfl)
                    have t9 : (q2.n.kind != 1) = false := by rw [hk1]; rfl
                    clear hk1
                    obtain ⟨o, ho⟩ : ∃ o, down qs (a' : Int) = o := ⟨_, rfl⟩
                    have HIHA := Lib.hid (HIH.out a' HAK.out wr HNR.out (by have := HK.out; have := HAK.out; omega))
                    rw [ho] at HIHA
                    have HOO := Lib.hid ho
                    clear ho
                    cases o with
                    | none =>
                      have HS := Lib.hid (show down qs (k : Int) = none by rw [HDD.out, HINV.out, kidsDown_skip HZ.out, if_pos ⟨rfl, by omega, HMY.out⟩, HOO.out])
                      go_wp2_with fail
                      refine (HV.out _).mono ?_
                      rintro e w8 ⟨rfl, rfl⟩
                      go_wp2_with fail
                      refine (HIHA.out).mono ?_
                      rintro e w9 ⟨rfl, hb9⟩
                      have LR9 := Lib.hid (Gl.below_next LR.out hb9)
                      clear hb9
                      go_wp2
                      go_ret2
                      rw [HS.out]
                      exact ⟨rfl, LR9.out⟩
                    | some a2 =>
                      have HLT := Lib.hid (down_lt HOO.out)
                      go_wp2_with fail
                      refine (HV.out _).mono ?_
                      rintro e w8 ⟨rfl, rfl⟩
                      go_wp2_with fail
                      refine (HIHA.out).mono ?_
                      rintro e w9 ⟨rfl, hb9⟩
                      have HW9 := Lib.hid (Gl.below_next HW.out hb9)
                      clear hb9
                      go_wp2
                      go_round
                      case rel => exact ⟨c2, a2, by omega, rfl, rfl, by have := HLT.out; have := HAK.out; omega, (by have h := HINV.out; rw [kidsDown_skip HZ.out, if_pos ⟨rfl, by omega, HMY.out⟩, HOO.out] at h; exact h), HW9⟩
                      case measure => first | (simp [intOf]; done) | (simp [intOf]; omega)
                  · have t9 : (q2.n.kind != 1) = true := by simpa using hk1
                    have HS := Lib.hid (show down qs (k : Int) = none by rw [HDD.out, HINV.out, kidsDown_skip HZ.out, if_neg (by rw [HMY0.out]; simp [hk1])])
                    clear hk1
                    go_wp2_with fail
                    refine (HV.out _).mono ?_
                    rintro e w8 ⟨rfl, rfl⟩
                    go_wp2
                    go_ret2
                    rw [HS.out]
                    exact ⟨rfl, LR.out⟩
            · have HS := Lib.hid (show down qs (k : Int) = none by rw [HDD.out, HINV.out, kidsDown_skip HZ.out, if_neg (fun h => hxa ⟨h.1, h.2.1⟩)])
              by_cases hx1 : x = a
              · have e1 : (x != a) = false := by simp [hx1]
                have t2 : decide (a < 0) = true := by simp; omega
                clear hxa hx1
                go_wp2
                go_ret2
                rw [HS.out]
                exact ⟨rfl, LR.out⟩
              · have e1 : (x != a) = true := by simpa using hx1
                clear hxa hx1
                go_wp2
                go_ret2
                rw [HS.out]
                exact ⟨rfl, LR.out⟩
    · have q1 : ((s.size : Int) != (q.n.kids.length : Int)) = true := by simp; omega
      have HS := Lib.hid (show down qs (k : Int) = none by rw [HDN.out, if_neg (by rw [HNOK.out, decide_eq_false hkl]; simp)])
      clear hkl hss
      go_wp2
      go_ret2
      rw [HS.out]
      exact ⟨rfl, L1.out⟩
  · rw [want_none hkd]
    have HS := Lib.hid (show down qs (k : Int) = none by rw [HDN.out, if_neg]; unfold nodeOk; intro h; simp at h; exact hkd ⟨h.1, h.2.1⟩)
    clear hkd
    go_wp2
    go_ret2
    rw [HS.out]
    exact ⟨rfl, L1.out⟩
end Go.Proofs.YtjmpilmmgfjpmaaDoor.Tr
