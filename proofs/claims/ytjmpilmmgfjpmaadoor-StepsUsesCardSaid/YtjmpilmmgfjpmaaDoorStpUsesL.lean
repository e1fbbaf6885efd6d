/-
  Layer 22, steps: rifflelaw22.StepsUses. Condition: the table of scalar functions.
-/
import Derived.Test.YtjmpilmmgfjpmaaDoorStpUses
set_option maxRecDepth 100000
namespace Go.Proofs.YtjmpilmmgfjpmaaDoor.Stp
open Go.Proofs.YtjmpilmmgfjpmaaDoor.Sh Go.Proofs.YtjmpilmmgfjpmaaDoor.St Go.Proofs.YtjmpilmmgfjpmaaDoor.Tr
open Go.RowKit
set_option linter.unusedVariables false
set_option linter.unusedSimpArgs false

theorem val_none {qs : List Nq} (hA : Ahead qs) {k : Nat} {q : Nq} (hq : qs[k]? = some q) (h : funI q.n.kind = false) : scV qs (k : Int) = none ∧ usV qs (k : Int) = (false, false) := by
  have hk : q.n.kind < 5 ∨ 12 < q.n.kind := by
    unfold funI at h
    simp only [Bool.and_eq_false_iff, decide_eq_false_iff_not] at h
    omega
  rw [scV_eq hA hq, usV_eq hA hq]
  unfold scN usN
  rw [if_neg (by omega), if_neg (by omega), if_neg (by omega), if_neg (by omega), if_neg (by omega), if_neg (by omega), if_neg (by omega), if_neg (by omega)]
  exact ⟨rfl, rfl⟩
theorem rfun_b (k : Int) (b : Bool) (w : World) (h : funI k = b) : Calls Tryd.prog 15 #[.int .i64 k] w fun e w' => e = .returned (.bool b) ∧ w = w' := function_b k b w h
set_option maxHeartbeats 16000000 in
theorem usesL_any (p : Pq) (i : Int) (w : World) (hp : ProgIn w p) (hT : Sc.Tab w) : Calls Tryd.prog 4 #[progV p, .int .i64 i] w (RetBl true w) := by
  have L1 := Lib.hid (below_new w (.cells #[.string p.name, .slice p.da p.dims.length p.dc, .slice p.na p.nodes.length p.nc, .slice p.fa p.defs.length p.fc, .int .i64 p.root] 26))
  have BP := Lib.hid (show Bk 26 (w.alloc (.cells #[.string p.name, .slice p.da p.dims.length p.dc, .slice p.na p.nodes.length p.nc, .slice p.fa p.defs.length p.fc, .int .i64 p.root] 26)) w.heap.size [.string p.name, .slice p.da p.dims.length p.dc, .slice p.na p.nodes.length p.nc, .slice p.fa p.defs.length p.fc, .int .i64 p.root] from Bk.new _ w _)
  have HG := Lib.hid (great_any p _ (hp.next L1.out))
  have HLV := Lib.hid (fun W (hW : Below w.heap.size w W) => lives_any W (hT.below hW))
  have HSC := Lib.hid (fun W (hW : Below w.heap.size w W) (hf : FitP p) => scalar_any p i W (hp.next hW) hf (hT.below hW))
  have HUS := Lib.hid (fun W (hW : Below w.heap.size w W) (hf : FitP p) => uses_any p i W (hp.next hW) hf (hT.below hW))
  have HRF := Lib.hid (fun b (hb : flatB p = b) W (hW : Below w.heap.size w W) (hf : FitP p) => rflat_b p b W (hp.next hW) hf hb)
  have HPI := Lib.hid hp
  unfold progV at HG HSC HUS HRF ⊢
  clear hp hT
  go_enter Tryd.func4, Tryd.ntmps4
  go_wp2_with fail
  refine (HG.out).mono ?_
  generalize (w.alloc (.cells #[.string p.name, .slice p.da p.dims.length p.dc, .slice p.na p.nodes.length p.nc, .slice p.fa p.defs.length p.fc, .int .i64 p.root] 26)) = w1 at *
  rintro e w2 ⟨b, rfl, hf, hb2⟩
  have L2 := Lib.hid (Gl.below_next L1.out hb2)
  have BP2 := Lib.hid (BP.out.next hb2)
  have HF := Lib.hid hf
  clear hb2 hf
  cases b with
  | true =>
    go_wp2_with fail
    refine (HLV.out w2 L2.out).mono ?_
    rintro e w3 ⟨rfl, hb3⟩
    have L3 := Lib.hid (Gl.below_next L2.out hb3)
    clear hb3
    go_wp2
    go_ret
    exact ⟨rfl, L3.out⟩
  | false =>
    have HFT := Lib.hid (HF.out rfl)
    have x0 := BP2.out.c 0
    have x1 := BP2.out.c 1
    have x2 := BP2.out.c 2
    have x3 := BP2.out.c 3
    have x4 := BP2.out.c 4
    simp only [List.getElem?_cons_zero, List.getElem?_cons_succ] at x0 x1 x2 x3 x4
    go_wp2_with fail
    refine (HSC.out w2 L2.out HFT.out).mono ?_
    rintro e w3 ⟨c1, s1, hcs, rfl, hb3⟩
    obtain ⟨ok, hok⟩ : ∃ ok, (if thF p i = true then scV p.nodes i else none).isSome = ok := ⟨_, rfl⟩
    rw [hok]
    have HCS := Lib.hid hcs
    have HOK := Lib.hid hok
    have FN := ".cells"
    have L3 := Lib.hid (Gl.below_next L2.out hb3)
    have L4 := Lib.hid (L3.out.trans ((below_new w3 (.cells #[.int .i64 c1, .bool s1] 37)).mono L3.out.size))
    have BP4 := Lib.hid ((BP2.out.next hb3).alloc (.cells #[.int .i64 c1, .bool s1] 37))
    have BF4 := Lib.hid (new_at (t := 37) w3 [.int .i64 c1, .bool s1] rfl)
    clear hb3 hcs hok x0 x1 x2 x3 x4 FN
    have x0 := BP4.out.c 0
    have x1 := BP4.out.c 1
    have x2 := BP4.out.c 2
    have x3 := BP4.out.c 3
    have x4 := BP4.out.c 4
    simp only [List.getElem?_cons_zero, List.getElem?_cons_succ] at x0 x1 x2 x3 x4
    go_wp2_with fail
    generalize w3.alloc (.cells #[.int .i64 c1, .bool s1] 37) = w4 at *
    generalize w3.heap.size = g4 at *
    refine (HUS.out w4 L4.out HFT.out).mono ?_
    rintro e w5 ⟨ua, ub, huv, rfl, hb5⟩
    have HUV := Lib.hid huv
    have L5 := Lib.hid (Gl.below_next L4.out hb5)
    have BP5 := Lib.hid (BP4.out.next hb5)
    have BF5 := Lib.hid (BF4.out.next hb5)
    clear hb5 huv x0 x1 x2 x3 x4
    have x0 := BP5.out.c 0
    have x1 := BP5.out.c 1
    have x2 := BP5.out.c 2
    have x3 := BP5.out.c 3
    have x4 := BP5.out.c 4
    have z0 := BF5.out.c 0
    have z1 := BF5.out.c 1
    simp only [List.getElem?_cons_zero, List.getElem?_cons_succ] at x0 x1 x2 x3 x4 z0 z1
    by_cases hin : 0 ≤ i ∧ i < (p.nodes.length : Int)
    · obtain ⟨hi0, hi1⟩ := hin
      obtain ⟨k, rfl⟩ : ∃ k : Nat, i = (k : Int) := ⟨i.toNat, by omega⟩
      have hkl : k < p.nodes.length := by omega
      obtain ⟨q, hq⟩ : ∃ q, p.nodes[k]? = some q := ⟨_, List.getElem?_eq_getElem hkl⟩
      have hth : thF p (k : Int) = flatB p := by
        unfold thF thereB
        rw [decide_eq_true hi0, decide_eq_true hi1]
        rfl
      have t1 : decide ((k : Int) < 0) = false := decide_eq_false (by omega)
      have t2 : decide ((p.nodes.length : Int) ≤ (k : Int)) = false := decide_eq_false (by omega)
      have t2n : decide (p.nodes.length ≤ k) = false := decide_eq_false (by omega)
      obtain ⟨fb, hfb⟩ : ∃ fb, flatB p = fb := ⟨_, rfl⟩
      rw [hth, hfb] at HCS HOK HUV
      have HR := Lib.hid (fun W hW hf => HRF.out fb hfb W hW hf)
      cases fb with
      | false =>
        have hcs := HCS.out
        have hok := HOK.out
        have huv := HUV.out
        simp only [if_neg (show ¬ (false = true) by decide)] at hcs hok huv
        obtain ⟨rfl, rfl⟩ : (0 : Int) = c1 ∧ false = s1 := by injection hcs with h1 h2; exact ⟨h1, h2⟩
        obtain ⟨rfl, rfl⟩ : false = ua ∧ false = ub := by injection huv with h1 h2; exact ⟨h1, h2⟩
        subst hok
        clear hcs huv hq hfb hth HCS HOK HUV hkl
        go_wp2_with fail
        refine (HR.out w5 L5.out HFT.out).mono ?_
        rintro e w6 ⟨rfl, hb6⟩
        have L6 := Lib.hid (Gl.below_next L5.out hb6)
        have BF6 := Lib.hid (BF5.out.next hb6)
        clear hb6 z0 z1
        have z0 := BF6.out.c 0
        have z1 := BF6.out.c 1
        simp only [List.getElem?_cons_zero, List.getElem?_cons_succ, Option.isSome_none] at z0 z1 ⊢
        go_wp2_with fail
        refine (HLV.out w6 L6.out).mono ?_
        rintro e w7 ⟨rfl, hb7⟩
        have L7 := Lib.hid (Gl.below_next L6.out hb7)
        clear hb7
        go_wp2
        go_ret
        exact ⟨rfl, L7.out⟩
      | true =>
        have hF := fl_right (flat_nokn hfb).1
        have hK := (flat_nokn hfb).2.1
        obtain ⟨kk, hkk⟩ : ∃ kk, q.n.kind = kk := ⟨_, rfl⟩
        obtain ⟨b0, o0, eA, hb0, cN, -⟩ := HPI.out.2.1.at_ hq
        have HC0 := Lib.hid cN.1
        rw [hkk] at HC0
        have HB0 := Lib.hid hb0
        have HEA := Lib.hid eA
        obtain ⟨fn, hfn⟩ : ∃ fn, funI kk = fn := ⟨_, rfl⟩
        have HFU := Lib.hid (fun W => rfun_b kk fn W hfn)
        cases fn with
        | false =>
          have hn := val_none hF.ahead hq (by rw [hkk]; exact hfn)
          have hcs := HCS.out
          have hok := HOK.out
          have huv := HUV.out
          rw [if_pos rfl, hn.1] at hcs hok
          rw [if_pos rfl, hn.2] at huv
          obtain ⟨rfl, rfl⟩ : (0 : Int) = c1 ∧ false = s1 := by injection hcs with h1 h2; exact ⟨h1, h2⟩
          obtain ⟨rfl, rfl⟩ : false = ua ∧ false = ub := by injection huv with h1 h2; exact ⟨h1, h2⟩
          subst hok
          clear hcs huv hq hfb hth HCS HOK HUV hkl hF hK hkk eA hb0 cN hfn hn
          go_wp2_with fail
          refine (HR.out w5 L5.out HFT.out).mono ?_
          rintro e w6 ⟨rfl, hb6⟩
          have L6 := Lib.hid (Gl.below_next L5.out hb6)
          have BF6 := Lib.hid (BF5.out.next hb6)
          have BP6 := Lib.hid (BP5.out.next hb6)
          clear hb6 z0 z1 x0 x1 x2 x3 x4
          have x2 := BP6.out.c 2
          have z0 := BF6.out.c 0
          have z1 := BF6.out.c 1
          have zK := (L6.out.cell (p := ⟨b0, o0 + k * 6, none⟩) HB0.out).trans HC0.out
          simp only [List.getElem?_cons_zero, List.getElem?_cons_succ, Option.isSome_none] at z0 z1 x2 ⊢
          rw [HEA.out] at x2
          go_wp2_with fail
          refine (HFU.out w6).mono ?_
          rintro e w7 ⟨rfl, rfl⟩
          go_wp2_with fail
          refine (HLV.out w6 L6.out).mono ?_
          rintro e w7 ⟨rfl, hb7⟩
          have L7 := Lib.hid (Gl.below_next L6.out hb7)
          clear hb7
          go_wp2
          go_ret
          exact ⟨rfl, L7.out⟩
        | true =>
          have HRS := Lib.hid (fun W (hW : Below w.heap.size w W) => rscal_k p hF k W (HPI.out.next hW) hkl)
          have HU1 := Lib.hid (fun W (hW : Below w.heap.size w W) => ruse_k p hF hK k q hq (by rw [hkk]; exact hfn) W (HPI.out.next hW) 1 (.inl rfl))
          have HU2 := Lib.hid (fun W (hW : Below w.heap.size w W) => ruse_k p hF hK k q hq (by rw [hkk]; exact hfn) W (HPI.out.next hW) 2 (.inr rfl))
          have hcs := HCS.out
          have hok := HOK.out
          have huv := HUV.out
          rw [if_pos rfl] at hcs hok huv
          have hu1 : uM p.nodes (k : Int) 1 = ua := by unfold uM; rw [huv]; rfl
          have hu2 : uM p.nodes (k : Int) 2 = ub := by unfold uM; rw [huv]; rfl
          rw [hu1] at HU1
          rw [hu2] at HU2
          have HCS2 := Lib.hid hcs
          have HOK2 := Lib.hid hok
          unfold progV at HRS HU1 HU2
          clear hcs huv hok hq hfb hth HCS HOK HUV hkl hF hK hkk eA hb0 cN hfn hu1 hu2
          go_wp2_with fail
          refine (HR.out w5 L5.out HFT.out).mono ?_
          rintro e w6 ⟨rfl, hb6⟩
          have L6 := Lib.hid (Gl.below_next L5.out hb6)
          have BF6 := Lib.hid (BF5.out.next hb6)
          have BP6 := Lib.hid (BP5.out.next hb6)
          clear hb6 z0 z1 x0 x1 x2 x3 x4
          have x0 := BP6.out.c 0
          have x1 := BP6.out.c 1
          have x2 := BP6.out.c 2
          have x3 := BP6.out.c 3
          have x4 := BP6.out.c 4
          have z0 := BF6.out.c 0
          have z1 := BF6.out.c 1
          have zK := (L6.out.cell (p := ⟨b0, o0 + k * 6, none⟩) HB0.out).trans HC0.out
          simp only [List.getElem?_cons_zero, List.getElem?_cons_succ] at z0 z1 x0 x1 x2 x3 x4
          have x2' := x2
          rw [HEA.out] at x2'
          have HX2 := Lib.hid x2
          clear x2
          go_wp2_with fail
          refine (HFU.out w6).mono ?_
          rintro e w7 ⟨rfl, rfl⟩
          clear x2'
          have x2 := HX2.out
          go_wp2_with fail
          refine (HRS.out w6 L6.out).mono ?_
          rintro e w7 ⟨c2, s2, hcs, rfl, hb7⟩
          rw [HCS2.out] at hcs
          rw [HOK2.out]
          obtain ⟨rfl, rfl⟩ : c1 = c2 ∧ s1 = s2 := by injection hcs with h1 h2; exact ⟨h1, h2⟩
          have L7 := Lib.hid (Gl.below_next L6.out hb7)
          have L8 := Lib.hid (L7.out.trans ((below_new w7 (.cells #[.int .i64 c1, .bool s1] 37)).mono L7.out.size))
          have BF8 := Lib.hid ((BF6.out.next hb7).alloc (.cells #[.int .i64 c1, .bool s1] 37))
          have BP8 := Lib.hid ((BP6.out.next hb7).alloc (.cells #[.int .i64 c1, .bool s1] 37))
          clear hb7 z0 z1 x0 x1 x2 x3 x4 zK hcs
          have x0 := BP8.out.c 0
          have x1 := BP8.out.c 1
          have x2 := BP8.out.c 2
          have x3 := BP8.out.c 3
          have x4 := BP8.out.c 4
          have z0 := BF8.out.c 0
          have z1 := BF8.out.c 1
          simp only [List.getElem?_cons_zero, List.getElem?_cons_succ] at z0 z1 x0 x1 x2 x3 x4
          go_wp2_with fail
          refine (HU1.out _ L8.out).mono ?_
          rintro e w9 ⟨rfl, hb9⟩
          have L9 := Lib.hid (Gl.below_next L8.out hb9)
          have BP9 := Lib.hid (BP8.out.next hb9)
          clear hb9 z0 z1 x0 x1 x2 x3 x4
          have x0 := BP9.out.c 0
          have x1 := BP9.out.c 1
          have x2 := BP9.out.c 2
          have x3 := BP9.out.c 3
          have x4 := BP9.out.c 4
          simp only [List.getElem?_cons_zero, List.getElem?_cons_succ] at x0 x1 x2 x3 x4
          go_wp2_with fail
          refine (HU2.out _ L9.out).mono ?_
          rintro e wa ⟨rfl, hba⟩
          have La := Lib.hid (Gl.below_next L9.out hba)
          clear hba x0 x1 x2 x3 x4
          go_wp2_with fail
          refine (HLV.out _ La.out).mono ?_
          rintro e wb ⟨rfl, hbb⟩
          have Lb := Lib.hid (Gl.below_next La.out hbb)
          clear hbb
          go_wp2
          go_ret
          exact ⟨rfl, Lb.out⟩
    · have hth : thF p i = false := by
        unfold thF thereB
        rcases Int.lt_or_le i 0 with h | h
        · rw [decide_eq_false (show ¬ (0 ≤ i) by omega)]; simp
        · rw [decide_eq_false (show ¬ (i < (p.nodes.length : Int)) by omega)]; simp
      rw [hth] at HCS HOK HUV
      have hcs := HCS.out
      have hok := HOK.out
      have huv := HUV.out
      simp only [if_neg (show ¬ (false = true) by decide)] at hcs hok huv
      obtain ⟨rfl, rfl⟩ : (0 : Int) = c1 ∧ false = s1 := by injection hcs with h1 h2; exact ⟨h1, h2⟩
      obtain ⟨rfl, rfl⟩ : false = ua ∧ false = ub := by injection huv with h1 h2; exact ⟨h1, h2⟩
      subst hok
      obtain ⟨tb, htb⟩ : ∃ tb, decide (i < 0) = tb := ⟨_, rfl⟩
      cases tb with
      | true =>
        clear hcs huv hth HCS HOK HUV hin
        go_wp2_with fail
        refine (HLV.out w5 L5.out).mono ?_
        rintro e w7 ⟨rfl, hb7⟩
        have L7 := Lib.hid (Gl.below_next L5.out hb7)
        clear hb7
        go_wp2
        go_ret
        exact ⟨rfl, L7.out⟩
      | false =>
        have t2 : decide ((p.nodes.length : Int) ≤ i) = true := decide_eq_true (by have := of_decide_eq_false htb; omega)
        clear hcs huv hth HCS HOK HUV hin
        go_wp2_with fail
        refine (HLV.out w5 L5.out).mono ?_
        rintro e w7 ⟨rfl, hb7⟩
        have L7 := Lib.hid (Gl.below_next L5.out hb7)
        clear hb7
        go_wp2
        go_ret
        exact ⟨rfl, L7.out⟩
end Go.Proofs.YtjmpilmmgfjpmaaDoor.Stp
