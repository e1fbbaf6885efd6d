/-
  Layer 22, the document's side: forks and atops, of one value. Condition: a flat program.
-/
import Derived.Test.YtjmpilmmgfjpmaaDoorStpRUse
set_option maxRecDepth 100000
namespace Go.Proofs.YtjmpilmmgfjpmaaDoor.Stp
open Go.Proofs.YtjmpilmmgfjpmaaDoor.Sh Go.Proofs.YtjmpilmmgfjpmaaDoor.St Go.Proofs.YtjmpilmmgfjpmaaDoor.Tr
open Go.RowKit
set_option linter.unusedVariables false
set_option linter.unusedSimpArgs false

set_option maxHeartbeats 16000000 in
theorem ruse_111 (pnm : ByteArray) (pda : Option Addr) (pdc : Nat) (pdims : List Int) (pna : Option Addr) (pnc : Nat) (pnodes : List Nq) (pfa : Option Addr) (pfc : Nat) (pdefs : List Df) (proot : Int) (hF : Fl pnodes) (k : Nat) (pp cc : Int) (kids nums : List Int) (name : ByteArray) (ka : Option Addr) (kc : Nat) (na : Option Addr) (nc : Nat) (hq : pnodes[k]? = some ⟨⟨(11 : Int), pp, cc, kids, nums, name⟩, ka, kc, na, nc⟩) (w : World) (hp : ProgIn w ⟨pnm, pda, pdc, pdims, pna, pnc, pnodes, pfa, pfc, pdefs, proot⟩) (HU : ∀ m, m < k → (∃ q : Nq, pnodes[m]? = some q ∧ funI q.n.kind = true) → ∀ W, ProgIn W ⟨pnm, pda, pdc, pdims, pna, pnc, pnodes, pfa, pfc, pdefs, proot⟩ → ∀ many : Int, many = 1 ∨ many = 2 → Calls Tryd.prog 17 #[.agg #[.string pnm, .slice pda pdims.length pdc, .slice pna pnodes.length pnc, .slice pfa pdefs.length pfc, .int .i64 proot], .int .i64 (m : Int), .int .i64 many] W (RetBl (uM pnodes (m : Int) many) W)) : Calls Tryd.prog 17 #[.agg #[.string pnm, .slice pda pdims.length pdc, .slice pna pnodes.length pnc, .slice pfa pdefs.length pfc, .int .i64 proot], .int .i64 (k : Int), .int .i64 1] w (RetBl (uM pnodes (k : Int) 1) w) := by
  have hlen : kids.length = 3 := hF.nk hq
  have hin0 := hp.2.1.2 _ (List.mem_of_getElem? hq)
  obtain ⟨bK, oK, eka, hbK, hcK⟩ := hin0.1 (by simp only; omega)
  simp only at eka hcK
  subst eka
  obtain ⟨m0, q0, hx0, hkm0, hmk0, hqm0, hka0, hmay0⟩ := hF.kid hq 0 (by show 0 < (partsL 11).length; decide)
  simp only at hx0 hkm0 hmay0
  have hy0 := hcK 0 (by omega)
  rw [show kids.getD 0 0 = (m0 : Int) by rw [List.getD_eq_getElem?_getD, hx0]; rfl] at hy0
  have HY0 := Lib.hid hy0
  obtain ⟨m1, q1, hx1, hkm1, hmk1, hqm1, hka1, hmay1⟩ := hF.kid hq 1 (by show 1 < (partsL 11).length; decide)
  simp only at hx1 hkm1 hmay1
  have hy1 := hcK 1 (by omega)
  rw [show kids.getD 1 0 = (m1 : Int) by rw [List.getD_eq_getElem?_getD, hx1]; rfl] at hy1
  have HY1 := Lib.hid hy1
  obtain ⟨m2, q2, hx2, hkm2, hmk2, hqm2, hka2, hmay2⟩ := hF.kid hq 2 (by show 2 < (partsL 11).length; decide)
  simp only at hx2 hkm2 hmay2
  have hy2 := hcK 2 (by omega)
  rw [show kids.getD 2 0 = (m2 : Int) by rw [List.getD_eq_getElem?_getD, hx2]; rfl] at hy2
  have HY2 := Lib.hid hy2
  have HEQ := Lib.hid (usV_eq hF.ahead hq)
  obtain ⟨b0, o0, eA, hb0, ⟨c0, c1, c2, c3, c4, c5⟩, hin⟩ := hp.2.1.at_ hq
  simp only at c0 c1 c2 c3 c4 c5 eA HEQ
  subst eA
  have hkl := (List.getElem?_eq_some_iff.1 hq).1
  have L0 := Lib.hid (below_new w (.cells #[.string pnm, .slice pda pdims.length pdc, .slice (some ⟨b0, o0, none⟩) pnodes.length pnc, .slice pfa pdefs.length pfc, .int .i64 proot] 26))
  have k0 := (L0.out.cell (p := ⟨b0, _, none⟩) hb0).trans c0
  have k1 := (L0.out.cell (p := ⟨b0, _, none⟩) hb0).trans c1
  have k2 := (L0.out.cell (p := ⟨b0, _, none⟩) hb0).trans c2
  have k3 := (L0.out.cell (p := ⟨b0, _, none⟩) hb0).trans c3
  have k4 := (L0.out.cell (p := ⟨b0, _, none⟩) hb0).trans c4
  have k5 := (L0.out.cell (p := ⟨b0, _, none⟩) hb0).trans c5
  have i0 : (0 : Int) ≤ (k : Int) := by omega
  have i1 : (k : Int) < (pnodes.length : Int) := by omega
  have e1 : (w.alloc (.cells #[.string pnm, .slice pda pdims.length pdc, .slice (some ⟨b0, o0, none⟩) pnodes.length pnc, .slice pfa pdefs.length pfc, .int .i64 proot] 26)).heap.size = w.heap.size + 1 := by simp
  have LE := Lib.hid (show Below w.heap.size w ((w.alloc (.cells #[.string pnm, .slice pda pdims.length pdc, .slice (some ⟨b0, o0, none⟩) pnodes.length pnc, .slice pfa pdefs.length pfc, .int .i64 proot] 26)).alloc (.cells #[.int .i64 11, .int .i64 pp, .int .i64 cc, .slice (some ⟨bK, oK, none⟩) kids.length kc, .slice na nums.length nc, .string name] 45)) from below_next (below_new w _) (below_new _ _))
  have BP := Lib.hid (show Bk 26 ((w.alloc (.cells #[.string pnm, .slice pda pdims.length pdc, .slice (some ⟨b0, o0, none⟩) pnodes.length pnc, .slice pfa pdefs.length pfc, .int .i64 proot] 26)).alloc (.cells #[.int .i64 11, .int .i64 pp, .int .i64 cc, .slice (some ⟨bK, oK, none⟩) kids.length kc, .slice na nums.length nc, .string name] 45)) w.heap.size [.string pnm, .slice pda pdims.length pdc, .slice (some ⟨b0, o0, none⟩) pnodes.length pnc, .slice pfa pdefs.length pfc, .int .i64 proot] from (Bk.new _ w _).alloc _)
  have BN := Lib.hid (show Bk 45 ((w.alloc (.cells #[.string pnm, .slice pda pdims.length pdc, .slice (some ⟨b0, o0, none⟩) pnodes.length pnc, .slice pfa pdefs.length pfc, .int .i64 proot] 26)).alloc (.cells #[.int .i64 11, .int .i64 pp, .int .i64 cc, .slice (some ⟨bK, oK, none⟩) kids.length kc, .slice na nums.length nc, .string name] 45)) (w.heap.size + 1) [.int .i64 11, .int .i64 pp, .int .i64 cc, .slice (some ⟨bK, oK, none⟩) kids.length kc, .slice na nums.length nc, .string name] from new_atR _ _ e1)
  have xp := (Bk.new 26 w [.string pnm, .slice pda pdims.length pdc, .slice (some ⟨b0, o0, none⟩) pnodes.length pnc, .slice pfa pdefs.length pfc, .int .i64 proot]).c 2
  simp only [List.getElem?_cons_zero, List.getElem?_cons_succ] at xp
  have hf1 : funI q1.n.kind = true := hmay1
  have hf2 : funI q2.n.kind = true := hmay2
  have ht0 : tineB q0.n.kind = true := hmay0
  obtain ⟨bN, oN, eN, hbN, cN, -⟩ := hp.2.1.at_ hqm0
  obtain ⟨u1, hu1⟩ : ∃ u, uM pnodes (m1 : Int) 2 = u := ⟨_, rfl⟩
  obtain ⟨u2, hu2⟩ : ∃ u, uM pnodes (m2 : Int) 1 = u := ⟨_, rfl⟩
  have HR1 := Lib.hid (fun W (hW : Below w.heap.size w W) => (HU m1 hmk1 ⟨q1, hqm1, hf1⟩ W (hp.next hW) 2 (.inr rfl)).mono (fun e0 w0 hr => (by rw [hu1] at hr; exact hr)))
  have HR2 := Lib.hid (fun W (hW : Below w.heap.size w W) => (HU m2 hmk2 ⟨q2, hqm2, hf2⟩ W (hp.next hW) 1 (by omega)).mono (fun e0 w0 hr => (by rw [hu2] at hr; exact hr)))
  have hm0l := (List.getElem?_eq_some_iff.1 hqm0).1
  injection eN with eN
  injection eN with eN1 eN2 _
  subst eN1
  subst eN2
  have HC0 := Lib.hid cN.1
  have HEV0 := Lib.hid (show usV pnodes (k : Int) = fkU pnodes ⟨(11 : Int), pp, cc, kids, nums, name⟩ (usV pnodes) by rw [HEQ.out]; rfl)
  have g0 : (0 : Int) ≤ (m0 : Int) := by omega
  have g1 : (m0 : Int) < (pnodes.length : Int) := by omega
  have j0 : (0 : Int) < (kids.length : Int) := by omega
  have j1 : (1 : Int) < (kids.length : Int) := by omega
  have j2 : (2 : Int) < (kids.length : Int) := by omega
  have l0 : 0 < kids.length := by omega
  have l1 : 1 < kids.length := by omega
  have l2 : 2 < kids.length := by omega
  have HB0 := Lib.hid hb0
  have HS := Lib.hid (fun (W : World) (L : Below w.heap.size w W) (B : Bk 26 W w.heap.size [.string pnm, .slice pda pdims.length pdc, .slice (some ⟨b0, o0, none⟩) pnodes.length pnc, .slice pfa pdefs.length pfc, .int .i64 proot]) (N : Bk 45 W (w.heap.size + 1) [.int .i64 11, .int .i64 pp, .int .i64 cc, .slice (some ⟨bK, oK, none⟩) kids.length kc, .slice na nums.length nc, .string name]) => (show W.cell? ⟨w.heap.size, 0, none⟩ = some (.string pnm) ∧ W.cell? ⟨w.heap.size, 1, none⟩ = some (.slice pda pdims.length pdc) ∧ W.cell? ⟨w.heap.size, 2, none⟩ = some (.slice (some ⟨b0, o0, none⟩) pnodes.length pnc) ∧ W.cell? ⟨w.heap.size, 3, none⟩ = some (.slice pfa pdefs.length pfc) ∧ W.cell? ⟨w.heap.size, 4, none⟩ = some (.int .i64 proot) ∧ W.cell? ⟨w.heap.size + 1, 3, none⟩ = some (.slice (some ⟨bK, oK, none⟩) kids.length kc) ∧ W.cell? ⟨bK, oK, none⟩ = some (.int .i64 (m0 : Int)) ∧ W.cell? ⟨bK, oK + 1, none⟩ = some (.int .i64 (m1 : Int)) ∧ W.cell? ⟨bK, oK + 2, none⟩ = some (.int .i64 (m2 : Int)) from ⟨B.c 0, B.c 1, B.c 2, B.c 3, B.c 4, N.c 3, (L.cell (p := ⟨bK, oK + 0, none⟩) hbK).trans HY0.out, (L.cell (p := ⟨bK, oK + 1, none⟩) hbK).trans HY1.out, (L.cell (p := ⟨bK, oK + 2, none⟩) hbK).trans HY2.out⟩))
  obtain ⟨kz, hkz⟩ : ∃ kz, q0.n.kind = kz := ⟨_, rfl⟩
  rw [hkz] at HC0
  by_cases h1 : kz = 1
  · have HEV1 := Lib.hid (show uM pnodes (k : Int) 1 = (u2 && u1) by
      unfold uM
      rw [HEV0.out, ← hu2, ← hu1]
      unfold fkU uM
      rw [hkm0, hkm1, hkm2, hka0, hkz, if_pos h1]
      rfl)
    subst h1
    clear HU hcK hy0 hx0 hkm0 hqm0 hka0 hmay0 hlen hmk0 hy1 hx1 hkm1 hqm1 hka1 hmay1 hmk1 hy2 hx2 hkm2 hqm2 hka2 hmay2 hmk2 hf1 hf2 ht0 HEQ hin0 cN hkz hm0l hu1 hu2
    clear hp hq hF hb0 c0 c1 c2 c3 c4 c5 hin hkl e1
    go_enter Tryd.func17, Tryd.ntmps17
    go_upto_region 10 with fail
    clear k0 k1 k2 k3 k4 k5 xp
    generalize ((w.alloc (.cells #[.string pnm, .slice pda pdims.length pdc, .slice (some ⟨b0, o0, none⟩) pnodes.length pnc, .slice pfa pdefs.length pfc, .int .i64 proot] 26)).alloc (.cells #[.int .i64 11, .int .i64 pp, .int .i64 cc, .slice (some ⟨bK, oK, none⟩) kids.length kc, .slice na nums.length nc, .string name] 45)) = wE at *
    have Lx := Lib.hid LE.out.drew
    have BPx := Lib.hid BP.out.drew
    have BNx := Lib.hid BN.out.drew
    have xa := BPx.out.c 2
    have xb := BNx.out.c 3
    have xc := (Lx.out.cell (p := ⟨bK, oK + 0, none⟩) hbK).trans HY0.out
    have xd := (Lx.out.cell (p := ⟨b0, o0 + m0 * 6, none⟩) HB0.out).trans HC0.out
    simp only [List.getElem?_cons_zero, List.getElem?_cons_succ, Nat.add_zero] at xa xb xc
    go_region
    go_upto_region 11 with fail
    have Ld := Lib.hid Lx.out.drew
    have BPd := Lib.hid BPx.out.drew
    have BNd := Lib.hid BNx.out.drew
    have Kd := Lib.hid (HS.out _ Ld.out BPd.out BNd.out)
    clear xa xb xc xd
    cases u1 with
    | true =>
      have HEV := Lib.hid (show uM pnodes (k : Int) 1 = u2 by rw [HEV1.out]; simp)
      refine wp_region_held_drew (S := fun w' => w'.cell? ⟨w.heap.size, 0, none⟩ = some (.string pnm) ∧ w'.cell? ⟨w.heap.size, 1, none⟩ = some (.slice pda pdims.length pdc) ∧ w'.cell? ⟨w.heap.size, 2, none⟩ = some (.slice (some ⟨b0, o0, none⟩) pnodes.length pnc) ∧ w'.cell? ⟨w.heap.size, 3, none⟩ = some (.slice pfa pdefs.length pfc) ∧ w'.cell? ⟨w.heap.size, 4, none⟩ = some (.int .i64 proot) ∧ w'.cell? ⟨w.heap.size + 1, 3, none⟩ = some (.slice (some ⟨bK, oK, none⟩) kids.length kc) ∧ w'.cell? ⟨bK, oK, none⟩ = some (.int .i64 (m0 : Int)) ∧ w'.cell? ⟨bK, oK + 1, none⟩ = some (.int .i64 (m1 : Int)) ∧ w'.cell? ⟨bK, oK + 2, none⟩ = some (.int .i64 (m2 : Int))) (by kernel_rfl) (Kd.out) (fun hHeld => ?_)
      refine take_yes (i := 0) (some 63) (.bool true) rfl rfl (by kernel_rfl) (by kernel_rfl) (by kernel_rfl) (fun _ _ _ h => h) (by rfl) hHeld ?_ ?_
      · intro wq hSw; obtain ⟨s0, s1, s2, s3, s4, s5, s6, s7, s8⟩ := hSw; go_simp
      simp only [Act.put, List.setIfInBounds_toArray, List.set_cons_zero, List.set_cons_succ]
      refine take_yes (i := 1) (some 64) (.bool true) rfl rfl (by kernel_rfl) (by kernel_rfl) (by kernel_rfl) (fun _ _ _ h => h) (by rfl) hHeld ?_ ?_
      · intro wq hSw; obtain ⟨s0, s1, s2, s3, s4, s5, s6, s7, s8⟩ := hSw; go_simp
      simp only [Act.put, List.setIfInBounds_toArray, List.set_cons_zero, List.set_cons_succ]
      refine take_no (i := 2) (some 65) rfl rfl (by kernel_rfl) (by kernel_rfl) (by kernel_rfl) (fun _ _ _ h => h) (by rfl) hHeld ?_
      simp only [Act.put, List.setIfInBounds_toArray, List.set_cons_zero, List.set_cons_succ]
      refine take_no (i := 3) (some 66) rfl rfl (by kernel_rfl) (by kernel_rfl) (by kernel_rfl) (fun _ _ _ h => h) (by rfl) hHeld ?_
      simp only [Act.put, List.setIfInBounds_toArray, List.set_cons_zero, List.set_cons_succ]
      refine take_no (i := 4) (some 67) rfl rfl (by kernel_rfl) (by kernel_rfl) (by kernel_rfl) (fun _ _ _ h => h) (by rfl) hHeld ?_
      simp only [Act.put, List.setIfInBounds_toArray, List.set_cons_zero, List.set_cons_succ]
      refine take_no (i := 5) (some 68) rfl rfl (by kernel_rfl) (by kernel_rfl) (by kernel_rfl) (fun _ _ _ h => h) (by rfl) hHeld ?_
      simp only [Act.put, List.setIfInBounds_toArray, List.set_cons_zero, List.set_cons_succ]
      refine take_no (i := 6) (some 69) rfl rfl (by kernel_rfl) (by kernel_rfl) (by kernel_rfl) (fun _ _ _ h => h) (by rfl) hHeld ?_
      simp only [Act.put, List.setIfInBounds_toArray, List.set_cons_zero, List.set_cons_succ]
      refine take_no (i := 7) (some 70) rfl rfl (by kernel_rfl) (by kernel_rfl) (by kernel_rfl) (fun _ _ _ h => h) (by rfl) hHeld ?_
      simp only [Act.put, List.setIfInBounds_toArray, List.set_cons_zero, List.set_cons_succ]
      refine take_no (i := 8) (some 71) rfl rfl (by kernel_rfl) (by kernel_rfl) (by kernel_rfl) (fun _ _ _ h => h) (by rfl) hHeld ?_
      simp only [Act.put, List.setIfInBounds_toArray, List.set_cons_zero, List.set_cons_succ]
      refine take_yes (i := 9) (some 72) (.bool true) rfl rfl (by kernel_rfl) (by kernel_rfl) (by kernel_rfl) (fun _ _ _ h => h) (by rfl) hHeld ?_ ?_
      · intro wq hSw; obtain ⟨s0, s1, s2, s3, s4, s5, s6, s7, s8⟩ := hSw; go_simp
      simp only [Act.put, List.setIfInBounds_toArray, List.set_cons_zero, List.set_cons_succ]
      refine take_yes (i := 10) (some 73) (.bool true) rfl rfl (by kernel_rfl) (by kernel_rfl) (by kernel_rfl) (fun _ _ _ h => h) (by rfl) hHeld ?_ ?_
      · intro wq hSw; obtain ⟨s0, s1, s2, s3, s4, s5, s6, s7, s8⟩ := hSw; go_simp
      simp only [Act.put, List.setIfInBounds_toArray, List.set_cons_zero, List.set_cons_succ]
      refine take_yes (i := 11) (some 74) (.agg #[.string pnm, .slice pda pdims.length pdc, .slice (some ⟨b0, o0, none⟩) pnodes.length pnc, .slice pfa pdefs.length pfc, .int .i64 proot]) rfl rfl (by kernel_rfl) (by kernel_rfl) (by kernel_rfl) (fun _ _ _ h => h) (by rfl) hHeld ?_ ?_
      · intro wq hSw; obtain ⟨s0, s1, s2, s3, s4, s5, s6, s7, s8⟩ := hSw; go_simp
      simp only [Act.put, List.setIfInBounds_toArray, List.set_cons_zero, List.set_cons_succ]
      refine take_yes (i := 12) (some 75) (.pointer (some ⟨w.heap.size + 1, 3, none⟩)) rfl rfl (by kernel_rfl) (by kernel_rfl) (by kernel_rfl) (fun _ _ _ h => h) (by rfl) hHeld ?_ ?_
      · intro wq hSw; obtain ⟨s0, s1, s2, s3, s4, s5, s6, s7, s8⟩ := hSw; go_simp
      simp only [Act.put, List.setIfInBounds_toArray, List.set_cons_zero, List.set_cons_succ]
      refine take_yes (i := 13) (some 76) (.slice (some ⟨bK, oK, none⟩) kids.length kc) rfl rfl (by kernel_rfl) (by kernel_rfl) (by kernel_rfl) (fun _ _ _ h => h) (by rfl) hHeld ?_ ?_
      · intro wq hSw; obtain ⟨s0, s1, s2, s3, s4, s5, s6, s7, s8⟩ := hSw; go_simp
      simp only [Act.put, List.setIfInBounds_toArray, List.set_cons_zero, List.set_cons_succ]
      refine take_yes (i := 14) (some 77) (.pointer (some ⟨bK, oK + 1, none⟩)) rfl rfl (by kernel_rfl) (by kernel_rfl) (by kernel_rfl) (fun _ _ _ h => h) (by rfl) hHeld ?_ ?_
      · intro wq hSw; obtain ⟨s0, s1, s2, s3, s4, s5, s6, s7, s8⟩ := hSw; go_simp
      simp only [Act.put, List.setIfInBounds_toArray, List.set_cons_zero, List.set_cons_succ]
      refine take_yes (i := 15) (some 78) (.int .i64 (m1 : Int)) rfl rfl (by kernel_rfl) (by kernel_rfl) (by kernel_rfl) (fun _ _ _ h => h) (by rfl) hHeld ?_ ?_
      · intro wq hSw; obtain ⟨s0, s1, s2, s3, s4, s5, s6, s7, s8⟩ := hSw; go_simp
      simp only [Act.put, List.setIfInBounds_toArray, List.set_cons_zero, List.set_cons_succ]
      refine wpAnyH_ready (rs := [16]) (by kernel_rfl) (by simp) ?_
      refine AllReadyH.cons rfl (fun K hK => ?_) AllReadyH.nil
      go_simp
      go_at_call 17
      refine (HR1.out _ Ld.out).mono ?_
      rintro r w4 ⟨rfl, hb4⟩
      have L4 := Lib.hid (Gl.below_next Ld.out hb4)
      have BP4 := Lib.hid (BPd.out.next hb4)
      have BN4 := Lib.hid (BNd.out.next hb4)
      clear hb4
      go_wp2_with fail
      refine hK.out _ _ (HS.out _ L4.out BP4.out BN4.out) (fun hHeld => ?_)
      clear hK K
      refine take_yes (i := 17) (some 80) (.bool true) rfl rfl (by kernel_rfl) (by kernel_rfl) (by kernel_rfl) (fun _ _ _ h => h) (by rfl) hHeld ?_ ?_
      · intro wq hSw; obtain ⟨s0, s1, s2, s3, s4, s5, s6, s7, s8⟩ := hSw; go_simp
      simp only [Act.put, List.setIfInBounds_toArray, List.set_cons_zero, List.set_cons_succ]
      refine take_yes (i := 18) (some 81) (.bool true) rfl rfl (by kernel_rfl) (by kernel_rfl) (by kernel_rfl) (fun _ _ _ h => h) (by rfl) hHeld ?_ ?_
      · intro wq hSw; obtain ⟨s0, s1, s2, s3, s4, s5, s6, s7, s8⟩ := hSw; go_simp
      simp only [Act.put, List.setIfInBounds_toArray, List.set_cons_zero, List.set_cons_succ]
      refine take_yes (i := 19) (some 82) (.agg #[.string pnm, .slice pda pdims.length pdc, .slice (some ⟨b0, o0, none⟩) pnodes.length pnc, .slice pfa pdefs.length pfc, .int .i64 proot]) rfl rfl (by kernel_rfl) (by kernel_rfl) (by kernel_rfl) (fun _ _ _ h => h) (by rfl) hHeld ?_ ?_
      · intro wq hSw; obtain ⟨s0, s1, s2, s3, s4, s5, s6, s7, s8⟩ := hSw; go_simp
      simp only [Act.put, List.setIfInBounds_toArray, List.set_cons_zero, List.set_cons_succ]
      refine take_yes (i := 20) (some 83) (.pointer (some ⟨w.heap.size + 1, 3, none⟩)) rfl rfl (by kernel_rfl) (by kernel_rfl) (by kernel_rfl) (fun _ _ _ h => h) (by rfl) hHeld ?_ ?_
      · intro wq hSw; obtain ⟨s0, s1, s2, s3, s4, s5, s6, s7, s8⟩ := hSw; go_simp
      simp only [Act.put, List.setIfInBounds_toArray, List.set_cons_zero, List.set_cons_succ]
      refine take_yes (i := 21) (some 84) (.slice (some ⟨bK, oK, none⟩) kids.length kc) rfl rfl (by kernel_rfl) (by kernel_rfl) (by kernel_rfl) (fun _ _ _ h => h) (by rfl) hHeld ?_ ?_
      · intro wq hSw; obtain ⟨s0, s1, s2, s3, s4, s5, s6, s7, s8⟩ := hSw; go_simp
      simp only [Act.put, List.setIfInBounds_toArray, List.set_cons_zero, List.set_cons_succ]
      refine take_yes (i := 22) (some 85) (.pointer (some ⟨bK, oK + 2, none⟩)) rfl rfl (by kernel_rfl) (by kernel_rfl) (by kernel_rfl) (fun _ _ _ h => h) (by rfl) hHeld ?_ ?_
      · intro wq hSw; obtain ⟨s0, s1, s2, s3, s4, s5, s6, s7, s8⟩ := hSw; go_simp
      simp only [Act.put, List.setIfInBounds_toArray, List.set_cons_zero, List.set_cons_succ]
      refine take_yes (i := 23) (some 86) (.int .i64 (m2 : Int)) rfl rfl (by kernel_rfl) (by kernel_rfl) (by kernel_rfl) (fun _ _ _ h => h) (by rfl) hHeld ?_ ?_
      · intro wq hSw; obtain ⟨s0, s1, s2, s3, s4, s5, s6, s7, s8⟩ := hSw; go_simp
      simp only [Act.put, List.setIfInBounds_toArray, List.set_cons_zero, List.set_cons_succ]
      refine take_yes (i := 24) (some 87) (.int .i64 1) rfl rfl (by kernel_rfl) (by kernel_rfl) (by kernel_rfl) (fun _ _ _ h => h) (by rfl) hHeld ?_ ?_
      · intro wq hSw; obtain ⟨s0, s1, s2, s3, s4, s5, s6, s7, s8⟩ := hSw; go_simp
      simp only [Act.put, List.setIfInBounds_toArray, List.set_cons_zero, List.set_cons_succ]
      refine wpAnyH_ready (rs := [25]) (by kernel_rfl) (by simp) ?_
      refine AllReadyH.cons rfl (fun K hK => ?_) AllReadyH.nil
      go_simp
      go_at_call 17
      refine (HR2.out _ L4.out).mono ?_
      rintro r w6 ⟨rfl, hb6⟩
      have L6 := Lib.hid (Gl.below_next L4.out hb6)
      have BP6 := Lib.hid (BP4.out.next hb6)
      have BN6 := Lib.hid (BN4.out.next hb6)
      clear hb6
      go_wp2_with fail
      refine hK.out _ _ (HS.out _ L6.out BP6.out BN6.out) (fun hHeld => ?_)
      clear hK K
      refine take_yes (i := 26) (some 89) (.bool u2) rfl rfl (by kernel_rfl) (by kernel_rfl) (by kernel_rfl) (fun _ _ _ h => h) (by rfl) hHeld ?_ ?_
      · intro wq hSw; obtain ⟨s0, s1, s2, s3, s4, s5, s6, s7, s8⟩ := hSw; go_simp
      simp only [Act.put, List.setIfInBounds_toArray, List.set_cons_zero, List.set_cons_succ]
      refine take_yes (i := 27) (some 6) (.bool u2) rfl rfl (by kernel_rfl) (by kernel_rfl) (by kernel_rfl) (fun _ _ _ h => h) (by rfl) hHeld ?_ ?_
      · intro wq hSw; obtain ⟨s0, s1, s2, s3, s4, s5, s6, s7, s8⟩ := hSw; go_simp
      simp only [Act.put, List.setIfInBounds_toArray, List.set_cons_zero, List.set_cons_succ]
      refine wpAnyH_done (by kernel_rfl) ?_ _
      go_wp2
      go_ret
      exact ⟨by rw [HEV.out]; rfl, L6.out⟩
    | false =>
      have HEV := Lib.hid (show uM pnodes (k : Int) 1 = false by rw [HEV1.out]; simp)
      refine wp_region_held_drew (S := fun w' => w'.cell? ⟨w.heap.size, 0, none⟩ = some (.string pnm) ∧ w'.cell? ⟨w.heap.size, 1, none⟩ = some (.slice pda pdims.length pdc) ∧ w'.cell? ⟨w.heap.size, 2, none⟩ = some (.slice (some ⟨b0, o0, none⟩) pnodes.length pnc) ∧ w'.cell? ⟨w.heap.size, 3, none⟩ = some (.slice pfa pdefs.length pfc) ∧ w'.cell? ⟨w.heap.size, 4, none⟩ = some (.int .i64 proot) ∧ w'.cell? ⟨w.heap.size + 1, 3, none⟩ = some (.slice (some ⟨bK, oK, none⟩) kids.length kc) ∧ w'.cell? ⟨bK, oK, none⟩ = some (.int .i64 (m0 : Int)) ∧ w'.cell? ⟨bK, oK + 1, none⟩ = some (.int .i64 (m1 : Int)) ∧ w'.cell? ⟨bK, oK + 2, none⟩ = some (.int .i64 (m2 : Int))) (by kernel_rfl) (Kd.out) (fun hHeld => ?_)
      refine take_yes (i := 0) (some 63) (.bool true) rfl rfl (by kernel_rfl) (by kernel_rfl) (by kernel_rfl) (fun _ _ _ h => h) (by rfl) hHeld ?_ ?_
      · intro wq hSw; obtain ⟨s0, s1, s2, s3, s4, s5, s6, s7, s8⟩ := hSw; go_simp
      simp only [Act.put, List.setIfInBounds_toArray, List.set_cons_zero, List.set_cons_succ]
      refine take_yes (i := 1) (some 64) (.bool true) rfl rfl (by kernel_rfl) (by kernel_rfl) (by kernel_rfl) (fun _ _ _ h => h) (by rfl) hHeld ?_ ?_
      · intro wq hSw; obtain ⟨s0, s1, s2, s3, s4, s5, s6, s7, s8⟩ := hSw; go_simp
      simp only [Act.put, List.setIfInBounds_toArray, List.set_cons_zero, List.set_cons_succ]
      refine take_no (i := 2) (some 65) rfl rfl (by kernel_rfl) (by kernel_rfl) (by kernel_rfl) (fun _ _ _ h => h) (by rfl) hHeld ?_
      simp only [Act.put, List.setIfInBounds_toArray, List.set_cons_zero, List.set_cons_succ]
      refine take_no (i := 3) (some 66) rfl rfl (by kernel_rfl) (by kernel_rfl) (by kernel_rfl) (fun _ _ _ h => h) (by rfl) hHeld ?_
      simp only [Act.put, List.setIfInBounds_toArray, List.set_cons_zero, List.set_cons_succ]
      refine take_no (i := 4) (some 67) rfl rfl (by kernel_rfl) (by kernel_rfl) (by kernel_rfl) (fun _ _ _ h => h) (by rfl) hHeld ?_
      simp only [Act.put, List.setIfInBounds_toArray, List.set_cons_zero, List.set_cons_succ]
      refine take_no (i := 5) (some 68) rfl rfl (by kernel_rfl) (by kernel_rfl) (by kernel_rfl) (fun _ _ _ h => h) (by rfl) hHeld ?_
      simp only [Act.put, List.setIfInBounds_toArray, List.set_cons_zero, List.set_cons_succ]
      refine take_no (i := 6) (some 69) rfl rfl (by kernel_rfl) (by kernel_rfl) (by kernel_rfl) (fun _ _ _ h => h) (by rfl) hHeld ?_
      simp only [Act.put, List.setIfInBounds_toArray, List.set_cons_zero, List.set_cons_succ]
      refine take_no (i := 7) (some 70) rfl rfl (by kernel_rfl) (by kernel_rfl) (by kernel_rfl) (fun _ _ _ h => h) (by rfl) hHeld ?_
      simp only [Act.put, List.setIfInBounds_toArray, List.set_cons_zero, List.set_cons_succ]
      refine take_no (i := 8) (some 71) rfl rfl (by kernel_rfl) (by kernel_rfl) (by kernel_rfl) (fun _ _ _ h => h) (by rfl) hHeld ?_
      simp only [Act.put, List.setIfInBounds_toArray, List.set_cons_zero, List.set_cons_succ]
      refine take_yes (i := 9) (some 72) (.bool true) rfl rfl (by kernel_rfl) (by kernel_rfl) (by kernel_rfl) (fun _ _ _ h => h) (by rfl) hHeld ?_ ?_
      · intro wq hSw; obtain ⟨s0, s1, s2, s3, s4, s5, s6, s7, s8⟩ := hSw; go_simp
      simp only [Act.put, List.setIfInBounds_toArray, List.set_cons_zero, List.set_cons_succ]
      refine take_yes (i := 10) (some 73) (.bool true) rfl rfl (by kernel_rfl) (by kernel_rfl) (by kernel_rfl) (fun _ _ _ h => h) (by rfl) hHeld ?_ ?_
      · intro wq hSw; obtain ⟨s0, s1, s2, s3, s4, s5, s6, s7, s8⟩ := hSw; go_simp
      simp only [Act.put, List.setIfInBounds_toArray, List.set_cons_zero, List.set_cons_succ]
      refine take_yes (i := 11) (some 74) (.agg #[.string pnm, .slice pda pdims.length pdc, .slice (some ⟨b0, o0, none⟩) pnodes.length pnc, .slice pfa pdefs.length pfc, .int .i64 proot]) rfl rfl (by kernel_rfl) (by kernel_rfl) (by kernel_rfl) (fun _ _ _ h => h) (by rfl) hHeld ?_ ?_
      · intro wq hSw; obtain ⟨s0, s1, s2, s3, s4, s5, s6, s7, s8⟩ := hSw; go_simp
      simp only [Act.put, List.setIfInBounds_toArray, List.set_cons_zero, List.set_cons_succ]
      refine take_yes (i := 12) (some 75) (.pointer (some ⟨w.heap.size + 1, 3, none⟩)) rfl rfl (by kernel_rfl) (by kernel_rfl) (by kernel_rfl) (fun _ _ _ h => h) (by rfl) hHeld ?_ ?_
      · intro wq hSw; obtain ⟨s0, s1, s2, s3, s4, s5, s6, s7, s8⟩ := hSw; go_simp
      simp only [Act.put, List.setIfInBounds_toArray, List.set_cons_zero, List.set_cons_succ]
      refine take_yes (i := 13) (some 76) (.slice (some ⟨bK, oK, none⟩) kids.length kc) rfl rfl (by kernel_rfl) (by kernel_rfl) (by kernel_rfl) (fun _ _ _ h => h) (by rfl) hHeld ?_ ?_
      · intro wq hSw; obtain ⟨s0, s1, s2, s3, s4, s5, s6, s7, s8⟩ := hSw; go_simp
      simp only [Act.put, List.setIfInBounds_toArray, List.set_cons_zero, List.set_cons_succ]
      refine take_yes (i := 14) (some 77) (.pointer (some ⟨bK, oK + 1, none⟩)) rfl rfl (by kernel_rfl) (by kernel_rfl) (by kernel_rfl) (fun _ _ _ h => h) (by rfl) hHeld ?_ ?_
      · intro wq hSw; obtain ⟨s0, s1, s2, s3, s4, s5, s6, s7, s8⟩ := hSw; go_simp
      simp only [Act.put, List.setIfInBounds_toArray, List.set_cons_zero, List.set_cons_succ]
      refine take_yes (i := 15) (some 78) (.int .i64 (m1 : Int)) rfl rfl (by kernel_rfl) (by kernel_rfl) (by kernel_rfl) (fun _ _ _ h => h) (by rfl) hHeld ?_ ?_
      · intro wq hSw; obtain ⟨s0, s1, s2, s3, s4, s5, s6, s7, s8⟩ := hSw; go_simp
      simp only [Act.put, List.setIfInBounds_toArray, List.set_cons_zero, List.set_cons_succ]
      refine wpAnyH_ready (rs := [16]) (by kernel_rfl) (by simp) ?_
      refine AllReadyH.cons rfl (fun K hK => ?_) AllReadyH.nil
      go_simp
      go_at_call 17
      refine (HR1.out _ Ld.out).mono ?_
      rintro r w4 ⟨rfl, hb4⟩
      have L4 := Lib.hid (Gl.below_next Ld.out hb4)
      have BP4 := Lib.hid (BPd.out.next hb4)
      have BN4 := Lib.hid (BNd.out.next hb4)
      clear hb4
      go_wp2_with fail
      refine hK.out _ _ (HS.out _ L4.out BP4.out BN4.out) (fun hHeld => ?_)
      clear hK K
      refine take_yes (i := 17) (some 80) (.bool false) rfl rfl (by kernel_rfl) (by kernel_rfl) (by kernel_rfl) (fun _ _ _ h => h) (by rfl) hHeld ?_ ?_
      · intro wq hSw; obtain ⟨s0, s1, s2, s3, s4, s5, s6, s7, s8⟩ := hSw; go_simp
      simp only [Act.put, List.setIfInBounds_toArray, List.set_cons_zero, List.set_cons_succ]
      refine take_yes (i := 18) (some 81) (.bool false) rfl rfl (by kernel_rfl) (by kernel_rfl) (by kernel_rfl) (fun _ _ _ h => h) (by rfl) hHeld ?_ ?_
      · intro wq hSw; obtain ⟨s0, s1, s2, s3, s4, s5, s6, s7, s8⟩ := hSw; go_simp
      simp only [Act.put, List.setIfInBounds_toArray, List.set_cons_zero, List.set_cons_succ]
      refine take_no (i := 19) (some 82) rfl rfl (by kernel_rfl) (by kernel_rfl) (by kernel_rfl) (fun _ _ _ h => h) (by rfl) hHeld ?_
      simp only [Act.put, List.setIfInBounds_toArray, List.set_cons_zero, List.set_cons_succ]
      refine take_no (i := 20) (some 83) rfl rfl (by kernel_rfl) (by kernel_rfl) (by kernel_rfl) (fun _ _ _ h => h) (by rfl) hHeld ?_
      simp only [Act.put, List.setIfInBounds_toArray, List.set_cons_zero, List.set_cons_succ]
      refine take_no (i := 21) (some 84) rfl rfl (by kernel_rfl) (by kernel_rfl) (by kernel_rfl) (fun _ _ _ h => h) (by rfl) hHeld ?_
      simp only [Act.put, List.setIfInBounds_toArray, List.set_cons_zero, List.set_cons_succ]
      refine take_no (i := 22) (some 85) rfl rfl (by kernel_rfl) (by kernel_rfl) (by kernel_rfl) (fun _ _ _ h => h) (by rfl) hHeld ?_
      simp only [Act.put, List.setIfInBounds_toArray, List.set_cons_zero, List.set_cons_succ]
      refine take_no (i := 23) (some 86) rfl rfl (by kernel_rfl) (by kernel_rfl) (by kernel_rfl) (fun _ _ _ h => h) (by rfl) hHeld ?_
      simp only [Act.put, List.setIfInBounds_toArray, List.set_cons_zero, List.set_cons_succ]
      refine take_no (i := 24) (some 87) rfl rfl (by kernel_rfl) (by kernel_rfl) (by kernel_rfl) (fun _ _ _ h => h) (by rfl) hHeld ?_
      simp only [Act.put, List.setIfInBounds_toArray, List.set_cons_zero, List.set_cons_succ]
      refine take_no (i := 25) (some 88) rfl rfl (by kernel_rfl) (by kernel_rfl) (by kernel_rfl) (fun _ _ _ h => h) (by rfl) hHeld ?_
      simp only [Act.put, List.setIfInBounds_toArray, List.set_cons_zero, List.set_cons_succ]
      refine take_yes (i := 26) (some 89) (.bool false) rfl rfl (by kernel_rfl) (by kernel_rfl) (by kernel_rfl) (fun _ _ _ h => h) (by rfl) hHeld ?_ ?_
      · intro wq hSw; obtain ⟨s0, s1, s2, s3, s4, s5, s6, s7, s8⟩ := hSw; go_simp
      simp only [Act.put, List.setIfInBounds_toArray, List.set_cons_zero, List.set_cons_succ]
      refine take_yes (i := 27) (some 6) (.bool false) rfl rfl (by kernel_rfl) (by kernel_rfl) (by kernel_rfl) (fun _ _ _ h => h) (by rfl) hHeld ?_ ?_
      · intro wq hSw; obtain ⟨s0, s1, s2, s3, s4, s5, s6, s7, s8⟩ := hSw; go_simp
      simp only [Act.put, List.setIfInBounds_toArray, List.set_cons_zero, List.set_cons_succ]
      refine wpAnyH_done (by kernel_rfl) ?_ _
      go_wp2
      go_ret
      exact ⟨by rw [HEV.out]; rfl, L4.out⟩
  · have hf0 : funI q0.n.kind = true := by
      unfold tineB at ht0
      simp only [Bool.or_eq_true, decide_eq_true_eq] at ht0
      rcases ht0 with h | h
      · exact h
      · exact absurd (hkz ▸ h) h1
    obtain ⟨u0, hu0⟩ : ∃ u, uM pnodes (m0 : Int) 1 = u := ⟨_, rfl⟩
    have HR0 := Lib.hid (fun W (hW : Below w.heap.size w W) => (HU m0 hmk0 ⟨q0, hqm0, hf0⟩ W (hp.next hW) 1 (by omega)).mono (fun e0 w0 hr => (by rw [hu0] at hr; exact hr)))
    have HEV1 := Lib.hid (show uM pnodes (k : Int) 1 = ((u2 && u1) && u0) by
      unfold uM
      rw [HEV0.out, ← hu2, ← hu1, ← hu0]
      unfold fkU uM
      rw [hkm0, hkm1, hkm2, hka0, hkz, if_neg h1]
      rfl)
    have v1 : (kz == 1) = false := by simp [h1]
    have v1' : decide (kz = 1) = false := by simp [h1]
    clear h1 hf0 hu0
    clear HU hcK hy0 hx0 hkm0 hqm0 hka0 hmay0 hlen hmk0 hy1 hx1 hkm1 hqm1 hka1 hmay1 hmk1 hy2 hx2 hkm2 hqm2 hka2 hmay2 hmk2 hf1 hf2 ht0 HEQ hin0 cN hkz hm0l hu1 hu2
    clear hp hq hF hb0 c0 c1 c2 c3 c4 c5 hin hkl e1
    go_enter Tryd.func17, Tryd.ntmps17
    go_upto_region 10 with fail
    clear k0 k1 k2 k3 k4 k5 xp
    generalize ((w.alloc (.cells #[.string pnm, .slice pda pdims.length pdc, .slice (some ⟨b0, o0, none⟩) pnodes.length pnc, .slice pfa pdefs.length pfc, .int .i64 proot] 26)).alloc (.cells #[.int .i64 11, .int .i64 pp, .int .i64 cc, .slice (some ⟨bK, oK, none⟩) kids.length kc, .slice na nums.length nc, .string name] 45)) = wE at *
    have Lx := Lib.hid LE.out.drew
    have BPx := Lib.hid BP.out.drew
    have BNx := Lib.hid BN.out.drew
    have xa := BPx.out.c 2
    have xb := BNx.out.c 3
    have xc := (Lx.out.cell (p := ⟨bK, oK + 0, none⟩) hbK).trans HY0.out
    have xd := (Lx.out.cell (p := ⟨b0, o0 + m0 * 6, none⟩) HB0.out).trans HC0.out
    simp only [List.getElem?_cons_zero, List.getElem?_cons_succ, Nat.add_zero] at xa xb xc
    go_region
    go_upto_region 11 with fail
    have Ld := Lib.hid Lx.out.drew
    have BPd := Lib.hid BPx.out.drew
    have BNd := Lib.hid BNx.out.drew
    have Kd := Lib.hid (HS.out _ Ld.out BPd.out BNd.out)
    clear xa xb xc xd
    cases u0 with
    | false =>
      have HEV := Lib.hid (show uM pnodes (k : Int) 1 = false by rw [HEV1.out]; simp)
      refine wp_region_held_drew (S := fun w' => w'.cell? ⟨w.heap.size, 0, none⟩ = some (.string pnm) ∧ w'.cell? ⟨w.heap.size, 1, none⟩ = some (.slice pda pdims.length pdc) ∧ w'.cell? ⟨w.heap.size, 2, none⟩ = some (.slice (some ⟨b0, o0, none⟩) pnodes.length pnc) ∧ w'.cell? ⟨w.heap.size, 3, none⟩ = some (.slice pfa pdefs.length pfc) ∧ w'.cell? ⟨w.heap.size, 4, none⟩ = some (.int .i64 proot) ∧ w'.cell? ⟨w.heap.size + 1, 3, none⟩ = some (.slice (some ⟨bK, oK, none⟩) kids.length kc) ∧ w'.cell? ⟨bK, oK, none⟩ = some (.int .i64 (m0 : Int)) ∧ w'.cell? ⟨bK, oK + 1, none⟩ = some (.int .i64 (m1 : Int)) ∧ w'.cell? ⟨bK, oK + 2, none⟩ = some (.int .i64 (m2 : Int))) (by kernel_rfl) (Kd.out) (fun hHeld => ?_)
      refine take_yes (i := 0) (some 63) (.bool false) rfl rfl (by kernel_rfl) (by kernel_rfl) (by kernel_rfl) (fun _ _ _ h => h) (by rfl) hHeld ?_ ?_
      · intro wq hSw; obtain ⟨s0, s1, s2, s3, s4, s5, s6, s7, s8⟩ := hSw; go_simp
      simp only [Act.put, List.setIfInBounds_toArray, List.set_cons_zero, List.set_cons_succ]
      refine take_yes (i := 1) (some 64) (.bool false) rfl rfl (by kernel_rfl) (by kernel_rfl) (by kernel_rfl) (fun _ _ _ h => h) (by rfl) hHeld ?_ ?_
      · intro wq hSw; obtain ⟨s0, s1, s2, s3, s4, s5, s6, s7, s8⟩ := hSw; go_simp
      simp only [Act.put, List.setIfInBounds_toArray, List.set_cons_zero, List.set_cons_succ]
      refine take_yes (i := 2) (some 65) (.agg #[.string pnm, .slice pda pdims.length pdc, .slice (some ⟨b0, o0, none⟩) pnodes.length pnc, .slice pfa pdefs.length pfc, .int .i64 proot]) rfl rfl (by kernel_rfl) (by kernel_rfl) (by kernel_rfl) (fun _ _ _ h => h) (by rfl) hHeld ?_ ?_
      · intro wq hSw; obtain ⟨s0, s1, s2, s3, s4, s5, s6, s7, s8⟩ := hSw; go_simp
      simp only [Act.put, List.setIfInBounds_toArray, List.set_cons_zero, List.set_cons_succ]
      refine take_yes (i := 3) (some 66) (.pointer (some ⟨w.heap.size + 1, 3, none⟩)) rfl rfl (by kernel_rfl) (by kernel_rfl) (by kernel_rfl) (fun _ _ _ h => h) (by rfl) hHeld ?_ ?_
      · intro wq hSw; obtain ⟨s0, s1, s2, s3, s4, s5, s6, s7, s8⟩ := hSw; go_simp
      simp only [Act.put, List.setIfInBounds_toArray, List.set_cons_zero, List.set_cons_succ]
      refine take_yes (i := 4) (some 67) (.slice (some ⟨bK, oK, none⟩) kids.length kc) rfl rfl (by kernel_rfl) (by kernel_rfl) (by kernel_rfl) (fun _ _ _ h => h) (by rfl) hHeld ?_ ?_
      · intro wq hSw; obtain ⟨s0, s1, s2, s3, s4, s5, s6, s7, s8⟩ := hSw; go_simp
      simp only [Act.put, List.setIfInBounds_toArray, List.set_cons_zero, List.set_cons_succ]
      refine take_yes (i := 5) (some 68) (.pointer (some ⟨bK, oK, none⟩)) rfl rfl (by kernel_rfl) (by kernel_rfl) (by kernel_rfl) (fun _ _ _ h => h) (by rfl) hHeld ?_ ?_
      · intro wq hSw; obtain ⟨s0, s1, s2, s3, s4, s5, s6, s7, s8⟩ := hSw; go_simp
      simp only [Act.put, List.setIfInBounds_toArray, List.set_cons_zero, List.set_cons_succ]
      refine take_yes (i := 6) (some 69) (.int .i64 (m0 : Int)) rfl rfl (by kernel_rfl) (by kernel_rfl) (by kernel_rfl) (fun _ _ _ h => h) (by rfl) hHeld ?_ ?_
      · intro wq hSw; obtain ⟨s0, s1, s2, s3, s4, s5, s6, s7, s8⟩ := hSw; go_simp
      simp only [Act.put, List.setIfInBounds_toArray, List.set_cons_zero, List.set_cons_succ]
      refine take_yes (i := 7) (some 70) (.int .i64 1) rfl rfl (by kernel_rfl) (by kernel_rfl) (by kernel_rfl) (fun _ _ _ h => h) (by rfl) hHeld ?_ ?_
      · intro wq hSw; obtain ⟨s0, s1, s2, s3, s4, s5, s6, s7, s8⟩ := hSw; go_simp
      simp only [Act.put, List.setIfInBounds_toArray, List.set_cons_zero, List.set_cons_succ]
      refine wpAnyH_ready (rs := [8]) (by kernel_rfl) (by simp) ?_
      refine AllReadyH.cons rfl (fun K hK => ?_) AllReadyH.nil
      go_simp
      go_at_call 17
      refine (HR0.out _ Ld.out).mono ?_
      rintro r w2 ⟨rfl, hb2⟩
      have L2 := Lib.hid (Gl.below_next Ld.out hb2)
      have BP2 := Lib.hid (BPd.out.next hb2)
      have BN2 := Lib.hid (BNd.out.next hb2)
      clear hb2
      go_wp2_with fail
      refine hK.out _ _ (HS.out _ L2.out BP2.out BN2.out) (fun hHeld => ?_)
      clear hK K
      refine take_yes (i := 9) (some 72) (.bool false) rfl rfl (by kernel_rfl) (by kernel_rfl) (by kernel_rfl) (fun _ _ _ h => h) (by rfl) hHeld ?_ ?_
      · intro wq hSw; obtain ⟨s0, s1, s2, s3, s4, s5, s6, s7, s8⟩ := hSw; go_simp
      simp only [Act.put, List.setIfInBounds_toArray, List.set_cons_zero, List.set_cons_succ]
      refine take_yes (i := 10) (some 73) (.bool false) rfl rfl (by kernel_rfl) (by kernel_rfl) (by kernel_rfl) (fun _ _ _ h => h) (by rfl) hHeld ?_ ?_
      · intro wq hSw; obtain ⟨s0, s1, s2, s3, s4, s5, s6, s7, s8⟩ := hSw; go_simp
      simp only [Act.put, List.setIfInBounds_toArray, List.set_cons_zero, List.set_cons_succ]
      refine take_no (i := 11) (some 74) rfl rfl (by kernel_rfl) (by kernel_rfl) (by kernel_rfl) (fun _ _ _ h => h) (by rfl) hHeld ?_
      simp only [Act.put, List.setIfInBounds_toArray, List.set_cons_zero, List.set_cons_succ]
      refine take_no (i := 12) (some 75) rfl rfl (by kernel_rfl) (by kernel_rfl) (by kernel_rfl) (fun _ _ _ h => h) (by rfl) hHeld ?_
      simp only [Act.put, List.setIfInBounds_toArray, List.set_cons_zero, List.set_cons_succ]
      refine take_no (i := 13) (some 76) rfl rfl (by kernel_rfl) (by kernel_rfl) (by kernel_rfl) (fun _ _ _ h => h) (by rfl) hHeld ?_
      simp only [Act.put, List.setIfInBounds_toArray, List.set_cons_zero, List.set_cons_succ]
      refine take_no (i := 14) (some 77) rfl rfl (by kernel_rfl) (by kernel_rfl) (by kernel_rfl) (fun _ _ _ h => h) (by rfl) hHeld ?_
      simp only [Act.put, List.setIfInBounds_toArray, List.set_cons_zero, List.set_cons_succ]
      refine take_no (i := 15) (some 78) rfl rfl (by kernel_rfl) (by kernel_rfl) (by kernel_rfl) (fun _ _ _ h => h) (by rfl) hHeld ?_
      simp only [Act.put, List.setIfInBounds_toArray, List.set_cons_zero, List.set_cons_succ]
      refine take_no (i := 16) (some 79) rfl rfl (by kernel_rfl) (by kernel_rfl) (by kernel_rfl) (fun _ _ _ h => h) (by rfl) hHeld ?_
      simp only [Act.put, List.setIfInBounds_toArray, List.set_cons_zero, List.set_cons_succ]
      refine take_yes (i := 17) (some 80) (.bool false) rfl rfl (by kernel_rfl) (by kernel_rfl) (by kernel_rfl) (fun _ _ _ h => h) (by rfl) hHeld ?_ ?_
      · intro wq hSw; obtain ⟨s0, s1, s2, s3, s4, s5, s6, s7, s8⟩ := hSw; go_simp
      simp only [Act.put, List.setIfInBounds_toArray, List.set_cons_zero, List.set_cons_succ]
      refine take_yes (i := 18) (some 81) (.bool false) rfl rfl (by kernel_rfl) (by kernel_rfl) (by kernel_rfl) (fun _ _ _ h => h) (by rfl) hHeld ?_ ?_
      · intro wq hSw; obtain ⟨s0, s1, s2, s3, s4, s5, s6, s7, s8⟩ := hSw; go_simp
      simp only [Act.put, List.setIfInBounds_toArray, List.set_cons_zero, List.set_cons_succ]
      refine take_no (i := 19) (some 82) rfl rfl (by kernel_rfl) (by kernel_rfl) (by kernel_rfl) (fun _ _ _ h => h) (by rfl) hHeld ?_
      simp only [Act.put, List.setIfInBounds_toArray, List.set_cons_zero, List.set_cons_succ]
      refine take_no (i := 20) (some 83) rfl rfl (by kernel_rfl) (by kernel_rfl) (by kernel_rfl) (fun _ _ _ h => h) (by rfl) hHeld ?_
      simp only [Act.put, List.setIfInBounds_toArray, List.set_cons_zero, List.set_cons_succ]
      refine take_no (i := 21) (some 84) rfl rfl (by kernel_rfl) (by kernel_rfl) (by kernel_rfl) (fun _ _ _ h => h) (by rfl) hHeld ?_
      simp only [Act.put, List.setIfInBounds_toArray, List.set_cons_zero, List.set_cons_succ]
      refine take_no (i := 22) (some 85) rfl rfl (by kernel_rfl) (by kernel_rfl) (by kernel_rfl) (fun _ _ _ h => h) (by rfl) hHeld ?_
      simp only [Act.put, List.setIfInBounds_toArray, List.set_cons_zero, List.set_cons_succ]
      refine take_no (i := 23) (some 86) rfl rfl (by kernel_rfl) (by kernel_rfl) (by kernel_rfl) (fun _ _ _ h => h) (by rfl) hHeld ?_
      simp only [Act.put, List.setIfInBounds_toArray, List.set_cons_zero, List.set_cons_succ]
      refine take_no (i := 24) (some 87) rfl rfl (by kernel_rfl) (by kernel_rfl) (by kernel_rfl) (fun _ _ _ h => h) (by rfl) hHeld ?_
      simp only [Act.put, List.setIfInBounds_toArray, List.set_cons_zero, List.set_cons_succ]
      refine take_no (i := 25) (some 88) rfl rfl (by kernel_rfl) (by kernel_rfl) (by kernel_rfl) (fun _ _ _ h => h) (by rfl) hHeld ?_
      simp only [Act.put, List.setIfInBounds_toArray, List.set_cons_zero, List.set_cons_succ]
      refine take_yes (i := 26) (some 89) (.bool false) rfl rfl (by kernel_rfl) (by kernel_rfl) (by kernel_rfl) (fun _ _ _ h => h) (by rfl) hHeld ?_ ?_
      · intro wq hSw; obtain ⟨s0, s1, s2, s3, s4, s5, s6, s7, s8⟩ := hSw; go_simp
      simp only [Act.put, List.setIfInBounds_toArray, List.set_cons_zero, List.set_cons_succ]
      refine take_yes (i := 27) (some 6) (.bool false) rfl rfl (by kernel_rfl) (by kernel_rfl) (by kernel_rfl) (fun _ _ _ h => h) (by rfl) hHeld ?_ ?_
      · intro wq hSw; obtain ⟨s0, s1, s2, s3, s4, s5, s6, s7, s8⟩ := hSw; go_simp
      simp only [Act.put, List.setIfInBounds_toArray, List.set_cons_zero, List.set_cons_succ]
      refine wpAnyH_done (by kernel_rfl) ?_ _
      go_wp2
      go_ret
      exact ⟨by rw [HEV.out]; rfl, L2.out⟩
    | true =>
      cases u1 with
      | true =>
        have HEV := Lib.hid (show uM pnodes (k : Int) 1 = u2 by rw [HEV1.out]; simp)
        refine wp_region_held_drew (S := fun w' => w'.cell? ⟨w.heap.size, 0, none⟩ = some (.string pnm) ∧ w'.cell? ⟨w.heap.size, 1, none⟩ = some (.slice pda pdims.length pdc) ∧ w'.cell? ⟨w.heap.size, 2, none⟩ = some (.slice (some ⟨b0, o0, none⟩) pnodes.length pnc) ∧ w'.cell? ⟨w.heap.size, 3, none⟩ = some (.slice pfa pdefs.length pfc) ∧ w'.cell? ⟨w.heap.size, 4, none⟩ = some (.int .i64 proot) ∧ w'.cell? ⟨w.heap.size + 1, 3, none⟩ = some (.slice (some ⟨bK, oK, none⟩) kids.length kc) ∧ w'.cell? ⟨bK, oK, none⟩ = some (.int .i64 (m0 : Int)) ∧ w'.cell? ⟨bK, oK + 1, none⟩ = some (.int .i64 (m1 : Int)) ∧ w'.cell? ⟨bK, oK + 2, none⟩ = some (.int .i64 (m2 : Int))) (by kernel_rfl) (Kd.out) (fun hHeld => ?_)
        refine take_yes (i := 0) (some 63) (.bool false) rfl rfl (by kernel_rfl) (by kernel_rfl) (by kernel_rfl) (fun _ _ _ h => h) (by rfl) hHeld ?_ ?_
        · intro wq hSw; obtain ⟨s0, s1, s2, s3, s4, s5, s6, s7, s8⟩ := hSw; go_simp
        simp only [Act.put, List.setIfInBounds_toArray, List.set_cons_zero, List.set_cons_succ]
        refine take_yes (i := 1) (some 64) (.bool false) rfl rfl (by kernel_rfl) (by kernel_rfl) (by kernel_rfl) (fun _ _ _ h => h) (by rfl) hHeld ?_ ?_
        · intro wq hSw; obtain ⟨s0, s1, s2, s3, s4, s5, s6, s7, s8⟩ := hSw; go_simp
        simp only [Act.put, List.setIfInBounds_toArray, List.set_cons_zero, List.set_cons_succ]
        refine take_yes (i := 2) (some 65) (.agg #[.string pnm, .slice pda pdims.length pdc, .slice (some ⟨b0, o0, none⟩) pnodes.length pnc, .slice pfa pdefs.length pfc, .int .i64 proot]) rfl rfl (by kernel_rfl) (by kernel_rfl) (by kernel_rfl) (fun _ _ _ h => h) (by rfl) hHeld ?_ ?_
        · intro wq hSw; obtain ⟨s0, s1, s2, s3, s4, s5, s6, s7, s8⟩ := hSw; go_simp
        simp only [Act.put, List.setIfInBounds_toArray, List.set_cons_zero, List.set_cons_succ]
        refine take_yes (i := 3) (some 66) (.pointer (some ⟨w.heap.size + 1, 3, none⟩)) rfl rfl (by kernel_rfl) (by kernel_rfl) (by kernel_rfl) (fun _ _ _ h => h) (by rfl) hHeld ?_ ?_
        · intro wq hSw; obtain ⟨s0, s1, s2, s3, s4, s5, s6, s7, s8⟩ := hSw; go_simp
        simp only [Act.put, List.setIfInBounds_toArray, List.set_cons_zero, List.set_cons_succ]
        refine take_yes (i := 4) (some 67) (.slice (some ⟨bK, oK, none⟩) kids.length kc) rfl rfl (by kernel_rfl) (by kernel_rfl) (by kernel_rfl) (fun _ _ _ h => h) (by rfl) hHeld ?_ ?_
        · intro wq hSw; obtain ⟨s0, s1, s2, s3, s4, s5, s6, s7, s8⟩ := hSw; go_simp
        simp only [Act.put, List.setIfInBounds_toArray, List.set_cons_zero, List.set_cons_succ]
        refine take_yes (i := 5) (some 68) (.pointer (some ⟨bK, oK, none⟩)) rfl rfl (by kernel_rfl) (by kernel_rfl) (by kernel_rfl) (fun _ _ _ h => h) (by rfl) hHeld ?_ ?_
        · intro wq hSw; obtain ⟨s0, s1, s2, s3, s4, s5, s6, s7, s8⟩ := hSw; go_simp
        simp only [Act.put, List.setIfInBounds_toArray, List.set_cons_zero, List.set_cons_succ]
        refine take_yes (i := 6) (some 69) (.int .i64 (m0 : Int)) rfl rfl (by kernel_rfl) (by kernel_rfl) (by kernel_rfl) (fun _ _ _ h => h) (by rfl) hHeld ?_ ?_
        · intro wq hSw; obtain ⟨s0, s1, s2, s3, s4, s5, s6, s7, s8⟩ := hSw; go_simp
        simp only [Act.put, List.setIfInBounds_toArray, List.set_cons_zero, List.set_cons_succ]
        refine take_yes (i := 7) (some 70) (.int .i64 1) rfl rfl (by kernel_rfl) (by kernel_rfl) (by kernel_rfl) (fun _ _ _ h => h) (by rfl) hHeld ?_ ?_
        · intro wq hSw; obtain ⟨s0, s1, s2, s3, s4, s5, s6, s7, s8⟩ := hSw; go_simp
        simp only [Act.put, List.setIfInBounds_toArray, List.set_cons_zero, List.set_cons_succ]
        refine wpAnyH_ready (rs := [8]) (by kernel_rfl) (by simp) ?_
        refine AllReadyH.cons rfl (fun K hK => ?_) AllReadyH.nil
        go_simp
        go_at_call 17
        refine (HR0.out _ Ld.out).mono ?_
        rintro r w2 ⟨rfl, hb2⟩
        have L2 := Lib.hid (Gl.below_next Ld.out hb2)
        have BP2 := Lib.hid (BPd.out.next hb2)
        have BN2 := Lib.hid (BNd.out.next hb2)
        clear hb2
        go_wp2_with fail
        refine hK.out _ _ (HS.out _ L2.out BP2.out BN2.out) (fun hHeld => ?_)
        clear hK K
        refine take_yes (i := 9) (some 72) (.bool true) rfl rfl (by kernel_rfl) (by kernel_rfl) (by kernel_rfl) (fun _ _ _ h => h) (by rfl) hHeld ?_ ?_
        · intro wq hSw; obtain ⟨s0, s1, s2, s3, s4, s5, s6, s7, s8⟩ := hSw; go_simp
        simp only [Act.put, List.setIfInBounds_toArray, List.set_cons_zero, List.set_cons_succ]
        refine take_yes (i := 10) (some 73) (.bool true) rfl rfl (by kernel_rfl) (by kernel_rfl) (by kernel_rfl) (fun _ _ _ h => h) (by rfl) hHeld ?_ ?_
        · intro wq hSw; obtain ⟨s0, s1, s2, s3, s4, s5, s6, s7, s8⟩ := hSw; go_simp
        simp only [Act.put, List.setIfInBounds_toArray, List.set_cons_zero, List.set_cons_succ]
        refine take_yes (i := 11) (some 74) (.agg #[.string pnm, .slice pda pdims.length pdc, .slice (some ⟨b0, o0, none⟩) pnodes.length pnc, .slice pfa pdefs.length pfc, .int .i64 proot]) rfl rfl (by kernel_rfl) (by kernel_rfl) (by kernel_rfl) (fun _ _ _ h => h) (by rfl) hHeld ?_ ?_
        · intro wq hSw; obtain ⟨s0, s1, s2, s3, s4, s5, s6, s7, s8⟩ := hSw; go_simp
        simp only [Act.put, List.setIfInBounds_toArray, List.set_cons_zero, List.set_cons_succ]
        refine take_yes (i := 12) (some 75) (.pointer (some ⟨w.heap.size + 1, 3, none⟩)) rfl rfl (by kernel_rfl) (by kernel_rfl) (by kernel_rfl) (fun _ _ _ h => h) (by rfl) hHeld ?_ ?_
        · intro wq hSw; obtain ⟨s0, s1, s2, s3, s4, s5, s6, s7, s8⟩ := hSw; go_simp
        simp only [Act.put, List.setIfInBounds_toArray, List.set_cons_zero, List.set_cons_succ]
        refine take_yes (i := 13) (some 76) (.slice (some ⟨bK, oK, none⟩) kids.length kc) rfl rfl (by kernel_rfl) (by kernel_rfl) (by kernel_rfl) (fun _ _ _ h => h) (by rfl) hHeld ?_ ?_
        · intro wq hSw; obtain ⟨s0, s1, s2, s3, s4, s5, s6, s7, s8⟩ := hSw; go_simp
        simp only [Act.put, List.setIfInBounds_toArray, List.set_cons_zero, List.set_cons_succ]
        refine take_yes (i := 14) (some 77) (.pointer (some ⟨bK, oK + 1, none⟩)) rfl rfl (by kernel_rfl) (by kernel_rfl) (by kernel_rfl) (fun _ _ _ h => h) (by rfl) hHeld ?_ ?_
        · intro wq hSw; obtain ⟨s0, s1, s2, s3, s4, s5, s6, s7, s8⟩ := hSw; go_simp
        simp only [Act.put, List.setIfInBounds_toArray, List.set_cons_zero, List.set_cons_succ]
        refine take_yes (i := 15) (some 78) (.int .i64 (m1 : Int)) rfl rfl (by kernel_rfl) (by kernel_rfl) (by kernel_rfl) (fun _ _ _ h => h) (by rfl) hHeld ?_ ?_
        · intro wq hSw; obtain ⟨s0, s1, s2, s3, s4, s5, s6, s7, s8⟩ := hSw; go_simp
        simp only [Act.put, List.setIfInBounds_toArray, List.set_cons_zero, List.set_cons_succ]
        refine wpAnyH_ready (rs := [16]) (by kernel_rfl) (by simp) ?_
        refine AllReadyH.cons rfl (fun K hK => ?_) AllReadyH.nil
        go_simp
        go_at_call 17
        refine (HR1.out _ L2.out).mono ?_
        rintro r w4 ⟨rfl, hb4⟩
        have L4 := Lib.hid (Gl.below_next L2.out hb4)
        have BP4 := Lib.hid (BP2.out.next hb4)
        have BN4 := Lib.hid (BN2.out.next hb4)
        clear hb4
        go_wp2_with fail
        refine hK.out _ _ (HS.out _ L4.out BP4.out BN4.out) (fun hHeld => ?_)
        clear hK K
        refine take_yes (i := 17) (some 80) (.bool true) rfl rfl (by kernel_rfl) (by kernel_rfl) (by kernel_rfl) (fun _ _ _ h => h) (by rfl) hHeld ?_ ?_
        · intro wq hSw; obtain ⟨s0, s1, s2, s3, s4, s5, s6, s7, s8⟩ := hSw; go_simp
        simp only [Act.put, List.setIfInBounds_toArray, List.set_cons_zero, List.set_cons_succ]
        refine take_yes (i := 18) (some 81) (.bool true) rfl rfl (by kernel_rfl) (by kernel_rfl) (by kernel_rfl) (fun _ _ _ h => h) (by rfl) hHeld ?_ ?_
        · intro wq hSw; obtain ⟨s0, s1, s2, s3, s4, s5, s6, s7, s8⟩ := hSw; go_simp
        simp only [Act.put, List.setIfInBounds_toArray, List.set_cons_zero, List.set_cons_succ]
        refine take_yes (i := 19) (some 82) (.agg #[.string pnm, .slice pda pdims.length pdc, .slice (some ⟨b0, o0, none⟩) pnodes.length pnc, .slice pfa pdefs.length pfc, .int .i64 proot]) rfl rfl (by kernel_rfl) (by kernel_rfl) (by kernel_rfl) (fun _ _ _ h => h) (by rfl) hHeld ?_ ?_
        · intro wq hSw; obtain ⟨s0, s1, s2, s3, s4, s5, s6, s7, s8⟩ := hSw; go_simp
        simp only [Act.put, List.setIfInBounds_toArray, List.set_cons_zero, List.set_cons_succ]
        refine take_yes (i := 20) (some 83) (.pointer (some ⟨w.heap.size + 1, 3, none⟩)) rfl rfl (by kernel_rfl) (by kernel_rfl) (by kernel_rfl) (fun _ _ _ h => h) (by rfl) hHeld ?_ ?_
        · intro wq hSw; obtain ⟨s0, s1, s2, s3, s4, s5, s6, s7, s8⟩ := hSw; go_simp
        simp only [Act.put, List.setIfInBounds_toArray, List.set_cons_zero, List.set_cons_succ]
        refine take_yes (i := 21) (some 84) (.slice (some ⟨bK, oK, none⟩) kids.length kc) rfl rfl (by kernel_rfl) (by kernel_rfl) (by kernel_rfl) (fun _ _ _ h => h) (by rfl) hHeld ?_ ?_
        · intro wq hSw; obtain ⟨s0, s1, s2, s3, s4, s5, s6, s7, s8⟩ := hSw; go_simp
        simp only [Act.put, List.setIfInBounds_toArray, List.set_cons_zero, List.set_cons_succ]
        refine take_yes (i := 22) (some 85) (.pointer (some ⟨bK, oK + 2, none⟩)) rfl rfl (by kernel_rfl) (by kernel_rfl) (by kernel_rfl) (fun _ _ _ h => h) (by rfl) hHeld ?_ ?_
        · intro wq hSw; obtain ⟨s0, s1, s2, s3, s4, s5, s6, s7, s8⟩ := hSw; go_simp
        simp only [Act.put, List.setIfInBounds_toArray, List.set_cons_zero, List.set_cons_succ]
        refine take_yes (i := 23) (some 86) (.int .i64 (m2 : Int)) rfl rfl (by kernel_rfl) (by kernel_rfl) (by kernel_rfl) (fun _ _ _ h => h) (by rfl) hHeld ?_ ?_
        · intro wq hSw; obtain ⟨s0, s1, s2, s3, s4, s5, s6, s7, s8⟩ := hSw; go_simp
        simp only [Act.put, List.setIfInBounds_toArray, List.set_cons_zero, List.set_cons_succ]
        refine take_yes (i := 24) (some 87) (.int .i64 1) rfl rfl (by kernel_rfl) (by kernel_rfl) (by kernel_rfl) (fun _ _ _ h => h) (by rfl) hHeld ?_ ?_
        · intro wq hSw; obtain ⟨s0, s1, s2, s3, s4, s5, s6, s7, s8⟩ := hSw; go_simp
        simp only [Act.put, List.setIfInBounds_toArray, List.set_cons_zero, List.set_cons_succ]
        refine wpAnyH_ready (rs := [25]) (by kernel_rfl) (by simp) ?_
        refine AllReadyH.cons rfl (fun K hK => ?_) AllReadyH.nil
        go_simp
        go_at_call 17
        refine (HR2.out _ L4.out).mono ?_
        rintro r w6 ⟨rfl, hb6⟩
        have L6 := Lib.hid (Gl.below_next L4.out hb6)
        have BP6 := Lib.hid (BP4.out.next hb6)
        have BN6 := Lib.hid (BN4.out.next hb6)
        clear hb6
        go_wp2_with fail
        refine hK.out _ _ (HS.out _ L6.out BP6.out BN6.out) (fun hHeld => ?_)
        clear hK K
        refine take_yes (i := 26) (some 89) (.bool u2) rfl rfl (by kernel_rfl) (by kernel_rfl) (by kernel_rfl) (fun _ _ _ h => h) (by rfl) hHeld ?_ ?_
        · intro wq hSw; obtain ⟨s0, s1, s2, s3, s4, s5, s6, s7, s8⟩ := hSw; go_simp
        simp only [Act.put, List.setIfInBounds_toArray, List.set_cons_zero, List.set_cons_succ]
        refine take_yes (i := 27) (some 6) (.bool u2) rfl rfl (by kernel_rfl) (by kernel_rfl) (by kernel_rfl) (fun _ _ _ h => h) (by rfl) hHeld ?_ ?_
        · intro wq hSw; obtain ⟨s0, s1, s2, s3, s4, s5, s6, s7, s8⟩ := hSw; go_simp
        simp only [Act.put, List.setIfInBounds_toArray, List.set_cons_zero, List.set_cons_succ]
        refine wpAnyH_done (by kernel_rfl) ?_ _
        go_wp2
        go_ret
        exact ⟨by rw [HEV.out]; rfl, L6.out⟩
      | false =>
        have HEV := Lib.hid (show uM pnodes (k : Int) 1 = false by rw [HEV1.out]; simp)
        refine wp_region_held_drew (S := fun w' => w'.cell? ⟨w.heap.size, 0, none⟩ = some (.string pnm) ∧ w'.cell? ⟨w.heap.size, 1, none⟩ = some (.slice pda pdims.length pdc) ∧ w'.cell? ⟨w.heap.size, 2, none⟩ = some (.slice (some ⟨b0, o0, none⟩) pnodes.length pnc) ∧ w'.cell? ⟨w.heap.size, 3, none⟩ = some (.slice pfa pdefs.length pfc) ∧ w'.cell? ⟨w.heap.size, 4, none⟩ = some (.int .i64 proot) ∧ w'.cell? ⟨w.heap.size + 1, 3, none⟩ = some (.slice (some ⟨bK, oK, none⟩) kids.length kc) ∧ w'.cell? ⟨bK, oK, none⟩ = some (.int .i64 (m0 : Int)) ∧ w'.cell? ⟨bK, oK + 1, none⟩ = some (.int .i64 (m1 : Int)) ∧ w'.cell? ⟨bK, oK + 2, none⟩ = some (.int .i64 (m2 : Int))) (by kernel_rfl) (Kd.out) (fun hHeld => ?_)
        refine take_yes (i := 0) (some 63) (.bool false) rfl rfl (by kernel_rfl) (by kernel_rfl) (by kernel_rfl) (fun _ _ _ h => h) (by rfl) hHeld ?_ ?_
        · intro wq hSw; obtain ⟨s0, s1, s2, s3, s4, s5, s6, s7, s8⟩ := hSw; go_simp
        simp only [Act.put, List.setIfInBounds_toArray, List.set_cons_zero, List.set_cons_succ]
        refine take_yes (i := 1) (some 64) (.bool false) rfl rfl (by kernel_rfl) (by kernel_rfl) (by kernel_rfl) (fun _ _ _ h => h) (by rfl) hHeld ?_ ?_
        · intro wq hSw; obtain ⟨s0, s1, s2, s3, s4, s5, s6, s7, s8⟩ := hSw; go_simp
        simp only [Act.put, List.setIfInBounds_toArray, List.set_cons_zero, List.set_cons_succ]
        refine take_yes (i := 2) (some 65) (.agg #[.string pnm, .slice pda pdims.length pdc, .slice (some ⟨b0, o0, none⟩) pnodes.length pnc, .slice pfa pdefs.length pfc, .int .i64 proot]) rfl rfl (by kernel_rfl) (by kernel_rfl) (by kernel_rfl) (fun _ _ _ h => h) (by rfl) hHeld ?_ ?_
        · intro wq hSw; obtain ⟨s0, s1, s2, s3, s4, s5, s6, s7, s8⟩ := hSw; go_simp
        simp only [Act.put, List.setIfInBounds_toArray, List.set_cons_zero, List.set_cons_succ]
        refine take_yes (i := 3) (some 66) (.pointer (some ⟨w.heap.size + 1, 3, none⟩)) rfl rfl (by kernel_rfl) (by kernel_rfl) (by kernel_rfl) (fun _ _ _ h => h) (by rfl) hHeld ?_ ?_
        · intro wq hSw; obtain ⟨s0, s1, s2, s3, s4, s5, s6, s7, s8⟩ := hSw; go_simp
        simp only [Act.put, List.setIfInBounds_toArray, List.set_cons_zero, List.set_cons_succ]
        refine take_yes (i := 4) (some 67) (.slice (some ⟨bK, oK, none⟩) kids.length kc) rfl rfl (by kernel_rfl) (by kernel_rfl) (by kernel_rfl) (fun _ _ _ h => h) (by rfl) hHeld ?_ ?_
        · intro wq hSw; obtain ⟨s0, s1, s2, s3, s4, s5, s6, s7, s8⟩ := hSw; go_simp
        simp only [Act.put, List.setIfInBounds_toArray, List.set_cons_zero, List.set_cons_succ]
        refine take_yes (i := 5) (some 68) (.pointer (some ⟨bK, oK, none⟩)) rfl rfl (by kernel_rfl) (by kernel_rfl) (by kernel_rfl) (fun _ _ _ h => h) (by rfl) hHeld ?_ ?_
        · intro wq hSw; obtain ⟨s0, s1, s2, s3, s4, s5, s6, s7, s8⟩ := hSw; go_simp
        simp only [Act.put, List.setIfInBounds_toArray, List.set_cons_zero, List.set_cons_succ]
        refine take_yes (i := 6) (some 69) (.int .i64 (m0 : Int)) rfl rfl (by kernel_rfl) (by kernel_rfl) (by kernel_rfl) (fun _ _ _ h => h) (by rfl) hHeld ?_ ?_
        · intro wq hSw; obtain ⟨s0, s1, s2, s3, s4, s5, s6, s7, s8⟩ := hSw; go_simp
        simp only [Act.put, List.setIfInBounds_toArray, List.set_cons_zero, List.set_cons_succ]
        refine take_yes (i := 7) (some 70) (.int .i64 1) rfl rfl (by kernel_rfl) (by kernel_rfl) (by kernel_rfl) (fun _ _ _ h => h) (by rfl) hHeld ?_ ?_
        · intro wq hSw; obtain ⟨s0, s1, s2, s3, s4, s5, s6, s7, s8⟩ := hSw; go_simp
        simp only [Act.put, List.setIfInBounds_toArray, List.set_cons_zero, List.set_cons_succ]
        refine wpAnyH_ready (rs := [8]) (by kernel_rfl) (by simp) ?_
        refine AllReadyH.cons rfl (fun K hK => ?_) AllReadyH.nil
        go_simp
        go_at_call 17
        refine (HR0.out _ Ld.out).mono ?_
        rintro r w2 ⟨rfl, hb2⟩
        have L2 := Lib.hid (Gl.below_next Ld.out hb2)
        have BP2 := Lib.hid (BPd.out.next hb2)
        have BN2 := Lib.hid (BNd.out.next hb2)
        clear hb2
        go_wp2_with fail
        refine hK.out _ _ (HS.out _ L2.out BP2.out BN2.out) (fun hHeld => ?_)
        clear hK K
        refine take_yes (i := 9) (some 72) (.bool true) rfl rfl (by kernel_rfl) (by kernel_rfl) (by kernel_rfl) (fun _ _ _ h => h) (by rfl) hHeld ?_ ?_
        · intro wq hSw; obtain ⟨s0, s1, s2, s3, s4, s5, s6, s7, s8⟩ := hSw; go_simp
        simp only [Act.put, List.setIfInBounds_toArray, List.set_cons_zero, List.set_cons_succ]
        refine take_yes (i := 10) (some 73) (.bool true) rfl rfl (by kernel_rfl) (by kernel_rfl) (by kernel_rfl) (fun _ _ _ h => h) (by rfl) hHeld ?_ ?_
        · intro wq hSw; obtain ⟨s0, s1, s2, s3, s4, s5, s6, s7, s8⟩ := hSw; go_simp
        simp only [Act.put, List.setIfInBounds_toArray, List.set_cons_zero, List.set_cons_succ]
        refine take_yes (i := 11) (some 74) (.agg #[.string pnm, .slice pda pdims.length pdc, .slice (some ⟨b0, o0, none⟩) pnodes.length pnc, .slice pfa pdefs.length pfc, .int .i64 proot]) rfl rfl (by kernel_rfl) (by kernel_rfl) (by kernel_rfl) (fun _ _ _ h => h) (by rfl) hHeld ?_ ?_
        · intro wq hSw; obtain ⟨s0, s1, s2, s3, s4, s5, s6, s7, s8⟩ := hSw; go_simp
        simp only [Act.put, List.setIfInBounds_toArray, List.set_cons_zero, List.set_cons_succ]
        refine take_yes (i := 12) (some 75) (.pointer (some ⟨w.heap.size + 1, 3, none⟩)) rfl rfl (by kernel_rfl) (by kernel_rfl) (by kernel_rfl) (fun _ _ _ h => h) (by rfl) hHeld ?_ ?_
        · intro wq hSw; obtain ⟨s0, s1, s2, s3, s4, s5, s6, s7, s8⟩ := hSw; go_simp
        simp only [Act.put, List.setIfInBounds_toArray, List.set_cons_zero, List.set_cons_succ]
        refine take_yes (i := 13) (some 76) (.slice (some ⟨bK, oK, none⟩) kids.length kc) rfl rfl (by kernel_rfl) (by kernel_rfl) (by kernel_rfl) (fun _ _ _ h => h) (by rfl) hHeld ?_ ?_
        · intro wq hSw; obtain ⟨s0, s1, s2, s3, s4, s5, s6, s7, s8⟩ := hSw; go_simp
        simp only [Act.put, List.setIfInBounds_toArray, List.set_cons_zero, List.set_cons_succ]
        refine take_yes (i := 14) (some 77) (.pointer (some ⟨bK, oK + 1, none⟩)) rfl rfl (by kernel_rfl) (by kernel_rfl) (by kernel_rfl) (fun _ _ _ h => h) (by rfl) hHeld ?_ ?_
        · intro wq hSw; obtain ⟨s0, s1, s2, s3, s4, s5, s6, s7, s8⟩ := hSw; go_simp
        simp only [Act.put, List.setIfInBounds_toArray, List.set_cons_zero, List.set_cons_succ]
        refine take_yes (i := 15) (some 78) (.int .i64 (m1 : Int)) rfl rfl (by kernel_rfl) (by kernel_rfl) (by kernel_rfl) (fun _ _ _ h => h) (by rfl) hHeld ?_ ?_
        · intro wq hSw; obtain ⟨s0, s1, s2, s3, s4, s5, s6, s7, s8⟩ := hSw; go_simp
        simp only [Act.put, List.setIfInBounds_toArray, List.set_cons_zero, List.set_cons_succ]
        refine wpAnyH_ready (rs := [16]) (by kernel_rfl) (by simp) ?_
        refine AllReadyH.cons rfl (fun K hK => ?_) AllReadyH.nil
        go_simp
        go_at_call 17
        refine (HR1.out _ L2.out).mono ?_
        rintro r w4 ⟨rfl, hb4⟩
        have L4 := Lib.hid (Gl.below_next L2.out hb4)
        have BP4 := Lib.hid (BP2.out.next hb4)
        have BN4 := Lib.hid (BN2.out.next hb4)
        clear hb4
        go_wp2_with fail
        refine hK.out _ _ (HS.out _ L4.out BP4.out BN4.out) (fun hHeld => ?_)
        clear hK K
        refine take_yes (i := 17) (some 80) (.bool false) rfl rfl (by kernel_rfl) (by kernel_rfl) (by kernel_rfl) (fun _ _ _ h => h) (by rfl) hHeld ?_ ?_
        · intro wq hSw; obtain ⟨s0, s1, s2, s3, s4, s5, s6, s7, s8⟩ := hSw; go_simp
        simp only [Act.put, List.setIfInBounds_toArray, List.set_cons_zero, List.set_cons_succ]
        refine take_yes (i := 18) (some 81) (.bool false) rfl rfl (by kernel_rfl) (by kernel_rfl) (by kernel_rfl) (fun _ _ _ h => h) (by rfl) hHeld ?_ ?_
        · intro wq hSw; obtain ⟨s0, s1, s2, s3, s4, s5, s6, s7, s8⟩ := hSw; go_simp
        simp only [Act.put, List.setIfInBounds_toArray, List.set_cons_zero, List.set_cons_succ]
        refine take_no (i := 19) (some 82) rfl rfl (by kernel_rfl) (by kernel_rfl) (by kernel_rfl) (fun _ _ _ h => h) (by rfl) hHeld ?_
        simp only [Act.put, List.setIfInBounds_toArray, List.set_cons_zero, List.set_cons_succ]
        refine take_no (i := 20) (some 83) rfl rfl (by kernel_rfl) (by kernel_rfl) (by kernel_rfl) (fun _ _ _ h => h) (by rfl) hHeld ?_
        simp only [Act.put, List.setIfInBounds_toArray, List.set_cons_zero, List.set_cons_succ]
        refine take_no (i := 21) (some 84) rfl rfl (by kernel_rfl) (by kernel_rfl) (by kernel_rfl) (fun _ _ _ h => h) (by rfl) hHeld ?_
        simp only [Act.put, List.setIfInBounds_toArray, List.set_cons_zero, List.set_cons_succ]
        refine take_no (i := 22) (some 85) rfl rfl (by kernel_rfl) (by kernel_rfl) (by kernel_rfl) (fun _ _ _ h => h) (by rfl) hHeld ?_
        simp only [Act.put, List.setIfInBounds_toArray, List.set_cons_zero, List.set_cons_succ]
        refine take_no (i := 23) (some 86) rfl rfl (by kernel_rfl) (by kernel_rfl) (by kernel_rfl) (fun _ _ _ h => h) (by rfl) hHeld ?_
        simp only [Act.put, List.setIfInBounds_toArray, List.set_cons_zero, List.set_cons_succ]
        refine take_no (i := 24) (some 87) rfl rfl (by kernel_rfl) (by kernel_rfl) (by kernel_rfl) (fun _ _ _ h => h) (by rfl) hHeld ?_
        simp only [Act.put, List.setIfInBounds_toArray, List.set_cons_zero, List.set_cons_succ]
        refine take_no (i := 25) (some 88) rfl rfl (by kernel_rfl) (by kernel_rfl) (by kernel_rfl) (fun _ _ _ h => h) (by rfl) hHeld ?_
        simp only [Act.put, List.setIfInBounds_toArray, List.set_cons_zero, List.set_cons_succ]
        refine take_yes (i := 26) (some 89) (.bool false) rfl rfl (by kernel_rfl) (by kernel_rfl) (by kernel_rfl) (fun _ _ _ h => h) (by rfl) hHeld ?_ ?_
        · intro wq hSw; obtain ⟨s0, s1, s2, s3, s4, s5, s6, s7, s8⟩ := hSw; go_simp
        simp only [Act.put, List.setIfInBounds_toArray, List.set_cons_zero, List.set_cons_succ]
        refine take_yes (i := 27) (some 6) (.bool false) rfl rfl (by kernel_rfl) (by kernel_rfl) (by kernel_rfl) (fun _ _ _ h => h) (by rfl) hHeld ?_ ?_
        · intro wq hSw; obtain ⟨s0, s1, s2, s3, s4, s5, s6, s7, s8⟩ := hSw; go_simp
        simp only [Act.put, List.setIfInBounds_toArray, List.set_cons_zero, List.set_cons_succ]
        refine wpAnyH_done (by kernel_rfl) ?_ _
        go_wp2
        go_ret
        exact ⟨by rw [HEV.out]; rfl, L4.out⟩
set_option maxHeartbeats 16000000 in
theorem ruse_121 (pnm : ByteArray) (pda : Option Addr) (pdc : Nat) (pdims : List Int) (pna : Option Addr) (pnc : Nat) (pnodes : List Nq) (pfa : Option Addr) (pfc : Nat) (pdefs : List Df) (proot : Int) (hF : Fl pnodes) (k : Nat) (pp cc : Int) (kids nums : List Int) (name : ByteArray) (ka : Option Addr) (kc : Nat) (na : Option Addr) (nc : Nat) (hq : pnodes[k]? = some ⟨⟨(12 : Int), pp, cc, kids, nums, name⟩, ka, kc, na, nc⟩) (w : World) (hp : ProgIn w ⟨pnm, pda, pdc, pdims, pna, pnc, pnodes, pfa, pfc, pdefs, proot⟩) (HU : ∀ m, m < k → (∃ q : Nq, pnodes[m]? = some q ∧ funI q.n.kind = true) → ∀ W, ProgIn W ⟨pnm, pda, pdc, pdims, pna, pnc, pnodes, pfa, pfc, pdefs, proot⟩ → ∀ many : Int, many = 1 ∨ many = 2 → Calls Tryd.prog 17 #[.agg #[.string pnm, .slice pda pdims.length pdc, .slice pna pnodes.length pnc, .slice pfa pdefs.length pfc, .int .i64 proot], .int .i64 (m : Int), .int .i64 many] W (RetBl (uM pnodes (m : Int) many) W)) : Calls Tryd.prog 17 #[.agg #[.string pnm, .slice pda pdims.length pdc, .slice pna pnodes.length pnc, .slice pfa pdefs.length pfc, .int .i64 proot], .int .i64 (k : Int), .int .i64 1] w (RetBl (uM pnodes (k : Int) 1) w) := by
  have hlen : kids.length = 2 := hF.nk hq
  have hin0 := hp.2.1.2 _ (List.mem_of_getElem? hq)
  obtain ⟨bK, oK, eka, hbK, hcK⟩ := hin0.1 (by simp only; omega)
  simp only at eka hcK
  subst eka
  obtain ⟨m0, q0, hx0, hkm0, hmk0, hqm0, hka0, hmay0⟩ := hF.kid hq 0 (by show 0 < (partsL 12).length; decide)
  simp only at hx0 hkm0 hmay0
  have hy0 := hcK 0 (by omega)
  rw [show kids.getD 0 0 = (m0 : Int) by rw [List.getD_eq_getElem?_getD, hx0]; rfl] at hy0
  have HY0 := Lib.hid hy0
  obtain ⟨m1, q1, hx1, hkm1, hmk1, hqm1, hka1, hmay1⟩ := hF.kid hq 1 (by show 1 < (partsL 12).length; decide)
  simp only at hx1 hkm1 hmay1
  have hy1 := hcK 1 (by omega)
  rw [show kids.getD 1 0 = (m1 : Int) by rw [List.getD_eq_getElem?_getD, hx1]; rfl] at hy1
  have HY1 := Lib.hid hy1
  have HEQ := Lib.hid (usV_eq hF.ahead hq)
  obtain ⟨b0, o0, eA, hb0, ⟨c0, c1, c2, c3, c4, c5⟩, hin⟩ := hp.2.1.at_ hq
  simp only at c0 c1 c2 c3 c4 c5 eA HEQ
  subst eA
  have hkl := (List.getElem?_eq_some_iff.1 hq).1
  have L0 := Lib.hid (below_new w (.cells #[.string pnm, .slice pda pdims.length pdc, .slice (some ⟨b0, o0, none⟩) pnodes.length pnc, .slice pfa pdefs.length pfc, .int .i64 proot] 26))
  have k0 := (L0.out.cell (p := ⟨b0, _, none⟩) hb0).trans c0
  have k1 := (L0.out.cell (p := ⟨b0, _, none⟩) hb0).trans c1
  have k2 := (L0.out.cell (p := ⟨b0, _, none⟩) hb0).trans c2
  have k3 := (L0.out.cell (p := ⟨b0, _, none⟩) hb0).trans c3
  have k4 := (L0.out.cell (p := ⟨b0, _, none⟩) hb0).trans c4
  have k5 := (L0.out.cell (p := ⟨b0, _, none⟩) hb0).trans c5
  have i0 : (0 : Int) ≤ (k : Int) := by omega
  have i1 : (k : Int) < (pnodes.length : Int) := by omega
  have e1 : (w.alloc (.cells #[.string pnm, .slice pda pdims.length pdc, .slice (some ⟨b0, o0, none⟩) pnodes.length pnc, .slice pfa pdefs.length pfc, .int .i64 proot] 26)).heap.size = w.heap.size + 1 := by simp
  have LE := Lib.hid (show Below w.heap.size w ((w.alloc (.cells #[.string pnm, .slice pda pdims.length pdc, .slice (some ⟨b0, o0, none⟩) pnodes.length pnc, .slice pfa pdefs.length pfc, .int .i64 proot] 26)).alloc (.cells #[.int .i64 12, .int .i64 pp, .int .i64 cc, .slice (some ⟨bK, oK, none⟩) kids.length kc, .slice na nums.length nc, .string name] 45)) from below_next (below_new w _) (below_new _ _))
  have BP := Lib.hid (show Bk 26 ((w.alloc (.cells #[.string pnm, .slice pda pdims.length pdc, .slice (some ⟨b0, o0, none⟩) pnodes.length pnc, .slice pfa pdefs.length pfc, .int .i64 proot] 26)).alloc (.cells #[.int .i64 12, .int .i64 pp, .int .i64 cc, .slice (some ⟨bK, oK, none⟩) kids.length kc, .slice na nums.length nc, .string name] 45)) w.heap.size [.string pnm, .slice pda pdims.length pdc, .slice (some ⟨b0, o0, none⟩) pnodes.length pnc, .slice pfa pdefs.length pfc, .int .i64 proot] from (Bk.new _ w _).alloc _)
  have BN := Lib.hid (show Bk 45 ((w.alloc (.cells #[.string pnm, .slice pda pdims.length pdc, .slice (some ⟨b0, o0, none⟩) pnodes.length pnc, .slice pfa pdefs.length pfc, .int .i64 proot] 26)).alloc (.cells #[.int .i64 12, .int .i64 pp, .int .i64 cc, .slice (some ⟨bK, oK, none⟩) kids.length kc, .slice na nums.length nc, .string name] 45)) (w.heap.size + 1) [.int .i64 12, .int .i64 pp, .int .i64 cc, .slice (some ⟨bK, oK, none⟩) kids.length kc, .slice na nums.length nc, .string name] from new_atR _ _ e1)
  have xp := (Bk.new 26 w [.string pnm, .slice pda pdims.length pdc, .slice (some ⟨b0, o0, none⟩) pnodes.length pnc, .slice pfa pdefs.length pfc, .int .i64 proot]).c 2
  simp only [List.getElem?_cons_zero, List.getElem?_cons_succ] at xp
  have hf0 : funI q0.n.kind = true := hmay0
  have hf1 : funI q1.n.kind = true := hmay1
  obtain ⟨u0, hu0⟩ : ∃ u, uM pnodes (m0 : Int) 1 = u := ⟨_, rfl⟩
  obtain ⟨u1, hu1⟩ : ∃ u, uM pnodes (m1 : Int) 1 = u := ⟨_, rfl⟩
  have HR0 := Lib.hid (fun W (hW : Below w.heap.size w W) => (HU m0 hmk0 ⟨q0, hqm0, hf0⟩ W (hp.next hW) 1 (.inl rfl)).mono (fun e0 w0 hr => (by rw [hu0] at hr; exact hr)))
  have HR1 := Lib.hid (fun W (hW : Below w.heap.size w W) => (HU m1 hmk1 ⟨q1, hqm1, hf1⟩ W (hp.next hW) 1 (by omega)).mono (fun e0 w0 hr => (by rw [hu1] at hr; exact hr)))
  have HEV1 := Lib.hid (show uM pnodes (k : Int) 1 = (u1 && u0) by
    unfold uM
    rw [HEQ.out, ← hu1, ← hu0]
    unfold uM
    rw [← hkm0, ← hkm1]
    rfl)
  have j0 : (0 : Int) < (kids.length : Int) := by omega
  have j1 : (1 : Int) < (kids.length : Int) := by omega
  have l0 : 0 < kids.length := by omega
  have l1 : 1 < kids.length := by omega
  have HS := Lib.hid (fun (W : World) (L : Below w.heap.size w W) (B : Bk 26 W w.heap.size [.string pnm, .slice pda pdims.length pdc, .slice (some ⟨b0, o0, none⟩) pnodes.length pnc, .slice pfa pdefs.length pfc, .int .i64 proot]) (N : Bk 45 W (w.heap.size + 1) [.int .i64 12, .int .i64 pp, .int .i64 cc, .slice (some ⟨bK, oK, none⟩) kids.length kc, .slice na nums.length nc, .string name]) => (show W.cell? ⟨w.heap.size, 0, none⟩ = some (.string pnm) ∧ W.cell? ⟨w.heap.size, 1, none⟩ = some (.slice pda pdims.length pdc) ∧ W.cell? ⟨w.heap.size, 2, none⟩ = some (.slice (some ⟨b0, o0, none⟩) pnodes.length pnc) ∧ W.cell? ⟨w.heap.size, 3, none⟩ = some (.slice pfa pdefs.length pfc) ∧ W.cell? ⟨w.heap.size, 4, none⟩ = some (.int .i64 proot) ∧ W.cell? ⟨w.heap.size + 1, 3, none⟩ = some (.slice (some ⟨bK, oK, none⟩) kids.length kc) ∧ W.cell? ⟨bK, oK, none⟩ = some (.int .i64 (m0 : Int)) ∧ W.cell? ⟨bK, oK + 1, none⟩ = some (.int .i64 (m1 : Int)) from ⟨B.c 0, B.c 1, B.c 2, B.c 3, B.c 4, N.c 3, (L.cell (p := ⟨bK, oK + 0, none⟩) hbK).trans HY0.out, (L.cell (p := ⟨bK, oK + 1, none⟩) hbK).trans HY1.out⟩))
  clear HU hcK hy0 hx0 hkm0 hqm0 hka0 hmay0 hlen hmk0 hy1 hx1 hkm1 hqm1 hka1 hmay1 hmk1 hf0 hf1 HEQ hin0 hu0 hu1
  clear hp hq hF hb0 c0 c1 c2 c3 c4 c5 hin hkl e1
  go_enter Tryd.func17, Tryd.ntmps17
  go_upto_region 13 with fail
  clear k0 k1 k2 k3 k4 k5 xp
  generalize ((w.alloc (.cells #[.string pnm, .slice pda pdims.length pdc, .slice (some ⟨b0, o0, none⟩) pnodes.length pnc, .slice pfa pdefs.length pfc, .int .i64 proot] 26)).alloc (.cells #[.int .i64 12, .int .i64 pp, .int .i64 cc, .slice (some ⟨bK, oK, none⟩) kids.length kc, .slice na nums.length nc, .string name] 45)) = wE at *
  have Ld := Lib.hid LE.out.drew
  have BPd := Lib.hid BP.out.drew
  have BNd := Lib.hid BN.out.drew
  have Kd := Lib.hid (HS.out _ Ld.out BPd.out BNd.out)
  cases u0 with
  | true =>
    have HEV := Lib.hid (show uM pnodes (k : Int) 1 = u1 by rw [HEV1.out]; simp)
    refine wp_region_held_drew (S := fun w' => w'.cell? ⟨w.heap.size, 0, none⟩ = some (.string pnm) ∧ w'.cell? ⟨w.heap.size, 1, none⟩ = some (.slice pda pdims.length pdc) ∧ w'.cell? ⟨w.heap.size, 2, none⟩ = some (.slice (some ⟨b0, o0, none⟩) pnodes.length pnc) ∧ w'.cell? ⟨w.heap.size, 3, none⟩ = some (.slice pfa pdefs.length pfc) ∧ w'.cell? ⟨w.heap.size, 4, none⟩ = some (.int .i64 proot) ∧ w'.cell? ⟨w.heap.size + 1, 3, none⟩ = some (.slice (some ⟨bK, oK, none⟩) kids.length kc) ∧ w'.cell? ⟨bK, oK, none⟩ = some (.int .i64 (m0 : Int)) ∧ w'.cell? ⟨bK, oK + 1, none⟩ = some (.int .i64 (m1 : Int))) (by kernel_rfl) (Kd.out) (fun hHeld => ?_)
    refine take_yes (i := 0) (some 93) (.agg #[.string pnm, .slice pda pdims.length pdc, .slice (some ⟨b0, o0, none⟩) pnodes.length pnc, .slice pfa pdefs.length pfc, .int .i64 proot]) rfl rfl (by kernel_rfl) (by kernel_rfl) (by kernel_rfl) (fun _ _ _ h => h) (by rfl) hHeld ?_ ?_
    · intro wq hSw; obtain ⟨s0, s1, s2, s3, s4, s5, s6, s7⟩ := hSw; go_simp
    simp only [Act.put, List.setIfInBounds_toArray, List.set_cons_zero, List.set_cons_succ]
    refine take_yes (i := 1) (some 94) (.pointer (some ⟨w.heap.size + 1, 3, none⟩)) rfl rfl (by kernel_rfl) (by kernel_rfl) (by kernel_rfl) (fun _ _ _ h => h) (by rfl) hHeld ?_ ?_
    · intro wq hSw; obtain ⟨s0, s1, s2, s3, s4, s5, s6, s7⟩ := hSw; go_simp
    simp only [Act.put, List.setIfInBounds_toArray, List.set_cons_zero, List.set_cons_succ]
    refine take_yes (i := 2) (some 95) (.slice (some ⟨bK, oK, none⟩) kids.length kc) rfl rfl (by kernel_rfl) (by kernel_rfl) (by kernel_rfl) (fun _ _ _ h => h) (by rfl) hHeld ?_ ?_
    · intro wq hSw; obtain ⟨s0, s1, s2, s3, s4, s5, s6, s7⟩ := hSw; go_simp
    simp only [Act.put, List.setIfInBounds_toArray, List.set_cons_zero, List.set_cons_succ]
    refine take_yes (i := 3) (some 96) (.pointer (some ⟨bK, oK, none⟩)) rfl rfl (by kernel_rfl) (by kernel_rfl) (by kernel_rfl) (fun _ _ _ h => h) (by rfl) hHeld ?_ ?_
    · intro wq hSw; obtain ⟨s0, s1, s2, s3, s4, s5, s6, s7⟩ := hSw; go_simp
    simp only [Act.put, List.setIfInBounds_toArray, List.set_cons_zero, List.set_cons_succ]
    refine take_yes (i := 4) (some 97) (.int .i64 (m0 : Int)) rfl rfl (by kernel_rfl) (by kernel_rfl) (by kernel_rfl) (fun _ _ _ h => h) (by rfl) hHeld ?_ ?_
    · intro wq hSw; obtain ⟨s0, s1, s2, s3, s4, s5, s6, s7⟩ := hSw; go_simp
    simp only [Act.put, List.setIfInBounds_toArray, List.set_cons_zero, List.set_cons_succ]
    refine wpAnyH_ready (rs := [5]) (by kernel_rfl) (by simp) ?_
    refine AllReadyH.cons rfl (fun K hK => ?_) AllReadyH.nil
    go_simp
    go_at_call 17
    refine (HR0.out _ Ld.out).mono ?_
    rintro r w2 ⟨rfl, hb2⟩
    have L2 := Lib.hid (Gl.below_next Ld.out hb2)
    have BP2 := Lib.hid (BPd.out.next hb2)
    have BN2 := Lib.hid (BNd.out.next hb2)
    clear hb2
    go_wp2_with fail
    refine hK.out _ _ (HS.out _ L2.out BP2.out BN2.out) (fun hHeld => ?_)
    clear hK K
    refine take_yes (i := 6) (some 99) (.bool true) rfl rfl (by kernel_rfl) (by kernel_rfl) (by kernel_rfl) (fun _ _ _ h => h) (by rfl) hHeld ?_ ?_
    · intro wq hSw; obtain ⟨s0, s1, s2, s3, s4, s5, s6, s7⟩ := hSw; go_simp
    simp only [Act.put, List.setIfInBounds_toArray, List.set_cons_zero, List.set_cons_succ]
    refine take_yes (i := 7) (some 100) (.agg #[.string pnm, .slice pda pdims.length pdc, .slice (some ⟨b0, o0, none⟩) pnodes.length pnc, .slice pfa pdefs.length pfc, .int .i64 proot]) rfl rfl (by kernel_rfl) (by kernel_rfl) (by kernel_rfl) (fun _ _ _ h => h) (by rfl) hHeld ?_ ?_
    · intro wq hSw; obtain ⟨s0, s1, s2, s3, s4, s5, s6, s7⟩ := hSw; go_simp
    simp only [Act.put, List.setIfInBounds_toArray, List.set_cons_zero, List.set_cons_succ]
    refine take_yes (i := 8) (some 101) (.pointer (some ⟨w.heap.size + 1, 3, none⟩)) rfl rfl (by kernel_rfl) (by kernel_rfl) (by kernel_rfl) (fun _ _ _ h => h) (by rfl) hHeld ?_ ?_
    · intro wq hSw; obtain ⟨s0, s1, s2, s3, s4, s5, s6, s7⟩ := hSw; go_simp
    simp only [Act.put, List.setIfInBounds_toArray, List.set_cons_zero, List.set_cons_succ]
    refine take_yes (i := 9) (some 102) (.slice (some ⟨bK, oK, none⟩) kids.length kc) rfl rfl (by kernel_rfl) (by kernel_rfl) (by kernel_rfl) (fun _ _ _ h => h) (by rfl) hHeld ?_ ?_
    · intro wq hSw; obtain ⟨s0, s1, s2, s3, s4, s5, s6, s7⟩ := hSw; go_simp
    simp only [Act.put, List.setIfInBounds_toArray, List.set_cons_zero, List.set_cons_succ]
    refine take_yes (i := 10) (some 103) (.pointer (some ⟨bK, oK + 1, none⟩)) rfl rfl (by kernel_rfl) (by kernel_rfl) (by kernel_rfl) (fun _ _ _ h => h) (by rfl) hHeld ?_ ?_
    · intro wq hSw; obtain ⟨s0, s1, s2, s3, s4, s5, s6, s7⟩ := hSw; go_simp
    simp only [Act.put, List.setIfInBounds_toArray, List.set_cons_zero, List.set_cons_succ]
    refine take_yes (i := 11) (some 104) (.int .i64 (m1 : Int)) rfl rfl (by kernel_rfl) (by kernel_rfl) (by kernel_rfl) (fun _ _ _ h => h) (by rfl) hHeld ?_ ?_
    · intro wq hSw; obtain ⟨s0, s1, s2, s3, s4, s5, s6, s7⟩ := hSw; go_simp
    simp only [Act.put, List.setIfInBounds_toArray, List.set_cons_zero, List.set_cons_succ]
    refine take_yes (i := 12) (some 105) (.int .i64 1) rfl rfl (by kernel_rfl) (by kernel_rfl) (by kernel_rfl) (fun _ _ _ h => h) (by rfl) hHeld ?_ ?_
    · intro wq hSw; obtain ⟨s0, s1, s2, s3, s4, s5, s6, s7⟩ := hSw; go_simp
    simp only [Act.put, List.setIfInBounds_toArray, List.set_cons_zero, List.set_cons_succ]
    refine wpAnyH_ready (rs := [13]) (by kernel_rfl) (by simp) ?_
    refine AllReadyH.cons rfl (fun K hK => ?_) AllReadyH.nil
    go_simp
    go_at_call 17
    refine (HR1.out _ L2.out).mono ?_
    rintro r w4 ⟨rfl, hb4⟩
    have L4 := Lib.hid (Gl.below_next L2.out hb4)
    have BP4 := Lib.hid (BP2.out.next hb4)
    have BN4 := Lib.hid (BN2.out.next hb4)
    clear hb4
    go_wp2_with fail
    refine hK.out _ _ (HS.out _ L4.out BP4.out BN4.out) (fun hHeld => ?_)
    clear hK K
    refine take_yes (i := 14) (some 107) (.bool u1) rfl rfl (by kernel_rfl) (by kernel_rfl) (by kernel_rfl) (fun _ _ _ h => h) (by rfl) hHeld ?_ ?_
    · intro wq hSw; obtain ⟨s0, s1, s2, s3, s4, s5, s6, s7⟩ := hSw; go_simp
    simp only [Act.put, List.setIfInBounds_toArray, List.set_cons_zero, List.set_cons_succ]
    refine take_yes (i := 15) (some 6) (.bool u1) rfl rfl (by kernel_rfl) (by kernel_rfl) (by kernel_rfl) (fun _ _ _ h => h) (by rfl) hHeld ?_ ?_
    · intro wq hSw; obtain ⟨s0, s1, s2, s3, s4, s5, s6, s7⟩ := hSw; go_simp
    simp only [Act.put, List.setIfInBounds_toArray, List.set_cons_zero, List.set_cons_succ]
    refine wpAnyH_done (by kernel_rfl) ?_ _
    go_wp2
    go_ret
    exact ⟨by rw [HEV.out]; rfl, L4.out⟩
  | false =>
    have HEV := Lib.hid (show uM pnodes (k : Int) 1 = false by rw [HEV1.out]; simp)
    refine wp_region_held_drew (S := fun w' => w'.cell? ⟨w.heap.size, 0, none⟩ = some (.string pnm) ∧ w'.cell? ⟨w.heap.size, 1, none⟩ = some (.slice pda pdims.length pdc) ∧ w'.cell? ⟨w.heap.size, 2, none⟩ = some (.slice (some ⟨b0, o0, none⟩) pnodes.length pnc) ∧ w'.cell? ⟨w.heap.size, 3, none⟩ = some (.slice pfa pdefs.length pfc) ∧ w'.cell? ⟨w.heap.size, 4, none⟩ = some (.int .i64 proot) ∧ w'.cell? ⟨w.heap.size + 1, 3, none⟩ = some (.slice (some ⟨bK, oK, none⟩) kids.length kc) ∧ w'.cell? ⟨bK, oK, none⟩ = some (.int .i64 (m0 : Int)) ∧ w'.cell? ⟨bK, oK + 1, none⟩ = some (.int .i64 (m1 : Int))) (by kernel_rfl) (Kd.out) (fun hHeld => ?_)
    refine take_yes (i := 0) (some 93) (.agg #[.string pnm, .slice pda pdims.length pdc, .slice (some ⟨b0, o0, none⟩) pnodes.length pnc, .slice pfa pdefs.length pfc, .int .i64 proot]) rfl rfl (by kernel_rfl) (by kernel_rfl) (by kernel_rfl) (fun _ _ _ h => h) (by rfl) hHeld ?_ ?_
    · intro wq hSw; obtain ⟨s0, s1, s2, s3, s4, s5, s6, s7⟩ := hSw; go_simp
    simp only [Act.put, List.setIfInBounds_toArray, List.set_cons_zero, List.set_cons_succ]
    refine take_yes (i := 1) (some 94) (.pointer (some ⟨w.heap.size + 1, 3, none⟩)) rfl rfl (by kernel_rfl) (by kernel_rfl) (by kernel_rfl) (fun _ _ _ h => h) (by rfl) hHeld ?_ ?_
    · intro wq hSw; obtain ⟨s0, s1, s2, s3, s4, s5, s6, s7⟩ := hSw; go_simp
    simp only [Act.put, List.setIfInBounds_toArray, List.set_cons_zero, List.set_cons_succ]
    refine take_yes (i := 2) (some 95) (.slice (some ⟨bK, oK, none⟩) kids.length kc) rfl rfl (by kernel_rfl) (by kernel_rfl) (by kernel_rfl) (fun _ _ _ h => h) (by rfl) hHeld ?_ ?_
    · intro wq hSw; obtain ⟨s0, s1, s2, s3, s4, s5, s6, s7⟩ := hSw; go_simp
    simp only [Act.put, List.setIfInBounds_toArray, List.set_cons_zero, List.set_cons_succ]
    refine take_yes (i := 3) (some 96) (.pointer (some ⟨bK, oK, none⟩)) rfl rfl (by kernel_rfl) (by kernel_rfl) (by kernel_rfl) (fun _ _ _ h => h) (by rfl) hHeld ?_ ?_
    · intro wq hSw; obtain ⟨s0, s1, s2, s3, s4, s5, s6, s7⟩ := hSw; go_simp
    simp only [Act.put, List.setIfInBounds_toArray, List.set_cons_zero, List.set_cons_succ]
    refine take_yes (i := 4) (some 97) (.int .i64 (m0 : Int)) rfl rfl (by kernel_rfl) (by kernel_rfl) (by kernel_rfl) (fun _ _ _ h => h) (by rfl) hHeld ?_ ?_
    · intro wq hSw; obtain ⟨s0, s1, s2, s3, s4, s5, s6, s7⟩ := hSw; go_simp
    simp only [Act.put, List.setIfInBounds_toArray, List.set_cons_zero, List.set_cons_succ]
    refine wpAnyH_ready (rs := [5]) (by kernel_rfl) (by simp) ?_
    refine AllReadyH.cons rfl (fun K hK => ?_) AllReadyH.nil
    go_simp
    go_at_call 17
    refine (HR0.out _ Ld.out).mono ?_
    rintro r w2 ⟨rfl, hb2⟩
    have L2 := Lib.hid (Gl.below_next Ld.out hb2)
    have BP2 := Lib.hid (BPd.out.next hb2)
    have BN2 := Lib.hid (BNd.out.next hb2)
    clear hb2
    go_wp2_with fail
    refine hK.out _ _ (HS.out _ L2.out BP2.out BN2.out) (fun hHeld => ?_)
    clear hK K
    refine take_yes (i := 6) (some 99) (.bool false) rfl rfl (by kernel_rfl) (by kernel_rfl) (by kernel_rfl) (fun _ _ _ h => h) (by rfl) hHeld ?_ ?_
    · intro wq hSw; obtain ⟨s0, s1, s2, s3, s4, s5, s6, s7⟩ := hSw; go_simp
    simp only [Act.put, List.setIfInBounds_toArray, List.set_cons_zero, List.set_cons_succ]
    refine take_no (i := 7) (some 100) rfl rfl (by kernel_rfl) (by kernel_rfl) (by kernel_rfl) (fun _ _ _ h => h) (by rfl) hHeld ?_
    simp only [Act.put, List.setIfInBounds_toArray, List.set_cons_zero, List.set_cons_succ]
    refine take_no (i := 8) (some 101) rfl rfl (by kernel_rfl) (by kernel_rfl) (by kernel_rfl) (fun _ _ _ h => h) (by rfl) hHeld ?_
    simp only [Act.put, List.setIfInBounds_toArray, List.set_cons_zero, List.set_cons_succ]
    refine take_no (i := 9) (some 102) rfl rfl (by kernel_rfl) (by kernel_rfl) (by kernel_rfl) (fun _ _ _ h => h) (by rfl) hHeld ?_
    simp only [Act.put, List.setIfInBounds_toArray, List.set_cons_zero, List.set_cons_succ]
    refine take_no (i := 10) (some 103) rfl rfl (by kernel_rfl) (by kernel_rfl) (by kernel_rfl) (fun _ _ _ h => h) (by rfl) hHeld ?_
    simp only [Act.put, List.setIfInBounds_toArray, List.set_cons_zero, List.set_cons_succ]
    refine take_no (i := 11) (some 104) rfl rfl (by kernel_rfl) (by kernel_rfl) (by kernel_rfl) (fun _ _ _ h => h) (by rfl) hHeld ?_
    simp only [Act.put, List.setIfInBounds_toArray, List.set_cons_zero, List.set_cons_succ]
    refine take_no (i := 12) (some 105) rfl rfl (by kernel_rfl) (by kernel_rfl) (by kernel_rfl) (fun _ _ _ h => h) (by rfl) hHeld ?_
    simp only [Act.put, List.setIfInBounds_toArray, List.set_cons_zero, List.set_cons_succ]
    refine take_no (i := 13) (some 106) rfl rfl (by kernel_rfl) (by kernel_rfl) (by kernel_rfl) (fun _ _ _ h => h) (by rfl) hHeld ?_
    simp only [Act.put, List.setIfInBounds_toArray, List.set_cons_zero, List.set_cons_succ]
    refine take_yes (i := 14) (some 107) (.bool false) rfl rfl (by kernel_rfl) (by kernel_rfl) (by kernel_rfl) (fun _ _ _ h => h) (by rfl) hHeld ?_ ?_
    · intro wq hSw; obtain ⟨s0, s1, s2, s3, s4, s5, s6, s7⟩ := hSw; go_simp
    simp only [Act.put, List.setIfInBounds_toArray, List.set_cons_zero, List.set_cons_succ]
    refine take_yes (i := 15) (some 6) (.bool false) rfl rfl (by kernel_rfl) (by kernel_rfl) (by kernel_rfl) (fun _ _ _ h => h) (by rfl) hHeld ?_ ?_
    · intro wq hSw; obtain ⟨s0, s1, s2, s3, s4, s5, s6, s7⟩ := hSw; go_simp
    simp only [Act.put, List.setIfInBounds_toArray, List.set_cons_zero, List.set_cons_succ]
    refine wpAnyH_done (by kernel_rfl) ?_ _
    go_wp2
    go_ret
    exact ⟨by rw [HEV.out]; rfl, L2.out⟩
end Go.Proofs.YtjmpilmmgfjpmaaDoor.Stp
