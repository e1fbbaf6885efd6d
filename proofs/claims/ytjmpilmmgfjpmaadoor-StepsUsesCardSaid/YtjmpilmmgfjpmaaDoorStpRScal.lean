/-
  Layer 22, the document's side: the scalar function of a node. Condition: nodes of a program that may be.
-/
import Derived.Test.YtjmpilmmgfjpmaaDoorPkQa
import Derived.Deep.RegionHeld3
set_option maxRecDepth 100000
namespace Go.Proofs.YtjmpilmmgfjpmaaDoor.Stp
open Go.Proofs.YtjmpilmmgfjpmaaDoor.Sh Go.Proofs.YtjmpilmmgfjpmaaDoor.St Go.Proofs.YtjmpilmmgfjpmaaDoor.Tr
open Go.RowKit
set_option linter.unusedVariables false
set_option linter.unusedSimpArgs false

theorem new_atR {t : TypeId} (w : World) (xs : List Value) {g : Nat} (h : w.heap.size = g) : Bk t (w.alloc (.cells xs.toArray t)) g xs := by subst h; exact Bk.new _ w _
set_option maxHeartbeats 16000000 in
theorem rscal_k (p : Pq) (hF : Fl p.nodes) : ∀ (k : Nat) (w : World), ProgIn w p → k < p.nodes.length → Calls Tryd.prog 16 #[progV p, .int .i64 (k : Int)] w (RetSc (scV p.nodes (k : Int)) w) := by
  obtain ⟨pnm, pda, pdc, pdims, pna, pnc, pnodes, pfa, pfc, pdefs, proot⟩ := p
  simp only at hF ⊢
  intro k
  induction k using Nat.strongRecOn with
  | ind k ih =>
  intro w hp hk
  obtain ⟨q, hq⟩ : ∃ q, pnodes[k]? = some q := ⟨_, List.getElem?_eq_getElem hk⟩
  have HEQ := Lib.hid (scV_eq hF.ahead hq)
  have hkid := fun h => hF.kid hq 0 h
  obtain ⟨⟨kk, pp, cc, kids, nums, name⟩, ka, kc, na, nc⟩ := q
  obtain ⟨b0, o0, rfl, hb0, ⟨c0, c1, c2, c3, c4, c5⟩, hin⟩ := hp.2.1.at_ hq
  simp only at c0 c1 c2 c3 c4 c5 hkid HEQ
  have L0 := Lib.hid (show Below w.heap.size w ((w.alloc (.cells #[.string pnm, .slice pda pdims.length pdc, .slice (some ⟨b0, o0, none⟩) pnodes.length pnc, .slice pfa pdefs.length pfc, .int .i64 proot] 26)).alloc (.cells #[.int .i64 0, .bool false] 37)) from below_next (below_new w _) (below_new _ _))
  have k0 := (L0.out.cell (p := ⟨b0, _, none⟩) hb0).trans c0
  have k1 := (L0.out.cell (p := ⟨b0, _, none⟩) hb0).trans c1
  have k2 := (L0.out.cell (p := ⟨b0, _, none⟩) hb0).trans c2
  have k3 := (L0.out.cell (p := ⟨b0, _, none⟩) hb0).trans c3
  have k4 := (L0.out.cell (p := ⟨b0, _, none⟩) hb0).trans c4
  have k5 := (L0.out.cell (p := ⟨b0, _, none⟩) hb0).trans c5
  have i0 : (0 : Int) ≤ (k : Int) := by omega
  have i1 : (k : Int) < (pnodes.length : Int) := by omega
  have e1 : (w.alloc (.cells #[.string pnm, .slice pda pdims.length pdc, .slice (some ⟨b0, o0, none⟩) pnodes.length pnc, .slice pfa pdefs.length pfc, .int .i64 proot] 26)).heap.size = w.heap.size + 1 := by simp
  have e2 : ((w.alloc (.cells #[.string pnm, .slice pda pdims.length pdc, .slice (some ⟨b0, o0, none⟩) pnodes.length pnc, .slice pfa pdefs.length pfc, .int .i64 proot] 26)).alloc (.cells #[.int .i64 0, .bool false] 37)).heap.size = w.heap.size + 1 + 1 := by simp
  have LE := Lib.hid (show Below w.heap.size w (((w.alloc (.cells #[.string pnm, .slice pda pdims.length pdc, .slice (some ⟨b0, o0, none⟩) pnodes.length pnc, .slice pfa pdefs.length pfc, .int .i64 proot] 26)).alloc (.cells #[.int .i64 0, .bool false] 37)).alloc (.cells #[.int .i64 kk, .int .i64 pp, .int .i64 cc, .slice ka kids.length kc, .slice na nums.length nc, .string name] 45)) from L0.out.trans ((below_new _ _).mono L0.out.size))
  have BP := Lib.hid (show Bk 26 (((w.alloc (.cells #[.string pnm, .slice pda pdims.length pdc, .slice (some ⟨b0, o0, none⟩) pnodes.length pnc, .slice pfa pdefs.length pfc, .int .i64 proot] 26)).alloc (.cells #[.int .i64 0, .bool false] 37)).alloc (.cells #[.int .i64 kk, .int .i64 pp, .int .i64 cc, .slice ka kids.length kc, .slice na nums.length nc, .string name] 45)) w.heap.size [.string pnm, .slice pda pdims.length pdc, .slice (some ⟨b0, o0, none⟩) pnodes.length pnc, .slice pfa pdefs.length pfc, .int .i64 proot] from ((Bk.new _ w _).alloc _).alloc _)
  have BF := Lib.hid (show Bk 37 (((w.alloc (.cells #[.string pnm, .slice pda pdims.length pdc, .slice (some ⟨b0, o0, none⟩) pnodes.length pnc, .slice pfa pdefs.length pfc, .int .i64 proot] 26)).alloc (.cells #[.int .i64 0, .bool false] 37)).alloc (.cells #[.int .i64 kk, .int .i64 pp, .int .i64 cc, .slice ka kids.length kc, .slice na nums.length nc, .string name] 45)) (w.heap.size + 1) [.int .i64 0, .bool false] from (new_atR _ _ e1).alloc _)
  have BN := Lib.hid (show Bk 45 (((w.alloc (.cells #[.string pnm, .slice pda pdims.length pdc, .slice (some ⟨b0, o0, none⟩) pnodes.length pnc, .slice pfa pdefs.length pfc, .int .i64 proot] 26)).alloc (.cells #[.int .i64 0, .bool false] 37)).alloc (.cells #[.int .i64 kk, .int .i64 pp, .int .i64 cc, .slice ka kids.length kc, .slice na nums.length nc, .string name] 45)) (w.heap.size + 1 + 1) [.int .i64 kk, .int .i64 pp, .int .i64 cc, .slice ka kids.length kc, .slice na nums.length nc, .string name] from new_atR _ _ e2)
  have xp := ((Bk.new 26 w [.string pnm, .slice pda pdims.length pdc, .slice (some ⟨b0, o0, none⟩) pnodes.length pnc, .slice pfa pdefs.length pfc, .int .i64 proot]).alloc (.cells #[.int .i64 0, .bool false] 37)).c 2
  simp only [List.getElem?_cons_zero, List.getElem?_cons_succ] at xp
  have HIH := Lib.hid ih
  have HPI := Lib.hid hp
  have HK := Lib.hid hk
  have HKID := Lib.hid hkid
  have HIN := Lib.hid hin
  clear ih hp hin hkid c0 c1 c2 c3 c4 c5 e1 e2
  unfold progV
  simp only
  by_cases h5 : kk = 5
  · subst h5
    obtain ⟨b, hb⟩ : ∃ b, Sc.hasB cc 2 = b := ⟨_, rfl⟩
    have HEV : Hid (scV pnodes (k : Int) = if b = true then some (cc, false) else none) := Lib.hid (by rw [HEQ.out, ← hb]; rfl)
    have HHA := Lib.hid (fun W => (Sc.rhas_any cc 2 W).mono (fun e0 w0 hr => (by rw [hb] at hr; exact hr)))
    clear hb HEQ
    go_enter Tryd.func16, Tryd.ntmps16
    go_wp2_with fail
    clear k0 k1 k2 k3 k4 k5 xp
    generalize (((w.alloc (.cells #[.string pnm, .slice pda pdims.length pdc, .slice (some ⟨b0, o0, none⟩) pnodes.length pnc, .slice pfa pdefs.length pfc, .int .i64 proot] 26)).alloc (.cells #[.int .i64 0, .bool false] 37)).alloc (.cells #[.int .i64 5, .int .i64 pp, .int .i64 cc, .slice ka kids.length kc, .slice na nums.length nc, .string name] 45)) = wE at *
    refine (HHA.out wE).mono ?_
    rintro e w2 ⟨rfl, rfl⟩
    have y0 := BN.out.c 0
    have y2 := BN.out.c 2
    have z0 := BF.out.c 0
    have z1 := BF.out.c 1
    have f0 := BF.out.f 0
    have f1 := BF.out.f 1
    simp only [List.getElem?_cons_zero, List.getElem?_cons_succ] at y0 y2 z0 z1
    cases b with
    | true =>
      go_wp2
      refine bodyPost_ret (res_two (i := 4) Tryd.results16 _ rfl ((BF.out.set_ 0 _).set_ 1 _)) rfl ?_
      exact ⟨cc, false, by rw [HEV.out]; rfl, by rw [HEV.out]; rfl, (LE.out.setCell (p := ⟨w.heap.size + 1, 0, none⟩) (Nat.le_succ _) _).setCell (p := ⟨w.heap.size + 1, 1, none⟩) (Nat.le_succ _) _⟩
    | false =>
      go_wp2
      refine bodyPost_ret (res_two (i := 4) Tryd.results16 _ rfl ((BF.out.set_ 0 _).set_ 1 _)) rfl ?_
      exact ⟨0, false, by rw [HEV.out]; rfl, by rw [HEV.out]; rfl, (LE.out.setCell (p := ⟨w.heap.size + 1, 0, none⟩) (Nat.le_succ _) _).setCell (p := ⟨w.heap.size + 1, 1, none⟩) (Nat.le_succ _) _⟩
  · have t5 : decide (kk = 5) = false := by simp [h5]
    have u5 : (kk == 5) = false := by simp [h5]
    by_cases h7 : kk = 7 ∧ cc = 38
    · obtain ⟨rfl, rfl⟩ := h7
      obtain ⟨m, q', hx, hkm, hmk, hqm, -, -⟩ := HKID.out (by decide)
      have HEV : Hid (scV pnodes (k : Int) = (scV pnodes (m : Int)).map fun r => (r.1, !r.2)) := Lib.hid (by
        rw [HEQ.out, ← hkm]; rfl)
      have hl0 := (List.getElem?_eq_some_iff.1 hx).1
      obtain ⟨bK, oK, rfl, hbK, hcK⟩ := HIN.out.1 (by show 0 < kids.length; omega)
      simp only at hx hl0 hcK
      have hx0 := hcK 0 hl0
      rw [show kids.getD 0 0 = (m : Int) by rw [List.getD_eq_getElem?_getD, hx]; rfl] at hx0
      have HX0 := Lib.hid hx0
      have j0 : (0 : Int) < (kids.length : Int) := by omega
      have j1 : 0 < kids.length := hl0
      have HR := Lib.hid (fun W (hW : Below w.heap.size w W) => HIH.out m hmk W (HPI.out.next hW) (by have := HK.out; omega))
      unfold progV at HR
      simp only at HR
      clear hx hcK HEQ hkm hx0 HKID hqm h5 t5 u5
      go_enter Tryd.func16, Tryd.ntmps16
      go_upto_region 6 with fail
      clear k0 k1 k2 k3 k4 k5 xp
      generalize (((w.alloc (.cells #[.string pnm, .slice pda pdims.length pdc, .slice (some ⟨b0, o0, none⟩) pnodes.length pnc, .slice pfa pdefs.length pfc, .int .i64 proot] 26)).alloc (.cells #[.int .i64 0, .bool false] 37)).alloc (.cells #[.int .i64 7, .int .i64 pp, .int .i64 38, .slice (some ⟨bK, oK, none⟩) kids.length kc, .slice na nums.length nc, .string name] 45)) = wE at *
      have Ld := Lib.hid LE.out.drew
      have BPd := Lib.hid BP.out.drew
      have BFd := Lib.hid BF.out.drew
      have BNd := Lib.hid BN.out.drew
      have HS := Lib.hid (fun (W : World) (L : Below w.heap.size w W) (B : Bk 26 W w.heap.size [.string pnm, .slice pda pdims.length pdc, .slice (some ⟨b0, o0, none⟩) pnodes.length pnc, .slice pfa pdefs.length pfc, .int .i64 proot]) (N : Bk 45 W (w.heap.size + 1 + 1) [.int .i64 7, .int .i64 pp, .int .i64 38, .slice (some ⟨bK, oK, none⟩) kids.length kc, .slice na nums.length nc, .string name]) => (show W.cell? ⟨w.heap.size, 0, none⟩ = some (.string pnm) ∧ W.cell? ⟨w.heap.size, 1, none⟩ = some (.slice pda pdims.length pdc) ∧ W.cell? ⟨w.heap.size, 2, none⟩ = some (.slice (some ⟨b0, o0, none⟩) pnodes.length pnc) ∧ W.cell? ⟨w.heap.size, 3, none⟩ = some (.slice pfa pdefs.length pfc) ∧ W.cell? ⟨w.heap.size, 4, none⟩ = some (.int .i64 proot) ∧ W.cell? ⟨w.heap.size + 1 + 1, 3, none⟩ = some (.slice (some ⟨bK, oK, none⟩) kids.length kc) ∧ W.cell? ⟨bK, oK, none⟩ = some (.int .i64 (m : Int)) from ⟨B.c 0, B.c 1, B.c 2, B.c 3, B.c 4, N.c 3, (L.cell (p := ⟨bK, oK + 0, none⟩) hbK).trans HX0.out⟩))
      have Kd := Lib.hid (HS.out _ Ld.out BPd.out BNd.out)
      have Le := Lib.hid ((LE.out.trans ((below_new wE (.cells #[.int .i64 0, .bool false] 37)).mono LE.out.size)).drew)
      have BPe := Lib.hid ((BP.out.alloc (.cells #[.int .i64 0, .bool false] 37)).drew)
      have BFe := Lib.hid ((BF.out.alloc (.cells #[.int .i64 0, .bool false] 37)).drew)
      have BNe := Lib.hid ((BN.out.alloc (.cells #[.int .i64 0, .bool false] 37)).drew)
      have BGe := Lib.hid ((new_atR (t := 37) wE [.int .i64 0, .bool false] rfl).drew)
      have Ke := Lib.hid (HS.out _ Le.out BPe.out BNe.out)
      have SZ := Lib.hid (show w.heap.size + 1 + 1 < wE.heap.size from BN.out.lt)
      go_cut [7, 8] (fun s7 s8 wx => ∃ gF c1 s1, s7 = .pointer (some ⟨gF, 0, none⟩) ∧ s8 = .bool (scV pnodes (m : Int)).isSome ∧ w.heap.size + 1 + 1 < gF ∧ Hid ((scV pnodes (m : Int)).getD (0, false) = (c1, s1)) ∧ Hid (Bk 37 wx gF [.int .i64 c1, .bool s1]) ∧ Hid (Below w.heap.size w wx) ∧ Hid (Bk 37 wx (w.heap.size + 1) [.int .i64 0, .bool false]))
      case first =>
        go_region_held3 (fun w' => w'.cell? ⟨w.heap.size, 0, none⟩ = some (.string pnm) ∧ w'.cell? ⟨w.heap.size, 1, none⟩ = some (.slice pda pdims.length pdc) ∧ w'.cell? ⟨w.heap.size, 2, none⟩ = some (.slice (some ⟨b0, o0, none⟩) pnodes.length pnc) ∧ w'.cell? ⟨w.heap.size, 3, none⟩ = some (.slice pfa pdefs.length pfc) ∧ w'.cell? ⟨w.heap.size, 4, none⟩ = some (.int .i64 proot) ∧ w'.cell? ⟨w.heap.size + 1 + 1, 3, none⟩ = some (.slice (some ⟨bK, oK, none⟩) kids.length kc) ∧ w'.cell? ⟨bK, oK, none⟩ = some (.int .i64 (m : Int)))
          (first
            | with_reducible exact Kd.out
            | with_reducible exact Ke.out
            | with_reducible exact K4.out
            | with_reducible exact K3.out
            | with_reducible exact K2.out
            | go_keep)
          (first
            | (go_at_call 16; (with_reducible refine (HR.out _ Ld.out).mono ?_); rintro r w2 ⟨c1, s1, hcs, rfl, hb2⟩; have CS := Lib.hid hcs; have L2 := Lib.hid (Gl.below_next Ld.out hb2); have BP2 := Lib.hid (BPd.out.next hb2); have BF2 := Lib.hid (BFd.out.next hb2); have BN2 := Lib.hid (BNd.out.next hb2); have K2 := Lib.hid (HS.out _ L2.out BP2.out BN2.out); have L3 := Lib.hid (L2.out.trans ((below_new w2 (.cells #[.int .i64 c1, .bool s1] 37)).mono L2.out.size)); have BF3 := Lib.hid (BF2.out.alloc (.cells #[.int .i64 c1, .bool s1] 37)); have BG3 := Lib.hid (new_atR (t := 37) w2 [.int .i64 c1, .bool s1] rfl); have K3 := Lib.hid (HS.out _ L3.out (BP2.out.alloc _) (BN2.out.alloc _)); clear hb2 hcs)
            | (go_at_call 16; (with_reducible refine (HR.out _ Le.out).mono ?_); rintro r w2 ⟨c1, s1, hcs, rfl, hb2⟩; have CS := Lib.hid hcs; have L2 := Lib.hid (Gl.below_next Le.out hb2); have BP2 := Lib.hid (BPe.out.next hb2); have BF2 := Lib.hid (BFe.out.next hb2); have BN2 := Lib.hid (BNe.out.next hb2); have BG2 := Lib.hid (BGe.out.next hb2); have q0 := BG2.out.c 0; have q1 := BG2.out.c 1; have r0 := BG2.out.f 0; have r1 := BG2.out.f 1; (simp only [List.getElem?_cons_zero, List.getElem?_cons_succ] at q0 q1); have K2 := Lib.hid (HS.out _ L2.out BP2.out BN2.out); have L4 := Lib.hid ((L2.out.setCell (p := ⟨wE.heap.size, 0, none⟩) (by have := SZ.out; show w.heap.size ≤ wE.heap.size; omega) (.int .i64 c1)).setCell (p := ⟨wE.heap.size, 1, none⟩) (by have := SZ.out; show w.heap.size ≤ wE.heap.size; omega) (.bool s1)); have BP4 := Lib.hid ((BP2.out.far (p := ⟨wE.heap.size, 0, none⟩) (by have := SZ.out; show w.heap.size ≠ wE.heap.size; omega) (.int .i64 c1)).far (p := ⟨wE.heap.size, 1, none⟩) (by have := SZ.out; show w.heap.size ≠ wE.heap.size; omega) (.bool s1)); have BF4 := Lib.hid ((BF2.out.far (p := ⟨wE.heap.size, 0, none⟩) (by have := SZ.out; show w.heap.size + 1 ≠ wE.heap.size; omega) (.int .i64 c1)).far (p := ⟨wE.heap.size, 1, none⟩) (by have := SZ.out; show w.heap.size + 1 ≠ wE.heap.size; omega) (.bool s1)); have BN4 := Lib.hid ((BN2.out.far (p := ⟨wE.heap.size, 0, none⟩) (by have := SZ.out; show w.heap.size + 1 + 1 ≠ wE.heap.size; omega) (.int .i64 c1)).far (p := ⟨wE.heap.size, 1, none⟩) (by have := SZ.out; show w.heap.size + 1 + 1 ≠ wE.heap.size; omega) (.bool s1)); have BG4 := Lib.hid ((BG2.out.set_ 0 (.int .i64 c1)).set_ 1 (.bool s1)); have K4 := Lib.hid (HS.out _ L4.out BP4.out BN4.out); clear hb2 hcs))
        all_goals (go_wp2_with fail; go_meet; (first | exact ⟨_, c1, s1, rfl, rfl, (by have := SZ.out; omega), CS, BG4, L4, BF4⟩ | exact ⟨_, c1, s1, rfl, rfl, (by have := BN2.out.lt; omega), CS, BG3, L3, BF3⟩))
      case rest =>
      obtain ⟨gF, c1, s1, rfl, rfl, hgF, HCS, BG, LG, BF2⟩ := hcut
      have hgF2 := Lib.hid hgF
      clear hgF
      generalize wc = wA at *
      obtain ⟨ok, hok⟩ : ∃ ok, (scV pnodes (m : Int)).isSome = ok := ⟨_, rfl⟩
      rw [hok]
      have HOK := Lib.hid hok
      clear hok
      have z0 := BF2.out.c 0
      have z1 := BF2.out.c 1
      have f0 := BF2.out.f 0
      have f1 := BF2.out.f 1
      have q0 := BG.out.c 0
      have q1 := BG.out.c 1
      simp only [List.getElem?_cons_zero, List.getElem?_cons_succ] at z0 z1 q0 q1
      cases ok with
      | true =>
        obtain ⟨r, hr⟩ := Option.isSome_iff_exists.1 HOK.out
        have HRR := Lib.hid hr
        clear hr
        go_wp2
        refine bodyPost_ret (res_two (i := 4) Tryd.results16 _ rfl ((BF2.out.set_ 0 _).set_ 1 _)) rfl ?_
        have hcs := HCS.out
        rw [HRR.out] at hcs
        have hcs' : r = (c1, s1) := hcs
        refine ⟨c1, !s1, by rw [HEV.out, HRR.out, hcs']; rfl, by rw [HEV.out, HRR.out]; rfl, (LG.out.setCell (p := ⟨w.heap.size + 1, 0, none⟩) (Nat.le_succ _) _).setCell (p := ⟨w.heap.size + 1, 1, none⟩) (Nat.le_succ _) _⟩
      | false =>
        have hr : scV pnodes (m : Int) = none := by
          cases h : scV pnodes (m : Int) with
          | none => rfl
          | some r => have := HOK.out; rw [h] at this; cases this
        have HRR := Lib.hid hr
        clear hr
        go_wp2
        refine bodyPost_ret (res_two (i := 4) Tryd.results16 _ rfl ((BF2.out.set_ 0 _).set_ 1 _)) rfl ?_
        refine ⟨0, false, by rw [HEV.out, HRR.out]; rfl, by rw [HEV.out, HRR.out]; rfl, (LG.out.setCell (p := ⟨w.heap.size + 1, 0, none⟩) (Nat.le_succ _) _).setCell (p := ⟨w.heap.size + 1, 1, none⟩) (Nat.le_succ _) _⟩
    · have HEV : Hid (scV pnodes (k : Int) = none) := Lib.hid (by
        rw [HEQ.out]; unfold scN; simp only; rw [if_neg h5, if_neg h7])
      have z0 := BF.out.c 0
      have z1 := BF.out.c 1
      have f0 := BF.out.f 0
      have f1 := BF.out.f 1
      have y0 := BN.out.c 0
      have y2 := BN.out.c 2
      simp only [List.getElem?_cons_zero, List.getElem?_cons_succ] at y0 y2 z0 z1
      clear HEQ h5
      by_cases h77 : kk = 7
      · have u38 : (cc == 38) = false := by simp; exact fun h => h7 ⟨h77, h⟩
        have v38 : (cc != 38) = true := by simp; exact fun h => h7 ⟨h77, h⟩
        subst h77
        clear h7 t5 u5
        go_enter Tryd.func16, Tryd.ntmps16
        go_wp2
        refine bodyPost_ret (res_two (i := 4) Tryd.results16 _ rfl BF.out) rfl ?_
        refine ⟨0, false, by rw [HEV.out]; rfl, by rw [HEV.out]; rfl, LE.out⟩
      · have t7 : decide (kk = 7) = false := by simp [h77]
        have u7 : (kk == 7) = false := by simp [h77]
        have v7 : (kk != 7) = true := by simp [h77]
        clear h7 h77
        go_enter Tryd.func16, Tryd.ntmps16
        go_wp2
        refine bodyPost_ret (res_two (i := 4) Tryd.results16 _ rfl BF.out) rfl ?_
        refine ⟨0, false, by rw [HEV.out]; rfl, by rw [HEV.out]; rfl, LE.out⟩
end Go.Proofs.YtjmpilmmgfjpmaaDoor.Stp
