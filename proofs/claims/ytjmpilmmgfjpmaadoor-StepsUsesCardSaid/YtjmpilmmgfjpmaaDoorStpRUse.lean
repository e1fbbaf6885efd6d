/-
  Layer 22, the document's side: the uses of a node. Condition: a flat program.
-/
import Derived.Test.YtjmpilmmgfjpmaaDoorStpRScal
import Derived.Test.YtjmpilmmgfjpmaaDoorPkQb
import Derived.Deep.RegionHeld3
set_option maxRecDepth 100000
namespace Go.Proofs.YtjmpilmmgfjpmaaDoor.Stp
open Go.Proofs.YtjmpilmmgfjpmaaDoor.Sh Go.Proofs.YtjmpilmmgfjpmaaDoor.St Go.Proofs.YtjmpilmmgfjpmaaDoor.Tr
open Go.RowKit
set_option linter.unusedVariables false
set_option linter.unusedSimpArgs false

/-- Has it a use with so many? -/
def uM (qs : List Nq) (k many : Int) : Bool := if many = 1 then (usV qs k).1 else (usV qs k).2
set_option maxHeartbeats 16000000 in
theorem ruse_5a1 (pnm : ByteArray) (pda : Option Addr) (pdc : Nat) (pdims : List Int) (pna : Option Addr) (pnc : Nat) (pnodes : List Nq) (pfa : Option Addr) (pfc : Nat) (pdefs : List Df) (proot : Int) (hF : Fl pnodes) (k : Nat) (pp cc : Int) (kids nums : List Int) (name : ByteArray) (ka : Option Addr) (kc : Nat) (na : Option Addr) (nc : Nat) (hq : pnodes[k]? = some ⟨⟨(5 : Int), pp, cc, kids, nums, name⟩, ka, kc, na, nc⟩) (w : World) (hp : ProgIn w ⟨pnm, pda, pdc, pdims, pna, pnc, pnodes, pfa, pfc, pdefs, proot⟩) (h20 : 1 ≤ cc ∧ cc < 20) : Calls Tryd.prog 17 #[.agg #[.string pnm, .slice pda pdims.length pdc, .slice pna pnodes.length pnc, .slice pfa pdefs.length pfc, .int .i64 proot], .int .i64 (k : Int), .int .i64 1] w (RetBl (uM pnodes (k : Int) 1) w) := by
  have HEQ := Lib.hid (usV_eq hF.ahead hq)
  obtain ⟨b0, o0, eA, hb0, ⟨c0, c1, c2, c3, c4, c5⟩, hin⟩ := hp.2.1.at_ hq
  simp only at c0 c1 c2 c3 c4 c5 eA HEQ
  subst eA
  have hkl := (List.getElem?_eq_some_iff.1 hq).1
  have L0 := Lib.hid (below_new w (.cells #[.string pnm, .slice pda pdims.length pdc, .slice (some ⟨b0, o0, none⟩) pnodes.length pnc, .slice pfa pdefs.length pfc, .int .i64 proot] 26))
  have k0 := (L0.out.cell (p := ⟨b0, _, none⟩) hb0).trans c0
  have k1 := (L0.out.cell (p := ⟨b0, _, none⟩) hb0).trans c1
  have k2 := (L0.out.cell (p := ⟨b0, _, none⟩) hb0).trans c2
  have k3 := (L0.out.cell (p := ⟨b0, _, none⟩) hb0).trans c3
  have k4 := (L0.out.cell (p := ⟨b0, _, none⟩) hb0).trans c4
  have k5 := (L0.out.cell (p := ⟨b0, _, none⟩) hb0).trans c5
  have i0 : (0 : Int) ≤ (k : Int) := by omega
  have i1 : (k : Int) < (pnodes.length : Int) := by omega
  have e1 : (w.alloc (.cells #[.string pnm, .slice pda pdims.length pdc, .slice (some ⟨b0, o0, none⟩) pnodes.length pnc, .slice pfa pdefs.length pfc, .int .i64 proot] 26)).heap.size = w.heap.size + 1 := by simp
  have LE := Lib.hid (show Below w.heap.size w ((w.alloc (.cells #[.string pnm, .slice pda pdims.length pdc, .slice (some ⟨b0, o0, none⟩) pnodes.length pnc, .slice pfa pdefs.length pfc, .int .i64 proot] 26)).alloc (.cells #[.int .i64 5, .int .i64 pp, .int .i64 cc, .slice ka kids.length kc, .slice na nums.length nc, .string name] 45)) from below_next (below_new w _) (below_new _ _))
  have BP := Lib.hid (show Bk 26 ((w.alloc (.cells #[.string pnm, .slice pda pdims.length pdc, .slice (some ⟨b0, o0, none⟩) pnodes.length pnc, .slice pfa pdefs.length pfc, .int .i64 proot] 26)).alloc (.cells #[.int .i64 5, .int .i64 pp, .int .i64 cc, .slice ka kids.length kc, .slice na nums.length nc, .string name] 45)) w.heap.size [.string pnm, .slice pda pdims.length pdc, .slice (some ⟨b0, o0, none⟩) pnodes.length pnc, .slice pfa pdefs.length pfc, .int .i64 proot] from (Bk.new _ w _).alloc _)
  have BN := Lib.hid (show Bk 45 ((w.alloc (.cells #[.string pnm, .slice pda pdims.length pdc, .slice (some ⟨b0, o0, none⟩) pnodes.length pnc, .slice pfa pdefs.length pfc, .int .i64 proot] 26)).alloc (.cells #[.int .i64 5, .int .i64 pp, .int .i64 cc, .slice ka kids.length kc, .slice na nums.length nc, .string name] 45)) (w.heap.size + 1) [.int .i64 5, .int .i64 pp, .int .i64 cc, .slice ka kids.length kc, .slice na nums.length nc, .string name] from new_atR _ _ e1)
  have xp := (Bk.new 26 w [.string pnm, .slice pda pdims.length pdc, .slice (some ⟨b0, o0, none⟩) pnodes.length pnc, .slice pfa pdefs.length pfc, .int .i64 proot]).c 2
  simp only [List.getElem?_cons_zero, List.getElem?_cons_succ] at xp
  obtain ⟨b, hb⟩ : ∃ b, Sc.hasB cc 1 = b := ⟨_, rfl⟩
  have HEV := Lib.hid (show uM pnodes (k : Int) 1 = b by
    unfold uM
    rw [HEQ.out, ← hb]
    show (prU cc).1 = _
    unfold prU
    rw [if_neg (by omega), if_neg (by omega), if_neg (by omega)])
  have HHA := Lib.hid (fun W => (Sc.rhas_any cc 1 W).mono (fun e0 w0 hr => (by rw [hb] at hr; exact hr)))
  have t20 : decide (cc < 20) = true := by simp; omega
  clear h20 hb HEQ
  clear hp hq hF hb0 c0 c1 c2 c3 c4 c5 hin hkl e1
  go_enter Tryd.func17, Tryd.ntmps17
  go_wp2_with fail
  clear k0 k1 k2 k3 k4 k5 xp
  generalize ((w.alloc (.cells #[.string pnm, .slice pda pdims.length pdc, .slice (some ⟨b0, o0, none⟩) pnodes.length pnc, .slice pfa pdefs.length pfc, .int .i64 proot] 26)).alloc (.cells #[.int .i64 5, .int .i64 pp, .int .i64 cc, .slice ka kids.length kc, .slice na nums.length nc, .string name] 45)) = wE at *
  refine (HHA.out wE).mono ?_
  rintro e w2 ⟨rfl, rfl⟩
  go_wp2
  go_ret
  exact ⟨by rw [HEV.out]; rfl, LE.out⟩
set_option maxHeartbeats 16000000 in
theorem ruse_5b1 (pnm : ByteArray) (pda : Option Addr) (pdc : Nat) (pdims : List Int) (pna : Option Addr) (pnc : Nat) (pnodes : List Nq) (pfa : Option Addr) (pfc : Nat) (pdefs : List Df) (proot : Int) (hF : Fl pnodes) (k : Nat) (pp cc : Int) (kids nums : List Int) (name : ByteArray) (ka : Option Addr) (kc : Nat) (na : Option Addr) (nc : Nat) (hq : pnodes[k]? = some ⟨⟨(5 : Int), pp, cc, kids, nums, name⟩, ka, kc, na, nc⟩) (w : World) (hp : ProgIn w ⟨pnm, pda, pdc, pdims, pna, pnc, pnodes, pfa, pfc, pdefs, proot⟩) (h20 : 20 ≤ cc) (h32 : cc ≤ 32) : Calls Tryd.prog 17 #[.agg #[.string pnm, .slice pda pdims.length pdc, .slice pna pnodes.length pnc, .slice pfa pdefs.length pfc, .int .i64 proot], .int .i64 (k : Int), .int .i64 1] w (RetBl (uM pnodes (k : Int) 1) w) := by
  have HEQ := Lib.hid (usV_eq hF.ahead hq)
  obtain ⟨b0, o0, eA, hb0, ⟨c0, c1, c2, c3, c4, c5⟩, hin⟩ := hp.2.1.at_ hq
  simp only at c0 c1 c2 c3 c4 c5 eA HEQ
  subst eA
  have hkl := (List.getElem?_eq_some_iff.1 hq).1
  have L0 := Lib.hid (below_new w (.cells #[.string pnm, .slice pda pdims.length pdc, .slice (some ⟨b0, o0, none⟩) pnodes.length pnc, .slice pfa pdefs.length pfc, .int .i64 proot] 26))
  have k0 := (L0.out.cell (p := ⟨b0, _, none⟩) hb0).trans c0
  have k1 := (L0.out.cell (p := ⟨b0, _, none⟩) hb0).trans c1
  have k2 := (L0.out.cell (p := ⟨b0, _, none⟩) hb0).trans c2
  have k3 := (L0.out.cell (p := ⟨b0, _, none⟩) hb0).trans c3
  have k4 := (L0.out.cell (p := ⟨b0, _, none⟩) hb0).trans c4
  have k5 := (L0.out.cell (p := ⟨b0, _, none⟩) hb0).trans c5
  have i0 : (0 : Int) ≤ (k : Int) := by omega
  have i1 : (k : Int) < (pnodes.length : Int) := by omega
  have e1 : (w.alloc (.cells #[.string pnm, .slice pda pdims.length pdc, .slice (some ⟨b0, o0, none⟩) pnodes.length pnc, .slice pfa pdefs.length pfc, .int .i64 proot] 26)).heap.size = w.heap.size + 1 := by simp
  have LE := Lib.hid (show Below w.heap.size w ((w.alloc (.cells #[.string pnm, .slice pda pdims.length pdc, .slice (some ⟨b0, o0, none⟩) pnodes.length pnc, .slice pfa pdefs.length pfc, .int .i64 proot] 26)).alloc (.cells #[.int .i64 5, .int .i64 pp, .int .i64 cc, .slice ka kids.length kc, .slice na nums.length nc, .string name] 45)) from below_next (below_new w _) (below_new _ _))
  have BP := Lib.hid (show Bk 26 ((w.alloc (.cells #[.string pnm, .slice pda pdims.length pdc, .slice (some ⟨b0, o0, none⟩) pnodes.length pnc, .slice pfa pdefs.length pfc, .int .i64 proot] 26)).alloc (.cells #[.int .i64 5, .int .i64 pp, .int .i64 cc, .slice ka kids.length kc, .slice na nums.length nc, .string name] 45)) w.heap.size [.string pnm, .slice pda pdims.length pdc, .slice (some ⟨b0, o0, none⟩) pnodes.length pnc, .slice pfa pdefs.length pfc, .int .i64 proot] from (Bk.new _ w _).alloc _)
  have BN := Lib.hid (show Bk 45 ((w.alloc (.cells #[.string pnm, .slice pda pdims.length pdc, .slice (some ⟨b0, o0, none⟩) pnodes.length pnc, .slice pfa pdefs.length pfc, .int .i64 proot] 26)).alloc (.cells #[.int .i64 5, .int .i64 pp, .int .i64 cc, .slice ka kids.length kc, .slice na nums.length nc, .string name] 45)) (w.heap.size + 1) [.int .i64 5, .int .i64 pp, .int .i64 cc, .slice ka kids.length kc, .slice na nums.length nc, .string name] from new_atR _ _ e1)
  have xp := (Bk.new 26 w [.string pnm, .slice pda pdims.length pdc, .slice (some ⟨b0, o0, none⟩) pnodes.length pnc, .slice pfa pdefs.length pfc, .int .i64 proot]).c 2
  simp only [List.getElem?_cons_zero, List.getElem?_cons_succ] at xp
  have HEV := Lib.hid (show uM pnodes (k : Int) 1 = (prU cc).1 by
    unfold uM
    rw [HEQ.out]
    rfl)
  clear HEQ
  clear hp hq hF hb0 c0 c1 c2 c3 c4 c5 hin hkl e1
  rcases (show cc = 20 ∨ cc = 21 ∨ cc = 22 ∨ cc = 23 ∨ cc = 24 ∨ cc = 25 ∨ cc = 26 ∨ cc = 27 ∨ cc = 28 ∨ cc = 29 ∨ cc = 30 ∨ cc = 31 ∨ cc = 32 by omega) with rfl | rfl | rfl | rfl | rfl | rfl | rfl | rfl | rfl | rfl | rfl | rfl | rfl
  all_goals
    clear h20 h32
    go_enter Tryd.func17, Tryd.ntmps17
    go_wp2
    go_ret
    exact ⟨by rw [HEV.out]; rfl, LE.out⟩
set_option maxHeartbeats 16000000 in
theorem ruse_7s1 (pnm : ByteArray) (pda : Option Addr) (pdc : Nat) (pdims : List Int) (pna : Option Addr) (pnc : Nat) (pnodes : List Nq) (pfa : Option Addr) (pfc : Nat) (pdefs : List Df) (proot : Int) (hF : Fl pnodes) (k : Nat) (pp : Int) (kids nums : List Int) (name : ByteArray) (ka : Option Addr) (kc : Nat) (na : Option Addr) (nc : Nat) (hq : pnodes[k]? = some ⟨⟨(7 : Int), pp, (38 : Int), kids, nums, name⟩, ka, kc, na, nc⟩) (w : World) (hp : ProgIn w ⟨pnm, pda, pdc, pdims, pna, pnc, pnodes, pfa, pfc, pdefs, proot⟩) (HU : ∀ m, m < k → (∃ q : Nq, pnodes[m]? = some q ∧ funI q.n.kind = true) → ∀ W, ProgIn W ⟨pnm, pda, pdc, pdims, pna, pnc, pnodes, pfa, pfc, pdefs, proot⟩ → ∀ many : Int, many = 1 ∨ many = 2 → Calls Tryd.prog 17 #[.agg #[.string pnm, .slice pda pdims.length pdc, .slice pna pnodes.length pnc, .slice pfa pdefs.length pfc, .int .i64 proot], .int .i64 (m : Int), .int .i64 many] W (RetBl (uM pnodes (m : Int) many) W)) : Calls Tryd.prog 17 #[.agg #[.string pnm, .slice pda pdims.length pdc, .slice pna pnodes.length pnc, .slice pfa pdefs.length pfc, .int .i64 proot], .int .i64 (k : Int), .int .i64 1] w (RetBl (uM pnodes (k : Int) 1) w) := by
  have hlen : kids.length = 1 := hF.nk hq
  have hin0 := hp.2.1.2 _ (List.mem_of_getElem? hq)
  obtain ⟨bK, oK, eka, hbK, hcK⟩ := hin0.1 (by simp only; omega)
  simp only at eka hcK
  subst eka
  obtain ⟨m0, q0, hx0, hkm0, hmk0, hqm0, hka0, hmay0⟩ := hF.kid hq 0 (by show 0 < (partsL 7).length; decide)
  simp only at hx0 hkm0 hmay0
  have hy0 := hcK 0 (by omega)
  rw [show kids.getD 0 0 = (m0 : Int) by rw [List.getD_eq_getElem?_getD, hx0]; rfl] at hy0
  have HY0 := Lib.hid hy0
  have HEQ := Lib.hid (usV_eq hF.ahead hq)
  obtain ⟨b0, o0, eA, hb0, ⟨c0, c1, c2, c3, c4, c5⟩, hin⟩ := hp.2.1.at_ hq
  simp only at c0 c1 c2 c3 c4 c5 eA HEQ
  subst eA
  have hkl := (List.getElem?_eq_some_iff.1 hq).1
  have L0 := Lib.hid (below_new w (.cells #[.string pnm, .slice pda pdims.length pdc, .slice (some ⟨b0, o0, none⟩) pnodes.length pnc, .slice pfa pdefs.length pfc, .int .i64 proot] 26))
  have k0 := (L0.out.cell (p := ⟨b0, _, none⟩) hb0).trans c0
  have k1 := (L0.out.cell (p := ⟨b0, _, none⟩) hb0).trans c1
  have k2 := (L0.out.cell (p := ⟨b0, _, none⟩) hb0).trans c2
  have k3 := (L0.out.cell (p := ⟨b0, _, none⟩) hb0).trans c3
  have k4 := (L0.out.cell (p := ⟨b0, _, none⟩) hb0).trans c4
  have k5 := (L0.out.cell (p := ⟨b0, _, none⟩) hb0).trans c5
  have i0 : (0 : Int) ≤ (k : Int) := by omega
  have i1 : (k : Int) < (pnodes.length : Int) := by omega
  have e1 : (w.alloc (.cells #[.string pnm, .slice pda pdims.length pdc, .slice (some ⟨b0, o0, none⟩) pnodes.length pnc, .slice pfa pdefs.length pfc, .int .i64 proot] 26)).heap.size = w.heap.size + 1 := by simp
  have LE := Lib.hid (show Below w.heap.size w ((w.alloc (.cells #[.string pnm, .slice pda pdims.length pdc, .slice (some ⟨b0, o0, none⟩) pnodes.length pnc, .slice pfa pdefs.length pfc, .int .i64 proot] 26)).alloc (.cells #[.int .i64 7, .int .i64 pp, .int .i64 38, .slice (some ⟨bK, oK, none⟩) kids.length kc, .slice na nums.length nc, .string name] 45)) from below_next (below_new w _) (below_new _ _))
  have BP := Lib.hid (show Bk 26 ((w.alloc (.cells #[.string pnm, .slice pda pdims.length pdc, .slice (some ⟨b0, o0, none⟩) pnodes.length pnc, .slice pfa pdefs.length pfc, .int .i64 proot] 26)).alloc (.cells #[.int .i64 7, .int .i64 pp, .int .i64 38, .slice (some ⟨bK, oK, none⟩) kids.length kc, .slice na nums.length nc, .string name] 45)) w.heap.size [.string pnm, .slice pda pdims.length pdc, .slice (some ⟨b0, o0, none⟩) pnodes.length pnc, .slice pfa pdefs.length pfc, .int .i64 proot] from (Bk.new _ w _).alloc _)
  have BN := Lib.hid (show Bk 45 ((w.alloc (.cells #[.string pnm, .slice pda pdims.length pdc, .slice (some ⟨b0, o0, none⟩) pnodes.length pnc, .slice pfa pdefs.length pfc, .int .i64 proot] 26)).alloc (.cells #[.int .i64 7, .int .i64 pp, .int .i64 38, .slice (some ⟨bK, oK, none⟩) kids.length kc, .slice na nums.length nc, .string name] 45)) (w.heap.size + 1) [.int .i64 7, .int .i64 pp, .int .i64 38, .slice (some ⟨bK, oK, none⟩) kids.length kc, .slice na nums.length nc, .string name] from new_atR _ _ e1)
  have xp := (Bk.new 26 w [.string pnm, .slice pda pdims.length pdc, .slice (some ⟨b0, o0, none⟩) pnodes.length pnc, .slice pfa pdefs.length pfc, .int .i64 proot]).c 2
  simp only [List.getElem?_cons_zero, List.getElem?_cons_succ] at xp
  have hf0 : funI q0.n.kind = true := hmay0
  have HR := Lib.hid (fun W (hW : Below w.heap.size w W) => HU m0 hmk0 ⟨q0, hqm0, hf0⟩ W (hp.next hW) 2 (.inr rfl))
  have HEV := Lib.hid (show uM pnodes (k : Int) 1 = uM pnodes (m0 : Int) 2 by
    unfold uM
    rw [HEQ.out, ← hkm0]
    rfl)
  have j0 : (0 : Int) < (kids.length : Int) := by omega
  have j1 : 0 < kids.length := by omega
  clear HU hcK hy0 hx0 hkm0 hqm0 hka0 hmay0 hlen hmk0 hf0 HEQ hin0
  clear hp hq hF hb0 c0 c1 c2 c3 c4 c5 hin hkl e1
  go_enter Tryd.func17, Tryd.ntmps17
  go_upto_region 15 with fail
  clear k0 k1 k2 k3 k4 k5 xp
  generalize ((w.alloc (.cells #[.string pnm, .slice pda pdims.length pdc, .slice (some ⟨b0, o0, none⟩) pnodes.length pnc, .slice pfa pdefs.length pfc, .int .i64 proot] 26)).alloc (.cells #[.int .i64 7, .int .i64 pp, .int .i64 38, .slice (some ⟨bK, oK, none⟩) kids.length kc, .slice na nums.length nc, .string name] 45)) = wE at *
  have Ld := Lib.hid LE.out.drew
  have BPd := Lib.hid BP.out.drew
  have BNd := Lib.hid BN.out.drew
  have HS := Lib.hid (fun (W : World) (L : Below w.heap.size w W) (B : Bk 26 W w.heap.size [.string pnm, .slice pda pdims.length pdc, .slice (some ⟨b0, o0, none⟩) pnodes.length pnc, .slice pfa pdefs.length pfc, .int .i64 proot]) (N : Bk 45 W (w.heap.size + 1) [.int .i64 7, .int .i64 pp, .int .i64 38, .slice (some ⟨bK, oK, none⟩) kids.length kc, .slice na nums.length nc, .string name]) => (show W.cell? ⟨w.heap.size, 0, none⟩ = some (.string pnm) ∧ W.cell? ⟨w.heap.size, 1, none⟩ = some (.slice pda pdims.length pdc) ∧ W.cell? ⟨w.heap.size, 2, none⟩ = some (.slice (some ⟨b0, o0, none⟩) pnodes.length pnc) ∧ W.cell? ⟨w.heap.size, 3, none⟩ = some (.slice pfa pdefs.length pfc) ∧ W.cell? ⟨w.heap.size, 4, none⟩ = some (.int .i64 proot) ∧ W.cell? ⟨w.heap.size + 1, 3, none⟩ = some (.slice (some ⟨bK, oK, none⟩) kids.length kc) ∧ W.cell? ⟨bK, oK, none⟩ = some (.int .i64 (m0 : Int)) from ⟨B.c 0, B.c 1, B.c 2, B.c 3, B.c 4, N.c 3, (L.cell (p := ⟨bK, oK + 0, none⟩) hbK).trans HY0.out⟩))
  have Kd := Lib.hid (HS.out _ Ld.out BPd.out BNd.out)
  go_region_held3 (fun w' => w'.cell? ⟨w.heap.size, 0, none⟩ = some (.string pnm) ∧ w'.cell? ⟨w.heap.size, 1, none⟩ = some (.slice pda pdims.length pdc) ∧ w'.cell? ⟨w.heap.size, 2, none⟩ = some (.slice (some ⟨b0, o0, none⟩) pnodes.length pnc) ∧ w'.cell? ⟨w.heap.size, 3, none⟩ = some (.slice pfa pdefs.length pfc) ∧ w'.cell? ⟨w.heap.size, 4, none⟩ = some (.int .i64 proot) ∧ w'.cell? ⟨w.heap.size + 1, 3, none⟩ = some (.slice (some ⟨bK, oK, none⟩) kids.length kc) ∧ w'.cell? ⟨bK, oK, none⟩ = some (.int .i64 (m0 : Int)))
    (first
      | with_reducible exact Kd.out
      | with_reducible exact K2.out
      | go_keep)
    (first
      | (go_at_call 17; (with_reducible refine (HR.out _ Ld.out).mono ?_); rintro r w2 ⟨rfl, hb2⟩; have L2 := Lib.hid (Gl.below_next Ld.out hb2); have BP2 := Lib.hid (BPd.out.next hb2); have BN2 := Lib.hid (BNd.out.next hb2); have K2 := Lib.hid (HS.out _ L2.out BP2.out BN2.out); clear hb2))
  go_wp2
  go_ret
  exact ⟨by rw [HEV.out]; rfl, L2.out⟩
set_option maxHeartbeats 16000000 in
theorem ruse_71 (pnm : ByteArray) (pda : Option Addr) (pdc : Nat) (pdims : List Int) (pna : Option Addr) (pnc : Nat) (pnodes : List Nq) (pfa : Option Addr) (pfc : Nat) (pdefs : List Df) (proot : Int) (hF : Fl pnodes) (k : Nat) (pp cc : Int) (kids nums : List Int) (name : ByteArray) (ka : Option Addr) (kc : Nat) (na : Option Addr) (nc : Nat) (hq : pnodes[k]? = some ⟨⟨(7 : Int), pp, cc, kids, nums, name⟩, ka, kc, na, nc⟩) (w : World) (hp : ProgIn w ⟨pnm, pda, pdc, pdims, pna, pnc, pnodes, pfa, pfc, pdefs, proot⟩) (h38 : cc ≠ 38) : Calls Tryd.prog 17 #[.agg #[.string pnm, .slice pda pdims.length pdc, .slice pna pnodes.length pnc, .slice pfa pdefs.length pfc, .int .i64 proot], .int .i64 (k : Int), .int .i64 1] w (RetBl (uM pnodes (k : Int) 1) w) := by
  have HEQ := Lib.hid (usV_eq hF.ahead hq)
  obtain ⟨b0, o0, eA, hb0, ⟨c0, c1, c2, c3, c4, c5⟩, hin⟩ := hp.2.1.at_ hq
  simp only at c0 c1 c2 c3 c4 c5 eA HEQ
  subst eA
  have hkl := (List.getElem?_eq_some_iff.1 hq).1
  have L0 := Lib.hid (below_new w (.cells #[.string pnm, .slice pda pdims.length pdc, .slice (some ⟨b0, o0, none⟩) pnodes.length pnc, .slice pfa pdefs.length pfc, .int .i64 proot] 26))
  have k0 := (L0.out.cell (p := ⟨b0, _, none⟩) hb0).trans c0
  have k1 := (L0.out.cell (p := ⟨b0, _, none⟩) hb0).trans c1
  have k2 := (L0.out.cell (p := ⟨b0, _, none⟩) hb0).trans c2
  have k3 := (L0.out.cell (p := ⟨b0, _, none⟩) hb0).trans c3
  have k4 := (L0.out.cell (p := ⟨b0, _, none⟩) hb0).trans c4
  have k5 := (L0.out.cell (p := ⟨b0, _, none⟩) hb0).trans c5
  have i0 : (0 : Int) ≤ (k : Int) := by omega
  have i1 : (k : Int) < (pnodes.length : Int) := by omega
  have e1 : (w.alloc (.cells #[.string pnm, .slice pda pdims.length pdc, .slice (some ⟨b0, o0, none⟩) pnodes.length pnc, .slice pfa pdefs.length pfc, .int .i64 proot] 26)).heap.size = w.heap.size + 1 := by simp
  have LE := Lib.hid (show Below w.heap.size w ((w.alloc (.cells #[.string pnm, .slice pda pdims.length pdc, .slice (some ⟨b0, o0, none⟩) pnodes.length pnc, .slice pfa pdefs.length pfc, .int .i64 proot] 26)).alloc (.cells #[.int .i64 7, .int .i64 pp, .int .i64 cc, .slice ka kids.length kc, .slice na nums.length nc, .string name] 45)) from below_next (below_new w _) (below_new _ _))
  have BP := Lib.hid (show Bk 26 ((w.alloc (.cells #[.string pnm, .slice pda pdims.length pdc, .slice (some ⟨b0, o0, none⟩) pnodes.length pnc, .slice pfa pdefs.length pfc, .int .i64 proot] 26)).alloc (.cells #[.int .i64 7, .int .i64 pp, .int .i64 cc, .slice ka kids.length kc, .slice na nums.length nc, .string name] 45)) w.heap.size [.string pnm, .slice pda pdims.length pdc, .slice (some ⟨b0, o0, none⟩) pnodes.length pnc, .slice pfa pdefs.length pfc, .int .i64 proot] from (Bk.new _ w _).alloc _)
  have BN := Lib.hid (show Bk 45 ((w.alloc (.cells #[.string pnm, .slice pda pdims.length pdc, .slice (some ⟨b0, o0, none⟩) pnodes.length pnc, .slice pfa pdefs.length pfc, .int .i64 proot] 26)).alloc (.cells #[.int .i64 7, .int .i64 pp, .int .i64 cc, .slice ka kids.length kc, .slice na nums.length nc, .string name] 45)) (w.heap.size + 1) [.int .i64 7, .int .i64 pp, .int .i64 cc, .slice ka kids.length kc, .slice na nums.length nc, .string name] from new_atR _ _ e1)
  have xp := (Bk.new 26 w [.string pnm, .slice pda pdims.length pdc, .slice (some ⟨b0, o0, none⟩) pnodes.length pnc, .slice pfa pdefs.length pfc, .int .i64 proot]).c 2
  simp only [List.getElem?_cons_zero, List.getElem?_cons_succ] at xp
  obtain ⟨al, hal⟩ : ∃ al, allS pnodes kids = al := ⟨_, rfl⟩
  have HEV := Lib.hid (show uM pnodes (k : Int) 1 = al by
    unfold uM
    rw [HEQ.out]
    show (opU pnodes ⟨(7 : Int), pp, cc, kids, nums, name⟩ (usV pnodes)).1 = _
    unfold opU
    simp only
    rw [if_neg h38, hal]
    by_cases h32 : cc = 32
    · rw [if_pos h32] <;> simp [h32]
    · rw [if_neg h32] <;> simp [h32])
  have HAL : Hid (al = kids.all fun x => (scV pnodes x).isSome) := Lib.hid hal.symm
  have HSC := Lib.hid (fun m (hm : m < pnodes.length) W (hW : Below w.heap.size w W) => rscal_k ⟨pnm, pda, pdc, pdims, some ⟨b0, o0, none⟩, pnc, pnodes, pfa, pfc, pdefs, proot⟩ hF m W (hp.next hW) hm)
  unfold progV at HSC
  simp only at HSC
  have HKI := Lib.hid hin.1
  have H20 := Lib.hid (show kids.length ≤ 1000 by have : kids.length = (partsL 7).length := hF.nk hq; rw [this]; decide)
  have HINR := Lib.hid (fun x (hx : x ∈ kids) => (show InR pnodes.length x by have := hF.ahead k _ hq x hx; unfold Tr.InR; omega))
  have u38 : (cc == 38) = false := by simp [h38]
  have t38 : decide (cc = 38) = false := by simp [h38]
  clear HEQ hal h38
  clear hp hq hF hb0 c0 c1 c2 c3 c4 c5 hin hkl e1
  go_enter Tryd.func17, Tryd.ntmps17
  go_wp2_with fail
  clear k0 k1 k2 k3 k4 k5 xp
  generalize ((w.alloc (.cells #[.string pnm, .slice pda pdims.length pdc, .slice (some ⟨b0, o0, none⟩) pnodes.length pnc, .slice pfa pdefs.length pfc, .int .i64 proot] 26)).alloc (.cells #[.int .i64 7, .int .i64 pp, .int .i64 cc, .slice ka kids.length kc, .slice na nums.length nc, .string name] 45)) = wE at *
  go_loopw [10] (fun iv wr => ∃ j : Nat, j ≤ kids.length ∧ iv = .int .i64 (j : Int) ∧ Hid ((kids.take j).all fun x => (scV pnodes x).isSome) ∧ Hid (Below w.heap.size w wr) ∧ Hid (Bk 26 wr w.heap.size [.string pnm, .slice pda pdims.length pdc, .slice (some ⟨b0, o0, none⟩) pnodes.length pnc, .slice pfa pdefs.length pfc, .int .i64 proot]) ∧ Hid (Bk 45 wr (w.heap.size + 1) [.int .i64 7, .int .i64 pp, .int .i64 cc, .slice ka kids.length kc, .slice na nums.length nc, .string name])) (fun iv _ => kids.length - (intOf iv).toNat)
  case atStart => exact ⟨0, Nat.zero_le _, rfl, Lib.hid rfl, LE, BP, BN⟩
  case round =>
    obtain ⟨j, hj, rfl, HA, HW, HBP, HBN⟩ := hrel
    have y3 := HBN.out.c 3
    have y0 := HBN.out.c 0
    have y2 := HBN.out.c 2
    simp only [List.getElem?_cons_zero, List.getElem?_cons_succ] at y3 y0 y2
    by_cases hlt : j < kids.length
    · obtain ⟨x, hx⟩ : ∃ x, kids[j]? = some x := ⟨_, List.getElem?_eq_getElem hlt⟩
      have hxi := HINR.out x (List.mem_of_getElem? hx)
      obtain ⟨m, rfl⟩ : ∃ m : Nat, x = (m : Int) := ⟨x.toNat, by unfold Tr.InR at hxi; omega⟩
      have hm : m < pnodes.length := by unfold Tr.InR at hxi; omega
      obtain ⟨bK, oK, eK, hbK, hcK⟩ := HKI.out (by omega)
      subst eK
      have hcx := hcK j hlt
      rw [show kids.getD j 0 = (m : Int) by rw [List.getD_eq_getElem?_getD, hx]; rfl] at hcx
      have HCX := Lib.hid hcx
      have HR := Lib.hid (fun W hW => HSC.out m hm W hW)
      have HS1 : Hid (((kids.take (j + 1)).all fun x => (scV pnodes x).isSome) = ((kids.take j).all (fun x => (scV pnodes x).isSome) && (scV pnodes (m : Int)).isSome)) := Lib.hid (by
        rw [List.take_add_one, hx]; simp)
      have HB : Hid ((scV pnodes (m : Int)).isSome = false → al = false) := Lib.hid (fun h => by rw [HAL.out]; exact all_badP hx h)
      have i2 : (0 : Int) ≤ (j : Int) := by omega
      have i3 : (j : Int) < (kids.length : Int) := by omega
      have hjy : decide (j < kids.length) = true := by simp [hlt]
      have hsum := wrap_k j (by have := H20.out; omega)
      clear hx hcK hxi hm hcx y0 y2
      go_upto_region 19 with fail
      have Ld := Lib.hid HW.out.drew
      have BPd := Lib.hid HBP.out.drew
      have BNd := Lib.hid HBN.out.drew
      have HS := Lib.hid (fun (W : World) (L : Below w.heap.size w W) (B : Bk 26 W w.heap.size [.string pnm, .slice pda pdims.length pdc, .slice (some ⟨b0, o0, none⟩) pnodes.length pnc, .slice pfa pdefs.length pfc, .int .i64 proot]) (N : Bk 45 W (w.heap.size + 1) [.int .i64 7, .int .i64 pp, .int .i64 cc, .slice (some ⟨bK, oK, none⟩) kids.length kc, .slice na nums.length nc, .string name]) => (show W.cell? ⟨w.heap.size, 0, none⟩ = some (.string pnm) ∧ W.cell? ⟨w.heap.size, 1, none⟩ = some (.slice pda pdims.length pdc) ∧ W.cell? ⟨w.heap.size, 2, none⟩ = some (.slice (some ⟨b0, o0, none⟩) pnodes.length pnc) ∧ W.cell? ⟨w.heap.size, 3, none⟩ = some (.slice pfa pdefs.length pfc) ∧ W.cell? ⟨w.heap.size, 4, none⟩ = some (.int .i64 proot) ∧ W.cell? ⟨w.heap.size + 1, 3, none⟩ = some (.slice (some ⟨bK, oK, none⟩) kids.length kc) ∧ W.cell? ⟨bK, oK + j, none⟩ = some (.int .i64 (m : Int)) from ⟨B.c 0, B.c 1, B.c 2, B.c 3, B.c 4, N.c 3, (L.cell (p := ⟨bK, oK + j, none⟩) hbK).trans HCX.out⟩))
      have Kd := Lib.hid (HS.out _ Ld.out BPd.out BNd.out)
      have Le := Lib.hid ((HW.out.trans ((below_new wr (.cells #[.int .i64 0, .bool false] 37)).mono HW.out.size)).drew)
      have BPe := Lib.hid ((HBP.out.alloc (.cells #[.int .i64 0, .bool false] 37)).drew)
      have BNe := Lib.hid ((HBN.out.alloc (.cells #[.int .i64 0, .bool false] 37)).drew)
      have BGe := Lib.hid ((new_atR (t := 37) wr [.int .i64 0, .bool false] rfl).drew)
      have Ke := Lib.hid (HS.out _ Le.out BPe.out BNe.out)
      have SZ := Lib.hid (show w.heap.size + 1 < wr.heap.size from HBN.out.lt)
      go_cut [12] (fun s12 wx => s12 = .bool (scV pnodes (m : Int)).isSome ∧ Hid (Below w.heap.size w wx) ∧ Hid (Bk 26 wx w.heap.size [.string pnm, .slice pda pdims.length pdc, .slice (some ⟨b0, o0, none⟩) pnodes.length pnc, .slice pfa pdefs.length pfc, .int .i64 proot]) ∧ Hid (Bk 45 wx (w.heap.size + 1) [.int .i64 7, .int .i64 pp, .int .i64 cc, .slice (some ⟨bK, oK, none⟩) kids.length kc, .slice na nums.length nc, .string name]))
      case first =>
        go_region_held3 (fun w' => w'.cell? ⟨w.heap.size, 0, none⟩ = some (.string pnm) ∧ w'.cell? ⟨w.heap.size, 1, none⟩ = some (.slice pda pdims.length pdc) ∧ w'.cell? ⟨w.heap.size, 2, none⟩ = some (.slice (some ⟨b0, o0, none⟩) pnodes.length pnc) ∧ w'.cell? ⟨w.heap.size, 3, none⟩ = some (.slice pfa pdefs.length pfc) ∧ w'.cell? ⟨w.heap.size, 4, none⟩ = some (.int .i64 proot) ∧ w'.cell? ⟨w.heap.size + 1, 3, none⟩ = some (.slice (some ⟨bK, oK, none⟩) kids.length kc) ∧ w'.cell? ⟨bK, oK + j, none⟩ = some (.int .i64 (m : Int)))
          (first
            | with_reducible exact Kd.out
            | with_reducible exact Ke.out
            | with_reducible exact K4.out
            | with_reducible exact K3.out
            | with_reducible exact K2.out
            | go_keep)
          (first
            | (go_at_call 16; (with_reducible refine (HR.out _ Ld.out).mono ?_); rintro r w2 ⟨c1, s1, hcs, rfl, hb2⟩; have L2 := Lib.hid (Gl.below_next Ld.out hb2); have BP2 := Lib.hid (BPd.out.next hb2); have BN2 := Lib.hid (BNd.out.next hb2); have K2 := Lib.hid (HS.out _ L2.out BP2.out BN2.out); have L3 := Lib.hid (L2.out.trans ((below_new w2 (.cells #[.int .i64 c1, .bool s1] 37)).mono L2.out.size)); have BP3 := Lib.hid (BP2.out.alloc (.cells #[.int .i64 c1, .bool s1] 37)); have BN3 := Lib.hid (BN2.out.alloc (.cells #[.int .i64 c1, .bool s1] 37)); have K3 := Lib.hid (HS.out _ L3.out BP3.out BN3.out); clear hb2 hcs)
            | (go_at_call 16; (with_reducible refine (HR.out _ Le.out).mono ?_); rintro r w2 ⟨c1, s1, hcs, rfl, hb2⟩; have L2 := Lib.hid (Gl.below_next Le.out hb2); have BP2 := Lib.hid (BPe.out.next hb2); have BN2 := Lib.hid (BNe.out.next hb2); have BG2 := Lib.hid (BGe.out.next hb2); have q0 := BG2.out.c 0; have q1 := BG2.out.c 1; have r0 := BG2.out.f 0; have r1 := BG2.out.f 1; (simp only [List.getElem?_cons_zero, List.getElem?_cons_succ] at q0 q1); have K2 := Lib.hid (HS.out _ L2.out BP2.out BN2.out); have L4 := Lib.hid ((L2.out.setCell (p := ⟨wr.heap.size, 0, none⟩) (by have := SZ.out; show w.heap.size ≤ wr.heap.size; omega) (.int .i64 c1)).setCell (p := ⟨wr.heap.size, 1, none⟩) (by have := SZ.out; show w.heap.size ≤ wr.heap.size; omega) (.bool s1)); have BP4 := Lib.hid ((BP2.out.far (p := ⟨wr.heap.size, 0, none⟩) (by have := SZ.out; show w.heap.size ≠ wr.heap.size; omega) (.int .i64 c1)).far (p := ⟨wr.heap.size, 1, none⟩) (by have := SZ.out; show w.heap.size ≠ wr.heap.size; omega) (.bool s1)); have BN4 := Lib.hid ((BN2.out.far (p := ⟨wr.heap.size, 0, none⟩) (by have := SZ.out; show w.heap.size + 1 ≠ wr.heap.size; omega) (.int .i64 c1)).far (p := ⟨wr.heap.size, 1, none⟩) (by have := SZ.out; show w.heap.size + 1 ≠ wr.heap.size; omega) (.bool s1)); have K4 := Lib.hid (HS.out _ L4.out BP4.out BN4.out); clear hb2 hcs))
        all_goals (go_wp2_with fail; go_meet; (first | exact ⟨rfl, L4, BP4, BN4⟩ | exact ⟨rfl, L3, BP3, BN3⟩))
      case rest =>
      obtain ⟨rfl, LG, BPG, BNG⟩ := hcut
      generalize wc = wA at *
      obtain ⟨ok, hok⟩ : ∃ ok, (scV pnodes (m : Int)).isSome = ok := ⟨_, rfl⟩
      rw [hok] at HS1 HB ⊢
      clear hok
      cases ok with
      | true =>
        go_wp2
        go_round
        case rel => exact ⟨j + 1, by omega, by go_num, Lib.hid (by rw [HS1.out, HA.out]; rfl), LG, BPG, BNG⟩
        case measure => simp [intOf]; omega
      | false =>
        have HBF := Lib.hid (HB.out rfl)
        go_wp2
        go_ret
        exact ⟨by rw [HEV.out, HBF.out]; rfl, LG.out⟩
    · have hje : j = kids.length := by omega
      have HT : Hid (al = true) := Lib.hid (by have := HA.out; rw [hje, List.take_length] at this; rw [HAL.out]; exact this)
      have hjn : decide (j < kids.length) = false := by simp; omega
      clear hje
      go_wp2
      go_ret
      exact ⟨by rw [HEV.out, HT.out]; rfl, HW.out⟩
set_option maxHeartbeats 16000000 in
theorem ruse_81 (pnm : ByteArray) (pda : Option Addr) (pdc : Nat) (pdims : List Int) (pna : Option Addr) (pnc : Nat) (pnodes : List Nq) (pfa : Option Addr) (pfc : Nat) (pdefs : List Df) (proot : Int) (hF : Fl pnodes) (k : Nat) (pp cc : Int) (kids nums : List Int) (name : ByteArray) (ka : Option Addr) (kc : Nat) (na : Option Addr) (nc : Nat) (hq : pnodes[k]? = some ⟨⟨(8 : Int), pp, cc, kids, nums, name⟩, ka, kc, na, nc⟩) (w : World) (hp : ProgIn w ⟨pnm, pda, pdc, pdims, pna, pnc, pnodes, pfa, pfc, pdefs, proot⟩)  : Calls Tryd.prog 17 #[.agg #[.string pnm, .slice pda pdims.length pdc, .slice pna pnodes.length pnc, .slice pfa pdefs.length pfc, .int .i64 proot], .int .i64 (k : Int), .int .i64 1] w (RetBl (uM pnodes (k : Int) 1) w) := by
  have HEQ := Lib.hid (usV_eq hF.ahead hq)
  obtain ⟨b0, o0, eA, hb0, ⟨c0, c1, c2, c3, c4, c5⟩, hin⟩ := hp.2.1.at_ hq
  simp only at c0 c1 c2 c3 c4 c5 eA HEQ
  subst eA
  have hkl := (List.getElem?_eq_some_iff.1 hq).1
  have L0 := Lib.hid (below_new w (.cells #[.string pnm, .slice pda pdims.length pdc, .slice (some ⟨b0, o0, none⟩) pnodes.length pnc, .slice pfa pdefs.length pfc, .int .i64 proot] 26))
  have k0 := (L0.out.cell (p := ⟨b0, _, none⟩) hb0).trans c0
  have k1 := (L0.out.cell (p := ⟨b0, _, none⟩) hb0).trans c1
  have k2 := (L0.out.cell (p := ⟨b0, _, none⟩) hb0).trans c2
  have k3 := (L0.out.cell (p := ⟨b0, _, none⟩) hb0).trans c3
  have k4 := (L0.out.cell (p := ⟨b0, _, none⟩) hb0).trans c4
  have k5 := (L0.out.cell (p := ⟨b0, _, none⟩) hb0).trans c5
  have i0 : (0 : Int) ≤ (k : Int) := by omega
  have i1 : (k : Int) < (pnodes.length : Int) := by omega
  have e1 : (w.alloc (.cells #[.string pnm, .slice pda pdims.length pdc, .slice (some ⟨b0, o0, none⟩) pnodes.length pnc, .slice pfa pdefs.length pfc, .int .i64 proot] 26)).heap.size = w.heap.size + 1 := by simp
  have LE := Lib.hid (show Below w.heap.size w ((w.alloc (.cells #[.string pnm, .slice pda pdims.length pdc, .slice (some ⟨b0, o0, none⟩) pnodes.length pnc, .slice pfa pdefs.length pfc, .int .i64 proot] 26)).alloc (.cells #[.int .i64 8, .int .i64 pp, .int .i64 cc, .slice ka kids.length kc, .slice na nums.length nc, .string name] 45)) from below_next (below_new w _) (below_new _ _))
  have BP := Lib.hid (show Bk 26 ((w.alloc (.cells #[.string pnm, .slice pda pdims.length pdc, .slice (some ⟨b0, o0, none⟩) pnodes.length pnc, .slice pfa pdefs.length pfc, .int .i64 proot] 26)).alloc (.cells #[.int .i64 8, .int .i64 pp, .int .i64 cc, .slice ka kids.length kc, .slice na nums.length nc, .string name] 45)) w.heap.size [.string pnm, .slice pda pdims.length pdc, .slice (some ⟨b0, o0, none⟩) pnodes.length pnc, .slice pfa pdefs.length pfc, .int .i64 proot] from (Bk.new _ w _).alloc _)
  have BN := Lib.hid (show Bk 45 ((w.alloc (.cells #[.string pnm, .slice pda pdims.length pdc, .slice (some ⟨b0, o0, none⟩) pnodes.length pnc, .slice pfa pdefs.length pfc, .int .i64 proot] 26)).alloc (.cells #[.int .i64 8, .int .i64 pp, .int .i64 cc, .slice ka kids.length kc, .slice na nums.length nc, .string name] 45)) (w.heap.size + 1) [.int .i64 8, .int .i64 pp, .int .i64 cc, .slice ka kids.length kc, .slice na nums.length nc, .string name] from new_atR _ _ e1)
  have xp := (Bk.new 26 w [.string pnm, .slice pda pdims.length pdc, .slice (some ⟨b0, o0, none⟩) pnodes.length pnc, .slice pfa pdefs.length pfc, .int .i64 proot]).c 2
  simp only [List.getElem?_cons_zero, List.getElem?_cons_succ] at xp
  obtain ⟨al, hal⟩ : ∃ al, allS pnodes kids = al := ⟨_, rfl⟩
  have HEV := Lib.hid (show uM pnodes (k : Int) 1 = al by
    unfold uM
    rw [HEQ.out, ← hal]
    rfl)
  have HAL : Hid (al = kids.all fun x => (scV pnodes x).isSome) := Lib.hid hal.symm
  have HSC := Lib.hid (fun m (hm : m < pnodes.length) W (hW : Below w.heap.size w W) => rscal_k ⟨pnm, pda, pdc, pdims, some ⟨b0, o0, none⟩, pnc, pnodes, pfa, pfc, pdefs, proot⟩ hF m W (hp.next hW) hm)
  unfold progV at HSC
  simp only at HSC
  have HKI := Lib.hid hin.1
  have H20 := Lib.hid (show kids.length ≤ 1000 by have : kids.length = (partsL 8).length := hF.nk hq; rw [this]; decide)
  have HINR := Lib.hid (fun x (hx : x ∈ kids) => (show InR pnodes.length x by have := hF.ahead k _ hq x hx; unfold Tr.InR; omega))
  clear HEQ hal
  clear hp hq hF hb0 c0 c1 c2 c3 c4 c5 hin hkl e1
  go_enter Tryd.func17, Tryd.ntmps17
  go_wp2_with fail
  clear k0 k1 k2 k3 k4 k5 xp
  generalize ((w.alloc (.cells #[.string pnm, .slice pda pdims.length pdc, .slice (some ⟨b0, o0, none⟩) pnodes.length pnc, .slice pfa pdefs.length pfc, .int .i64 proot] 26)).alloc (.cells #[.int .i64 8, .int .i64 pp, .int .i64 cc, .slice ka kids.length kc, .slice na nums.length nc, .string name] 45)) = wE at *
  go_loopw [10] (fun iv wr => ∃ j : Nat, j ≤ kids.length ∧ iv = .int .i64 (j : Int) ∧ Hid ((kids.take j).all fun x => (scV pnodes x).isSome) ∧ Hid (Below w.heap.size w wr) ∧ Hid (Bk 26 wr w.heap.size [.string pnm, .slice pda pdims.length pdc, .slice (some ⟨b0, o0, none⟩) pnodes.length pnc, .slice pfa pdefs.length pfc, .int .i64 proot]) ∧ Hid (Bk 45 wr (w.heap.size + 1) [.int .i64 8, .int .i64 pp, .int .i64 cc, .slice ka kids.length kc, .slice na nums.length nc, .string name])) (fun iv _ => kids.length - (intOf iv).toNat)
  case atStart => exact ⟨0, Nat.zero_le _, rfl, Lib.hid rfl, LE, BP, BN⟩
  case round =>
    obtain ⟨j, hj, rfl, HA, HW, HBP, HBN⟩ := hrel
    have y3 := HBN.out.c 3
    have y0 := HBN.out.c 0
    have y2 := HBN.out.c 2
    simp only [List.getElem?_cons_zero, List.getElem?_cons_succ] at y3 y0 y2
    by_cases hlt : j < kids.length
    · obtain ⟨x, hx⟩ : ∃ x, kids[j]? = some x := ⟨_, List.getElem?_eq_getElem hlt⟩
      have hxi := HINR.out x (List.mem_of_getElem? hx)
      obtain ⟨m, rfl⟩ : ∃ m : Nat, x = (m : Int) := ⟨x.toNat, by unfold Tr.InR at hxi; omega⟩
      have hm : m < pnodes.length := by unfold Tr.InR at hxi; omega
      obtain ⟨bK, oK, eK, hbK, hcK⟩ := HKI.out (by omega)
      subst eK
      have hcx := hcK j hlt
      rw [show kids.getD j 0 = (m : Int) by rw [List.getD_eq_getElem?_getD, hx]; rfl] at hcx
      have HCX := Lib.hid hcx
      have HR := Lib.hid (fun W hW => HSC.out m hm W hW)
      have HS1 : Hid (((kids.take (j + 1)).all fun x => (scV pnodes x).isSome) = ((kids.take j).all (fun x => (scV pnodes x).isSome) && (scV pnodes (m : Int)).isSome)) := Lib.hid (by
        rw [List.take_add_one, hx]; simp)
      have HB : Hid ((scV pnodes (m : Int)).isSome = false → al = false) := Lib.hid (fun h => by rw [HAL.out]; exact all_badP hx h)
      have i2 : (0 : Int) ≤ (j : Int) := by omega
      have i3 : (j : Int) < (kids.length : Int) := by omega
      have hjy : decide (j < kids.length) = true := by simp [hlt]
      have hsum := wrap_k j (by have := H20.out; omega)
      clear hx hcK hxi hm hcx y0 y2
      go_upto_region 19 with fail
      have Ld := Lib.hid HW.out.drew
      have BPd := Lib.hid HBP.out.drew
      have BNd := Lib.hid HBN.out.drew
      have HS := Lib.hid (fun (W : World) (L : Below w.heap.size w W) (B : Bk 26 W w.heap.size [.string pnm, .slice pda pdims.length pdc, .slice (some ⟨b0, o0, none⟩) pnodes.length pnc, .slice pfa pdefs.length pfc, .int .i64 proot]) (N : Bk 45 W (w.heap.size + 1) [.int .i64 8, .int .i64 pp, .int .i64 cc, .slice (some ⟨bK, oK, none⟩) kids.length kc, .slice na nums.length nc, .string name]) => (show W.cell? ⟨w.heap.size, 0, none⟩ = some (.string pnm) ∧ W.cell? ⟨w.heap.size, 1, none⟩ = some (.slice pda pdims.length pdc) ∧ W.cell? ⟨w.heap.size, 2, none⟩ = some (.slice (some ⟨b0, o0, none⟩) pnodes.length pnc) ∧ W.cell? ⟨w.heap.size, 3, none⟩ = some (.slice pfa pdefs.length pfc) ∧ W.cell? ⟨w.heap.size, 4, none⟩ = some (.int .i64 proot) ∧ W.cell? ⟨w.heap.size + 1, 3, none⟩ = some (.slice (some ⟨bK, oK, none⟩) kids.length kc) ∧ W.cell? ⟨bK, oK + j, none⟩ = some (.int .i64 (m : Int)) from ⟨B.c 0, B.c 1, B.c 2, B.c 3, B.c 4, N.c 3, (L.cell (p := ⟨bK, oK + j, none⟩) hbK).trans HCX.out⟩))
      have Kd := Lib.hid (HS.out _ Ld.out BPd.out BNd.out)
      have Le := Lib.hid ((HW.out.trans ((below_new wr (.cells #[.int .i64 0, .bool false] 37)).mono HW.out.size)).drew)
      have BPe := Lib.hid ((HBP.out.alloc (.cells #[.int .i64 0, .bool false] 37)).drew)
      have BNe := Lib.hid ((HBN.out.alloc (.cells #[.int .i64 0, .bool false] 37)).drew)
      have BGe := Lib.hid ((new_atR (t := 37) wr [.int .i64 0, .bool false] rfl).drew)
      have Ke := Lib.hid (HS.out _ Le.out BPe.out BNe.out)
      have SZ := Lib.hid (show w.heap.size + 1 < wr.heap.size from HBN.out.lt)
      go_cut [12] (fun s12 wx => s12 = .bool (scV pnodes (m : Int)).isSome ∧ Hid (Below w.heap.size w wx) ∧ Hid (Bk 26 wx w.heap.size [.string pnm, .slice pda pdims.length pdc, .slice (some ⟨b0, o0, none⟩) pnodes.length pnc, .slice pfa pdefs.length pfc, .int .i64 proot]) ∧ Hid (Bk 45 wx (w.heap.size + 1) [.int .i64 8, .int .i64 pp, .int .i64 cc, .slice (some ⟨bK, oK, none⟩) kids.length kc, .slice na nums.length nc, .string name]))
      case first =>
        go_region_held3 (fun w' => w'.cell? ⟨w.heap.size, 0, none⟩ = some (.string pnm) ∧ w'.cell? ⟨w.heap.size, 1, none⟩ = some (.slice pda pdims.length pdc) ∧ w'.cell? ⟨w.heap.size, 2, none⟩ = some (.slice (some ⟨b0, o0, none⟩) pnodes.length pnc) ∧ w'.cell? ⟨w.heap.size, 3, none⟩ = some (.slice pfa pdefs.length pfc) ∧ w'.cell? ⟨w.heap.size, 4, none⟩ = some (.int .i64 proot) ∧ w'.cell? ⟨w.heap.size + 1, 3, none⟩ = some (.slice (some ⟨bK, oK, none⟩) kids.length kc) ∧ w'.cell? ⟨bK, oK + j, none⟩ = some (.int .i64 (m : Int)))
          (first
            | with_reducible exact Kd.out
            | with_reducible exact Ke.out
            | with_reducible exact K4.out
            | with_reducible exact K3.out
            | with_reducible exact K2.out
            | go_keep)
          (first
            | (go_at_call 16; (with_reducible refine (HR.out _ Ld.out).mono ?_); rintro r w2 ⟨c1, s1, hcs, rfl, hb2⟩; have L2 := Lib.hid (Gl.below_next Ld.out hb2); have BP2 := Lib.hid (BPd.out.next hb2); have BN2 := Lib.hid (BNd.out.next hb2); have K2 := Lib.hid (HS.out _ L2.out BP2.out BN2.out); have L3 := Lib.hid (L2.out.trans ((below_new w2 (.cells #[.int .i64 c1, .bool s1] 37)).mono L2.out.size)); have BP3 := Lib.hid (BP2.out.alloc (.cells #[.int .i64 c1, .bool s1] 37)); have BN3 := Lib.hid (BN2.out.alloc (.cells #[.int .i64 c1, .bool s1] 37)); have K3 := Lib.hid (HS.out _ L3.out BP3.out BN3.out); clear hb2 hcs)
            | (go_at_call 16; (with_reducible refine (HR.out _ Le.out).mono ?_); rintro r w2 ⟨c1, s1, hcs, rfl, hb2⟩; have L2 := Lib.hid (Gl.below_next Le.out hb2); have BP2 := Lib.hid (BPe.out.next hb2); have BN2 := Lib.hid (BNe.out.next hb2); have BG2 := Lib.hid (BGe.out.next hb2); have q0 := BG2.out.c 0; have q1 := BG2.out.c 1; have r0 := BG2.out.f 0; have r1 := BG2.out.f 1; (simp only [List.getElem?_cons_zero, List.getElem?_cons_succ] at q0 q1); have K2 := Lib.hid (HS.out _ L2.out BP2.out BN2.out); have L4 := Lib.hid ((L2.out.setCell (p := ⟨wr.heap.size, 0, none⟩) (by have := SZ.out; show w.heap.size ≤ wr.heap.size; omega) (.int .i64 c1)).setCell (p := ⟨wr.heap.size, 1, none⟩) (by have := SZ.out; show w.heap.size ≤ wr.heap.size; omega) (.bool s1)); have BP4 := Lib.hid ((BP2.out.far (p := ⟨wr.heap.size, 0, none⟩) (by have := SZ.out; show w.heap.size ≠ wr.heap.size; omega) (.int .i64 c1)).far (p := ⟨wr.heap.size, 1, none⟩) (by have := SZ.out; show w.heap.size ≠ wr.heap.size; omega) (.bool s1)); have BN4 := Lib.hid ((BN2.out.far (p := ⟨wr.heap.size, 0, none⟩) (by have := SZ.out; show w.heap.size + 1 ≠ wr.heap.size; omega) (.int .i64 c1)).far (p := ⟨wr.heap.size, 1, none⟩) (by have := SZ.out; show w.heap.size + 1 ≠ wr.heap.size; omega) (.bool s1)); have K4 := Lib.hid (HS.out _ L4.out BP4.out BN4.out); clear hb2 hcs))
        all_goals (go_wp2_with fail; go_meet; (first | exact ⟨rfl, L4, BP4, BN4⟩ | exact ⟨rfl, L3, BP3, BN3⟩))
      case rest =>
      obtain ⟨rfl, LG, BPG, BNG⟩ := hcut
      generalize wc = wA at *
      obtain ⟨ok, hok⟩ : ∃ ok, (scV pnodes (m : Int)).isSome = ok := ⟨_, rfl⟩
      rw [hok] at HS1 HB ⊢
      clear hok
      cases ok with
      | true =>
        go_wp2
        go_round
        case rel => exact ⟨j + 1, by omega, by go_num, Lib.hid (by rw [HS1.out, HA.out]; rfl), LG, BPG, BNG⟩
        case measure => simp [intOf]; omega
      | false =>
        have HBF := Lib.hid (HB.out rfl)
        go_wp2
        go_ret
        exact ⟨by rw [HEV.out, HBF.out]; rfl, LG.out⟩
    · have hje : j = kids.length := by omega
      have HT : Hid (al = true) := Lib.hid (by have := HA.out; rw [hje, List.take_length] at this; rw [HAL.out]; exact this)
      have hjn : decide (j < kids.length) = false := by simp; omega
      clear hje
      go_wp2
      go_ret
      exact ⟨by rw [HEV.out, HT.out]; rfl, HW.out⟩
set_option maxHeartbeats 16000000 in
theorem ruse_91 (pnm : ByteArray) (pda : Option Addr) (pdc : Nat) (pdims : List Int) (pna : Option Addr) (pnc : Nat) (pnodes : List Nq) (pfa : Option Addr) (pfc : Nat) (pdefs : List Df) (proot : Int) (hF : Fl pnodes) (k : Nat) (pp cc : Int) (kids nums : List Int) (name : ByteArray) (ka : Option Addr) (kc : Nat) (na : Option Addr) (nc : Nat) (hq : pnodes[k]? = some ⟨⟨(9 : Int), pp, cc, kids, nums, name⟩, ka, kc, na, nc⟩) (w : World) (hp : ProgIn w ⟨pnm, pda, pdc, pdims, pna, pnc, pnodes, pfa, pfc, pdefs, proot⟩)  : Calls Tryd.prog 17 #[.agg #[.string pnm, .slice pda pdims.length pdc, .slice pna pnodes.length pnc, .slice pfa pdefs.length pfc, .int .i64 proot], .int .i64 (k : Int), .int .i64 1] w (RetBl (uM pnodes (k : Int) 1) w) := by
  have HEQ := Lib.hid (usV_eq hF.ahead hq)
  obtain ⟨b0, o0, eA, hb0, ⟨c0, c1, c2, c3, c4, c5⟩, hin⟩ := hp.2.1.at_ hq
  simp only at c0 c1 c2 c3 c4 c5 eA HEQ
  subst eA
  have hkl := (List.getElem?_eq_some_iff.1 hq).1
  have L0 := Lib.hid (below_new w (.cells #[.string pnm, .slice pda pdims.length pdc, .slice (some ⟨b0, o0, none⟩) pnodes.length pnc, .slice pfa pdefs.length pfc, .int .i64 proot] 26))
  have k0 := (L0.out.cell (p := ⟨b0, _, none⟩) hb0).trans c0
  have k1 := (L0.out.cell (p := ⟨b0, _, none⟩) hb0).trans c1
  have k2 := (L0.out.cell (p := ⟨b0, _, none⟩) hb0).trans c2
  have k3 := (L0.out.cell (p := ⟨b0, _, none⟩) hb0).trans c3
  have k4 := (L0.out.cell (p := ⟨b0, _, none⟩) hb0).trans c4
  have k5 := (L0.out.cell (p := ⟨b0, _, none⟩) hb0).trans c5
  have i0 : (0 : Int) ≤ (k : Int) := by omega
  have i1 : (k : Int) < (pnodes.length : Int) := by omega
  have e1 : (w.alloc (.cells #[.string pnm, .slice pda pdims.length pdc, .slice (some ⟨b0, o0, none⟩) pnodes.length pnc, .slice pfa pdefs.length pfc, .int .i64 proot] 26)).heap.size = w.heap.size + 1 := by simp
  have LE := Lib.hid (show Below w.heap.size w ((w.alloc (.cells #[.string pnm, .slice pda pdims.length pdc, .slice (some ⟨b0, o0, none⟩) pnodes.length pnc, .slice pfa pdefs.length pfc, .int .i64 proot] 26)).alloc (.cells #[.int .i64 9, .int .i64 pp, .int .i64 cc, .slice ka kids.length kc, .slice na nums.length nc, .string name] 45)) from below_next (below_new w _) (below_new _ _))
  have BP := Lib.hid (show Bk 26 ((w.alloc (.cells #[.string pnm, .slice pda pdims.length pdc, .slice (some ⟨b0, o0, none⟩) pnodes.length pnc, .slice pfa pdefs.length pfc, .int .i64 proot] 26)).alloc (.cells #[.int .i64 9, .int .i64 pp, .int .i64 cc, .slice ka kids.length kc, .slice na nums.length nc, .string name] 45)) w.heap.size [.string pnm, .slice pda pdims.length pdc, .slice (some ⟨b0, o0, none⟩) pnodes.length pnc, .slice pfa pdefs.length pfc, .int .i64 proot] from (Bk.new _ w _).alloc _)
  have BN := Lib.hid (show Bk 45 ((w.alloc (.cells #[.string pnm, .slice pda pdims.length pdc, .slice (some ⟨b0, o0, none⟩) pnodes.length pnc, .slice pfa pdefs.length pfc, .int .i64 proot] 26)).alloc (.cells #[.int .i64 9, .int .i64 pp, .int .i64 cc, .slice ka kids.length kc, .slice na nums.length nc, .string name] 45)) (w.heap.size + 1) [.int .i64 9, .int .i64 pp, .int .i64 cc, .slice ka kids.length kc, .slice na nums.length nc, .string name] from new_atR _ _ e1)
  have xp := (Bk.new 26 w [.string pnm, .slice pda pdims.length pdc, .slice (some ⟨b0, o0, none⟩) pnodes.length pnc, .slice pfa pdefs.length pfc, .int .i64 proot]).c 2
  simp only [List.getElem?_cons_zero, List.getElem?_cons_succ] at xp
  obtain ⟨al, hal⟩ : ∃ al, allS pnodes kids = al := ⟨_, rfl⟩
  have HEV := Lib.hid (show uM pnodes (k : Int) 1 = false by
    unfold uM
    rw [HEQ.out]
    rfl)
  have HAL : Hid (al = kids.all fun x => (scV pnodes x).isSome) := Lib.hid hal.symm
  have HSC := Lib.hid (fun m (hm : m < pnodes.length) W (hW : Below w.heap.size w W) => rscal_k ⟨pnm, pda, pdc, pdims, some ⟨b0, o0, none⟩, pnc, pnodes, pfa, pfc, pdefs, proot⟩ hF m W (hp.next hW) hm)
  unfold progV at HSC
  simp only at HSC
  have HKI := Lib.hid hin.1
  have H20 := Lib.hid (show kids.length ≤ 1000 by have : kids.length = (partsL 9).length := hF.nk hq; rw [this]; decide)
  have HINR := Lib.hid (fun x (hx : x ∈ kids) => (show InR pnodes.length x by have := hF.ahead k _ hq x hx; unfold Tr.InR; omega))
  clear HEQ hal
  clear hp hq hF hb0 c0 c1 c2 c3 c4 c5 hin hkl e1
  go_enter Tryd.func17, Tryd.ntmps17
  go_wp2_with fail
  clear k0 k1 k2 k3 k4 k5 xp
  generalize ((w.alloc (.cells #[.string pnm, .slice pda pdims.length pdc, .slice (some ⟨b0, o0, none⟩) pnodes.length pnc, .slice pfa pdefs.length pfc, .int .i64 proot] 26)).alloc (.cells #[.int .i64 9, .int .i64 pp, .int .i64 cc, .slice ka kids.length kc, .slice na nums.length nc, .string name] 45)) = wE at *
  go_loopw [10] (fun iv wr => ∃ j : Nat, j ≤ kids.length ∧ iv = .int .i64 (j : Int) ∧ Hid ((kids.take j).all fun x => (scV pnodes x).isSome) ∧ Hid (Below w.heap.size w wr) ∧ Hid (Bk 26 wr w.heap.size [.string pnm, .slice pda pdims.length pdc, .slice (some ⟨b0, o0, none⟩) pnodes.length pnc, .slice pfa pdefs.length pfc, .int .i64 proot]) ∧ Hid (Bk 45 wr (w.heap.size + 1) [.int .i64 9, .int .i64 pp, .int .i64 cc, .slice ka kids.length kc, .slice na nums.length nc, .string name])) (fun iv _ => kids.length - (intOf iv).toNat)
  case atStart => exact ⟨0, Nat.zero_le _, rfl, Lib.hid rfl, LE, BP, BN⟩
  case round =>
    obtain ⟨j, hj, rfl, HA, HW, HBP, HBN⟩ := hrel
    have y3 := HBN.out.c 3
    have y0 := HBN.out.c 0
    have y2 := HBN.out.c 2
    simp only [List.getElem?_cons_zero, List.getElem?_cons_succ] at y3 y0 y2
    by_cases hlt : j < kids.length
    · obtain ⟨x, hx⟩ : ∃ x, kids[j]? = some x := ⟨_, List.getElem?_eq_getElem hlt⟩
      have hxi := HINR.out x (List.mem_of_getElem? hx)
      obtain ⟨m, rfl⟩ : ∃ m : Nat, x = (m : Int) := ⟨x.toNat, by unfold Tr.InR at hxi; omega⟩
      have hm : m < pnodes.length := by unfold Tr.InR at hxi; omega
      obtain ⟨bK, oK, eK, hbK, hcK⟩ := HKI.out (by omega)
      subst eK
      have hcx := hcK j hlt
      rw [show kids.getD j 0 = (m : Int) by rw [List.getD_eq_getElem?_getD, hx]; rfl] at hcx
      have HCX := Lib.hid hcx
      have HR := Lib.hid (fun W hW => HSC.out m hm W hW)
      have HS1 : Hid (((kids.take (j + 1)).all fun x => (scV pnodes x).isSome) = ((kids.take j).all (fun x => (scV pnodes x).isSome) && (scV pnodes (m : Int)).isSome)) := Lib.hid (by
        rw [List.take_add_one, hx]; simp)
      have HB : Hid ((scV pnodes (m : Int)).isSome = false → al = false) := Lib.hid (fun h => by rw [HAL.out]; exact all_badP hx h)
      have i2 : (0 : Int) ≤ (j : Int) := by omega
      have i3 : (j : Int) < (kids.length : Int) := by omega
      have hjy : decide (j < kids.length) = true := by simp [hlt]
      have hsum := wrap_k j (by have := H20.out; omega)
      clear hx hcK hxi hm hcx y0 y2
      go_upto_region 19 with fail
      have Ld := Lib.hid HW.out.drew
      have BPd := Lib.hid HBP.out.drew
      have BNd := Lib.hid HBN.out.drew
      have HS := Lib.hid (fun (W : World) (L : Below w.heap.size w W) (B : Bk 26 W w.heap.size [.string pnm, .slice pda pdims.length pdc, .slice (some ⟨b0, o0, none⟩) pnodes.length pnc, .slice pfa pdefs.length pfc, .int .i64 proot]) (N : Bk 45 W (w.heap.size + 1) [.int .i64 9, .int .i64 pp, .int .i64 cc, .slice (some ⟨bK, oK, none⟩) kids.length kc, .slice na nums.length nc, .string name]) => (show W.cell? ⟨w.heap.size, 0, none⟩ = some (.string pnm) ∧ W.cell? ⟨w.heap.size, 1, none⟩ = some (.slice pda pdims.length pdc) ∧ W.cell? ⟨w.heap.size, 2, none⟩ = some (.slice (some ⟨b0, o0, none⟩) pnodes.length pnc) ∧ W.cell? ⟨w.heap.size, 3, none⟩ = some (.slice pfa pdefs.length pfc) ∧ W.cell? ⟨w.heap.size, 4, none⟩ = some (.int .i64 proot) ∧ W.cell? ⟨w.heap.size + 1, 3, none⟩ = some (.slice (some ⟨bK, oK, none⟩) kids.length kc) ∧ W.cell? ⟨bK, oK + j, none⟩ = some (.int .i64 (m : Int)) from ⟨B.c 0, B.c 1, B.c 2, B.c 3, B.c 4, N.c 3, (L.cell (p := ⟨bK, oK + j, none⟩) hbK).trans HCX.out⟩))
      have Kd := Lib.hid (HS.out _ Ld.out BPd.out BNd.out)
      have Le := Lib.hid ((HW.out.trans ((below_new wr (.cells #[.int .i64 0, .bool false] 37)).mono HW.out.size)).drew)
      have BPe := Lib.hid ((HBP.out.alloc (.cells #[.int .i64 0, .bool false] 37)).drew)
      have BNe := Lib.hid ((HBN.out.alloc (.cells #[.int .i64 0, .bool false] 37)).drew)
      have BGe := Lib.hid ((new_atR (t := 37) wr [.int .i64 0, .bool false] rfl).drew)
      have Ke := Lib.hid (HS.out _ Le.out BPe.out BNe.out)
      have SZ := Lib.hid (show w.heap.size + 1 < wr.heap.size from HBN.out.lt)
      go_cut [12] (fun s12 wx => s12 = .bool (scV pnodes (m : Int)).isSome ∧ Hid (Below w.heap.size w wx) ∧ Hid (Bk 26 wx w.heap.size [.string pnm, .slice pda pdims.length pdc, .slice (some ⟨b0, o0, none⟩) pnodes.length pnc, .slice pfa pdefs.length pfc, .int .i64 proot]) ∧ Hid (Bk 45 wx (w.heap.size + 1) [.int .i64 9, .int .i64 pp, .int .i64 cc, .slice (some ⟨bK, oK, none⟩) kids.length kc, .slice na nums.length nc, .string name]))
      case first =>
        go_region_held3 (fun w' => w'.cell? ⟨w.heap.size, 0, none⟩ = some (.string pnm) ∧ w'.cell? ⟨w.heap.size, 1, none⟩ = some (.slice pda pdims.length pdc) ∧ w'.cell? ⟨w.heap.size, 2, none⟩ = some (.slice (some ⟨b0, o0, none⟩) pnodes.length pnc) ∧ w'.cell? ⟨w.heap.size, 3, none⟩ = some (.slice pfa pdefs.length pfc) ∧ w'.cell? ⟨w.heap.size, 4, none⟩ = some (.int .i64 proot) ∧ w'.cell? ⟨w.heap.size + 1, 3, none⟩ = some (.slice (some ⟨bK, oK, none⟩) kids.length kc) ∧ w'.cell? ⟨bK, oK + j, none⟩ = some (.int .i64 (m : Int)))
          (first
            | with_reducible exact Kd.out
            | with_reducible exact Ke.out
            | with_reducible exact K4.out
            | with_reducible exact K3.out
            | with_reducible exact K2.out
            | go_keep)
          (first
            | (go_at_call 16; (with_reducible refine (HR.out _ Ld.out).mono ?_); rintro r w2 ⟨c1, s1, hcs, rfl, hb2⟩; have L2 := Lib.hid (Gl.below_next Ld.out hb2); have BP2 := Lib.hid (BPd.out.next hb2); have BN2 := Lib.hid (BNd.out.next hb2); have K2 := Lib.hid (HS.out _ L2.out BP2.out BN2.out); have L3 := Lib.hid (L2.out.trans ((below_new w2 (.cells #[.int .i64 c1, .bool s1] 37)).mono L2.out.size)); have BP3 := Lib.hid (BP2.out.alloc (.cells #[.int .i64 c1, .bool s1] 37)); have BN3 := Lib.hid (BN2.out.alloc (.cells #[.int .i64 c1, .bool s1] 37)); have K3 := Lib.hid (HS.out _ L3.out BP3.out BN3.out); clear hb2 hcs)
            | (go_at_call 16; (with_reducible refine (HR.out _ Le.out).mono ?_); rintro r w2 ⟨c1, s1, hcs, rfl, hb2⟩; have L2 := Lib.hid (Gl.below_next Le.out hb2); have BP2 := Lib.hid (BPe.out.next hb2); have BN2 := Lib.hid (BNe.out.next hb2); have BG2 := Lib.hid (BGe.out.next hb2); have q0 := BG2.out.c 0; have q1 := BG2.out.c 1; have r0 := BG2.out.f 0; have r1 := BG2.out.f 1; (simp only [List.getElem?_cons_zero, List.getElem?_cons_succ] at q0 q1); have K2 := Lib.hid (HS.out _ L2.out BP2.out BN2.out); have L4 := Lib.hid ((L2.out.setCell (p := ⟨wr.heap.size, 0, none⟩) (by have := SZ.out; show w.heap.size ≤ wr.heap.size; omega) (.int .i64 c1)).setCell (p := ⟨wr.heap.size, 1, none⟩) (by have := SZ.out; show w.heap.size ≤ wr.heap.size; omega) (.bool s1)); have BP4 := Lib.hid ((BP2.out.far (p := ⟨wr.heap.size, 0, none⟩) (by have := SZ.out; show w.heap.size ≠ wr.heap.size; omega) (.int .i64 c1)).far (p := ⟨wr.heap.size, 1, none⟩) (by have := SZ.out; show w.heap.size ≠ wr.heap.size; omega) (.bool s1)); have BN4 := Lib.hid ((BN2.out.far (p := ⟨wr.heap.size, 0, none⟩) (by have := SZ.out; show w.heap.size + 1 ≠ wr.heap.size; omega) (.int .i64 c1)).far (p := ⟨wr.heap.size, 1, none⟩) (by have := SZ.out; show w.heap.size + 1 ≠ wr.heap.size; omega) (.bool s1)); have K4 := Lib.hid (HS.out _ L4.out BP4.out BN4.out); clear hb2 hcs))
        all_goals (go_wp2_with fail; go_meet; (first | exact ⟨rfl, L4, BP4, BN4⟩ | exact ⟨rfl, L3, BP3, BN3⟩))
      case rest =>
      obtain ⟨rfl, LG, BPG, BNG⟩ := hcut
      generalize wc = wA at *
      obtain ⟨ok, hok⟩ : ∃ ok, (scV pnodes (m : Int)).isSome = ok := ⟨_, rfl⟩
      rw [hok] at HS1 HB ⊢
      clear hok
      cases ok with
      | true =>
        go_wp2
        go_round
        case rel => exact ⟨j + 1, by omega, by go_num, Lib.hid (by rw [HS1.out, HA.out]; rfl), LG, BPG, BNG⟩
        case measure => simp [intOf]; omega
      | false =>
        have HBF := Lib.hid (HB.out rfl)
        go_wp2
        go_ret
        exact ⟨by rw [HEV.out]; rfl, LG.out⟩
    · have hje : j = kids.length := by omega
      have HT : Hid (al = true) := Lib.hid (by have := HA.out; rw [hje, List.take_length] at this; rw [HAL.out]; exact this)
      have hjn : decide (j < kids.length) = false := by simp; omega
      clear hje
      go_wp2
      go_ret
      exact ⟨by rw [HEV.out]; rfl, HW.out⟩
set_option maxHeartbeats 16000000 in
theorem ruse_101 (pnm : ByteArray) (pda : Option Addr) (pdc : Nat) (pdims : List Int) (pna : Option Addr) (pnc : Nat) (pnodes : List Nq) (pfa : Option Addr) (pfc : Nat) (pdefs : List Df) (proot : Int) (hF : Fl pnodes) (k : Nat) (pp cc : Int) (kids nums : List Int) (name : ByteArray) (ka : Option Addr) (kc : Nat) (na : Option Addr) (nc : Nat) (hq : pnodes[k]? = some ⟨⟨(10 : Int), pp, cc, kids, nums, name⟩, ka, kc, na, nc⟩) (w : World) (hp : ProgIn w ⟨pnm, pda, pdc, pdims, pna, pnc, pnodes, pfa, pfc, pdefs, proot⟩)  : Calls Tryd.prog 17 #[.agg #[.string pnm, .slice pda pdims.length pdc, .slice pna pnodes.length pnc, .slice pfa pdefs.length pfc, .int .i64 proot], .int .i64 (k : Int), .int .i64 1] w (RetBl (uM pnodes (k : Int) 1) w) := by
  have HEQ := Lib.hid (usV_eq hF.ahead hq)
  obtain ⟨b0, o0, eA, hb0, ⟨c0, c1, c2, c3, c4, c5⟩, hin⟩ := hp.2.1.at_ hq
  simp only at c0 c1 c2 c3 c4 c5 eA HEQ
  subst eA
  have hkl := (List.getElem?_eq_some_iff.1 hq).1
  have L0 := Lib.hid (below_new w (.cells #[.string pnm, .slice pda pdims.length pdc, .slice (some ⟨b0, o0, none⟩) pnodes.length pnc, .slice pfa pdefs.length pfc, .int .i64 proot] 26))
  have k0 := (L0.out.cell (p := ⟨b0, _, none⟩) hb0).trans c0
  have k1 := (L0.out.cell (p := ⟨b0, _, none⟩) hb0).trans c1
  have k2 := (L0.out.cell (p := ⟨b0, _, none⟩) hb0).trans c2
  have k3 := (L0.out.cell (p := ⟨b0, _, none⟩) hb0).trans c3
  have k4 := (L0.out.cell (p := ⟨b0, _, none⟩) hb0).trans c4
  have k5 := (L0.out.cell (p := ⟨b0, _, none⟩) hb0).trans c5
  have i0 : (0 : Int) ≤ (k : Int) := by omega
  have i1 : (k : Int) < (pnodes.length : Int) := by omega
  have e1 : (w.alloc (.cells #[.string pnm, .slice pda pdims.length pdc, .slice (some ⟨b0, o0, none⟩) pnodes.length pnc, .slice pfa pdefs.length pfc, .int .i64 proot] 26)).heap.size = w.heap.size + 1 := by simp
  have LE := Lib.hid (show Below w.heap.size w ((w.alloc (.cells #[.string pnm, .slice pda pdims.length pdc, .slice (some ⟨b0, o0, none⟩) pnodes.length pnc, .slice pfa pdefs.length pfc, .int .i64 proot] 26)).alloc (.cells #[.int .i64 10, .int .i64 pp, .int .i64 cc, .slice ka kids.length kc, .slice na nums.length nc, .string name] 45)) from below_next (below_new w _) (below_new _ _))
  have BP := Lib.hid (show Bk 26 ((w.alloc (.cells #[.string pnm, .slice pda pdims.length pdc, .slice (some ⟨b0, o0, none⟩) pnodes.length pnc, .slice pfa pdefs.length pfc, .int .i64 proot] 26)).alloc (.cells #[.int .i64 10, .int .i64 pp, .int .i64 cc, .slice ka kids.length kc, .slice na nums.length nc, .string name] 45)) w.heap.size [.string pnm, .slice pda pdims.length pdc, .slice (some ⟨b0, o0, none⟩) pnodes.length pnc, .slice pfa pdefs.length pfc, .int .i64 proot] from (Bk.new _ w _).alloc _)
  have BN := Lib.hid (show Bk 45 ((w.alloc (.cells #[.string pnm, .slice pda pdims.length pdc, .slice (some ⟨b0, o0, none⟩) pnodes.length pnc, .slice pfa pdefs.length pfc, .int .i64 proot] 26)).alloc (.cells #[.int .i64 10, .int .i64 pp, .int .i64 cc, .slice ka kids.length kc, .slice na nums.length nc, .string name] 45)) (w.heap.size + 1) [.int .i64 10, .int .i64 pp, .int .i64 cc, .slice ka kids.length kc, .slice na nums.length nc, .string name] from new_atR _ _ e1)
  have xp := (Bk.new 26 w [.string pnm, .slice pda pdims.length pdc, .slice (some ⟨b0, o0, none⟩) pnodes.length pnc, .slice pfa pdefs.length pfc, .int .i64 proot]).c 2
  simp only [List.getElem?_cons_zero, List.getElem?_cons_succ] at xp
  obtain ⟨al, hal⟩ : ∃ al, allS pnodes kids = al := ⟨_, rfl⟩
  have HEV := Lib.hid (show uM pnodes (k : Int) 1 = false by
    unfold uM
    rw [HEQ.out]
    rfl)
  have HAL : Hid (al = kids.all fun x => (scV pnodes x).isSome) := Lib.hid hal.symm
  have HSC := Lib.hid (fun m (hm : m < pnodes.length) W (hW : Below w.heap.size w W) => rscal_k ⟨pnm, pda, pdc, pdims, some ⟨b0, o0, none⟩, pnc, pnodes, pfa, pfc, pdefs, proot⟩ hF m W (hp.next hW) hm)
  unfold progV at HSC
  simp only at HSC
  have HKI := Lib.hid hin.1
  have H20 := Lib.hid (show kids.length ≤ 1000 by have : kids.length = (partsL 10).length := hF.nk hq; rw [this]; decide)
  have HINR := Lib.hid (fun x (hx : x ∈ kids) => (show InR pnodes.length x by have := hF.ahead k _ hq x hx; unfold Tr.InR; omega))
  clear HEQ hal
  clear hp hq hF hb0 c0 c1 c2 c3 c4 c5 hin hkl e1
  go_enter Tryd.func17, Tryd.ntmps17
  go_wp2_with fail
  clear k0 k1 k2 k3 k4 k5 xp
  generalize ((w.alloc (.cells #[.string pnm, .slice pda pdims.length pdc, .slice (some ⟨b0, o0, none⟩) pnodes.length pnc, .slice pfa pdefs.length pfc, .int .i64 proot] 26)).alloc (.cells #[.int .i64 10, .int .i64 pp, .int .i64 cc, .slice ka kids.length kc, .slice na nums.length nc, .string name] 45)) = wE at *
  go_loopw [10] (fun iv wr => ∃ j : Nat, j ≤ kids.length ∧ iv = .int .i64 (j : Int) ∧ Hid ((kids.take j).all fun x => (scV pnodes x).isSome) ∧ Hid (Below w.heap.size w wr) ∧ Hid (Bk 26 wr w.heap.size [.string pnm, .slice pda pdims.length pdc, .slice (some ⟨b0, o0, none⟩) pnodes.length pnc, .slice pfa pdefs.length pfc, .int .i64 proot]) ∧ Hid (Bk 45 wr (w.heap.size + 1) [.int .i64 10, .int .i64 pp, .int .i64 cc, .slice ka kids.length kc, .slice na nums.length nc, .string name])) (fun iv _ => kids.length - (intOf iv).toNat)
  case atStart => exact ⟨0, Nat.zero_le _, rfl, Lib.hid rfl, LE, BP, BN⟩
  case round =>
    obtain ⟨j, hj, rfl, HA, HW, HBP, HBN⟩ := hrel
    have y3 := HBN.out.c 3
    have y0 := HBN.out.c 0
    have y2 := HBN.out.c 2
    simp only [List.getElem?_cons_zero, List.getElem?_cons_succ] at y3 y0 y2
    by_cases hlt : j < kids.length
    · obtain ⟨x, hx⟩ : ∃ x, kids[j]? = some x := ⟨_, List.getElem?_eq_getElem hlt⟩
      have hxi := HINR.out x (List.mem_of_getElem? hx)
      obtain ⟨m, rfl⟩ : ∃ m : Nat, x = (m : Int) := ⟨x.toNat, by unfold Tr.InR at hxi; omega⟩
      have hm : m < pnodes.length := by unfold Tr.InR at hxi; omega
      obtain ⟨bK, oK, eK, hbK, hcK⟩ := HKI.out (by omega)
      subst eK
      have hcx := hcK j hlt
      rw [show kids.getD j 0 = (m : Int) by rw [List.getD_eq_getElem?_getD, hx]; rfl] at hcx
      have HCX := Lib.hid hcx
      have HR := Lib.hid (fun W hW => HSC.out m hm W hW)
      have HS1 : Hid (((kids.take (j + 1)).all fun x => (scV pnodes x).isSome) = ((kids.take j).all (fun x => (scV pnodes x).isSome) && (scV pnodes (m : Int)).isSome)) := Lib.hid (by
        rw [List.take_add_one, hx]; simp)
      have HB : Hid ((scV pnodes (m : Int)).isSome = false → al = false) := Lib.hid (fun h => by rw [HAL.out]; exact all_badP hx h)
      have i2 : (0 : Int) ≤ (j : Int) := by omega
      have i3 : (j : Int) < (kids.length : Int) := by omega
      have hjy : decide (j < kids.length) = true := by simp [hlt]
      have hsum := wrap_k j (by have := H20.out; omega)
      clear hx hcK hxi hm hcx y0 y2
      go_upto_region 19 with fail
      have Ld := Lib.hid HW.out.drew
      have BPd := Lib.hid HBP.out.drew
      have BNd := Lib.hid HBN.out.drew
      have HS := Lib.hid (fun (W : World) (L : Below w.heap.size w W) (B : Bk 26 W w.heap.size [.string pnm, .slice pda pdims.length pdc, .slice (some ⟨b0, o0, none⟩) pnodes.length pnc, .slice pfa pdefs.length pfc, .int .i64 proot]) (N : Bk 45 W (w.heap.size + 1) [.int .i64 10, .int .i64 pp, .int .i64 cc, .slice (some ⟨bK, oK, none⟩) kids.length kc, .slice na nums.length nc, .string name]) => (show W.cell? ⟨w.heap.size, 0, none⟩ = some (.string pnm) ∧ W.cell? ⟨w.heap.size, 1, none⟩ = some (.slice pda pdims.length pdc) ∧ W.cell? ⟨w.heap.size, 2, none⟩ = some (.slice (some ⟨b0, o0, none⟩) pnodes.length pnc) ∧ W.cell? ⟨w.heap.size, 3, none⟩ = some (.slice pfa pdefs.length pfc) ∧ W.cell? ⟨w.heap.size, 4, none⟩ = some (.int .i64 proot) ∧ W.cell? ⟨w.heap.size + 1, 3, none⟩ = some (.slice (some ⟨bK, oK, none⟩) kids.length kc) ∧ W.cell? ⟨bK, oK + j, none⟩ = some (.int .i64 (m : Int)) from ⟨B.c 0, B.c 1, B.c 2, B.c 3, B.c 4, N.c 3, (L.cell (p := ⟨bK, oK + j, none⟩) hbK).trans HCX.out⟩))
      have Kd := Lib.hid (HS.out _ Ld.out BPd.out BNd.out)
      have Le := Lib.hid ((HW.out.trans ((below_new wr (.cells #[.int .i64 0, .bool false] 37)).mono HW.out.size)).drew)
      have BPe := Lib.hid ((HBP.out.alloc (.cells #[.int .i64 0, .bool false] 37)).drew)
      have BNe := Lib.hid ((HBN.out.alloc (.cells #[.int .i64 0, .bool false] 37)).drew)
      have BGe := Lib.hid ((new_atR (t := 37) wr [.int .i64 0, .bool false] rfl).drew)
      have Ke := Lib.hid (HS.out _ Le.out BPe.out BNe.out)
      have SZ := Lib.hid (show w.heap.size + 1 < wr.heap.size from HBN.out.lt)
      go_cut [12] (fun s12 wx => s12 = .bool (scV pnodes (m : Int)).isSome ∧ Hid (Below w.heap.size w wx) ∧ Hid (Bk 26 wx w.heap.size [.string pnm, .slice pda pdims.length pdc, .slice (some ⟨b0, o0, none⟩) pnodes.length pnc, .slice pfa pdefs.length pfc, .int .i64 proot]) ∧ Hid (Bk 45 wx (w.heap.size + 1) [.int .i64 10, .int .i64 pp, .int .i64 cc, .slice (some ⟨bK, oK, none⟩) kids.length kc, .slice na nums.length nc, .string name]))
      case first =>
        go_region_held3 (fun w' => w'.cell? ⟨w.heap.size, 0, none⟩ = some (.string pnm) ∧ w'.cell? ⟨w.heap.size, 1, none⟩ = some (.slice pda pdims.length pdc) ∧ w'.cell? ⟨w.heap.size, 2, none⟩ = some (.slice (some ⟨b0, o0, none⟩) pnodes.length pnc) ∧ w'.cell? ⟨w.heap.size, 3, none⟩ = some (.slice pfa pdefs.length pfc) ∧ w'.cell? ⟨w.heap.size, 4, none⟩ = some (.int .i64 proot) ∧ w'.cell? ⟨w.heap.size + 1, 3, none⟩ = some (.slice (some ⟨bK, oK, none⟩) kids.length kc) ∧ w'.cell? ⟨bK, oK + j, none⟩ = some (.int .i64 (m : Int)))
          (first
            | with_reducible exact Kd.out
            | with_reducible exact Ke.out
            | with_reducible exact K4.out
            | with_reducible exact K3.out
            | with_reducible exact K2.out
            | go_keep)
          (first
            | (go_at_call 16; (with_reducible refine (HR.out _ Ld.out).mono ?_); rintro r w2 ⟨c1, s1, hcs, rfl, hb2⟩; have L2 := Lib.hid (Gl.below_next Ld.out hb2); have BP2 := Lib.hid (BPd.out.next hb2); have BN2 := Lib.hid (BNd.out.next hb2); have K2 := Lib.hid (HS.out _ L2.out BP2.out BN2.out); have L3 := Lib.hid (L2.out.trans ((below_new w2 (.cells #[.int .i64 c1, .bool s1] 37)).mono L2.out.size)); have BP3 := Lib.hid (BP2.out.alloc (.cells #[.int .i64 c1, .bool s1] 37)); have BN3 := Lib.hid (BN2.out.alloc (.cells #[.int .i64 c1, .bool s1] 37)); have K3 := Lib.hid (HS.out _ L3.out BP3.out BN3.out); clear hb2 hcs)
            | (go_at_call 16; (with_reducible refine (HR.out _ Le.out).mono ?_); rintro r w2 ⟨c1, s1, hcs, rfl, hb2⟩; have L2 := Lib.hid (Gl.below_next Le.out hb2); have BP2 := Lib.hid (BPe.out.next hb2); have BN2 := Lib.hid (BNe.out.next hb2); have BG2 := Lib.hid (BGe.out.next hb2); have q0 := BG2.out.c 0; have q1 := BG2.out.c 1; have r0 := BG2.out.f 0; have r1 := BG2.out.f 1; (simp only [List.getElem?_cons_zero, List.getElem?_cons_succ] at q0 q1); have K2 := Lib.hid (HS.out _ L2.out BP2.out BN2.out); have L4 := Lib.hid ((L2.out.setCell (p := ⟨wr.heap.size, 0, none⟩) (by have := SZ.out; show w.heap.size ≤ wr.heap.size; omega) (.int .i64 c1)).setCell (p := ⟨wr.heap.size, 1, none⟩) (by have := SZ.out; show w.heap.size ≤ wr.heap.size; omega) (.bool s1)); have BP4 := Lib.hid ((BP2.out.far (p := ⟨wr.heap.size, 0, none⟩) (by have := SZ.out; show w.heap.size ≠ wr.heap.size; omega) (.int .i64 c1)).far (p := ⟨wr.heap.size, 1, none⟩) (by have := SZ.out; show w.heap.size ≠ wr.heap.size; omega) (.bool s1)); have BN4 := Lib.hid ((BN2.out.far (p := ⟨wr.heap.size, 0, none⟩) (by have := SZ.out; show w.heap.size + 1 ≠ wr.heap.size; omega) (.int .i64 c1)).far (p := ⟨wr.heap.size, 1, none⟩) (by have := SZ.out; show w.heap.size + 1 ≠ wr.heap.size; omega) (.bool s1)); have K4 := Lib.hid (HS.out _ L4.out BP4.out BN4.out); clear hb2 hcs))
        all_goals (go_wp2_with fail; go_meet; (first | exact ⟨rfl, L4, BP4, BN4⟩ | exact ⟨rfl, L3, BP3, BN3⟩))
      case rest =>
      obtain ⟨rfl, LG, BPG, BNG⟩ := hcut
      generalize wc = wA at *
      obtain ⟨ok, hok⟩ : ∃ ok, (scV pnodes (m : Int)).isSome = ok := ⟨_, rfl⟩
      rw [hok] at HS1 HB ⊢
      clear hok
      cases ok with
      | true =>
        go_wp2
        go_round
        case rel => exact ⟨j + 1, by omega, by go_num, Lib.hid (by rw [HS1.out, HA.out]; rfl), LG, BPG, BNG⟩
        case measure => simp [intOf]; omega
      | false =>
        have HBF := Lib.hid (HB.out rfl)
        go_wp2
        go_ret
        exact ⟨by rw [HEV.out]; rfl, LG.out⟩
    · have hje : j = kids.length := by omega
      have HT : Hid (al = true) := Lib.hid (by have := HA.out; rw [hje, List.take_length] at this; rw [HAL.out]; exact this)
      have hjn : decide (j < kids.length) = false := by simp; omega
      clear hje
      go_wp2
      go_ret
      exact ⟨by rw [HEV.out]; rfl, HW.out⟩
set_option maxHeartbeats 16000000 in
theorem ruse_5a2 (pnm : ByteArray) (pda : Option Addr) (pdc : Nat) (pdims : List Int) (pna : Option Addr) (pnc : Nat) (pnodes : List Nq) (pfa : Option Addr) (pfc : Nat) (pdefs : List Df) (proot : Int) (hF : Fl pnodes) (k : Nat) (pp cc : Int) (kids nums : List Int) (name : ByteArray) (ka : Option Addr) (kc : Nat) (na : Option Addr) (nc : Nat) (hq : pnodes[k]? = some ⟨⟨(5 : Int), pp, cc, kids, nums, name⟩, ka, kc, na, nc⟩) (w : World) (hp : ProgIn w ⟨pnm, pda, pdc, pdims, pna, pnc, pnodes, pfa, pfc, pdefs, proot⟩) (h20 : 1 ≤ cc ∧ cc < 20) : Calls Tryd.prog 17 #[.agg #[.string pnm, .slice pda pdims.length pdc, .slice pna pnodes.length pnc, .slice pfa pdefs.length pfc, .int .i64 proot], .int .i64 (k : Int), .int .i64 2] w (RetBl (uM pnodes (k : Int) 2) w) := by
  have HEQ := Lib.hid (usV_eq hF.ahead hq)
  obtain ⟨b0, o0, eA, hb0, ⟨c0, c1, c2, c3, c4, c5⟩, hin⟩ := hp.2.1.at_ hq
  simp only at c0 c1 c2 c3 c4 c5 eA HEQ
  subst eA
  have hkl := (List.getElem?_eq_some_iff.1 hq).1
  have L0 := Lib.hid (below_new w (.cells #[.string pnm, .slice pda pdims.length pdc, .slice (some ⟨b0, o0, none⟩) pnodes.length pnc, .slice pfa pdefs.length pfc, .int .i64 proot] 26))
  have k0 := (L0.out.cell (p := ⟨b0, _, none⟩) hb0).trans c0
  have k1 := (L0.out.cell (p := ⟨b0, _, none⟩) hb0).trans c1
  have k2 := (L0.out.cell (p := ⟨b0, _, none⟩) hb0).trans c2
  have k3 := (L0.out.cell (p := ⟨b0, _, none⟩) hb0).trans c3
  have k4 := (L0.out.cell (p := ⟨b0, _, none⟩) hb0).trans c4
  have k5 := (L0.out.cell (p := ⟨b0, _, none⟩) hb0).trans c5
  have i0 : (0 : Int) ≤ (k : Int) := by omega
  have i1 : (k : Int) < (pnodes.length : Int) := by omega
  have e1 : (w.alloc (.cells #[.string pnm, .slice pda pdims.length pdc, .slice (some ⟨b0, o0, none⟩) pnodes.length pnc, .slice pfa pdefs.length pfc, .int .i64 proot] 26)).heap.size = w.heap.size + 1 := by simp
  have LE := Lib.hid (show Below w.heap.size w ((w.alloc (.cells #[.string pnm, .slice pda pdims.length pdc, .slice (some ⟨b0, o0, none⟩) pnodes.length pnc, .slice pfa pdefs.length pfc, .int .i64 proot] 26)).alloc (.cells #[.int .i64 5, .int .i64 pp, .int .i64 cc, .slice ka kids.length kc, .slice na nums.length nc, .string name] 45)) from below_next (below_new w _) (below_new _ _))
  have BP := Lib.hid (show Bk 26 ((w.alloc (.cells #[.string pnm, .slice pda pdims.length pdc, .slice (some ⟨b0, o0, none⟩) pnodes.length pnc, .slice pfa pdefs.length pfc, .int .i64 proot] 26)).alloc (.cells #[.int .i64 5, .int .i64 pp, .int .i64 cc, .slice ka kids.length kc, .slice na nums.length nc, .string name] 45)) w.heap.size [.string pnm, .slice pda pdims.length pdc, .slice (some ⟨b0, o0, none⟩) pnodes.length pnc, .slice pfa pdefs.length pfc, .int .i64 proot] from (Bk.new _ w _).alloc _)
  have BN := Lib.hid (show Bk 45 ((w.alloc (.cells #[.string pnm, .slice pda pdims.length pdc, .slice (some ⟨b0, o0, none⟩) pnodes.length pnc, .slice pfa pdefs.length pfc, .int .i64 proot] 26)).alloc (.cells #[.int .i64 5, .int .i64 pp, .int .i64 cc, .slice ka kids.length kc, .slice na nums.length nc, .string name] 45)) (w.heap.size + 1) [.int .i64 5, .int .i64 pp, .int .i64 cc, .slice ka kids.length kc, .slice na nums.length nc, .string name] from new_atR _ _ e1)
  have xp := (Bk.new 26 w [.string pnm, .slice pda pdims.length pdc, .slice (some ⟨b0, o0, none⟩) pnodes.length pnc, .slice pfa pdefs.length pfc, .int .i64 proot]).c 2
  simp only [List.getElem?_cons_zero, List.getElem?_cons_succ] at xp
  obtain ⟨b, hb⟩ : ∃ b, Sc.hasB cc 2 = b := ⟨_, rfl⟩
  have HEV := Lib.hid (show uM pnodes (k : Int) 2 = b by
    unfold uM
    rw [HEQ.out, ← hb]
    show (prU cc).2 = _
    unfold prU
    rw [if_neg (by omega), if_neg (by omega), if_neg (by omega)])
  have HHA := Lib.hid (fun W => (Sc.rhas_any cc 2 W).mono (fun e0 w0 hr => (by rw [hb] at hr; exact hr)))
  have t20 : decide (cc < 20) = true := by simp; omega
  clear h20 hb HEQ
  clear hp hq hF hb0 c0 c1 c2 c3 c4 c5 hin hkl e1
  go_enter Tryd.func17, Tryd.ntmps17
  go_wp2_with fail
  clear k0 k1 k2 k3 k4 k5 xp
  generalize ((w.alloc (.cells #[.string pnm, .slice pda pdims.length pdc, .slice (some ⟨b0, o0, none⟩) pnodes.length pnc, .slice pfa pdefs.length pfc, .int .i64 proot] 26)).alloc (.cells #[.int .i64 5, .int .i64 pp, .int .i64 cc, .slice ka kids.length kc, .slice na nums.length nc, .string name] 45)) = wE at *
  refine (HHA.out wE).mono ?_
  rintro e w2 ⟨rfl, rfl⟩
  go_wp2
  go_ret
  exact ⟨by rw [HEV.out]; rfl, LE.out⟩
set_option maxHeartbeats 16000000 in
theorem ruse_5b2 (pnm : ByteArray) (pda : Option Addr) (pdc : Nat) (pdims : List Int) (pna : Option Addr) (pnc : Nat) (pnodes : List Nq) (pfa : Option Addr) (pfc : Nat) (pdefs : List Df) (proot : Int) (hF : Fl pnodes) (k : Nat) (pp cc : Int) (kids nums : List Int) (name : ByteArray) (ka : Option Addr) (kc : Nat) (na : Option Addr) (nc : Nat) (hq : pnodes[k]? = some ⟨⟨(5 : Int), pp, cc, kids, nums, name⟩, ka, kc, na, nc⟩) (w : World) (hp : ProgIn w ⟨pnm, pda, pdc, pdims, pna, pnc, pnodes, pfa, pfc, pdefs, proot⟩) (h20 : 20 ≤ cc) (h32 : cc ≤ 32) : Calls Tryd.prog 17 #[.agg #[.string pnm, .slice pda pdims.length pdc, .slice pna pnodes.length pnc, .slice pfa pdefs.length pfc, .int .i64 proot], .int .i64 (k : Int), .int .i64 2] w (RetBl (uM pnodes (k : Int) 2) w) := by
  have HEQ := Lib.hid (usV_eq hF.ahead hq)
  obtain ⟨b0, o0, eA, hb0, ⟨c0, c1, c2, c3, c4, c5⟩, hin⟩ := hp.2.1.at_ hq
  simp only at c0 c1 c2 c3 c4 c5 eA HEQ
  subst eA
  have hkl := (List.getElem?_eq_some_iff.1 hq).1
  have L0 := Lib.hid (below_new w (.cells #[.string pnm, .slice pda pdims.length pdc, .slice (some ⟨b0, o0, none⟩) pnodes.length pnc, .slice pfa pdefs.length pfc, .int .i64 proot] 26))
  have k0 := (L0.out.cell (p := ⟨b0, _, none⟩) hb0).trans c0
  have k1 := (L0.out.cell (p := ⟨b0, _, none⟩) hb0).trans c1
  have k2 := (L0.out.cell (p := ⟨b0, _, none⟩) hb0).trans c2
  have k3 := (L0.out.cell (p := ⟨b0, _, none⟩) hb0).trans c3
  have k4 := (L0.out.cell (p := ⟨b0, _, none⟩) hb0).trans c4
  have k5 := (L0.out.cell (p := ⟨b0, _, none⟩) hb0).trans c5
  have i0 : (0 : Int) ≤ (k : Int) := by omega
  have i1 : (k : Int) < (pnodes.length : Int) := by omega
  have e1 : (w.alloc (.cells #[.string pnm, .slice pda pdims.length pdc, .slice (some ⟨b0, o0, none⟩) pnodes.length pnc, .slice pfa pdefs.length pfc, .int .i64 proot] 26)).heap.size = w.heap.size + 1 := by simp
  have LE := Lib.hid (show Below w.heap.size w ((w.alloc (.cells #[.string pnm, .slice pda pdims.length pdc, .slice (some ⟨b0, o0, none⟩) pnodes.length pnc, .slice pfa pdefs.length pfc, .int .i64 proot] 26)).alloc (.cells #[.int .i64 5, .int .i64 pp, .int .i64 cc, .slice ka kids.length kc, .slice na nums.length nc, .string name] 45)) from below_next (below_new w _) (below_new _ _))
  have BP := Lib.hid (show Bk 26 ((w.alloc (.cells #[.string pnm, .slice pda pdims.length pdc, .slice (some ⟨b0, o0, none⟩) pnodes.length pnc, .slice pfa pdefs.length pfc, .int .i64 proot] 26)).alloc (.cells #[.int .i64 5, .int .i64 pp, .int .i64 cc, .slice ka kids.length kc, .slice na nums.length nc, .string name] 45)) w.heap.size [.string pnm, .slice pda pdims.length pdc, .slice (some ⟨b0, o0, none⟩) pnodes.length pnc, .slice pfa pdefs.length pfc, .int .i64 proot] from (Bk.new _ w _).alloc _)
  have BN := Lib.hid (show Bk 45 ((w.alloc (.cells #[.string pnm, .slice pda pdims.length pdc, .slice (some ⟨b0, o0, none⟩) pnodes.length pnc, .slice pfa pdefs.length pfc, .int .i64 proot] 26)).alloc (.cells #[.int .i64 5, .int .i64 pp, .int .i64 cc, .slice ka kids.length kc, .slice na nums.length nc, .string name] 45)) (w.heap.size + 1) [.int .i64 5, .int .i64 pp, .int .i64 cc, .slice ka kids.length kc, .slice na nums.length nc, .string name] from new_atR _ _ e1)
  have xp := (Bk.new 26 w [.string pnm, .slice pda pdims.length pdc, .slice (some ⟨b0, o0, none⟩) pnodes.length pnc, .slice pfa pdefs.length pfc, .int .i64 proot]).c 2
  simp only [List.getElem?_cons_zero, List.getElem?_cons_succ] at xp
  have HEV := Lib.hid (show uM pnodes (k : Int) 2 = (prU cc).2 by
    unfold uM
    rw [HEQ.out]
    rfl)
  clear HEQ
  clear hp hq hF hb0 c0 c1 c2 c3 c4 c5 hin hkl e1
  rcases (show cc = 20 ∨ cc = 21 ∨ cc = 22 ∨ cc = 23 ∨ cc = 24 ∨ cc = 25 ∨ cc = 26 ∨ cc = 27 ∨ cc = 28 ∨ cc = 29 ∨ cc = 30 ∨ cc = 31 ∨ cc = 32 by omega) with rfl | rfl | rfl | rfl | rfl | rfl | rfl | rfl | rfl | rfl | rfl | rfl | rfl
  all_goals
    clear h20 h32
    go_enter Tryd.func17, Tryd.ntmps17
    go_wp2
    go_ret
    exact ⟨by rw [HEV.out]; rfl, LE.out⟩
set_option maxHeartbeats 16000000 in
theorem ruse_7s2 (pnm : ByteArray) (pda : Option Addr) (pdc : Nat) (pdims : List Int) (pna : Option Addr) (pnc : Nat) (pnodes : List Nq) (pfa : Option Addr) (pfc : Nat) (pdefs : List Df) (proot : Int) (hF : Fl pnodes) (k : Nat) (pp : Int) (kids nums : List Int) (name : ByteArray) (ka : Option Addr) (kc : Nat) (na : Option Addr) (nc : Nat) (hq : pnodes[k]? = some ⟨⟨(7 : Int), pp, (38 : Int), kids, nums, name⟩, ka, kc, na, nc⟩) (w : World) (hp : ProgIn w ⟨pnm, pda, pdc, pdims, pna, pnc, pnodes, pfa, pfc, pdefs, proot⟩) (HU : ∀ m, m < k → (∃ q : Nq, pnodes[m]? = some q ∧ funI q.n.kind = true) → ∀ W, ProgIn W ⟨pnm, pda, pdc, pdims, pna, pnc, pnodes, pfa, pfc, pdefs, proot⟩ → ∀ many : Int, many = 1 ∨ many = 2 → Calls Tryd.prog 17 #[.agg #[.string pnm, .slice pda pdims.length pdc, .slice pna pnodes.length pnc, .slice pfa pdefs.length pfc, .int .i64 proot], .int .i64 (m : Int), .int .i64 many] W (RetBl (uM pnodes (m : Int) many) W)) : Calls Tryd.prog 17 #[.agg #[.string pnm, .slice pda pdims.length pdc, .slice pna pnodes.length pnc, .slice pfa pdefs.length pfc, .int .i64 proot], .int .i64 (k : Int), .int .i64 2] w (RetBl (uM pnodes (k : Int) 2) w) := by
  have hlen : kids.length = 1 := hF.nk hq
  have hin0 := hp.2.1.2 _ (List.mem_of_getElem? hq)
  obtain ⟨bK, oK, eka, hbK, hcK⟩ := hin0.1 (by simp only; omega)
  simp only at eka hcK
  subst eka
  obtain ⟨m0, q0, hx0, hkm0, hmk0, hqm0, hka0, hmay0⟩ := hF.kid hq 0 (by show 0 < (partsL 7).length; decide)
  simp only at hx0 hkm0 hmay0
  have hy0 := hcK 0 (by omega)
  rw [show kids.getD 0 0 = (m0 : Int) by rw [List.getD_eq_getElem?_getD, hx0]; rfl] at hy0
  have HY0 := Lib.hid hy0
  have HEQ := Lib.hid (usV_eq hF.ahead hq)
  obtain ⟨b0, o0, eA, hb0, ⟨c0, c1, c2, c3, c4, c5⟩, hin⟩ := hp.2.1.at_ hq
  simp only at c0 c1 c2 c3 c4 c5 eA HEQ
  subst eA
  have hkl := (List.getElem?_eq_some_iff.1 hq).1
  have L0 := Lib.hid (below_new w (.cells #[.string pnm, .slice pda pdims.length pdc, .slice (some ⟨b0, o0, none⟩) pnodes.length pnc, .slice pfa pdefs.length pfc, .int .i64 proot] 26))
  have k0 := (L0.out.cell (p := ⟨b0, _, none⟩) hb0).trans c0
  have k1 := (L0.out.cell (p := ⟨b0, _, none⟩) hb0).trans c1
  have k2 := (L0.out.cell (p := ⟨b0, _, none⟩) hb0).trans c2
  have k3 := (L0.out.cell (p := ⟨b0, _, none⟩) hb0).trans c3
  have k4 := (L0.out.cell (p := ⟨b0, _, none⟩) hb0).trans c4
  have k5 := (L0.out.cell (p := ⟨b0, _, none⟩) hb0).trans c5
  have i0 : (0 : Int) ≤ (k : Int) := by omega
  have i1 : (k : Int) < (pnodes.length : Int) := by omega
  have e1 : (w.alloc (.cells #[.string pnm, .slice pda pdims.length pdc, .slice (some ⟨b0, o0, none⟩) pnodes.length pnc, .slice pfa pdefs.length pfc, .int .i64 proot] 26)).heap.size = w.heap.size + 1 := by simp
  have LE := Lib.hid (show Below w.heap.size w ((w.alloc (.cells #[.string pnm, .slice pda pdims.length pdc, .slice (some ⟨b0, o0, none⟩) pnodes.length pnc, .slice pfa pdefs.length pfc, .int .i64 proot] 26)).alloc (.cells #[.int .i64 7, .int .i64 pp, .int .i64 38, .slice (some ⟨bK, oK, none⟩) kids.length kc, .slice na nums.length nc, .string name] 45)) from below_next (below_new w _) (below_new _ _))
  have BP := Lib.hid (show Bk 26 ((w.alloc (.cells #[.string pnm, .slice pda pdims.length pdc, .slice (some ⟨b0, o0, none⟩) pnodes.length pnc, .slice pfa pdefs.length pfc, .int .i64 proot] 26)).alloc (.cells #[.int .i64 7, .int .i64 pp, .int .i64 38, .slice (some ⟨bK, oK, none⟩) kids.length kc, .slice na nums.length nc, .string name] 45)) w.heap.size [.string pnm, .slice pda pdims.length pdc, .slice (some ⟨b0, o0, none⟩) pnodes.length pnc, .slice pfa pdefs.length pfc, .int .i64 proot] from (Bk.new _ w _).alloc _)
  have BN := Lib.hid (show Bk 45 ((w.alloc (.cells #[.string pnm, .slice pda pdims.length pdc, .slice (some ⟨b0, o0, none⟩) pnodes.length pnc, .slice pfa pdefs.length pfc, .int .i64 proot] 26)).alloc (.cells #[.int .i64 7, .int .i64 pp, .int .i64 38, .slice (some ⟨bK, oK, none⟩) kids.length kc, .slice na nums.length nc, .string name] 45)) (w.heap.size + 1) [.int .i64 7, .int .i64 pp, .int .i64 38, .slice (some ⟨bK, oK, none⟩) kids.length kc, .slice na nums.length nc, .string name] from new_atR _ _ e1)
  have xp := (Bk.new 26 w [.string pnm, .slice pda pdims.length pdc, .slice (some ⟨b0, o0, none⟩) pnodes.length pnc, .slice pfa pdefs.length pfc, .int .i64 proot]).c 2
  simp only [List.getElem?_cons_zero, List.getElem?_cons_succ] at xp
  have hf0 : funI q0.n.kind = true := hmay0
  have HR := Lib.hid (fun W (hW : Below w.heap.size w W) => HU m0 hmk0 ⟨q0, hqm0, hf0⟩ W (hp.next hW) 2 (.inr rfl))
  have HEV := Lib.hid (show uM pnodes (k : Int) 2 = uM pnodes (m0 : Int) 2 by
    unfold uM
    rw [HEQ.out, ← hkm0]
    rfl)
  have j0 : (0 : Int) < (kids.length : Int) := by omega
  have j1 : 0 < kids.length := by omega
  clear HU hcK hy0 hx0 hkm0 hqm0 hka0 hmay0 hlen hmk0 hf0 HEQ hin0
  clear hp hq hF hb0 c0 c1 c2 c3 c4 c5 hin hkl e1
  go_enter Tryd.func17, Tryd.ntmps17
  go_upto_region 15 with fail
  clear k0 k1 k2 k3 k4 k5 xp
  generalize ((w.alloc (.cells #[.string pnm, .slice pda pdims.length pdc, .slice (some ⟨b0, o0, none⟩) pnodes.length pnc, .slice pfa pdefs.length pfc, .int .i64 proot] 26)).alloc (.cells #[.int .i64 7, .int .i64 pp, .int .i64 38, .slice (some ⟨bK, oK, none⟩) kids.length kc, .slice na nums.length nc, .string name] 45)) = wE at *
  have Ld := Lib.hid LE.out.drew
  have BPd := Lib.hid BP.out.drew
  have BNd := Lib.hid BN.out.drew
  have HS := Lib.hid (fun (W : World) (L : Below w.heap.size w W) (B : Bk 26 W w.heap.size [.string pnm, .slice pda pdims.length pdc, .slice (some ⟨b0, o0, none⟩) pnodes.length pnc, .slice pfa pdefs.length pfc, .int .i64 proot]) (N : Bk 45 W (w.heap.size + 1) [.int .i64 7, .int .i64 pp, .int .i64 38, .slice (some ⟨bK, oK, none⟩) kids.length kc, .slice na nums.length nc, .string name]) => (show W.cell? ⟨w.heap.size, 0, none⟩ = some (.string pnm) ∧ W.cell? ⟨w.heap.size, 1, none⟩ = some (.slice pda pdims.length pdc) ∧ W.cell? ⟨w.heap.size, 2, none⟩ = some (.slice (some ⟨b0, o0, none⟩) pnodes.length pnc) ∧ W.cell? ⟨w.heap.size, 3, none⟩ = some (.slice pfa pdefs.length pfc) ∧ W.cell? ⟨w.heap.size, 4, none⟩ = some (.int .i64 proot) ∧ W.cell? ⟨w.heap.size + 1, 3, none⟩ = some (.slice (some ⟨bK, oK, none⟩) kids.length kc) ∧ W.cell? ⟨bK, oK, none⟩ = some (.int .i64 (m0 : Int)) from ⟨B.c 0, B.c 1, B.c 2, B.c 3, B.c 4, N.c 3, (L.cell (p := ⟨bK, oK + 0, none⟩) hbK).trans HY0.out⟩))
  have Kd := Lib.hid (HS.out _ Ld.out BPd.out BNd.out)
  go_region_held3 (fun w' => w'.cell? ⟨w.heap.size, 0, none⟩ = some (.string pnm) ∧ w'.cell? ⟨w.heap.size, 1, none⟩ = some (.slice pda pdims.length pdc) ∧ w'.cell? ⟨w.heap.size, 2, none⟩ = some (.slice (some ⟨b0, o0, none⟩) pnodes.length pnc) ∧ w'.cell? ⟨w.heap.size, 3, none⟩ = some (.slice pfa pdefs.length pfc) ∧ w'.cell? ⟨w.heap.size, 4, none⟩ = some (.int .i64 proot) ∧ w'.cell? ⟨w.heap.size + 1, 3, none⟩ = some (.slice (some ⟨bK, oK, none⟩) kids.length kc) ∧ w'.cell? ⟨bK, oK, none⟩ = some (.int .i64 (m0 : Int)))
    (first
      | with_reducible exact Kd.out
      | with_reducible exact K2.out
      | go_keep)
    (first
      | (go_at_call 17; (with_reducible refine (HR.out _ Ld.out).mono ?_); rintro r w2 ⟨rfl, hb2⟩; have L2 := Lib.hid (Gl.below_next Ld.out hb2); have BP2 := Lib.hid (BPd.out.next hb2); have BN2 := Lib.hid (BNd.out.next hb2); have K2 := Lib.hid (HS.out _ L2.out BP2.out BN2.out); clear hb2))
  go_wp2
  go_ret
  exact ⟨by rw [HEV.out]; rfl, L2.out⟩
set_option maxHeartbeats 16000000 in
theorem ruse_72 (pnm : ByteArray) (pda : Option Addr) (pdc : Nat) (pdims : List Int) (pna : Option Addr) (pnc : Nat) (pnodes : List Nq) (pfa : Option Addr) (pfc : Nat) (pdefs : List Df) (proot : Int) (hF : Fl pnodes) (k : Nat) (pp cc : Int) (kids nums : List Int) (name : ByteArray) (ka : Option Addr) (kc : Nat) (na : Option Addr) (nc : Nat) (hq : pnodes[k]? = some ⟨⟨(7 : Int), pp, cc, kids, nums, name⟩, ka, kc, na, nc⟩) (w : World) (hp : ProgIn w ⟨pnm, pda, pdc, pdims, pna, pnc, pnodes, pfa, pfc, pdefs, proot⟩) (h38 : cc ≠ 38) : Calls Tryd.prog 17 #[.agg #[.string pnm, .slice pda pdims.length pdc, .slice pna pnodes.length pnc, .slice pfa pdefs.length pfc, .int .i64 proot], .int .i64 (k : Int), .int .i64 2] w (RetBl (uM pnodes (k : Int) 2) w) := by
  have HEQ := Lib.hid (usV_eq hF.ahead hq)
  obtain ⟨b0, o0, eA, hb0, ⟨c0, c1, c2, c3, c4, c5⟩, hin⟩ := hp.2.1.at_ hq
  simp only at c0 c1 c2 c3 c4 c5 eA HEQ
  subst eA
  have hkl := (List.getElem?_eq_some_iff.1 hq).1
  have L0 := Lib.hid (below_new w (.cells #[.string pnm, .slice pda pdims.length pdc, .slice (some ⟨b0, o0, none⟩) pnodes.length pnc, .slice pfa pdefs.length pfc, .int .i64 proot] 26))
  have k0 := (L0.out.cell (p := ⟨b0, _, none⟩) hb0).trans c0
  have k1 := (L0.out.cell (p := ⟨b0, _, none⟩) hb0).trans c1
  have k2 := (L0.out.cell (p := ⟨b0, _, none⟩) hb0).trans c2
  have k3 := (L0.out.cell (p := ⟨b0, _, none⟩) hb0).trans c3
  have k4 := (L0.out.cell (p := ⟨b0, _, none⟩) hb0).trans c4
  have k5 := (L0.out.cell (p := ⟨b0, _, none⟩) hb0).trans c5
  have i0 : (0 : Int) ≤ (k : Int) := by omega
  have i1 : (k : Int) < (pnodes.length : Int) := by omega
  have e1 : (w.alloc (.cells #[.string pnm, .slice pda pdims.length pdc, .slice (some ⟨b0, o0, none⟩) pnodes.length pnc, .slice pfa pdefs.length pfc, .int .i64 proot] 26)).heap.size = w.heap.size + 1 := by simp
  have LE := Lib.hid (show Below w.heap.size w ((w.alloc (.cells #[.string pnm, .slice pda pdims.length pdc, .slice (some ⟨b0, o0, none⟩) pnodes.length pnc, .slice pfa pdefs.length pfc, .int .i64 proot] 26)).alloc (.cells #[.int .i64 7, .int .i64 pp, .int .i64 cc, .slice ka kids.length kc, .slice na nums.length nc, .string name] 45)) from below_next (below_new w _) (below_new _ _))
  have BP := Lib.hid (show Bk 26 ((w.alloc (.cells #[.string pnm, .slice pda pdims.length pdc, .slice (some ⟨b0, o0, none⟩) pnodes.length pnc, .slice pfa pdefs.length pfc, .int .i64 proot] 26)).alloc (.cells #[.int .i64 7, .int .i64 pp, .int .i64 cc, .slice ka kids.length kc, .slice na nums.length nc, .string name] 45)) w.heap.size [.string pnm, .slice pda pdims.length pdc, .slice (some ⟨b0, o0, none⟩) pnodes.length pnc, .slice pfa pdefs.length pfc, .int .i64 proot] from (Bk.new _ w _).alloc _)
  have BN := Lib.hid (show Bk 45 ((w.alloc (.cells #[.string pnm, .slice pda pdims.length pdc, .slice (some ⟨b0, o0, none⟩) pnodes.length pnc, .slice pfa pdefs.length pfc, .int .i64 proot] 26)).alloc (.cells #[.int .i64 7, .int .i64 pp, .int .i64 cc, .slice ka kids.length kc, .slice na nums.length nc, .string name] 45)) (w.heap.size + 1) [.int .i64 7, .int .i64 pp, .int .i64 cc, .slice ka kids.length kc, .slice na nums.length nc, .string name] from new_atR _ _ e1)
  have xp := (Bk.new 26 w [.string pnm, .slice pda pdims.length pdc, .slice (some ⟨b0, o0, none⟩) pnodes.length pnc, .slice pfa pdefs.length pfc, .int .i64 proot]).c 2
  simp only [List.getElem?_cons_zero, List.getElem?_cons_succ] at xp
  obtain ⟨al, hal⟩ : ∃ al, allS pnodes kids = al := ⟨_, rfl⟩
  have HEV := Lib.hid (show uM pnodes (k : Int) 2 = (al && decide (cc = 32)) by
    unfold uM
    rw [HEQ.out]
    show (opU pnodes ⟨(7 : Int), pp, cc, kids, nums, name⟩ (usV pnodes)).2 = _
    unfold opU
    simp only
    rw [if_neg h38, hal]
    by_cases h32 : cc = 32
    · rw [if_pos h32] <;> simp [h32]
    · rw [if_neg h32] <;> simp [h32])
  have HAL : Hid (al = kids.all fun x => (scV pnodes x).isSome) := Lib.hid hal.symm
  have HSC := Lib.hid (fun m (hm : m < pnodes.length) W (hW : Below w.heap.size w W) => rscal_k ⟨pnm, pda, pdc, pdims, some ⟨b0, o0, none⟩, pnc, pnodes, pfa, pfc, pdefs, proot⟩ hF m W (hp.next hW) hm)
  unfold progV at HSC
  simp only at HSC
  have HKI := Lib.hid hin.1
  have H20 := Lib.hid (show kids.length ≤ 1000 by have : kids.length = (partsL 7).length := hF.nk hq; rw [this]; decide)
  have HINR := Lib.hid (fun x (hx : x ∈ kids) => (show InR pnodes.length x by have := hF.ahead k _ hq x hx; unfold Tr.InR; omega))
  have u38 : (cc == 38) = false := by simp [h38]
  have t38 : decide (cc = 38) = false := by simp [h38]
  clear HEQ hal h38
  clear hp hq hF hb0 c0 c1 c2 c3 c4 c5 hin hkl e1
  go_enter Tryd.func17, Tryd.ntmps17
  go_wp2_with fail
  clear k0 k1 k2 k3 k4 k5 xp
  generalize ((w.alloc (.cells #[.string pnm, .slice pda pdims.length pdc, .slice (some ⟨b0, o0, none⟩) pnodes.length pnc, .slice pfa pdefs.length pfc, .int .i64 proot] 26)).alloc (.cells #[.int .i64 7, .int .i64 pp, .int .i64 cc, .slice ka kids.length kc, .slice na nums.length nc, .string name] 45)) = wE at *
  go_loopw [10] (fun iv wr => ∃ j : Nat, j ≤ kids.length ∧ iv = .int .i64 (j : Int) ∧ Hid ((kids.take j).all fun x => (scV pnodes x).isSome) ∧ Hid (Below w.heap.size w wr) ∧ Hid (Bk 26 wr w.heap.size [.string pnm, .slice pda pdims.length pdc, .slice (some ⟨b0, o0, none⟩) pnodes.length pnc, .slice pfa pdefs.length pfc, .int .i64 proot]) ∧ Hid (Bk 45 wr (w.heap.size + 1) [.int .i64 7, .int .i64 pp, .int .i64 cc, .slice ka kids.length kc, .slice na nums.length nc, .string name])) (fun iv _ => kids.length - (intOf iv).toNat)
  case atStart => exact ⟨0, Nat.zero_le _, rfl, Lib.hid rfl, LE, BP, BN⟩
  case round =>
    obtain ⟨j, hj, rfl, HA, HW, HBP, HBN⟩ := hrel
    have y3 := HBN.out.c 3
    have y0 := HBN.out.c 0
    have y2 := HBN.out.c 2
    simp only [List.getElem?_cons_zero, List.getElem?_cons_succ] at y3 y0 y2
    by_cases hlt : j < kids.length
    · obtain ⟨x, hx⟩ : ∃ x, kids[j]? = some x := ⟨_, List.getElem?_eq_getElem hlt⟩
      have hxi := HINR.out x (List.mem_of_getElem? hx)
      obtain ⟨m, rfl⟩ : ∃ m : Nat, x = (m : Int) := ⟨x.toNat, by unfold Tr.InR at hxi; omega⟩
      have hm : m < pnodes.length := by unfold Tr.InR at hxi; omega
      obtain ⟨bK, oK, eK, hbK, hcK⟩ := HKI.out (by omega)
      subst eK
      have hcx := hcK j hlt
      rw [show kids.getD j 0 = (m : Int) by rw [List.getD_eq_getElem?_getD, hx]; rfl] at hcx
      have HCX := Lib.hid hcx
      have HR := Lib.hid (fun W hW => HSC.out m hm W hW)
      have HS1 : Hid (((kids.take (j + 1)).all fun x => (scV pnodes x).isSome) = ((kids.take j).all (fun x => (scV pnodes x).isSome) && (scV pnodes (m : Int)).isSome)) := Lib.hid (by
        rw [List.take_add_one, hx]; simp)
      have HB : Hid ((scV pnodes (m : Int)).isSome = false → al = false) := Lib.hid (fun h => by rw [HAL.out]; exact all_badP hx h)
      have i2 : (0 : Int) ≤ (j : Int) := by omega
      have i3 : (j : Int) < (kids.length : Int) := by omega
      have hjy : decide (j < kids.length) = true := by simp [hlt]
      have hsum := wrap_k j (by have := H20.out; omega)
      clear hx hcK hxi hm hcx y0 y2
      go_upto_region 19 with fail
      have Ld := Lib.hid HW.out.drew
      have BPd := Lib.hid HBP.out.drew
      have BNd := Lib.hid HBN.out.drew
      have HS := Lib.hid (fun (W : World) (L : Below w.heap.size w W) (B : Bk 26 W w.heap.size [.string pnm, .slice pda pdims.length pdc, .slice (some ⟨b0, o0, none⟩) pnodes.length pnc, .slice pfa pdefs.length pfc, .int .i64 proot]) (N : Bk 45 W (w.heap.size + 1) [.int .i64 7, .int .i64 pp, .int .i64 cc, .slice (some ⟨bK, oK, none⟩) kids.length kc, .slice na nums.length nc, .string name]) => (show W.cell? ⟨w.heap.size, 0, none⟩ = some (.string pnm) ∧ W.cell? ⟨w.heap.size, 1, none⟩ = some (.slice pda pdims.length pdc) ∧ W.cell? ⟨w.heap.size, 2, none⟩ = some (.slice (some ⟨b0, o0, none⟩) pnodes.length pnc) ∧ W.cell? ⟨w.heap.size, 3, none⟩ = some (.slice pfa pdefs.length pfc) ∧ W.cell? ⟨w.heap.size, 4, none⟩ = some (.int .i64 proot) ∧ W.cell? ⟨w.heap.size + 1, 3, none⟩ = some (.slice (some ⟨bK, oK, none⟩) kids.length kc) ∧ W.cell? ⟨bK, oK + j, none⟩ = some (.int .i64 (m : Int)) from ⟨B.c 0, B.c 1, B.c 2, B.c 3, B.c 4, N.c 3, (L.cell (p := ⟨bK, oK + j, none⟩) hbK).trans HCX.out⟩))
      have Kd := Lib.hid (HS.out _ Ld.out BPd.out BNd.out)
      have Le := Lib.hid ((HW.out.trans ((below_new wr (.cells #[.int .i64 0, .bool false] 37)).mono HW.out.size)).drew)
      have BPe := Lib.hid ((HBP.out.alloc (.cells #[.int .i64 0, .bool false] 37)).drew)
      have BNe := Lib.hid ((HBN.out.alloc (.cells #[.int .i64 0, .bool false] 37)).drew)
      have BGe := Lib.hid ((new_atR (t := 37) wr [.int .i64 0, .bool false] rfl).drew)
      have Ke := Lib.hid (HS.out _ Le.out BPe.out BNe.out)
      have SZ := Lib.hid (show w.heap.size + 1 < wr.heap.size from HBN.out.lt)
      go_cut [12] (fun s12 wx => s12 = .bool (scV pnodes (m : Int)).isSome ∧ Hid (Below w.heap.size w wx) ∧ Hid (Bk 26 wx w.heap.size [.string pnm, .slice pda pdims.length pdc, .slice (some ⟨b0, o0, none⟩) pnodes.length pnc, .slice pfa pdefs.length pfc, .int .i64 proot]) ∧ Hid (Bk 45 wx (w.heap.size + 1) [.int .i64 7, .int .i64 pp, .int .i64 cc, .slice (some ⟨bK, oK, none⟩) kids.length kc, .slice na nums.length nc, .string name]))
      case first =>
        go_region_held3 (fun w' => w'.cell? ⟨w.heap.size, 0, none⟩ = some (.string pnm) ∧ w'.cell? ⟨w.heap.size, 1, none⟩ = some (.slice pda pdims.length pdc) ∧ w'.cell? ⟨w.heap.size, 2, none⟩ = some (.slice (some ⟨b0, o0, none⟩) pnodes.length pnc) ∧ w'.cell? ⟨w.heap.size, 3, none⟩ = some (.slice pfa pdefs.length pfc) ∧ w'.cell? ⟨w.heap.size, 4, none⟩ = some (.int .i64 proot) ∧ w'.cell? ⟨w.heap.size + 1, 3, none⟩ = some (.slice (some ⟨bK, oK, none⟩) kids.length kc) ∧ w'.cell? ⟨bK, oK + j, none⟩ = some (.int .i64 (m : Int)))
          (first
            | with_reducible exact Kd.out
            | with_reducible exact Ke.out
            | with_reducible exact K4.out
            | with_reducible exact K3.out
            | with_reducible exact K2.out
            | go_keep)
          (first
            | (go_at_call 16; (with_reducible refine (HR.out _ Ld.out).mono ?_); rintro r w2 ⟨c1, s1, hcs, rfl, hb2⟩; have L2 := Lib.hid (Gl.below_next Ld.out hb2); have BP2 := Lib.hid (BPd.out.next hb2); have BN2 := Lib.hid (BNd.out.next hb2); have K2 := Lib.hid (HS.out _ L2.out BP2.out BN2.out); have L3 := Lib.hid (L2.out.trans ((below_new w2 (.cells #[.int .i64 c1, .bool s1] 37)).mono L2.out.size)); have BP3 := Lib.hid (BP2.out.alloc (.cells #[.int .i64 c1, .bool s1] 37)); have BN3 := Lib.hid (BN2.out.alloc (.cells #[.int .i64 c1, .bool s1] 37)); have K3 := Lib.hid (HS.out _ L3.out BP3.out BN3.out); clear hb2 hcs)
            | (go_at_call 16; (with_reducible refine (HR.out _ Le.out).mono ?_); rintro r w2 ⟨c1, s1, hcs, rfl, hb2⟩; have L2 := Lib.hid (Gl.below_next Le.out hb2); have BP2 := Lib.hid (BPe.out.next hb2); have BN2 := Lib.hid (BNe.out.next hb2); have BG2 := Lib.hid (BGe.out.next hb2); have q0 := BG2.out.c 0; have q1 := BG2.out.c 1; have r0 := BG2.out.f 0; have r1 := BG2.out.f 1; (simp only [List.getElem?_cons_zero, List.getElem?_cons_succ] at q0 q1); have K2 := Lib.hid (HS.out _ L2.out BP2.out BN2.out); have L4 := Lib.hid ((L2.out.setCell (p := ⟨wr.heap.size, 0, none⟩) (by have := SZ.out; show w.heap.size ≤ wr.heap.size; omega) (.int .i64 c1)).setCell (p := ⟨wr.heap.size, 1, none⟩) (by have := SZ.out; show w.heap.size ≤ wr.heap.size; omega) (.bool s1)); have BP4 := Lib.hid ((BP2.out.far (p := ⟨wr.heap.size, 0, none⟩) (by have := SZ.out; show w.heap.size ≠ wr.heap.size; omega) (.int .i64 c1)).far (p := ⟨wr.heap.size, 1, none⟩) (by have := SZ.out; show w.heap.size ≠ wr.heap.size; omega) (.bool s1)); have BN4 := Lib.hid ((BN2.out.far (p := ⟨wr.heap.size, 0, none⟩) (by have := SZ.out; show w.heap.size + 1 ≠ wr.heap.size; omega) (.int .i64 c1)).far (p := ⟨wr.heap.size, 1, none⟩) (by have := SZ.out; show w.heap.size + 1 ≠ wr.heap.size; omega) (.bool s1)); have K4 := Lib.hid (HS.out _ L4.out BP4.out BN4.out); clear hb2 hcs))
        all_goals (go_wp2_with fail; go_meet; (first | exact ⟨rfl, L4, BP4, BN4⟩ | exact ⟨rfl, L3, BP3, BN3⟩))
      case rest =>
      obtain ⟨rfl, LG, BPG, BNG⟩ := hcut
      generalize wc = wA at *
      obtain ⟨ok, hok⟩ : ∃ ok, (scV pnodes (m : Int)).isSome = ok := ⟨_, rfl⟩
      rw [hok] at HS1 HB ⊢
      clear hok
      cases ok with
      | true =>
        go_wp2
        go_round
        case rel => exact ⟨j + 1, by omega, by go_num, Lib.hid (by rw [HS1.out, HA.out]; rfl), LG, BPG, BNG⟩
        case measure => simp [intOf]; omega
      | false =>
        have HBF := Lib.hid (HB.out rfl)
        go_wp2
        go_ret
        exact ⟨by rw [HEV.out, HBF.out]; rfl, LG.out⟩
    · have hje : j = kids.length := by omega
      have HT : Hid (al = true) := Lib.hid (by have := HA.out; rw [hje, List.take_length] at this; rw [HAL.out]; exact this)
      have hjn : decide (j < kids.length) = false := by simp; omega
      clear hje
      by_cases h32 : cc = 32
      · have u32 : (cc == 32) = true := by simp [h32]
        have HV := Lib.hid (show uM pnodes (k : Int) 2 = true by rw [HEV.out, HT.out]; simp [h32])
        clear h32
        go_wp2
        go_ret
        exact ⟨by rw [HV.out]; rfl, HW.out⟩
      · have u32 : (cc == 32) = false := by simp [h32]
        have HV := Lib.hid (show uM pnodes (k : Int) 2 = false by rw [HEV.out, HT.out]; simp [h32])
        clear h32
        go_wp2
        go_ret
        exact ⟨by rw [HV.out]; rfl, HW.out⟩
set_option maxHeartbeats 16000000 in
theorem ruse_82 (pnm : ByteArray) (pda : Option Addr) (pdc : Nat) (pdims : List Int) (pna : Option Addr) (pnc : Nat) (pnodes : List Nq) (pfa : Option Addr) (pfc : Nat) (pdefs : List Df) (proot : Int) (hF : Fl pnodes) (k : Nat) (pp cc : Int) (kids nums : List Int) (name : ByteArray) (ka : Option Addr) (kc : Nat) (na : Option Addr) (nc : Nat) (hq : pnodes[k]? = some ⟨⟨(8 : Int), pp, cc, kids, nums, name⟩, ka, kc, na, nc⟩) (w : World) (hp : ProgIn w ⟨pnm, pda, pdc, pdims, pna, pnc, pnodes, pfa, pfc, pdefs, proot⟩)  : Calls Tryd.prog 17 #[.agg #[.string pnm, .slice pda pdims.length pdc, .slice pna pnodes.length pnc, .slice pfa pdefs.length pfc, .int .i64 proot], .int .i64 (k : Int), .int .i64 2] w (RetBl (uM pnodes (k : Int) 2) w) := by
  have HEQ := Lib.hid (usV_eq hF.ahead hq)
  obtain ⟨b0, o0, eA, hb0, ⟨c0, c1, c2, c3, c4, c5⟩, hin⟩ := hp.2.1.at_ hq
  simp only at c0 c1 c2 c3 c4 c5 eA HEQ
  subst eA
  have hkl := (List.getElem?_eq_some_iff.1 hq).1
  have L0 := Lib.hid (below_new w (.cells #[.string pnm, .slice pda pdims.length pdc, .slice (some ⟨b0, o0, none⟩) pnodes.length pnc, .slice pfa pdefs.length pfc, .int .i64 proot] 26))
  have k0 := (L0.out.cell (p := ⟨b0, _, none⟩) hb0).trans c0
  have k1 := (L0.out.cell (p := ⟨b0, _, none⟩) hb0).trans c1
  have k2 := (L0.out.cell (p := ⟨b0, _, none⟩) hb0).trans c2
  have k3 := (L0.out.cell (p := ⟨b0, _, none⟩) hb0).trans c3
  have k4 := (L0.out.cell (p := ⟨b0, _, none⟩) hb0).trans c4
  have k5 := (L0.out.cell (p := ⟨b0, _, none⟩) hb0).trans c5
  have i0 : (0 : Int) ≤ (k : Int) := by omega
  have i1 : (k : Int) < (pnodes.length : Int) := by omega
  have e1 : (w.alloc (.cells #[.string pnm, .slice pda pdims.length pdc, .slice (some ⟨b0, o0, none⟩) pnodes.length pnc, .slice pfa pdefs.length pfc, .int .i64 proot] 26)).heap.size = w.heap.size + 1 := by simp
  have LE := Lib.hid (show Below w.heap.size w ((w.alloc (.cells #[.string pnm, .slice pda pdims.length pdc, .slice (some ⟨b0, o0, none⟩) pnodes.length pnc, .slice pfa pdefs.length pfc, .int .i64 proot] 26)).alloc (.cells #[.int .i64 8, .int .i64 pp, .int .i64 cc, .slice ka kids.length kc, .slice na nums.length nc, .string name] 45)) from below_next (below_new w _) (below_new _ _))
  have BP := Lib.hid (show Bk 26 ((w.alloc (.cells #[.string pnm, .slice pda pdims.length pdc, .slice (some ⟨b0, o0, none⟩) pnodes.length pnc, .slice pfa pdefs.length pfc, .int .i64 proot] 26)).alloc (.cells #[.int .i64 8, .int .i64 pp, .int .i64 cc, .slice ka kids.length kc, .slice na nums.length nc, .string name] 45)) w.heap.size [.string pnm, .slice pda pdims.length pdc, .slice (some ⟨b0, o0, none⟩) pnodes.length pnc, .slice pfa pdefs.length pfc, .int .i64 proot] from (Bk.new _ w _).alloc _)
  have BN := Lib.hid (show Bk 45 ((w.alloc (.cells #[.string pnm, .slice pda pdims.length pdc, .slice (some ⟨b0, o0, none⟩) pnodes.length pnc, .slice pfa pdefs.length pfc, .int .i64 proot] 26)).alloc (.cells #[.int .i64 8, .int .i64 pp, .int .i64 cc, .slice ka kids.length kc, .slice na nums.length nc, .string name] 45)) (w.heap.size + 1) [.int .i64 8, .int .i64 pp, .int .i64 cc, .slice ka kids.length kc, .slice na nums.length nc, .string name] from new_atR _ _ e1)
  have xp := (Bk.new 26 w [.string pnm, .slice pda pdims.length pdc, .slice (some ⟨b0, o0, none⟩) pnodes.length pnc, .slice pfa pdefs.length pfc, .int .i64 proot]).c 2
  simp only [List.getElem?_cons_zero, List.getElem?_cons_succ] at xp
  obtain ⟨al, hal⟩ : ∃ al, allS pnodes kids = al := ⟨_, rfl⟩
  have HEV := Lib.hid (show uM pnodes (k : Int) 2 = false by
    unfold uM
    rw [HEQ.out]
    rfl)
  have HAL : Hid (al = kids.all fun x => (scV pnodes x).isSome) := Lib.hid hal.symm
  have HSC := Lib.hid (fun m (hm : m < pnodes.length) W (hW : Below w.heap.size w W) => rscal_k ⟨pnm, pda, pdc, pdims, some ⟨b0, o0, none⟩, pnc, pnodes, pfa, pfc, pdefs, proot⟩ hF m W (hp.next hW) hm)
  unfold progV at HSC
  simp only at HSC
  have HKI := Lib.hid hin.1
  have H20 := Lib.hid (show kids.length ≤ 1000 by have : kids.length = (partsL 8).length := hF.nk hq; rw [this]; decide)
  have HINR := Lib.hid (fun x (hx : x ∈ kids) => (show InR pnodes.length x by have := hF.ahead k _ hq x hx; unfold Tr.InR; omega))
  clear HEQ hal
  clear hp hq hF hb0 c0 c1 c2 c3 c4 c5 hin hkl e1
  go_enter Tryd.func17, Tryd.ntmps17
  go_wp2_with fail
  clear k0 k1 k2 k3 k4 k5 xp
  generalize ((w.alloc (.cells #[.string pnm, .slice pda pdims.length pdc, .slice (some ⟨b0, o0, none⟩) pnodes.length pnc, .slice pfa pdefs.length pfc, .int .i64 proot] 26)).alloc (.cells #[.int .i64 8, .int .i64 pp, .int .i64 cc, .slice ka kids.length kc, .slice na nums.length nc, .string name] 45)) = wE at *
  go_loopw [10] (fun iv wr => ∃ j : Nat, j ≤ kids.length ∧ iv = .int .i64 (j : Int) ∧ Hid ((kids.take j).all fun x => (scV pnodes x).isSome) ∧ Hid (Below w.heap.size w wr) ∧ Hid (Bk 26 wr w.heap.size [.string pnm, .slice pda pdims.length pdc, .slice (some ⟨b0, o0, none⟩) pnodes.length pnc, .slice pfa pdefs.length pfc, .int .i64 proot]) ∧ Hid (Bk 45 wr (w.heap.size + 1) [.int .i64 8, .int .i64 pp, .int .i64 cc, .slice ka kids.length kc, .slice na nums.length nc, .string name])) (fun iv _ => kids.length - (intOf iv).toNat)
  case atStart => exact ⟨0, Nat.zero_le _, rfl, Lib.hid rfl, LE, BP, BN⟩
  case round =>
    obtain ⟨j, hj, rfl, HA, HW, HBP, HBN⟩ := hrel
    have y3 := HBN.out.c 3
    have y0 := HBN.out.c 0
    have y2 := HBN.out.c 2
    simp only [List.getElem?_cons_zero, List.getElem?_cons_succ] at y3 y0 y2
    by_cases hlt : j < kids.length
    · obtain ⟨x, hx⟩ : ∃ x, kids[j]? = some x := ⟨_, List.getElem?_eq_getElem hlt⟩
      have hxi := HINR.out x (List.mem_of_getElem? hx)
      obtain ⟨m, rfl⟩ : ∃ m : Nat, x = (m : Int) := ⟨x.toNat, by unfold Tr.InR at hxi; omega⟩
      have hm : m < pnodes.length := by unfold Tr.InR at hxi; omega
      obtain ⟨bK, oK, eK, hbK, hcK⟩ := HKI.out (by omega)
      subst eK
      have hcx := hcK j hlt
      rw [show kids.getD j 0 = (m : Int) by rw [List.getD_eq_getElem?_getD, hx]; rfl] at hcx
      have HCX := Lib.hid hcx
      have HR := Lib.hid (fun W hW => HSC.out m hm W hW)
      have HS1 : Hid (((kids.take (j + 1)).all fun x => (scV pnodes x).isSome) = ((kids.take j).all (fun x => (scV pnodes x).isSome) && (scV pnodes (m : Int)).isSome)) := Lib.hid (by
        rw [List.take_add_one, hx]; simp)
      have HB : Hid ((scV pnodes (m : Int)).isSome = false → al = false) := Lib.hid (fun h => by rw [HAL.out]; exact all_badP hx h)
      have i2 : (0 : Int) ≤ (j : Int) := by omega
      have i3 : (j : Int) < (kids.length : Int) := by omega
      have hjy : decide (j < kids.length) = true := by simp [hlt]
      have hsum := wrap_k j (by have := H20.out; omega)
      clear hx hcK hxi hm hcx y0 y2
      go_upto_region 19 with fail
      have Ld := Lib.hid HW.out.drew
      have BPd := Lib.hid HBP.out.drew
      have BNd := Lib.hid HBN.out.drew
      have HS := Lib.hid (fun (W : World) (L : Below w.heap.size w W) (B : Bk 26 W w.heap.size [.string pnm, .slice pda pdims.length pdc, .slice (some ⟨b0, o0, none⟩) pnodes.length pnc, .slice pfa pdefs.length pfc, .int .i64 proot]) (N : Bk 45 W (w.heap.size + 1) [.int .i64 8, .int .i64 pp, .int .i64 cc, .slice (some ⟨bK, oK, none⟩) kids.length kc, .slice na nums.length nc, .string name]) => (show W.cell? ⟨w.heap.size, 0, none⟩ = some (.string pnm) ∧ W.cell? ⟨w.heap.size, 1, none⟩ = some (.slice pda pdims.length pdc) ∧ W.cell? ⟨w.heap.size, 2, none⟩ = some (.slice (some ⟨b0, o0, none⟩) pnodes.length pnc) ∧ W.cell? ⟨w.heap.size, 3, none⟩ = some (.slice pfa pdefs.length pfc) ∧ W.cell? ⟨w.heap.size, 4, none⟩ = some (.int .i64 proot) ∧ W.cell? ⟨w.heap.size + 1, 3, none⟩ = some (.slice (some ⟨bK, oK, none⟩) kids.length kc) ∧ W.cell? ⟨bK, oK + j, none⟩ = some (.int .i64 (m : Int)) from ⟨B.c 0, B.c 1, B.c 2, B.c 3, B.c 4, N.c 3, (L.cell (p := ⟨bK, oK + j, none⟩) hbK).trans HCX.out⟩))
      have Kd := Lib.hid (HS.out _ Ld.out BPd.out BNd.out)
      have Le := Lib.hid ((HW.out.trans ((below_new wr (.cells #[.int .i64 0, .bool false] 37)).mono HW.out.size)).drew)
      have BPe := Lib.hid ((HBP.out.alloc (.cells #[.int .i64 0, .bool false] 37)).drew)
      have BNe := Lib.hid ((HBN.out.alloc (.cells #[.int .i64 0, .bool false] 37)).drew)
      have BGe := Lib.hid ((new_atR (t := 37) wr [.int .i64 0, .bool false] rfl).drew)
      have Ke := Lib.hid (HS.out _ Le.out BPe.out BNe.out)
      have SZ := Lib.hid (show w.heap.size + 1 < wr.heap.size from HBN.out.lt)
      go_cut [12] (fun s12 wx => s12 = .bool (scV pnodes (m : Int)).isSome ∧ Hid (Below w.heap.size w wx) ∧ Hid (Bk 26 wx w.heap.size [.string pnm, .slice pda pdims.length pdc, .slice (some ⟨b0, o0, none⟩) pnodes.length pnc, .slice pfa pdefs.length pfc, .int .i64 proot]) ∧ Hid (Bk 45 wx (w.heap.size + 1) [.int .i64 8, .int .i64 pp, .int .i64 cc, .slice (some ⟨bK, oK, none⟩) kids.length kc, .slice na nums.length nc, .string name]))
      case first =>
        go_region_held3 (fun w' => w'.cell? ⟨w.heap.size, 0, none⟩ = some (.string pnm) ∧ w'.cell? ⟨w.heap.size, 1, none⟩ = some (.slice pda pdims.length pdc) ∧ w'.cell? ⟨w.heap.size, 2, none⟩ = some (.slice (some ⟨b0, o0, none⟩) pnodes.length pnc) ∧ w'.cell? ⟨w.heap.size, 3, none⟩ = some (.slice pfa pdefs.length pfc) ∧ w'.cell? ⟨w.heap.size, 4, none⟩ = some (.int .i64 proot) ∧ w'.cell? ⟨w.heap.size + 1, 3, none⟩ = some (.slice (some ⟨bK, oK, none⟩) kids.length kc) ∧ w'.cell? ⟨bK, oK + j, none⟩ = some (.int .i64 (m : Int)))
          (first
            | with_reducible exact Kd.out
            | with_reducible exact Ke.out
            | with_reducible exact K4.out
            | with_reducible exact K3.out
            | with_reducible exact K2.out
            | go_keep)
          (first
            | (go_at_call 16; (with_reducible refine (HR.out _ Ld.out).mono ?_); rintro r w2 ⟨c1, s1, hcs, rfl, hb2⟩; have L2 := Lib.hid (Gl.below_next Ld.out hb2); have BP2 := Lib.hid (BPd.out.next hb2); have BN2 := Lib.hid (BNd.out.next hb2); have K2 := Lib.hid (HS.out _ L2.out BP2.out BN2.out); have L3 := Lib.hid (L2.out.trans ((below_new w2 (.cells #[.int .i64 c1, .bool s1] 37)).mono L2.out.size)); have BP3 := Lib.hid (BP2.out.alloc (.cells #[.int .i64 c1, .bool s1] 37)); have BN3 := Lib.hid (BN2.out.alloc (.cells #[.int .i64 c1, .bool s1] 37)); have K3 := Lib.hid (HS.out _ L3.out BP3.out BN3.out); clear hb2 hcs)
            | (go_at_call 16; (with_reducible refine (HR.out _ Le.out).mono ?_); rintro r w2 ⟨c1, s1, hcs, rfl, hb2⟩; have L2 := Lib.hid (Gl.below_next Le.out hb2); have BP2 := Lib.hid (BPe.out.next hb2); have BN2 := Lib.hid (BNe.out.next hb2); have BG2 := Lib.hid (BGe.out.next hb2); have q0 := BG2.out.c 0; have q1 := BG2.out.c 1; have r0 := BG2.out.f 0; have r1 := BG2.out.f 1; (simp only [List.getElem?_cons_zero, List.getElem?_cons_succ] at q0 q1); have K2 := Lib.hid (HS.out _ L2.out BP2.out BN2.out); have L4 := Lib.hid ((L2.out.setCell (p := ⟨wr.heap.size, 0, none⟩) (by have := SZ.out; show w.heap.size ≤ wr.heap.size; omega) (.int .i64 c1)).setCell (p := ⟨wr.heap.size, 1, none⟩) (by have := SZ.out; show w.heap.size ≤ wr.heap.size; omega) (.bool s1)); have BP4 := Lib.hid ((BP2.out.far (p := ⟨wr.heap.size, 0, none⟩) (by have := SZ.out; show w.heap.size ≠ wr.heap.size; omega) (.int .i64 c1)).far (p := ⟨wr.heap.size, 1, none⟩) (by have := SZ.out; show w.heap.size ≠ wr.heap.size; omega) (.bool s1)); have BN4 := Lib.hid ((BN2.out.far (p := ⟨wr.heap.size, 0, none⟩) (by have := SZ.out; show w.heap.size + 1 ≠ wr.heap.size; omega) (.int .i64 c1)).far (p := ⟨wr.heap.size, 1, none⟩) (by have := SZ.out; show w.heap.size + 1 ≠ wr.heap.size; omega) (.bool s1)); have K4 := Lib.hid (HS.out _ L4.out BP4.out BN4.out); clear hb2 hcs))
        all_goals (go_wp2_with fail; go_meet; (first | exact ⟨rfl, L4, BP4, BN4⟩ | exact ⟨rfl, L3, BP3, BN3⟩))
      case rest =>
      obtain ⟨rfl, LG, BPG, BNG⟩ := hcut
      generalize wc = wA at *
      obtain ⟨ok, hok⟩ : ∃ ok, (scV pnodes (m : Int)).isSome = ok := ⟨_, rfl⟩
      rw [hok] at HS1 HB ⊢
      clear hok
      cases ok with
      | true =>
        go_wp2
        go_round
        case rel => exact ⟨j + 1, by omega, by go_num, Lib.hid (by rw [HS1.out, HA.out]; rfl), LG, BPG, BNG⟩
        case measure => simp [intOf]; omega
      | false =>
        have HBF := Lib.hid (HB.out rfl)
        go_wp2
        go_ret
        exact ⟨by rw [HEV.out]; rfl, LG.out⟩
    · have hje : j = kids.length := by omega
      have HT : Hid (al = true) := Lib.hid (by have := HA.out; rw [hje, List.take_length] at this; rw [HAL.out]; exact this)
      have hjn : decide (j < kids.length) = false := by simp; omega
      clear hje
      go_wp2
      go_ret
      exact ⟨by rw [HEV.out]; rfl, HW.out⟩
set_option maxHeartbeats 16000000 in
theorem ruse_92 (pnm : ByteArray) (pda : Option Addr) (pdc : Nat) (pdims : List Int) (pna : Option Addr) (pnc : Nat) (pnodes : List Nq) (pfa : Option Addr) (pfc : Nat) (pdefs : List Df) (proot : Int) (hF : Fl pnodes) (k : Nat) (pp cc : Int) (kids nums : List Int) (name : ByteArray) (ka : Option Addr) (kc : Nat) (na : Option Addr) (nc : Nat) (hq : pnodes[k]? = some ⟨⟨(9 : Int), pp, cc, kids, nums, name⟩, ka, kc, na, nc⟩) (w : World) (hp : ProgIn w ⟨pnm, pda, pdc, pdims, pna, pnc, pnodes, pfa, pfc, pdefs, proot⟩)  : Calls Tryd.prog 17 #[.agg #[.string pnm, .slice pda pdims.length pdc, .slice pna pnodes.length pnc, .slice pfa pdefs.length pfc, .int .i64 proot], .int .i64 (k : Int), .int .i64 2] w (RetBl (uM pnodes (k : Int) 2) w) := by
  have HEQ := Lib.hid (usV_eq hF.ahead hq)
  obtain ⟨b0, o0, eA, hb0, ⟨c0, c1, c2, c3, c4, c5⟩, hin⟩ := hp.2.1.at_ hq
  simp only at c0 c1 c2 c3 c4 c5 eA HEQ
  subst eA
  have hkl := (List.getElem?_eq_some_iff.1 hq).1
  have L0 := Lib.hid (below_new w (.cells #[.string pnm, .slice pda pdims.length pdc, .slice (some ⟨b0, o0, none⟩) pnodes.length pnc, .slice pfa pdefs.length pfc, .int .i64 proot] 26))
  have k0 := (L0.out.cell (p := ⟨b0, _, none⟩) hb0).trans c0
  have k1 := (L0.out.cell (p := ⟨b0, _, none⟩) hb0).trans c1
  have k2 := (L0.out.cell (p := ⟨b0, _, none⟩) hb0).trans c2
  have k3 := (L0.out.cell (p := ⟨b0, _, none⟩) hb0).trans c3
  have k4 := (L0.out.cell (p := ⟨b0, _, none⟩) hb0).trans c4
  have k5 := (L0.out.cell (p := ⟨b0, _, none⟩) hb0).trans c5
  have i0 : (0 : Int) ≤ (k : Int) := by omega
  have i1 : (k : Int) < (pnodes.length : Int) := by omega
  have e1 : (w.alloc (.cells #[.string pnm, .slice pda pdims.length pdc, .slice (some ⟨b0, o0, none⟩) pnodes.length pnc, .slice pfa pdefs.length pfc, .int .i64 proot] 26)).heap.size = w.heap.size + 1 := by simp
  have LE := Lib.hid (show Below w.heap.size w ((w.alloc (.cells #[.string pnm, .slice pda pdims.length pdc, .slice (some ⟨b0, o0, none⟩) pnodes.length pnc, .slice pfa pdefs.length pfc, .int .i64 proot] 26)).alloc (.cells #[.int .i64 9, .int .i64 pp, .int .i64 cc, .slice ka kids.length kc, .slice na nums.length nc, .string name] 45)) from below_next (below_new w _) (below_new _ _))
  have BP := Lib.hid (show Bk 26 ((w.alloc (.cells #[.string pnm, .slice pda pdims.length pdc, .slice (some ⟨b0, o0, none⟩) pnodes.length pnc, .slice pfa pdefs.length pfc, .int .i64 proot] 26)).alloc (.cells #[.int .i64 9, .int .i64 pp, .int .i64 cc, .slice ka kids.length kc, .slice na nums.length nc, .string name] 45)) w.heap.size [.string pnm, .slice pda pdims.length pdc, .slice (some ⟨b0, o0, none⟩) pnodes.length pnc, .slice pfa pdefs.length pfc, .int .i64 proot] from (Bk.new _ w _).alloc _)
  have BN := Lib.hid (show Bk 45 ((w.alloc (.cells #[.string pnm, .slice pda pdims.length pdc, .slice (some ⟨b0, o0, none⟩) pnodes.length pnc, .slice pfa pdefs.length pfc, .int .i64 proot] 26)).alloc (.cells #[.int .i64 9, .int .i64 pp, .int .i64 cc, .slice ka kids.length kc, .slice na nums.length nc, .string name] 45)) (w.heap.size + 1) [.int .i64 9, .int .i64 pp, .int .i64 cc, .slice ka kids.length kc, .slice na nums.length nc, .string name] from new_atR _ _ e1)
  have xp := (Bk.new 26 w [.string pnm, .slice pda pdims.length pdc, .slice (some ⟨b0, o0, none⟩) pnodes.length pnc, .slice pfa pdefs.length pfc, .int .i64 proot]).c 2
  simp only [List.getElem?_cons_zero, List.getElem?_cons_succ] at xp
  obtain ⟨al, hal⟩ : ∃ al, allS pnodes kids = al := ⟨_, rfl⟩
  have HEV := Lib.hid (show uM pnodes (k : Int) 2 = al by
    unfold uM
    rw [HEQ.out, ← hal]
    rfl)
  have HAL : Hid (al = kids.all fun x => (scV pnodes x).isSome) := Lib.hid hal.symm
  have HSC := Lib.hid (fun m (hm : m < pnodes.length) W (hW : Below w.heap.size w W) => rscal_k ⟨pnm, pda, pdc, pdims, some ⟨b0, o0, none⟩, pnc, pnodes, pfa, pfc, pdefs, proot⟩ hF m W (hp.next hW) hm)
  unfold progV at HSC
  simp only at HSC
  have HKI := Lib.hid hin.1
  have H20 := Lib.hid (show kids.length ≤ 1000 by have : kids.length = (partsL 9).length := hF.nk hq; rw [this]; decide)
  have HINR := Lib.hid (fun x (hx : x ∈ kids) => (show InR pnodes.length x by have := hF.ahead k _ hq x hx; unfold Tr.InR; omega))
  clear HEQ hal
  clear hp hq hF hb0 c0 c1 c2 c3 c4 c5 hin hkl e1
  go_enter Tryd.func17, Tryd.ntmps17
  go_wp2_with fail
  clear k0 k1 k2 k3 k4 k5 xp
  generalize ((w.alloc (.cells #[.string pnm, .slice pda pdims.length pdc, .slice (some ⟨b0, o0, none⟩) pnodes.length pnc, .slice pfa pdefs.length pfc, .int .i64 proot] 26)).alloc (.cells #[.int .i64 9, .int .i64 pp, .int .i64 cc, .slice ka kids.length kc, .slice na nums.length nc, .string name] 45)) = wE at *
  go_loopw [10] (fun iv wr => ∃ j : Nat, j ≤ kids.length ∧ iv = .int .i64 (j : Int) ∧ Hid ((kids.take j).all fun x => (scV pnodes x).isSome) ∧ Hid (Below w.heap.size w wr) ∧ Hid (Bk 26 wr w.heap.size [.string pnm, .slice pda pdims.length pdc, .slice (some ⟨b0, o0, none⟩) pnodes.length pnc, .slice pfa pdefs.length pfc, .int .i64 proot]) ∧ Hid (Bk 45 wr (w.heap.size + 1) [.int .i64 9, .int .i64 pp, .int .i64 cc, .slice ka kids.length kc, .slice na nums.length nc, .string name])) (fun iv _ => kids.length - (intOf iv).toNat)
  case atStart => exact ⟨0, Nat.zero_le _, rfl, Lib.hid rfl, LE, BP, BN⟩
  case round =>
    obtain ⟨j, hj, rfl, HA, HW, HBP, HBN⟩ := hrel
    have y3 := HBN.out.c 3
    have y0 := HBN.out.c 0
    have y2 := HBN.out.c 2
    simp only [List.getElem?_cons_zero, List.getElem?_cons_succ] at y3 y0 y2
    by_cases hlt : j < kids.length
    · obtain ⟨x, hx⟩ : ∃ x, kids[j]? = some x := ⟨_, List.getElem?_eq_getElem hlt⟩
      have hxi := HINR.out x (List.mem_of_getElem? hx)
      obtain ⟨m, rfl⟩ : ∃ m : Nat, x = (m : Int) := ⟨x.toNat, by unfold Tr.InR at hxi; omega⟩
      have hm : m < pnodes.length := by unfold Tr.InR at hxi; omega
      obtain ⟨bK, oK, eK, hbK, hcK⟩ := HKI.out (by omega)
      subst eK
      have hcx := hcK j hlt
      rw [show kids.getD j 0 = (m : Int) by rw [List.getD_eq_getElem?_getD, hx]; rfl] at hcx
      have HCX := Lib.hid hcx
      have HR := Lib.hid (fun W hW => HSC.out m hm W hW)
      have HS1 : Hid (((kids.take (j + 1)).all fun x => (scV pnodes x).isSome) = ((kids.take j).all (fun x => (scV pnodes x).isSome) && (scV pnodes (m : Int)).isSome)) := Lib.hid (by
        rw [List.take_add_one, hx]; simp)
      have HB : Hid ((scV pnodes (m : Int)).isSome = false → al = false) := Lib.hid (fun h => by rw [HAL.out]; exact all_badP hx h)
      have i2 : (0 : Int) ≤ (j : Int) := by omega
      have i3 : (j : Int) < (kids.length : Int) := by omega
      have hjy : decide (j < kids.length) = true := by simp [hlt]
      have hsum := wrap_k j (by have := H20.out; omega)
      clear hx hcK hxi hm hcx y0 y2
      go_upto_region 19 with fail
      have Ld := Lib.hid HW.out.drew
      have BPd := Lib.hid HBP.out.drew
      have BNd := Lib.hid HBN.out.drew
      have HS := Lib.hid (fun (W : World) (L : Below w.heap.size w W) (B : Bk 26 W w.heap.size [.string pnm, .slice pda pdims.length pdc, .slice (some ⟨b0, o0, none⟩) pnodes.length pnc, .slice pfa pdefs.length pfc, .int .i64 proot]) (N : Bk 45 W (w.heap.size + 1) [.int .i64 9, .int .i64 pp, .int .i64 cc, .slice (some ⟨bK, oK, none⟩) kids.length kc, .slice na nums.length nc, .string name]) => (show W.cell? ⟨w.heap.size, 0, none⟩ = some (.string pnm) ∧ W.cell? ⟨w.heap.size, 1, none⟩ = some (.slice pda pdims.length pdc) ∧ W.cell? ⟨w.heap.size, 2, none⟩ = some (.slice (some ⟨b0, o0, none⟩) pnodes.length pnc) ∧ W.cell? ⟨w.heap.size, 3, none⟩ = some (.slice pfa pdefs.length pfc) ∧ W.cell? ⟨w.heap.size, 4, none⟩ = some (.int .i64 proot) ∧ W.cell? ⟨w.heap.size + 1, 3, none⟩ = some (.slice (some ⟨bK, oK, none⟩) kids.length kc) ∧ W.cell? ⟨bK, oK + j, none⟩ = some (.int .i64 (m : Int)) from ⟨B.c 0, B.c 1, B.c 2, B.c 3, B.c 4, N.c 3, (L.cell (p := ⟨bK, oK + j, none⟩) hbK).trans HCX.out⟩))
      have Kd := Lib.hid (HS.out _ Ld.out BPd.out BNd.out)
      have Le := Lib.hid ((HW.out.trans ((below_new wr (.cells #[.int .i64 0, .bool false] 37)).mono HW.out.size)).drew)
      have BPe := Lib.hid ((HBP.out.alloc (.cells #[.int .i64 0, .bool false] 37)).drew)
      have BNe := Lib.hid ((HBN.out.alloc (.cells #[.int .i64 0, .bool false] 37)).drew)
      have BGe := Lib.hid ((new_atR (t := 37) wr [.int .i64 0, .bool false] rfl).drew)
      have Ke := Lib.hid (HS.out _ Le.out BPe.out BNe.out)
      have SZ := Lib.hid (show w.heap.size + 1 < wr.heap.size from HBN.out.lt)
      go_cut [12] (fun s12 wx => s12 = .bool (scV pnodes (m : Int)).isSome ∧ Hid (Below w.heap.size w wx) ∧ Hid (Bk 26 wx w.heap.size [.string pnm, .slice pda pdims.length pdc, .slice (some ⟨b0, o0, none⟩) pnodes.length pnc, .slice pfa pdefs.length pfc, .int .i64 proot]) ∧ Hid (Bk 45 wx (w.heap.size + 1) [.int .i64 9, .int .i64 pp, .int .i64 cc, .slice (some ⟨bK, oK, none⟩) kids.length kc, .slice na nums.length nc, .string name]))
      case first =>
        go_region_held3 (fun w' => w'.cell? ⟨w.heap.size, 0, none⟩ = some (.string pnm) ∧ w'.cell? ⟨w.heap.size, 1, none⟩ = some (.slice pda pdims.length pdc) ∧ w'.cell? ⟨w.heap.size, 2, none⟩ = some (.slice (some ⟨b0, o0, none⟩) pnodes.length pnc) ∧ w'.cell? ⟨w.heap.size, 3, none⟩ = some (.slice pfa pdefs.length pfc) ∧ w'.cell? ⟨w.heap.size, 4, none⟩ = some (.int .i64 proot) ∧ w'.cell? ⟨w.heap.size + 1, 3, none⟩ = some (.slice (some ⟨bK, oK, none⟩) kids.length kc) ∧ w'.cell? ⟨bK, oK + j, none⟩ = some (.int .i64 (m : Int)))
          (first
            | with_reducible exact Kd.out
            | with_reducible exact Ke.out
            | with_reducible exact K4.out
            | with_reducible exact K3.out
            | with_reducible exact K2.out
            | go_keep)
          (first
            | (go_at_call 16; (with_reducible refine (HR.out _ Ld.out).mono ?_); rintro r w2 ⟨c1, s1, hcs, rfl, hb2⟩; have L2 := Lib.hid (Gl.below_next Ld.out hb2); have BP2 := Lib.hid (BPd.out.next hb2); have BN2 := Lib.hid (BNd.out.next hb2); have K2 := Lib.hid (HS.out _ L2.out BP2.out BN2.out); have L3 := Lib.hid (L2.out.trans ((below_new w2 (.cells #[.int .i64 c1, .bool s1] 37)).mono L2.out.size)); have BP3 := Lib.hid (BP2.out.alloc (.cells #[.int .i64 c1, .bool s1] 37)); have BN3 := Lib.hid (BN2.out.alloc (.cells #[.int .i64 c1, .bool s1] 37)); have K3 := Lib.hid (HS.out _ L3.out BP3.out BN3.out); clear hb2 hcs)
            | (go_at_call 16; (with_reducible refine (HR.out _ Le.out).mono ?_); rintro r w2 ⟨c1, s1, hcs, rfl, hb2⟩; have L2 := Lib.hid (Gl.below_next Le.out hb2); have BP2 := Lib.hid (BPe.out.next hb2); have BN2 := Lib.hid (BNe.out.next hb2); have BG2 := Lib.hid (BGe.out.next hb2); have q0 := BG2.out.c 0; have q1 := BG2.out.c 1; have r0 := BG2.out.f 0; have r1 := BG2.out.f 1; (simp only [List.getElem?_cons_zero, List.getElem?_cons_succ] at q0 q1); have K2 := Lib.hid (HS.out _ L2.out BP2.out BN2.out); have L4 := Lib.hid ((L2.out.setCell (p := ⟨wr.heap.size, 0, none⟩) (by have := SZ.out; show w.heap.size ≤ wr.heap.size; omega) (.int .i64 c1)).setCell (p := ⟨wr.heap.size, 1, none⟩) (by have := SZ.out; show w.heap.size ≤ wr.heap.size; omega) (.bool s1)); have BP4 := Lib.hid ((BP2.out.far (p := ⟨wr.heap.size, 0, none⟩) (by have := SZ.out; show w.heap.size ≠ wr.heap.size; omega) (.int .i64 c1)).far (p := ⟨wr.heap.size, 1, none⟩) (by have := SZ.out; show w.heap.size ≠ wr.heap.size; omega) (.bool s1)); have BN4 := Lib.hid ((BN2.out.far (p := ⟨wr.heap.size, 0, none⟩) (by have := SZ.out; show w.heap.size + 1 ≠ wr.heap.size; omega) (.int .i64 c1)).far (p := ⟨wr.heap.size, 1, none⟩) (by have := SZ.out; show w.heap.size + 1 ≠ wr.heap.size; omega) (.bool s1)); have K4 := Lib.hid (HS.out _ L4.out BP4.out BN4.out); clear hb2 hcs))
        all_goals (go_wp2_with fail; go_meet; (first | exact ⟨rfl, L4, BP4, BN4⟩ | exact ⟨rfl, L3, BP3, BN3⟩))
      case rest =>
      obtain ⟨rfl, LG, BPG, BNG⟩ := hcut
      generalize wc = wA at *
      obtain ⟨ok, hok⟩ : ∃ ok, (scV pnodes (m : Int)).isSome = ok := ⟨_, rfl⟩
      rw [hok] at HS1 HB ⊢
      clear hok
      cases ok with
      | true =>
        go_wp2
        go_round
        case rel => exact ⟨j + 1, by omega, by go_num, Lib.hid (by rw [HS1.out, HA.out]; rfl), LG, BPG, BNG⟩
        case measure => simp [intOf]; omega
      | false =>
        have HBF := Lib.hid (HB.out rfl)
        go_wp2
        go_ret
        exact ⟨by rw [HEV.out, HBF.out]; rfl, LG.out⟩
    · have hje : j = kids.length := by omega
      have HT : Hid (al = true) := Lib.hid (by have := HA.out; rw [hje, List.take_length] at this; rw [HAL.out]; exact this)
      have hjn : decide (j < kids.length) = false := by simp; omega
      clear hje
      go_wp2
      go_ret
      exact ⟨by rw [HEV.out, HT.out]; rfl, HW.out⟩
set_option maxHeartbeats 16000000 in
theorem ruse_102 (pnm : ByteArray) (pda : Option Addr) (pdc : Nat) (pdims : List Int) (pna : Option Addr) (pnc : Nat) (pnodes : List Nq) (pfa : Option Addr) (pfc : Nat) (pdefs : List Df) (proot : Int) (hF : Fl pnodes) (k : Nat) (pp cc : Int) (kids nums : List Int) (name : ByteArray) (ka : Option Addr) (kc : Nat) (na : Option Addr) (nc : Nat) (hq : pnodes[k]? = some ⟨⟨(10 : Int), pp, cc, kids, nums, name⟩, ka, kc, na, nc⟩) (w : World) (hp : ProgIn w ⟨pnm, pda, pdc, pdims, pna, pnc, pnodes, pfa, pfc, pdefs, proot⟩)  : Calls Tryd.prog 17 #[.agg #[.string pnm, .slice pda pdims.length pdc, .slice pna pnodes.length pnc, .slice pfa pdefs.length pfc, .int .i64 proot], .int .i64 (k : Int), .int .i64 2] w (RetBl (uM pnodes (k : Int) 2) w) := by
  have HEQ := Lib.hid (usV_eq hF.ahead hq)
  obtain ⟨b0, o0, eA, hb0, ⟨c0, c1, c2, c3, c4, c5⟩, hin⟩ := hp.2.1.at_ hq
  simp only at c0 c1 c2 c3 c4 c5 eA HEQ
  subst eA
  have hkl := (List.getElem?_eq_some_iff.1 hq).1
  have L0 := Lib.hid (below_new w (.cells #[.string pnm, .slice pda pdims.length pdc, .slice (some ⟨b0, o0, none⟩) pnodes.length pnc, .slice pfa pdefs.length pfc, .int .i64 proot] 26))
  have k0 := (L0.out.cell (p := ⟨b0, _, none⟩) hb0).trans c0
  have k1 := (L0.out.cell (p := ⟨b0, _, none⟩) hb0).trans c1
  have k2 := (L0.out.cell (p := ⟨b0, _, none⟩) hb0).trans c2
  have k3 := (L0.out.cell (p := ⟨b0, _, none⟩) hb0).trans c3
  have k4 := (L0.out.cell (p := ⟨b0, _, none⟩) hb0).trans c4
  have k5 := (L0.out.cell (p := ⟨b0, _, none⟩) hb0).trans c5
  have i0 : (0 : Int) ≤ (k : Int) := by omega
  have i1 : (k : Int) < (pnodes.length : Int) := by omega
  have e1 : (w.alloc (.cells #[.string pnm, .slice pda pdims.length pdc, .slice (some ⟨b0, o0, none⟩) pnodes.length pnc, .slice pfa pdefs.length pfc, .int .i64 proot] 26)).heap.size = w.heap.size + 1 := by simp
  have LE := Lib.hid (show Below w.heap.size w ((w.alloc (.cells #[.string pnm, .slice pda pdims.length pdc, .slice (some ⟨b0, o0, none⟩) pnodes.length pnc, .slice pfa pdefs.length pfc, .int .i64 proot] 26)).alloc (.cells #[.int .i64 10, .int .i64 pp, .int .i64 cc, .slice ka kids.length kc, .slice na nums.length nc, .string name] 45)) from below_next (below_new w _) (below_new _ _))
  have BP := Lib.hid (show Bk 26 ((w.alloc (.cells #[.string pnm, .slice pda pdims.length pdc, .slice (some ⟨b0, o0, none⟩) pnodes.length pnc, .slice pfa pdefs.length pfc, .int .i64 proot] 26)).alloc (.cells #[.int .i64 10, .int .i64 pp, .int .i64 cc, .slice ka kids.length kc, .slice na nums.length nc, .string name] 45)) w.heap.size [.string pnm, .slice pda pdims.length pdc, .slice (some ⟨b0, o0, none⟩) pnodes.length pnc, .slice pfa pdefs.length pfc, .int .i64 proot] from (Bk.new _ w _).alloc _)
  have BN := Lib.hid (show Bk 45 ((w.alloc (.cells #[.string pnm, .slice pda pdims.length pdc, .slice (some ⟨b0, o0, none⟩) pnodes.length pnc, .slice pfa pdefs.length pfc, .int .i64 proot] 26)).alloc (.cells #[.int .i64 10, .int .i64 pp, .int .i64 cc, .slice ka kids.length kc, .slice na nums.length nc, .string name] 45)) (w.heap.size + 1) [.int .i64 10, .int .i64 pp, .int .i64 cc, .slice ka kids.length kc, .slice na nums.length nc, .string name] from new_atR _ _ e1)
  have xp := (Bk.new 26 w [.string pnm, .slice pda pdims.length pdc, .slice (some ⟨b0, o0, none⟩) pnodes.length pnc, .slice pfa pdefs.length pfc, .int .i64 proot]).c 2
  simp only [List.getElem?_cons_zero, List.getElem?_cons_succ] at xp
  obtain ⟨al, hal⟩ : ∃ al, allS pnodes kids = al := ⟨_, rfl⟩
  have HEV := Lib.hid (show uM pnodes (k : Int) 2 = al by
    unfold uM
    rw [HEQ.out, ← hal]
    rfl)
  have HAL : Hid (al = kids.all fun x => (scV pnodes x).isSome) := Lib.hid hal.symm
  have HSC := Lib.hid (fun m (hm : m < pnodes.length) W (hW : Below w.heap.size w W) => rscal_k ⟨pnm, pda, pdc, pdims, some ⟨b0, o0, none⟩, pnc, pnodes, pfa, pfc, pdefs, proot⟩ hF m W (hp.next hW) hm)
  unfold progV at HSC
  simp only at HSC
  have HKI := Lib.hid hin.1
  have H20 := Lib.hid (show kids.length ≤ 1000 by have : kids.length = (partsL 10).length := hF.nk hq; rw [this]; decide)
  have HINR := Lib.hid (fun x (hx : x ∈ kids) => (show InR pnodes.length x by have := hF.ahead k _ hq x hx; unfold Tr.InR; omega))
  clear HEQ hal
  clear hp hq hF hb0 c0 c1 c2 c3 c4 c5 hin hkl e1
  go_enter Tryd.func17, Tryd.ntmps17
  go_wp2_with fail
  clear k0 k1 k2 k3 k4 k5 xp
  generalize ((w.alloc (.cells #[.string pnm, .slice pda pdims.length pdc, .slice (some ⟨b0, o0, none⟩) pnodes.length pnc, .slice pfa pdefs.length pfc, .int .i64 proot] 26)).alloc (.cells #[.int .i64 10, .int .i64 pp, .int .i64 cc, .slice ka kids.length kc, .slice na nums.length nc, .string name] 45)) = wE at *
  go_loopw [10] (fun iv wr => ∃ j : Nat, j ≤ kids.length ∧ iv = .int .i64 (j : Int) ∧ Hid ((kids.take j).all fun x => (scV pnodes x).isSome) ∧ Hid (Below w.heap.size w wr) ∧ Hid (Bk 26 wr w.heap.size [.string pnm, .slice pda pdims.length pdc, .slice (some ⟨b0, o0, none⟩) pnodes.length pnc, .slice pfa pdefs.length pfc, .int .i64 proot]) ∧ Hid (Bk 45 wr (w.heap.size + 1) [.int .i64 10, .int .i64 pp, .int .i64 cc, .slice ka kids.length kc, .slice na nums.length nc, .string name])) (fun iv _ => kids.length - (intOf iv).toNat)
  case atStart => exact ⟨0, Nat.zero_le _, rfl, Lib.hid rfl, LE, BP, BN⟩
  case round =>
    obtain ⟨j, hj, rfl, HA, HW, HBP, HBN⟩ := hrel
    have y3 := HBN.out.c 3
    have y0 := HBN.out.c 0
    have y2 := HBN.out.c 2
    simp only [List.getElem?_cons_zero, List.getElem?_cons_succ] at y3 y0 y2
    by_cases hlt : j < kids.length
    · obtain ⟨x, hx⟩ : ∃ x, kids[j]? = some x := ⟨_, List.getElem?_eq_getElem hlt⟩
      have hxi := HINR.out x (List.mem_of_getElem? hx)
      obtain ⟨m, rfl⟩ : ∃ m : Nat, x = (m : Int) := ⟨x.toNat, by unfold Tr.InR at hxi; omega⟩
      have hm : m < pnodes.length := by unfold Tr.InR at hxi; omega
      obtain ⟨bK, oK, eK, hbK, hcK⟩ := HKI.out (by omega)
      subst eK
      have hcx := hcK j hlt
      rw [show kids.getD j 0 = (m : Int) by rw [List.getD_eq_getElem?_getD, hx]; rfl] at hcx
      have HCX := Lib.hid hcx
      have HR := Lib.hid (fun W hW => HSC.out m hm W hW)
      have HS1 : Hid (((kids.take (j + 1)).all fun x => (scV pnodes x).isSome) = ((kids.take j).all (fun x => (scV pnodes x).isSome) && (scV pnodes (m : Int)).isSome)) := Lib.hid (by
        rw [List.take_add_one, hx]; simp)
      have HB : Hid ((scV pnodes (m : Int)).isSome = false → al = false) := Lib.hid (fun h => by rw [HAL.out]; exact all_badP hx h)
      have i2 : (0 : Int) ≤ (j : Int) := by omega
      have i3 : (j : Int) < (kids.length : Int) := by omega
      have hjy : decide (j < kids.length) = true := by simp [hlt]
      have hsum := wrap_k j (by have := H20.out; omega)
      clear hx hcK hxi hm hcx y0 y2
      go_upto_region 19 with fail
      have Ld := Lib.hid HW.out.drew
      have BPd := Lib.hid HBP.out.drew
      have BNd := Lib.hid HBN.out.drew
      have HS := Lib.hid (fun (W : World) (L : Below w.heap.size w W) (B : Bk 26 W w.heap.size [.string pnm, .slice pda pdims.length pdc, .slice (some ⟨b0, o0, none⟩) pnodes.length pnc, .slice pfa pdefs.length pfc, .int .i64 proot]) (N : Bk 45 W (w.heap.size + 1) [.int .i64 10, .int .i64 pp, .int .i64 cc, .slice (some ⟨bK, oK, none⟩) kids.length kc, .slice na nums.length nc, .string name]) => (show W.cell? ⟨w.heap.size, 0, none⟩ = some (.string pnm) ∧ W.cell? ⟨w.heap.size, 1, none⟩ = some (.slice pda pdims.length pdc) ∧ W.cell? ⟨w.heap.size, 2, none⟩ = some (.slice (some ⟨b0, o0, none⟩) pnodes.length pnc) ∧ W.cell? ⟨w.heap.size, 3, none⟩ = some (.slice pfa pdefs.length pfc) ∧ W.cell? ⟨w.heap.size, 4, none⟩ = some (.int .i64 proot) ∧ W.cell? ⟨w.heap.size + 1, 3, none⟩ = some (.slice (some ⟨bK, oK, none⟩) kids.length kc) ∧ W.cell? ⟨bK, oK + j, none⟩ = some (.int .i64 (m : Int)) from ⟨B.c 0, B.c 1, B.c 2, B.c 3, B.c 4, N.c 3, (L.cell (p := ⟨bK, oK + j, none⟩) hbK).trans HCX.out⟩))
      have Kd := Lib.hid (HS.out _ Ld.out BPd.out BNd.out)
      have Le := Lib.hid ((HW.out.trans ((below_new wr (.cells #[.int .i64 0, .bool false] 37)).mono HW.out.size)).drew)
      have BPe := Lib.hid ((HBP.out.alloc (.cells #[.int .i64 0, .bool false] 37)).drew)
      have BNe := Lib.hid ((HBN.out.alloc (.cells #[.int .i64 0, .bool false] 37)).drew)
      have BGe := Lib.hid ((new_atR (t := 37) wr [.int .i64 0, .bool false] rfl).drew)
      have Ke := Lib.hid (HS.out _ Le.out BPe.out BNe.out)
      have SZ := Lib.hid (show w.heap.size + 1 < wr.heap.size from HBN.out.lt)
      go_cut [12] (fun s12 wx => s12 = .bool (scV pnodes (m : Int)).isSome ∧ Hid (Below w.heap.size w wx) ∧ Hid (Bk 26 wx w.heap.size [.string pnm, .slice pda pdims.length pdc, .slice (some ⟨b0, o0, none⟩) pnodes.length pnc, .slice pfa pdefs.length pfc, .int .i64 proot]) ∧ Hid (Bk 45 wx (w.heap.size + 1) [.int .i64 10, .int .i64 pp, .int .i64 cc, .slice (some ⟨bK, oK, none⟩) kids.length kc, .slice na nums.length nc, .string name]))
      case first =>
        go_region_held3 (fun w' => w'.cell? ⟨w.heap.size, 0, none⟩ = some (.string pnm) ∧ w'.cell? ⟨w.heap.size, 1, none⟩ = some (.slice pda pdims.length pdc) ∧ w'.cell? ⟨w.heap.size, 2, none⟩ = some (.slice (some ⟨b0, o0, none⟩) pnodes.length pnc) ∧ w'.cell? ⟨w.heap.size, 3, none⟩ = some (.slice pfa pdefs.length pfc) ∧ w'.cell? ⟨w.heap.size, 4, none⟩ = some (.int .i64 proot) ∧ w'.cell? ⟨w.heap.size + 1, 3, none⟩ = some (.slice (some ⟨bK, oK, none⟩) kids.length kc) ∧ w'.cell? ⟨bK, oK + j, none⟩ = some (.int .i64 (m : Int)))
          (first
            | with_reducible exact Kd.out
            | with_reducible exact Ke.out
            | with_reducible exact K4.out
            | with_reducible exact K3.out
            | with_reducible exact K2.out
            | go_keep)
          (first
            | (go_at_call 16; (with_reducible refine (HR.out _ Ld.out).mono ?_); rintro r w2 ⟨c1, s1, hcs, rfl, hb2⟩; have L2 := Lib.hid (Gl.below_next Ld.out hb2); have BP2 := Lib.hid (BPd.out.next hb2); have BN2 := Lib.hid (BNd.out.next hb2); have K2 := Lib.hid (HS.out _ L2.out BP2.out BN2.out); have L3 := Lib.hid (L2.out.trans ((below_new w2 (.cells #[.int .i64 c1, .bool s1] 37)).mono L2.out.size)); have BP3 := Lib.hid (BP2.out.alloc (.cells #[.int .i64 c1, .bool s1] 37)); have BN3 := Lib.hid (BN2.out.alloc (.cells #[.int .i64 c1, .bool s1] 37)); have K3 := Lib.hid (HS.out _ L3.out BP3.out BN3.out); clear hb2 hcs)
            | (go_at_call 16; (with_reducible refine (HR.out _ Le.out).mono ?_); rintro r w2 ⟨c1, s1, hcs, rfl, hb2⟩; have L2 := Lib.hid (Gl.below_next Le.out hb2); have BP2 := Lib.hid (BPe.out.next hb2); have BN2 := Lib.hid (BNe.out.next hb2); have BG2 := Lib.hid (BGe.out.next hb2); have q0 := BG2.out.c 0; have q1 := BG2.out.c 1; have r0 := BG2.out.f 0; have r1 := BG2.out.f 1; (simp only [List.getElem?_cons_zero, List.getElem?_cons_succ] at q0 q1); have K2 := Lib.hid (HS.out _ L2.out BP2.out BN2.out); have L4 := Lib.hid ((L2.out.setCell (p := ⟨wr.heap.size, 0, none⟩) (by have := SZ.out; show w.heap.size ≤ wr.heap.size; omega) (.int .i64 c1)).setCell (p := ⟨wr.heap.size, 1, none⟩) (by have := SZ.out; show w.heap.size ≤ wr.heap.size; omega) (.bool s1)); have BP4 := Lib.hid ((BP2.out.far (p := ⟨wr.heap.size, 0, none⟩) (by have := SZ.out; show w.heap.size ≠ wr.heap.size; omega) (.int .i64 c1)).far (p := ⟨wr.heap.size, 1, none⟩) (by have := SZ.out; show w.heap.size ≠ wr.heap.size; omega) (.bool s1)); have BN4 := Lib.hid ((BN2.out.far (p := ⟨wr.heap.size, 0, none⟩) (by have := SZ.out; show w.heap.size + 1 ≠ wr.heap.size; omega) (.int .i64 c1)).far (p := ⟨wr.heap.size, 1, none⟩) (by have := SZ.out; show w.heap.size + 1 ≠ wr.heap.size; omega) (.bool s1)); have K4 := Lib.hid (HS.out _ L4.out BP4.out BN4.out); clear hb2 hcs))
        all_goals (go_wp2_with fail; go_meet; (first | exact ⟨rfl, L4, BP4, BN4⟩ | exact ⟨rfl, L3, BP3, BN3⟩))
      case rest =>
      obtain ⟨rfl, LG, BPG, BNG⟩ := hcut
      generalize wc = wA at *
      obtain ⟨ok, hok⟩ : ∃ ok, (scV pnodes (m : Int)).isSome = ok := ⟨_, rfl⟩
      rw [hok] at HS1 HB ⊢
      clear hok
      cases ok with
      | true =>
        go_wp2
        go_round
        case rel => exact ⟨j + 1, by omega, by go_num, Lib.hid (by rw [HS1.out, HA.out]; rfl), LG, BPG, BNG⟩
        case measure => simp [intOf]; omega
      | false =>
        have HBF := Lib.hid (HB.out rfl)
        go_wp2
        go_ret
        exact ⟨by rw [HEV.out, HBF.out]; rfl, LG.out⟩
    · have hje : j = kids.length := by omega
      have HT : Hid (al = true) := Lib.hid (by have := HA.out; rw [hje, List.take_length] at this; rw [HAL.out]; exact this)
      have hjn : decide (j < kids.length) = false := by simp; omega
      clear hje
      go_wp2
      go_ret
      exact ⟨by rw [HEV.out, HT.out]; rfl, HW.out⟩
end Go.Proofs.YtjmpilmmgfjpmaaDoor.Stp
