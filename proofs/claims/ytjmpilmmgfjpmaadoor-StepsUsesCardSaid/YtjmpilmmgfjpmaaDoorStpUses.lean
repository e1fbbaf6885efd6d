/-
  Layer 22, steps: Scalar, Uses, and rifflelaw22.StepsUses. Condition: the table of scalar functions.
-/
import Derived.Test.YtjmpilmmgfjpmaaDoorStpRUsk
import Derived.Test.YtjmpilmmgfjpmaaDoorPkQc
set_option maxRecDepth 100000
namespace Go.Proofs.YtjmpilmmgfjpmaaDoor.Stp
open Go.Proofs.YtjmpilmmgfjpmaaDoor.Sh Go.Proofs.YtjmpilmmgfjpmaaDoor.St Go.Proofs.YtjmpilmmgfjpmaaDoor.Tr
open Go.RowKit
set_option linter.unusedVariables false
set_option linter.unusedSimpArgs false

/-- Is there a node at the place, in a flat program? -/
def thF (p : Pq) (i : Int) : Bool := thereB p.nodes.length i && flatB p
theorem thF_nat {p : Pq} {i : Int} (h : thF p i = true) : ∃ k : Nat, i = (k : Int) ∧ k < p.nodes.length ∧ flatB p = true := by
  unfold thF thereB at h
  simp only [Bool.and_eq_true, decide_eq_true_eq] at h
  exact ⟨i.toNat, by omega, by omega, h.2⟩
set_option maxHeartbeats 8000000 in
theorem there_any (p : Pq) (i : Int) (w : World) (hp : ProgIn w p) (hf : FitP p) : Calls Tryd.prog 23 #[progV p, .int .i64 i] w (RetBl (thF p i) w) := by
  have L1 := Lib.hid (below_new w (.cells #[.string p.name, .slice p.da p.dims.length p.dc, .slice p.na p.nodes.length p.nc, .slice p.fa p.defs.length p.fc, .int .i64 p.root] 26))
  have BP := Lib.hid (show Bk 26 (w.alloc (.cells #[.string p.name, .slice p.da p.dims.length p.dc, .slice p.na p.nodes.length p.nc, .slice p.fa p.defs.length p.fc, .int .i64 p.root] 26)) w.heap.size [.string p.name, .slice p.da p.dims.length p.dc, .slice p.na p.nodes.length p.nc, .slice p.fa p.defs.length p.fc, .int .i64 p.root] from Bk.new _ w _)
  have HN := Lib.hid (node_any p i _ (hp.next L1.out) hf)
  have HFL := Lib.hid (fun W (hW : Below w.heap.size w W) => flat_b p (flatB p) W (hp.next hW) hf rfl)
  have HV := Lib.hid (show thF p i = (thereB p.nodes.length i && flatB p) from rfl)
  obtain ⟨tb, htb⟩ : ∃ tb, thereB p.nodes.length i = tb := ⟨_, rfl⟩
  rw [htb] at HN HV
  obtain ⟨n, hn⟩ : ∃ n, nodeAt p.nodes i = n := ⟨_, rfl⟩
  rw [hn] at HN
  obtain ⟨kk, pp, cc, kids, nums, name⟩ := n
  unfold progV at HN HFL ⊢
  clear hp hf htb hn
  go_enter Tryd.func23, Tryd.ntmps23
  go_wp2_with fail
  refine (HN.out).mono ?_
  generalize (w.alloc (.cells #[.string p.name, .slice p.da p.dims.length p.dc, .slice p.na p.nodes.length p.nc, .slice p.fa p.defs.length p.fc, .int .i64 p.root] 26)) = w1 at *
  rintro e w2 ⟨ka, kc, na, nc, rfl, -, hb2⟩
  unfold nodeV
  simp only
  have L2 := Lib.hid (Gl.below_next L1.out hb2)
  have L3 := Lib.hid (L2.out.trans ((below_new w2 (.cells #[.int .i64 kk, .int .i64 pp, .int .i64 cc, .slice ka kids.length kc, .slice na nums.length nc, .string name] 45)).mono L2.out.size))
  have BP3 := Lib.hid ((BP.out.next hb2).alloc (.cells #[.int .i64 kk, .int .i64 pp, .int .i64 cc, .slice ka kids.length kc, .slice na nums.length nc, .string name] 45))
  clear hb2
  have x0 := BP3.out.c 0
  have x1 := BP3.out.c 1
  have x2 := BP3.out.c 2
  have x3 := BP3.out.c 3
  have x4 := BP3.out.c 4
  simp only [List.getElem?_cons_zero, List.getElem?_cons_succ] at x0 x1 x2 x3 x4
  cases tb with
  | true =>
    go_wp2_with fail
    refine (HFL.out _ L3.out).mono ?_
    rintro e w4 ⟨rfl, hb4⟩
    have L4 := Lib.hid (Gl.below_next L3.out hb4)
    clear hb4
    go_wp2
    go_ret
    exact ⟨by rw [HV.out]; rfl, L4.out⟩
  | false =>
    go_wp2
    go_ret
    exact ⟨by rw [HV.out]; rfl, L3.out⟩
set_option maxHeartbeats 8000000 in
theorem scalar_any (p : Pq) (i : Int) (w : World) (hp : ProgIn w p) (hf : FitP p) (hT : Sc.Tab w) : Calls Tryd.prog 12 #[progV p, .int .i64 i] w (RetSc (if thF p i = true then scV p.nodes i else none) w) := by
  have L1 := Lib.hid (below_next (below_new w (.cells #[.string p.name, .slice p.da p.dims.length p.dc, .slice p.na p.nodes.length p.nc, .slice p.fa p.defs.length p.fc, .int .i64 p.root] 26)) (below_new _ (.cells #[.int .i64 0, .bool false] 37)))
  have e1 : (w.alloc (.cells #[.string p.name, .slice p.da p.dims.length p.dc, .slice p.na p.nodes.length p.nc, .slice p.fa p.defs.length p.fc, .int .i64 p.root] 26)).heap.size = w.heap.size + 1 := by simp
  have BP := Lib.hid (show Bk 26 ((w.alloc (.cells #[.string p.name, .slice p.da p.dims.length p.dc, .slice p.na p.nodes.length p.nc, .slice p.fa p.defs.length p.fc, .int .i64 p.root] 26)).alloc (.cells #[.int .i64 0, .bool false] 37)) w.heap.size [.string p.name, .slice p.da p.dims.length p.dc, .slice p.na p.nodes.length p.nc, .slice p.fa p.defs.length p.fc, .int .i64 p.root] from (Bk.new _ w _).alloc _)
  have BF := Lib.hid (show Bk 37 ((w.alloc (.cells #[.string p.name, .slice p.da p.dims.length p.dc, .slice p.na p.nodes.length p.nc, .slice p.fa p.defs.length p.fc, .int .i64 p.root] 26)).alloc (.cells #[.int .i64 0, .bool false] 37)) (w.heap.size + 1) [.int .i64 0, .bool false] from new_at _ _ e1)
  obtain ⟨tb, htb⟩ : ∃ tb, thF p i = tb := ⟨_, rfl⟩
  have HTH := Lib.hid ((there_any p i _ (hp.next L1.out) hf).mono (fun e0 w0 hr => (by rw [htb] at hr; exact hr)))
  unfold progV at HTH ⊢
  rw [htb]
  cases tb with
  | false =>
    clear hp hf hT htb e1
    go_enter Tryd.func12, Tryd.ntmps12
    go_wp2_with fail
    refine (HTH.out).mono ?_
    generalize ((w.alloc (.cells #[.string p.name, .slice p.da p.dims.length p.dc, .slice p.na p.nodes.length p.nc, .slice p.fa p.defs.length p.fc, .int .i64 p.root] 26)).alloc (.cells #[.int .i64 0, .bool false] 37)) = w1 at *
    rintro e w2 ⟨rfl, hb2⟩
    have L2 := Lib.hid (Gl.below_next L1.out hb2)
    have BF2 := Lib.hid (BF.out.next hb2)
    clear hb2
    have z0 := BF2.out.c 0
    have z1 := BF2.out.c 1
    have f0 := BF2.out.f 0
    have f1 := BF2.out.f 1
    simp only [List.getElem?_cons_zero, List.getElem?_cons_succ] at z0 z1
    go_wp2
    refine bodyPost_ret (res_two (i := 4) Tryd.results12 _ rfl ((BF2.out.set_ 0 _).set_ 1 _)) rfl ?_
    exact ⟨0, false, rfl, rfl, (L2.out.setCell (p := ⟨w.heap.size + 1, 0, none⟩) (Nat.le_succ _) _).setCell (p := ⟨w.heap.size + 1, 1, none⟩) (Nat.le_succ _) _⟩
  | true =>
    obtain ⟨k, rfl, hk, hfl⟩ := thF_nat htb
    have HSC := Lib.hid (fun W (hW : Below w.heap.size w W) => scal_k p.na p.nc p.nodes (fl_right (flat_nokn hfl).1) k W (hT.below hW) (hp.2.1.next hW) hk)
    rw [if_pos rfl]
    clear hp hf hT htb e1 hk hfl
    go_enter Tryd.func12, Tryd.ntmps12
    go_wp2_with fail
    refine (HTH.out).mono ?_
    generalize ((w.alloc (.cells #[.string p.name, .slice p.da p.dims.length p.dc, .slice p.na p.nodes.length p.nc, .slice p.fa p.defs.length p.fc, .int .i64 p.root] 26)).alloc (.cells #[.int .i64 0, .bool false] 37)) = w1 at *
    rintro e w2 ⟨rfl, hb2⟩
    have L2 := Lib.hid (Gl.below_next L1.out hb2)
    have BF2 := Lib.hid (BF.out.next hb2)
    have BP2 := Lib.hid (BP.out.next hb2)
    clear hb2
    have x2 := BP2.out.c 2
    simp only [List.getElem?_cons_zero, List.getElem?_cons_succ] at x2
    go_wp2_with fail
    refine (HSC.out _ L2.out).mono ?_
    rintro e w3 ⟨c1, s1, hcs, rfl, hb3⟩
    have L3 := Lib.hid (Gl.below_next L2.out hb3)
    have BF3 := Lib.hid (BF2.out.next hb3)
    have HCS := Lib.hid hcs
    clear hb3 hcs
    have z0 := BF3.out.c 0
    have z1 := BF3.out.c 1
    have f0 := BF3.out.f 0
    have f1 := BF3.out.f 1
    simp only [List.getElem?_cons_zero, List.getElem?_cons_succ] at z0 z1
    go_wp2
    refine bodyPost_ret (res_two (i := 4) Tryd.results12 _ rfl ((BF3.out.set_ 0 _).set_ 1 _)) rfl ?_
    exact ⟨c1, s1, HCS.out, rfl, (L3.out.setCell (p := ⟨w.heap.size + 1, 0, none⟩) (Nat.le_succ _) _).setCell (p := ⟨w.heap.size + 1, 1, none⟩) (Nat.le_succ _) _⟩
def RetU2 (u : Bool × Bool) (w : World) (e : Ending) (w' : World) : Prop := ∃ a b, u = (a, b) ∧ e = .returned (.tuple #[.bool a, .bool b]) ∧ Below w.heap.size w w'
set_option maxHeartbeats 8000000 in
theorem uses_any (p : Pq) (i : Int) (w : World) (hp : ProgIn w p) (hf : FitP p) (hT : Sc.Tab w) : Calls Tryd.prog 13 #[progV p, .int .i64 i] w (RetU2 (if thF p i = true then usV p.nodes i else (false, false)) w) := by
  have L1 := Lib.hid (below_new w (.cells #[.string p.name, .slice p.da p.dims.length p.dc, .slice p.na p.nodes.length p.nc, .slice p.fa p.defs.length p.fc, .int .i64 p.root] 26))
  have BP := Lib.hid (show Bk 26 (w.alloc (.cells #[.string p.name, .slice p.da p.dims.length p.dc, .slice p.na p.nodes.length p.nc, .slice p.fa p.defs.length p.fc, .int .i64 p.root] 26)) w.heap.size [.string p.name, .slice p.da p.dims.length p.dc, .slice p.na p.nodes.length p.nc, .slice p.fa p.defs.length p.fc, .int .i64 p.root] from Bk.new _ w _)
  obtain ⟨tb, htb⟩ : ∃ tb, thF p i = tb := ⟨_, rfl⟩
  have HTH := Lib.hid ((there_any p i _ (hp.next L1.out) hf).mono (fun e0 w0 hr => (by rw [htb] at hr; exact hr)))
  unfold progV at HTH ⊢
  rw [htb]
  cases tb with
  | false =>
    clear hp hf hT htb
    go_enter Tryd.func13, Tryd.ntmps13
    go_wp2_with fail
    refine (HTH.out).mono ?_
    generalize (w.alloc (.cells #[.string p.name, .slice p.da p.dims.length p.dc, .slice p.na p.nodes.length p.nc, .slice p.fa p.defs.length p.fc, .int .i64 p.root] 26)) = w1 at *
    rintro e w2 ⟨rfl, hb2⟩
    have L2 := Lib.hid (Gl.below_next L1.out hb2)
    clear hb2
    go_wp2
    go_ret2
    exact ⟨false, false, rfl, rfl, L2.out⟩
  | true =>
    obtain ⟨k, rfl, hk, hfl⟩ := thF_nat htb
    have HSC := Lib.hid (fun W (hW : Below w.heap.size w W) => uses_k p.na p.nc p.nodes (fl_right (flat_nokn hfl).1) k W (hT.below hW) (hp.2.1.next hW) hk)
    rw [if_pos rfl]
    clear hp hf hT htb hk hfl
    go_enter Tryd.func13, Tryd.ntmps13
    go_wp2_with fail
    refine (HTH.out).mono ?_
    generalize (w.alloc (.cells #[.string p.name, .slice p.da p.dims.length p.dc, .slice p.na p.nodes.length p.nc, .slice p.fa p.defs.length p.fc, .int .i64 p.root] 26)) = w1 at *
    rintro e w2 ⟨rfl, hb2⟩
    have L2 := Lib.hid (Gl.below_next L1.out hb2)
    have BP2 := Lib.hid (BP.out.next hb2)
    clear hb2
    have x2 := BP2.out.c 2
    simp only [List.getElem?_cons_zero, List.getElem?_cons_succ] at x2
    go_wp2_with fail
    refine (HSC.out _ L2.out).mono ?_
    rintro e w3 ⟨ua, ub, huv, rfl, hb3⟩
    have L3 := Lib.hid (Gl.below_next L2.out hb3)
    have HUV := Lib.hid huv
    clear hb3 huv
    go_upto_region 4 with fail
    have LD := Lib.hid (show Below w.heap.size w (w3.alloc (.cells #[.bool ua, .bool ub] 61)).drew from (L3.out.trans ((below_new w3 _).mono L3.out.size)).drew)
    go_region
    go_wp2
    go_ret2
    exact ⟨ua, ub, HUV.out, rfl, LD.out⟩
end Go.Proofs.YtjmpilmmgfjpmaaDoor.Stp
