/-
  Layer 18, tree: rifflelaw18.TreeTells. No condition but that the programs lie in memory.
-/
import Derived.Test.YtdhpplbopciijaaTrLives
import Derived.Test.YtdhpplbopciijaaTrNode
import Derived.Test.YtdhpplbopciijaaTrRSame
import Derived.Test.YtdhpplbopciijaaTrRR
set_option maxRecDepth 100000
namespace Go.Proofs.Ytdhpplbopciijaa.Tr
open Go.Proofs.Ytdhpplbopciijaa.Sh Go.Proofs.Ytdhpplbopciijaa.St
open Go.RowKit
set_option linter.unusedVariables false
set_option linter.unusedSimpArgs false

theorem same_self (p : Pq) : sameT p p = true := by
  unfold sameT nodesSame defsSame
  simp only [decide_true, Bool.true_and, Bool.and_eq_true, List.all_eq_true]
  refine ⟨fun x hx => ?_, fun x hx => ?_⟩
  · obtain ⟨i, hi⟩ := List.getElem?_of_mem hx
    rw [List.getElem?_zip_eq_some] at hi
    have e : x.1 = x.2 := by have h := hi.1.symm.trans hi.2; injection h
    rw [e]
    simp [alikeB]
  · obtain ⟨i, hi⟩ := List.getElem?_of_mem hx
    rw [List.getElem?_zip_eq_some] at hi
    have e : x.1 = x.2 := by have h := hi.1.symm.trans hi.2; injection h
    rw [e]
    simp [sameDefB]
theorem alike_self (n : Nd) : alikeB n n = true := by simp [alikeB]
/-- What stands in the boxes of both programs. -/
def TwoP (p q : Pq) (g : Nat) (w' : World) : Prop := Bk 26 w' g [.string p.name, .slice p.da p.dims.length p.dc, .slice p.na p.nodes.length p.nc, .slice p.fa p.defs.length p.fc, .int .i64 p.root] ∧ Bk 26 w' (g + 1) [.string q.name, .slice q.da q.dims.length q.dc, .slice q.na q.nodes.length q.nc, .slice q.fa q.defs.length q.fc, .int .i64 q.root]
theorem TwoP.next {p q : Pq} {g : Nat} {w1 w2 : World} (h : TwoP p q g w1) (hb : Below w1.heap.size w1 w2) : TwoP p q g w2 := ⟨h.1.next hb, h.2.next hb⟩
set_option maxRecDepth 100000 in
set_option maxHeartbeats 16000000 in
theorem tells_walk (p q : Pq) (i : Int) (w : World) (hp : ProgIn w p) (hq : ProgIn w q) : Calls Try.prog 3 #[progV p, progV q, .int .i64 i] w (RetBl true w) := by
  unfold progV
  have e1 : (w.alloc (.cells #[.string p.name, .slice p.da p.dims.length p.dc, .slice p.na p.nodes.length p.nc, .slice p.fa p.defs.length p.fc, .int .i64 p.root] 26)).heap.size = w.heap.size + 1 := by simp
  have B1 := Bk.new 26 (w.alloc (.cells #[.string p.name, .slice p.da p.dims.length p.dc, .slice p.na p.nodes.length p.nc, .slice p.fa p.defs.length p.fc, .int .i64 p.root] 26)) [.string q.name, .slice q.da q.dims.length q.dc, .slice q.na q.nodes.length q.nc, .slice q.fa q.defs.length q.fc, .int .i64 q.root]
  rw [e1] at B1
  have BB := Lib.hid (show TwoP p q w.heap.size ((w.alloc (.cells #[.string p.name, .slice p.da p.dims.length p.dc, .slice p.na p.nodes.length p.nc, .slice p.fa p.defs.length p.fc, .int .i64 p.root] 26)).alloc (.cells #[.string q.name, .slice q.da q.dims.length q.dc, .slice q.na q.nodes.length q.nc, .slice q.fa q.defs.length q.fc, .int .i64 q.root] 26)) from ⟨(Bk.new 26 w [.string p.name, .slice p.da p.dims.length p.dc, .slice p.na p.nodes.length p.nc, .slice p.fa p.defs.length p.fc, .int .i64 p.root]).alloc (.cells #[.string q.name, .slice q.da q.dims.length q.dc, .slice q.na q.nodes.length q.nc, .slice q.fa q.defs.length q.fc, .int .i64 q.root] 26), B1⟩)
  have LB := Lib.hid (((Below.refl _ w).alloc (Nat.le_refl _) (.cells #[.string p.name, .slice p.da p.dims.length p.dc, .slice p.na p.nodes.length p.nc, .slice p.fa p.defs.length p.fc, .int .i64 p.root] 26)).alloc (by simp) (.cells #[.string q.name, .slice q.da q.dims.length q.dc, .slice q.na q.nodes.length q.nc, .slice q.fa q.defs.length q.fc, .int .i64 q.root] 26))
  have HG1 := Lib.hid (fun W (hw : Below w.heap.size w W) => great_any p W (hp.next hw))
  have HG2 := Lib.hid (fun W (hw : Below w.heap.size w W) => great_any q W (hq.next hw))
  have HND := Lib.hid (fun W (hw : Below w.heap.size w W) (hf : FitP p) => node_any p i W (hp.next hw) hf)
  have HLV := Lib.hid (fun W => lives_any W)
  have HP := Lib.hid hp
  have HQ := Lib.hid hq
  unfold progV at HG1 HG2 HND
  clear e1 B1 hp hq
  go_enter Try.func3, Try.ntmps3
  go_wp2_with fail
  refine (HG1.out _ LB.out).mono ?_
  rintro e w1 ⟨b1, rfl, hf1, hb1⟩
  have L1 := Lib.hid (Gl.below_next LB.out hb1)
  have BB1 := Lib.hid (BB.out.next hb1)
  have HF1 := Lib.hid hf1
  clear hf1 hb1 BB
  cases b1 with
  | true =>
    go_wp2_with fail
    refine (HLV.out _).mono ?_
    rintro e w2 ⟨rfl, hb2⟩
    have L2 := Lib.hid (Gl.below_next L1.out hb2)
    clear hb2
    go_wp2
    go_ret
    exact ⟨rfl, L2.out⟩
  | false =>
    have HF := Lib.hid (HF1.out rfl)
    obtain ⟨x0, x1, x2, x3, x4⟩ := And.intro (BB1.out.2.c 0) (And.intro (BB1.out.2.c 1) (And.intro (BB1.out.2.c 2) (And.intro (BB1.out.2.c 3) (BB1.out.2.c 4))))
    simp only [List.getElem?_cons_zero, List.getElem?_cons_succ] at x0 x1 x2 x3 x4
    go_wp2_with fail
    refine (HG2.out _ L1.out).mono ?_
    rintro e w2 ⟨b2, rfl, hf2, hb2⟩
    have L2 := Lib.hid (Gl.below_next L1.out hb2)
    have BB2 := Lib.hid (BB1.out.next hb2)
    have HF2 := Lib.hid hf2
    clear hf2 hb2 BB1 x0 x1 x2 x3 x4
    cases b2 with
    | true =>
      go_wp2_with fail
      refine (HLV.out _).mono ?_
      rintro e w3 ⟨rfl, hb3⟩
      have L3 := Lib.hid (Gl.below_next L2.out hb3)
      clear hb3
      go_wp2
      go_ret
      exact ⟨rfl, L3.out⟩
    | false =>
      have HFq := Lib.hid (HF2.out rfl)
      obtain ⟨x0, x1, x2, x3, x4⟩ := And.intro (BB2.out.1.c 0) (And.intro (BB2.out.1.c 1) (And.intro (BB2.out.1.c 2) (And.intro (BB2.out.1.c 3) (BB2.out.1.c 4))))
      simp only [List.getElem?_cons_zero, List.getElem?_cons_succ] at x0 x1 x2 x3 x4
      obtain ⟨tb, htb⟩ : ∃ tb, thereB p.nodes.length i = tb := ⟨_, rfl⟩
      obtain ⟨nn, hnn⟩ : ∃ nn, nodeAt p.nodes i = nn := ⟨_, rfl⟩
      have HND2 := Lib.hid (HND.out w2 L2.out HF.out)
      rw [htb, hnn] at HND2
      have HTB := Lib.hid htb
      have HNN := Lib.hid hnn
      clear htb hnn
      go_wp2_with fail
      refine (HND2.out).mono ?_
      rintro e w3 ⟨ka, kc, na, nc, rfl, hin3, hb3⟩
      unfold nodeV
      simp only
      have L3 := Lib.hid (Gl.below_next L2.out hb3)
      have BB3 := Lib.hid (BB2.out.next hb3)
      have HI3 := Lib.hid hin3
      have LN := Lib.hid (below_new w3 (.cells #[.int .i64 nn.kind, .int .i64 nn.pos, .int .i64 nn.code, .slice ka nn.kids.length kc, .slice na nn.nums.length nc, .string nn.name] 31))
      have L4 := Lib.hid (Gl.below_next L3.out LN.out)
      have BB4 := Lib.hid (BB3.out.next LN.out)
      have BN := Lib.hid (Bk.new 31 w3 [.int .i64 nn.kind, .int .i64 nn.pos, .int .i64 nn.code, .slice ka nn.kids.length kc, .slice na nn.nums.length nc, .string nn.name])
      have HI4 := Lib.hid (hin3.next LN.out)
      clear hin3 hb3 BB2 BB3 x0 x1 x2 x3 x4 HND HND2 HG1 HG2
      have y2 := BB4.out.1.c 2
      simp only [List.getElem?_cons_zero, List.getElem?_cons_succ] at y2
      cases tb with
      | true =>
        obtain ⟨k, hk⟩ : ∃ k : Nat, i = (k : Int) := ⟨i.toNat, by have h := HTB.out; unfold thereB at h; simp at h; omega⟩
        subst hk
        have hkl : k < p.nodes.length := by have h := HTB.out; unfold thereB at h; simp at h; omega
        obtain ⟨x, hx⟩ : ∃ x, p.nodes[k]? = some x := ⟨_, List.getElem?_eq_getElem hkl⟩
        obtain rfl : x.n = nn := by have h := HNN.out; unfold nodeAt at h; rw [if_pos HTB.out, show ((k : Int)).toNat = k by simp, hx] at h; exact h
        have t0 : decide ((0 : Int) ≤ (k : Int)) = true := by simp
        have t1 : decide ((k : Int) < (p.nodes.length : Int)) = true := by simp; omega
        have t1' : decide (k < p.nodes.length) = true := by simpa using hkl
        obtain ⟨b0, o0, hA0, hb0, ⟨m0, m1, m2, m3, m4, m5⟩, hinx⟩ := (HP.out.2.1.next L4.out).at_ hx
        rw [hA0] at y2
        have i0 : (0 : Int) ≤ (k : Int) := by omega
        have i1 : (k : Int) < (p.nodes.length : Int) := by omega
        go_upto_region 5 with fail
        generalize hwz : w3.alloc (.cells #[.int .i64 x.n.kind, .int .i64 x.n.pos, .int .i64 x.n.code, .slice ka x.n.kids.length kc, .slice na x.n.nums.length nc, .string x.n.name] 31) = wz at *
        have HAL := Lib.hid (alike_b ⟨x.n, ka, kc, na, nc⟩ x true wz.drew HI4.out hinx (alike_self _))
        unfold nodeV at HAL
        have hlt3 : w3.heap.size < wz.heap.size := BN.out.lt
        have hltw : w.heap.size < wz.heap.size := BB4.out.1.lt
        have hS0 : wz.drew.cell? ⟨w3.heap.size, 0, none⟩ = some (.int .i64 x.n.kind) ∧ wz.drew.cell? ⟨w3.heap.size, 1, none⟩ = some (.int .i64 x.n.pos) ∧ wz.drew.cell? ⟨w3.heap.size, 2, none⟩ = some (.int .i64 x.n.code) ∧ wz.drew.cell? ⟨w3.heap.size, 3, none⟩ = some (.slice ka x.n.kids.length kc) ∧ wz.drew.cell? ⟨w3.heap.size, 4, none⟩ = some (.slice na x.n.nums.length nc) ∧ wz.drew.cell? ⟨w3.heap.size, 5, none⟩ = some (.string x.n.name) ∧ wz.drew.cell? ⟨w.heap.size, 2, none⟩ = some (.slice (some ⟨b0, o0, none⟩) p.nodes.length p.nc) ∧ wz.drew.cell? ⟨b0, o0 + k * 6, none⟩ = some (.int .i64 x.n.kind) ∧ wz.drew.cell? ⟨b0, o0 + k * 6 + 1, none⟩ = some (.int .i64 x.n.pos) ∧ wz.drew.cell? ⟨b0, o0 + k * 6 + 2, none⟩ = some (.int .i64 x.n.code) ∧ wz.drew.cell? ⟨b0, o0 + k * 6 + 3, none⟩ = some (.slice x.ka x.n.kids.length x.kc) ∧ wz.drew.cell? ⟨b0, o0 + k * 6 + 4, none⟩ = some (.slice x.na x.n.nums.length x.nc) ∧ wz.drew.cell? ⟨b0, o0 + k * 6 + 5, none⟩ = some (.string x.n.name) := ⟨BN.out.c 0, BN.out.c 1, BN.out.c 2, BN.out.c 3, BN.out.c 4, BN.out.c 5, y2, m0, m1, m2, m3, m4, m5⟩
        clear hwz HTB HNN hinx hA0 m0 m1 m2 m3 m4 m5
        refine wp_region_held_drew (S := fun w' => w'.cell? ⟨w3.heap.size, 0, none⟩ = some (.int .i64 x.n.kind) ∧ w'.cell? ⟨w3.heap.size, 1, none⟩ = some (.int .i64 x.n.pos) ∧ w'.cell? ⟨w3.heap.size, 2, none⟩ = some (.int .i64 x.n.code) ∧ w'.cell? ⟨w3.heap.size, 3, none⟩ = some (.slice ka x.n.kids.length kc) ∧ w'.cell? ⟨w3.heap.size, 4, none⟩ = some (.slice na x.n.nums.length nc) ∧ w'.cell? ⟨w3.heap.size, 5, none⟩ = some (.string x.n.name) ∧ w'.cell? ⟨w.heap.size, 2, none⟩ = some (.slice (some ⟨b0, o0, none⟩) p.nodes.length p.nc) ∧ w'.cell? ⟨b0, o0 + k * 6, none⟩ = some (.int .i64 x.n.kind) ∧ w'.cell? ⟨b0, o0 + k * 6 + 1, none⟩ = some (.int .i64 x.n.pos) ∧ w'.cell? ⟨b0, o0 + k * 6 + 2, none⟩ = some (.int .i64 x.n.code) ∧ w'.cell? ⟨b0, o0 + k * 6 + 3, none⟩ = some (.slice x.ka x.n.kids.length x.kc) ∧ w'.cell? ⟨b0, o0 + k * 6 + 4, none⟩ = some (.slice x.na x.n.nums.length x.nc) ∧ w'.cell? ⟨b0, o0 + k * 6 + 5, none⟩ = some (.string x.n.name)) (by kernel_rfl) hS0 (fun hHeld => ?_)
        refine take_yes (i := 0) (some 32) (.bool true) rfl rfl (by kernel_rfl) (by kernel_rfl) (by kernel_rfl) (fun _ _ _ h => h) (by rfl) hHeld ?_ ?_
        · intro wq hSw; obtain ⟨s0, s1, s2, s3, s4, s5, s6, s7, s8, s9, s10, s11, s12⟩ := hSw; go_simp
        simp only [Act.put, List.setIfInBounds_toArray, List.set_cons_zero, List.set_cons_succ]
        refine take_yes (i := 1) (some 33) (.bool true) rfl rfl (by kernel_rfl) (by kernel_rfl) (by kernel_rfl) (fun _ _ _ h => h) (by rfl) hHeld ?_ ?_
        · intro wq hSw; obtain ⟨s0, s1, s2, s3, s4, s5, s6, s7, s8, s9, s10, s11, s12⟩ := hSw; go_simp
        simp only [Act.put, List.setIfInBounds_toArray, List.set_cons_zero, List.set_cons_succ]
        refine take_yes (i := 2) (some 34) (.bool false) rfl rfl (by kernel_rfl) (by kernel_rfl) (by kernel_rfl) (fun _ _ _ h => h) (by rfl) hHeld ?_ ?_
        · intro wq hSw; obtain ⟨s0, s1, s2, s3, s4, s5, s6, s7, s8, s9, s10, s11, s12⟩ := hSw; go_simp
        simp only [Act.put, List.setIfInBounds_toArray, List.set_cons_zero, List.set_cons_succ]
        refine take_yes (i := 3) (some 35) (.bool false) rfl rfl (by kernel_rfl) (by kernel_rfl) (by kernel_rfl) (fun _ _ _ h => h) (by rfl) hHeld ?_ ?_
        · intro wq hSw; obtain ⟨s0, s1, s2, s3, s4, s5, s6, s7, s8, s9, s10, s11, s12⟩ := hSw; go_simp
        simp only [Act.put, List.setIfInBounds_toArray, List.set_cons_zero, List.set_cons_succ]
        refine take_yes (i := 4) (some 36) (.bool true) rfl rfl (by kernel_rfl) (by kernel_rfl) (by kernel_rfl) (fun _ _ _ h => h) (by rfl) hHeld ?_ ?_
        · intro wq hSw; obtain ⟨s0, s1, s2, s3, s4, s5, s6, s7, s8, s9, s10, s11, s12⟩ := hSw; go_simp
        simp only [Act.put, List.setIfInBounds_toArray, List.set_cons_zero, List.set_cons_succ]
        refine take_yes (i := 5) (some 37) (.bool true) rfl rfl (by kernel_rfl) (by kernel_rfl) (by kernel_rfl) (fun _ _ _ h => h) (by rfl) hHeld ?_ ?_
        · intro wq hSw; obtain ⟨s0, s1, s2, s3, s4, s5, s6, s7, s8, s9, s10, s11, s12⟩ := hSw; go_simp
        simp only [Act.put, List.setIfInBounds_toArray, List.set_cons_zero, List.set_cons_succ]
        refine take_yes (i := 6) (some 38) (.agg #[.int .i64 x.n.kind, .int .i64 x.n.pos, .int .i64 x.n.code, .slice ka x.n.kids.length kc, .slice na x.n.nums.length nc, .string x.n.name]) rfl rfl (by kernel_rfl) (by kernel_rfl) (by kernel_rfl) (fun _ _ _ h => h) (by rfl) hHeld ?_ ?_
        · intro wq hSw; obtain ⟨s0, s1, s2, s3, s4, s5, s6, s7, s8, s9, s10, s11, s12⟩ := hSw; go_simp
        simp only [Act.put, List.setIfInBounds_toArray, List.set_cons_zero, List.set_cons_succ]
        refine take_yes (i := 7) (some 39) (.pointer (some ⟨w.heap.size, 2, none⟩)) rfl rfl (by kernel_rfl) (by kernel_rfl) (by kernel_rfl) (fun _ _ _ h => h) (by rfl) hHeld ?_ ?_
        · intro wq hSw; obtain ⟨s0, s1, s2, s3, s4, s5, s6, s7, s8, s9, s10, s11, s12⟩ := hSw; go_simp
        simp only [Act.put, List.setIfInBounds_toArray, List.set_cons_zero, List.set_cons_succ]
        refine take_yes (i := 8) (some 40) (.slice (some ⟨b0, o0, none⟩) p.nodes.length p.nc) rfl rfl (by kernel_rfl) (by kernel_rfl) (by kernel_rfl) (fun _ _ _ h => h) (by rfl) hHeld ?_ ?_
        · intro wq hSw; obtain ⟨s0, s1, s2, s3, s4, s5, s6, s7, s8, s9, s10, s11, s12⟩ := hSw; go_simp
        simp only [Act.put, List.setIfInBounds_toArray, List.set_cons_zero, List.set_cons_succ]
        refine take_yes (i := 9) (some 41) (.int .i64 (k : Int)) rfl rfl (by kernel_rfl) (by kernel_rfl) (by kernel_rfl) (fun _ _ _ h => h) (by rfl) hHeld ?_ ?_
        · intro wq hSw; obtain ⟨s0, s1, s2, s3, s4, s5, s6, s7, s8, s9, s10, s11, s12⟩ := hSw; go_simp
        simp only [Act.put, List.setIfInBounds_toArray, List.set_cons_zero, List.set_cons_succ]
        refine take_yes (i := 10) (some 42) (.pointer (some ⟨b0, o0 + k * 6, none⟩)) rfl rfl (by kernel_rfl) (by kernel_rfl) (by kernel_rfl) (fun _ _ _ h => h) (by rfl) hHeld ?_ ?_
        · intro wq hSw; obtain ⟨s0, s1, s2, s3, s4, s5, s6, s7, s8, s9, s10, s11, s12⟩ := hSw; go_simp
        simp only [Act.put, List.setIfInBounds_toArray, List.set_cons_zero, List.set_cons_succ]
        refine take_yes (i := 11) (some 43) (.agg #[.int .i64 x.n.kind, .int .i64 x.n.pos, .int .i64 x.n.code, .slice x.ka x.n.kids.length x.kc, .slice x.na x.n.nums.length x.nc, .string x.n.name]) rfl rfl (by kernel_rfl) (by kernel_rfl) (by kernel_rfl) (fun _ _ _ h => h) (by rfl) hHeld ?_ ?_
        · intro wq hSw; obtain ⟨s0, s1, s2, s3, s4, s5, s6, s7, s8, s9, s10, s11, s12⟩ := hSw; go_simp
        simp only [Act.put, List.setIfInBounds_toArray, List.set_cons_zero, List.set_cons_succ]
        refine wpAnyH_ready (rs := [12]) (by kernel_rfl) (by simp) ?_
        refine AllReadyH.cons rfl (fun K hK => ?_) AllReadyH.nil
        go_simp
        (go_at_call 9; refine (HAL.out).mono ?_; rintro r w7 ⟨rfl, hb7⟩)
        have hq : w7.cell? ⟨w3.heap.size, 0, none⟩ = some (.int .i64 x.n.kind) ∧ w7.cell? ⟨w3.heap.size, 1, none⟩ = some (.int .i64 x.n.pos) ∧ w7.cell? ⟨w3.heap.size, 2, none⟩ = some (.int .i64 x.n.code) ∧ w7.cell? ⟨w3.heap.size, 3, none⟩ = some (.slice ka x.n.kids.length kc) ∧ w7.cell? ⟨w3.heap.size, 4, none⟩ = some (.slice na x.n.nums.length nc) ∧ w7.cell? ⟨w3.heap.size, 5, none⟩ = some (.string x.n.name) ∧ w7.cell? ⟨w.heap.size, 2, none⟩ = some (.slice (some ⟨b0, o0, none⟩) p.nodes.length p.nc) ∧ w7.cell? ⟨b0, o0 + k * 6, none⟩ = some (.int .i64 x.n.kind) ∧ w7.cell? ⟨b0, o0 + k * 6 + 1, none⟩ = some (.int .i64 x.n.pos) ∧ w7.cell? ⟨b0, o0 + k * 6 + 2, none⟩ = some (.int .i64 x.n.code) ∧ w7.cell? ⟨b0, o0 + k * 6 + 3, none⟩ = some (.slice x.ka x.n.kids.length x.kc) ∧ w7.cell? ⟨b0, o0 + k * 6 + 4, none⟩ = some (.slice x.na x.n.nums.length x.nc) ∧ w7.cell? ⟨b0, o0 + k * 6 + 5, none⟩ = some (.string x.n.name) := by obtain ⟨s0, s1, s2, s3, s4, s5, s6, s7, s8, s9, s10, s11, s12⟩ := hHeld; exact ⟨(hb7.cell (p := ⟨w3.heap.size, _, none⟩) hlt3).trans s0, (hb7.cell (p := ⟨w3.heap.size, _, none⟩) hlt3).trans s1, (hb7.cell (p := ⟨w3.heap.size, _, none⟩) hlt3).trans s2, (hb7.cell (p := ⟨w3.heap.size, _, none⟩) hlt3).trans s3, (hb7.cell (p := ⟨w3.heap.size, _, none⟩) hlt3).trans s4, (hb7.cell (p := ⟨w3.heap.size, _, none⟩) hlt3).trans s5, (hb7.cell (p := ⟨w.heap.size, _, none⟩) hltw).trans s6, (hb7.cell (p := ⟨b0, _, none⟩) hb0).trans s7, (hb7.cell (p := ⟨b0, _, none⟩) hb0).trans s8, (hb7.cell (p := ⟨b0, _, none⟩) hb0).trans s9, (hb7.cell (p := ⟨b0, _, none⟩) hb0).trans s10, (hb7.cell (p := ⟨b0, _, none⟩) hb0).trans s11, (hb7.cell (p := ⟨b0, _, none⟩) hb0).trans s12⟩
        have L7 := Lib.hid (Gl.below_next L4.out.drew hb7)
        have BB7 := Lib.hid (TwoP.next (show TwoP p q w.heap.size wz.drew from BB4.out) hb7)
        clear hb7
        go_wp2_with fail
        refine hK.out _ _ hq (fun hHeld => ?_)
        clear hK K
        refine take_yes (i := 13) (some 45) (.bool false) rfl rfl (by kernel_rfl) (by kernel_rfl) (by kernel_rfl) (fun _ _ _ h => h) (by rfl) hHeld ?_ ?_
        · intro wq hSw; obtain ⟨s0, s1, s2, s3, s4, s5, s6, s7, s8, s9, s10, s11, s12⟩ := hSw; go_simp
        simp only [Act.put, List.setIfInBounds_toArray, List.set_cons_zero, List.set_cons_succ]
        refine take_yes (i := 14) (some 46) (.bool false) rfl rfl (by kernel_rfl) (by kernel_rfl) (by kernel_rfl) (fun _ _ _ h => h) (by rfl) hHeld ?_ ?_
        · intro wq hSw; obtain ⟨s0, s1, s2, s3, s4, s5, s6, s7, s8, s9, s10, s11, s12⟩ := hSw; go_simp
        simp only [Act.put, List.setIfInBounds_toArray, List.set_cons_zero, List.set_cons_succ]
        refine take_yes (i := 15) (some 47) (.pointer (some ⟨w3.heap.size, 1, none⟩)) rfl rfl (by kernel_rfl) (by kernel_rfl) (by kernel_rfl) (fun _ _ _ h => h) (by rfl) hHeld ?_ ?_
        · intro wq hSw; obtain ⟨s0, s1, s2, s3, s4, s5, s6, s7, s8, s9, s10, s11, s12⟩ := hSw; go_simp
        simp only [Act.put, List.setIfInBounds_toArray, List.set_cons_zero, List.set_cons_succ]
        refine take_yes (i := 16) (some 48) (.int .i64 x.n.pos) rfl rfl (by kernel_rfl) (by kernel_rfl) (by kernel_rfl) (fun _ _ _ h => h) (by rfl) hHeld ?_ ?_
        · intro wq hSw; obtain ⟨s0, s1, s2, s3, s4, s5, s6, s7, s8, s9, s10, s11, s12⟩ := hSw; go_simp
        simp only [Act.put, List.setIfInBounds_toArray, List.set_cons_zero, List.set_cons_succ]
        refine take_yes (i := 17) (some 49) (.pointer (some ⟨w.heap.size, 2, none⟩)) rfl rfl (by kernel_rfl) (by kernel_rfl) (by kernel_rfl) (fun _ _ _ h => h) (by rfl) hHeld ?_ ?_
        · intro wq hSw; obtain ⟨s0, s1, s2, s3, s4, s5, s6, s7, s8, s9, s10, s11, s12⟩ := hSw; go_simp
        simp only [Act.put, List.setIfInBounds_toArray, List.set_cons_zero, List.set_cons_succ]
        refine take_yes (i := 18) (some 50) (.slice (some ⟨b0, o0, none⟩) p.nodes.length p.nc) rfl rfl (by kernel_rfl) (by kernel_rfl) (by kernel_rfl) (fun _ _ _ h => h) (by rfl) hHeld ?_ ?_
        · intro wq hSw; obtain ⟨s0, s1, s2, s3, s4, s5, s6, s7, s8, s9, s10, s11, s12⟩ := hSw; go_simp
        simp only [Act.put, List.setIfInBounds_toArray, List.set_cons_zero, List.set_cons_succ]
        refine take_yes (i := 19) (some 51) (.int .i64 (k : Int)) rfl rfl (by kernel_rfl) (by kernel_rfl) (by kernel_rfl) (fun _ _ _ h => h) (by rfl) hHeld ?_ ?_
        · intro wq hSw; obtain ⟨s0, s1, s2, s3, s4, s5, s6, s7, s8, s9, s10, s11, s12⟩ := hSw; go_simp
        simp only [Act.put, List.setIfInBounds_toArray, List.set_cons_zero, List.set_cons_succ]
        refine take_yes (i := 20) (some 52) (.pointer (some ⟨b0, o0 + k * 6, none⟩)) rfl rfl (by kernel_rfl) (by kernel_rfl) (by kernel_rfl) (fun _ _ _ h => h) (by rfl) hHeld ?_ ?_
        · intro wq hSw; obtain ⟨s0, s1, s2, s3, s4, s5, s6, s7, s8, s9, s10, s11, s12⟩ := hSw; go_simp
        simp only [Act.put, List.setIfInBounds_toArray, List.set_cons_zero, List.set_cons_succ]
        refine take_yes (i := 21) (some 53) (.pointer (some ⟨b0, o0 + k * 6 + 1, none⟩)) rfl rfl (by kernel_rfl) (by kernel_rfl) (by kernel_rfl) (fun _ _ _ h => h) (by rfl) hHeld ?_ ?_
        · intro wq hSw; obtain ⟨s0, s1, s2, s3, s4, s5, s6, s7, s8, s9, s10, s11, s12⟩ := hSw; go_simp
        simp only [Act.put, List.setIfInBounds_toArray, List.set_cons_zero, List.set_cons_succ]
        refine take_yes (i := 22) (some 54) (.int .i64 x.n.pos) rfl rfl (by kernel_rfl) (by kernel_rfl) (by kernel_rfl) (fun _ _ _ h => h) (by rfl) hHeld ?_ ?_
        · intro wq hSw; obtain ⟨s0, s1, s2, s3, s4, s5, s6, s7, s8, s9, s10, s11, s12⟩ := hSw; go_simp
        simp only [Act.put, List.setIfInBounds_toArray, List.set_cons_zero, List.set_cons_succ]
        refine take_yes (i := 23) (some 55) (.bool false) rfl rfl (by kernel_rfl) (by kernel_rfl) (by kernel_rfl) (fun _ _ _ h => h) (by rfl) hHeld ?_ ?_
        · intro wq hSw; obtain ⟨s0, s1, s2, s3, s4, s5, s6, s7, s8, s9, s10, s11, s12⟩ := hSw; go_simp
        simp only [Act.put, List.setIfInBounds_toArray, List.set_cons_zero, List.set_cons_succ]
        refine take_yes (i := 24) (some 56) (.bool false) rfl rfl (by kernel_rfl) (by kernel_rfl) (by kernel_rfl) (fun _ _ _ h => h) (by rfl) hHeld ?_ ?_
        · intro wq hSw; obtain ⟨s0, s1, s2, s3, s4, s5, s6, s7, s8, s9, s10, s11, s12⟩ := hSw; go_simp
        simp only [Act.put, List.setIfInBounds_toArray, List.set_cons_zero, List.set_cons_succ]
        refine take_yes (i := 25) (some 57) (.bool false) rfl rfl (by kernel_rfl) (by kernel_rfl) (by kernel_rfl) (fun _ _ _ h => h) (by rfl) hHeld ?_ ?_
        · intro wq hSw; obtain ⟨s0, s1, s2, s3, s4, s5, s6, s7, s8, s9, s10, s11, s12⟩ := hSw; go_simp
        simp only [Act.put, List.setIfInBounds_toArray, List.set_cons_zero, List.set_cons_succ]
        refine take_yes (i := 26) (some 58) (.bool false) rfl rfl (by kernel_rfl) (by kernel_rfl) (by kernel_rfl) (fun _ _ _ h => h) (by rfl) hHeld ?_ ?_
        · intro wq hSw; obtain ⟨s0, s1, s2, s3, s4, s5, s6, s7, s8, s9, s10, s11, s12⟩ := hSw; go_simp
        simp only [Act.put, List.setIfInBounds_toArray, List.set_cons_zero, List.set_cons_succ]
        refine take_yes (i := 27) (some 59) (.bool false) rfl rfl (by kernel_rfl) (by kernel_rfl) (by kernel_rfl) (fun _ _ _ h => h) (by rfl) hHeld ?_ ?_
        · intro wq hSw; obtain ⟨s0, s1, s2, s3, s4, s5, s6, s7, s8, s9, s10, s11, s12⟩ := hSw; go_simp
        simp only [Act.put, List.setIfInBounds_toArray, List.set_cons_zero, List.set_cons_succ]
        refine take_yes (i := 28) (some 60) (.bool true) rfl rfl (by kernel_rfl) (by kernel_rfl) (by kernel_rfl) (fun _ _ _ h => h) (by rfl) hHeld ?_ ?_
        · intro wq hSw; obtain ⟨s0, s1, s2, s3, s4, s5, s6, s7, s8, s9, s10, s11, s12⟩ := hSw; go_simp
        simp only [Act.put, List.setIfInBounds_toArray, List.set_cons_zero, List.set_cons_succ]
        refine take_yes (i := 29) (some 61) (.bool false) rfl rfl (by kernel_rfl) (by kernel_rfl) (by kernel_rfl) (fun _ _ _ h => h) (by rfl) hHeld ?_ ?_
        · intro wq hSw; obtain ⟨s0, s1, s2, s3, s4, s5, s6, s7, s8, s9, s10, s11, s12⟩ := hSw; go_simp
        simp only [Act.put, List.setIfInBounds_toArray, List.set_cons_zero, List.set_cons_succ]
        refine take_yes (i := 30) (some 62) (.bool false) rfl rfl (by kernel_rfl) (by kernel_rfl) (by kernel_rfl) (fun _ _ _ h => h) (by rfl) hHeld ?_ ?_
        · intro wq hSw; obtain ⟨s0, s1, s2, s3, s4, s5, s6, s7, s8, s9, s10, s11, s12⟩ := hSw; go_simp
        simp only [Act.put, List.setIfInBounds_toArray, List.set_cons_zero, List.set_cons_succ]
        refine take_no (i := 31) (some 63) rfl rfl (by kernel_rfl) (by kernel_rfl) (by kernel_rfl) (fun _ _ _ h => h) (by rfl) hHeld ?_
        simp only [Act.put, List.setIfInBounds_toArray, List.set_cons_zero, List.set_cons_succ]
        refine take_no (i := 32) (some 64) rfl rfl (by kernel_rfl) (by kernel_rfl) (by kernel_rfl) (fun _ _ _ h => h) (by rfl) hHeld ?_
        simp only [Act.put, List.setIfInBounds_toArray, List.set_cons_zero, List.set_cons_succ]
        refine take_no (i := 33) (some 65) rfl rfl (by kernel_rfl) (by kernel_rfl) (by kernel_rfl) (fun _ _ _ h => h) (by rfl) hHeld ?_
        simp only [Act.put, List.setIfInBounds_toArray, List.set_cons_zero, List.set_cons_succ]
        refine take_no (i := 34) (some 66) rfl rfl (by kernel_rfl) (by kernel_rfl) (by kernel_rfl) (fun _ _ _ h => h) (by rfl) hHeld ?_
        simp only [Act.put, List.setIfInBounds_toArray, List.set_cons_zero, List.set_cons_succ]
        refine take_no (i := 35) (some 67) rfl rfl (by kernel_rfl) (by kernel_rfl) (by kernel_rfl) (fun _ _ _ h => h) (by rfl) hHeld ?_
        simp only [Act.put, List.setIfInBounds_toArray, List.set_cons_zero, List.set_cons_succ]
        refine take_no (i := 36) (some 68) rfl rfl (by kernel_rfl) (by kernel_rfl) (by kernel_rfl) (fun _ _ _ h => h) (by rfl) hHeld ?_
        simp only [Act.put, List.setIfInBounds_toArray, List.set_cons_zero, List.set_cons_succ]
        refine take_no (i := 37) (some 69) rfl rfl (by kernel_rfl) (by kernel_rfl) (by kernel_rfl) (fun _ _ _ h => h) (by rfl) hHeld ?_
        simp only [Act.put, List.setIfInBounds_toArray, List.set_cons_zero, List.set_cons_succ]
        refine take_no (i := 38) (some 70) rfl rfl (by kernel_rfl) (by kernel_rfl) (by kernel_rfl) (fun _ _ _ h => h) (by rfl) hHeld ?_
        simp only [Act.put, List.setIfInBounds_toArray, List.set_cons_zero, List.set_cons_succ]
        refine take_no (i := 39) (some 71) rfl rfl (by kernel_rfl) (by kernel_rfl) (by kernel_rfl) (fun _ _ _ h => h) (by rfl) hHeld ?_
        simp only [Act.put, List.setIfInBounds_toArray, List.set_cons_zero, List.set_cons_succ]
        refine take_yes (i := 40) (some 72) (.bool false) rfl rfl (by kernel_rfl) (by kernel_rfl) (by kernel_rfl) (fun _ _ _ h => h) (by rfl) hHeld ?_ ?_
        · intro wq hSw; obtain ⟨s0, s1, s2, s3, s4, s5, s6, s7, s8, s9, s10, s11, s12⟩ := hSw; go_simp
        simp only [Act.put, List.setIfInBounds_toArray, List.set_cons_zero, List.set_cons_succ]
        refine take_yes (i := 41) (some 73) (.bool false) rfl rfl (by kernel_rfl) (by kernel_rfl) (by kernel_rfl) (fun _ _ _ h => h) (by rfl) hHeld ?_ ?_
        · intro wq hSw; obtain ⟨s0, s1, s2, s3, s4, s5, s6, s7, s8, s9, s10, s11, s12⟩ := hSw; go_simp
        simp only [Act.put, List.setIfInBounds_toArray, List.set_cons_zero, List.set_cons_succ]
        refine wpAnyH_done (by kernel_rfl) ?_ _
        go_wp2_with fail
        obtain ⟨rb, hrb⟩ : ∃ rb, rightT p = rb := ⟨_, rfl⟩
        obtain ⟨sb, hsb⟩ : ∃ sb, sameT p q = sb := ⟨_, rfl⟩
        obtain ⟨vb, hvb⟩ : ∃ vb, valI ((k : Int)) = vb := ⟨_, rfl⟩
        obtain ⟨fb, hfb⟩ : ∃ fb, funI ((k : Int)) = fb := ⟨_, rfl⟩
        have HC1 := Lib.hid (fun W (hw : Below w.heap.size w W) => right_b p rb W (HP.out.next hw) HF.out hrb)
        have HC2 := Lib.hid (fun W (hw : Below w.heap.size w W) => rright_b p rb W (HP.out.next hw) HF.out (by rw [← right_same]; exact hrb))
        have HC3 := Lib.hid (fun W (hw : Below w.heap.size w W) => same_b p q sb W (HP.out.next hw) (HQ.out.next hw) HF.out hsb)
        have HC4 := Lib.hid (fun W (hw : Below w.heap.size w W) => rsame_b p q sb W (HP.out.next hw) (HQ.out.next hw) HF.out HFq.out hsb)
        have HC5 := Lib.hid (fun W (hw : Below w.heap.size w W) => same_b p p true W (HP.out.next hw) (HP.out.next hw) HF.out (same_self p))
        have HC6 := Lib.hid (fun W => value_b ((k : Int)) vb W hvb)
        have HC7 := Lib.hid (fun W => rvalue_b ((k : Int)) vb W hvb)
        have HC8 := Lib.hid (fun W => function_b ((k : Int)) fb W hfb)
        have HC9 := Lib.hid (fun W => rfunction_b ((k : Int)) fb W hfb)
        unfold progV at HC1 HC2 HC3 HC4 HC5
        clear hrb hsb hvb hfb
        have LA := Lib.hid (show Below w.heap.size w w7.drew from L7.out.drew)
        have BA : Hid (TwoP p q w.heap.size w7.drew) := BB7
        have KA := Lib.hid (show w7.drew.cell? ⟨w.heap.size, 0, none⟩ = some (.string p.name) ∧ w7.drew.cell? ⟨w.heap.size, 1, none⟩ = some (.slice p.da p.dims.length p.dc) ∧ w7.drew.cell? ⟨w.heap.size, 2, none⟩ = some (.slice p.na p.nodes.length p.nc) ∧ w7.drew.cell? ⟨w.heap.size, 3, none⟩ = some (.slice p.fa p.defs.length p.fc) ∧ w7.drew.cell? ⟨w.heap.size, 4, none⟩ = some (.int .i64 p.root) ∧ w7.drew.cell? ⟨w.heap.size + 1, 0, none⟩ = some (.string q.name) ∧ w7.drew.cell? ⟨w.heap.size + 1, 1, none⟩ = some (.slice q.da q.dims.length q.dc) ∧ w7.drew.cell? ⟨w.heap.size + 1, 2, none⟩ = some (.slice q.na q.nodes.length q.nc) ∧ w7.drew.cell? ⟨w.heap.size + 1, 3, none⟩ = some (.slice q.fa q.defs.length q.fc) ∧ w7.drew.cell? ⟨w.heap.size + 1, 4, none⟩ = some (.int .i64 q.root) from ⟨BA.out.1.c 0, BA.out.1.c 1, BA.out.1.c 2, BA.out.1.c 3, BA.out.1.c 4, BA.out.2.c 0, BA.out.2.c 1, BA.out.2.c 2, BA.out.2.c 3, BA.out.2.c 4⟩)
        go_region_held3 (fun w' => w'.cell? ⟨w.heap.size, 0, none⟩ = some (.string p.name) ∧ w'.cell? ⟨w.heap.size, 1, none⟩ = some (.slice p.da p.dims.length p.dc) ∧ w'.cell? ⟨w.heap.size, 2, none⟩ = some (.slice p.na p.nodes.length p.nc) ∧ w'.cell? ⟨w.heap.size, 3, none⟩ = some (.slice p.fa p.defs.length p.fc) ∧ w'.cell? ⟨w.heap.size, 4, none⟩ = some (.int .i64 p.root) ∧ w'.cell? ⟨w.heap.size + 1, 0, none⟩ = some (.string q.name) ∧ w'.cell? ⟨w.heap.size + 1, 1, none⟩ = some (.slice q.da q.dims.length q.dc) ∧ w'.cell? ⟨w.heap.size + 1, 2, none⟩ = some (.slice q.na q.nodes.length q.nc) ∧ w'.cell? ⟨w.heap.size + 1, 3, none⟩ = some (.slice q.fa q.defs.length q.fc) ∧ w'.cell? ⟨w.heap.size + 1, 4, none⟩ = some (.int .i64 q.root))
          (first
            | with_reducible exact KG.out
            | with_reducible exact KF.out
            | with_reducible exact KE.out
            | with_reducible exact KD.out
            | with_reducible exact KC.out
            | with_reducible exact KB.out
            | with_reducible exact KA.out
            | go_keep)
          (first
            | (go_at_call 10; (with_reducible refine (HC1.out _ LA.out).mono ?_); rintro r9 wB ⟨rfl, hb9⟩; have LB1 := Lib.hid (Gl.below_next LA.out hb9); have BB1x := Lib.hid (TwoP.next BA.out hb9); have KB := Lib.hid (show wB.cell? ⟨w.heap.size, 0, none⟩ = some (.string p.name) ∧ wB.cell? ⟨w.heap.size, 1, none⟩ = some (.slice p.da p.dims.length p.dc) ∧ wB.cell? ⟨w.heap.size, 2, none⟩ = some (.slice p.na p.nodes.length p.nc) ∧ wB.cell? ⟨w.heap.size, 3, none⟩ = some (.slice p.fa p.defs.length p.fc) ∧ wB.cell? ⟨w.heap.size, 4, none⟩ = some (.int .i64 p.root) ∧ wB.cell? ⟨w.heap.size + 1, 0, none⟩ = some (.string q.name) ∧ wB.cell? ⟨w.heap.size + 1, 1, none⟩ = some (.slice q.da q.dims.length q.dc) ∧ wB.cell? ⟨w.heap.size + 1, 2, none⟩ = some (.slice q.na q.nodes.length q.nc) ∧ wB.cell? ⟨w.heap.size + 1, 3, none⟩ = some (.slice q.fa q.defs.length q.fc) ∧ wB.cell? ⟨w.heap.size + 1, 4, none⟩ = some (.int .i64 q.root) from ⟨BB1x.out.1.c 0, BB1x.out.1.c 1, BB1x.out.1.c 2, BB1x.out.1.c 3, BB1x.out.1.c 4, BB1x.out.2.c 0, BB1x.out.2.c 1, BB1x.out.2.c 2, BB1x.out.2.c 3, BB1x.out.2.c 4⟩); clear hb9)
            | (go_at_call 11; (with_reducible refine (HC2.out _ LB1.out).mono ?_); rintro r9 wC ⟨rfl, hb9⟩; have LC1 := Lib.hid (Gl.below_next LB1.out hb9); have BC1 := Lib.hid (TwoP.next BB1x.out hb9); have KC := Lib.hid (show wC.cell? ⟨w.heap.size, 0, none⟩ = some (.string p.name) ∧ wC.cell? ⟨w.heap.size, 1, none⟩ = some (.slice p.da p.dims.length p.dc) ∧ wC.cell? ⟨w.heap.size, 2, none⟩ = some (.slice p.na p.nodes.length p.nc) ∧ wC.cell? ⟨w.heap.size, 3, none⟩ = some (.slice p.fa p.defs.length p.fc) ∧ wC.cell? ⟨w.heap.size, 4, none⟩ = some (.int .i64 p.root) ∧ wC.cell? ⟨w.heap.size + 1, 0, none⟩ = some (.string q.name) ∧ wC.cell? ⟨w.heap.size + 1, 1, none⟩ = some (.slice q.da q.dims.length q.dc) ∧ wC.cell? ⟨w.heap.size + 1, 2, none⟩ = some (.slice q.na q.nodes.length q.nc) ∧ wC.cell? ⟨w.heap.size + 1, 3, none⟩ = some (.slice q.fa q.defs.length q.fc) ∧ wC.cell? ⟨w.heap.size + 1, 4, none⟩ = some (.int .i64 q.root) from ⟨BC1.out.1.c 0, BC1.out.1.c 1, BC1.out.1.c 2, BC1.out.1.c 3, BC1.out.1.c 4, BC1.out.2.c 0, BC1.out.2.c 1, BC1.out.2.c 2, BC1.out.2.c 3, BC1.out.2.c 4⟩); clear hb9)
            | (go_at_call 12; (with_reducible refine (HC3.out _ LC1.out).mono ?_); rintro r9 wD ⟨rfl, hb9⟩; have LD1 := Lib.hid (Gl.below_next LC1.out hb9); have BD1 := Lib.hid (TwoP.next BC1.out hb9); have KD := Lib.hid (show wD.cell? ⟨w.heap.size, 0, none⟩ = some (.string p.name) ∧ wD.cell? ⟨w.heap.size, 1, none⟩ = some (.slice p.da p.dims.length p.dc) ∧ wD.cell? ⟨w.heap.size, 2, none⟩ = some (.slice p.na p.nodes.length p.nc) ∧ wD.cell? ⟨w.heap.size, 3, none⟩ = some (.slice p.fa p.defs.length p.fc) ∧ wD.cell? ⟨w.heap.size, 4, none⟩ = some (.int .i64 p.root) ∧ wD.cell? ⟨w.heap.size + 1, 0, none⟩ = some (.string q.name) ∧ wD.cell? ⟨w.heap.size + 1, 1, none⟩ = some (.slice q.da q.dims.length q.dc) ∧ wD.cell? ⟨w.heap.size + 1, 2, none⟩ = some (.slice q.na q.nodes.length q.nc) ∧ wD.cell? ⟨w.heap.size + 1, 3, none⟩ = some (.slice q.fa q.defs.length q.fc) ∧ wD.cell? ⟨w.heap.size + 1, 4, none⟩ = some (.int .i64 q.root) from ⟨BD1.out.1.c 0, BD1.out.1.c 1, BD1.out.1.c 2, BD1.out.1.c 3, BD1.out.1.c 4, BD1.out.2.c 0, BD1.out.2.c 1, BD1.out.2.c 2, BD1.out.2.c 3, BD1.out.2.c 4⟩); clear hb9)
            | (go_at_call 13; (with_reducible refine (HC4.out _ LD1.out).mono ?_); rintro r9 wE ⟨rfl, hb9⟩; have LE1 := Lib.hid (Gl.below_next LD1.out hb9); have BE1 := Lib.hid (TwoP.next BD1.out hb9); have KE := Lib.hid (show wE.cell? ⟨w.heap.size, 0, none⟩ = some (.string p.name) ∧ wE.cell? ⟨w.heap.size, 1, none⟩ = some (.slice p.da p.dims.length p.dc) ∧ wE.cell? ⟨w.heap.size, 2, none⟩ = some (.slice p.na p.nodes.length p.nc) ∧ wE.cell? ⟨w.heap.size, 3, none⟩ = some (.slice p.fa p.defs.length p.fc) ∧ wE.cell? ⟨w.heap.size, 4, none⟩ = some (.int .i64 p.root) ∧ wE.cell? ⟨w.heap.size + 1, 0, none⟩ = some (.string q.name) ∧ wE.cell? ⟨w.heap.size + 1, 1, none⟩ = some (.slice q.da q.dims.length q.dc) ∧ wE.cell? ⟨w.heap.size + 1, 2, none⟩ = some (.slice q.na q.nodes.length q.nc) ∧ wE.cell? ⟨w.heap.size + 1, 3, none⟩ = some (.slice q.fa q.defs.length q.fc) ∧ wE.cell? ⟨w.heap.size + 1, 4, none⟩ = some (.int .i64 q.root) from ⟨BE1.out.1.c 0, BE1.out.1.c 1, BE1.out.1.c 2, BE1.out.1.c 3, BE1.out.1.c 4, BE1.out.2.c 0, BE1.out.2.c 1, BE1.out.2.c 2, BE1.out.2.c 3, BE1.out.2.c 4⟩); clear hb9)
            | (go_at_call 12; (with_reducible refine (HC5.out _ LE1.out).mono ?_); rintro r9 wF ⟨rfl, hb9⟩; have LF1 := Lib.hid (Gl.below_next LE1.out hb9); have BF1 := Lib.hid (TwoP.next BE1.out hb9); have KF := Lib.hid (show wF.cell? ⟨w.heap.size, 0, none⟩ = some (.string p.name) ∧ wF.cell? ⟨w.heap.size, 1, none⟩ = some (.slice p.da p.dims.length p.dc) ∧ wF.cell? ⟨w.heap.size, 2, none⟩ = some (.slice p.na p.nodes.length p.nc) ∧ wF.cell? ⟨w.heap.size, 3, none⟩ = some (.slice p.fa p.defs.length p.fc) ∧ wF.cell? ⟨w.heap.size, 4, none⟩ = some (.int .i64 p.root) ∧ wF.cell? ⟨w.heap.size + 1, 0, none⟩ = some (.string q.name) ∧ wF.cell? ⟨w.heap.size + 1, 1, none⟩ = some (.slice q.da q.dims.length q.dc) ∧ wF.cell? ⟨w.heap.size + 1, 2, none⟩ = some (.slice q.na q.nodes.length q.nc) ∧ wF.cell? ⟨w.heap.size + 1, 3, none⟩ = some (.slice q.fa q.defs.length q.fc) ∧ wF.cell? ⟨w.heap.size + 1, 4, none⟩ = some (.int .i64 q.root) from ⟨BF1.out.1.c 0, BF1.out.1.c 1, BF1.out.1.c 2, BF1.out.1.c 3, BF1.out.1.c 4, BF1.out.2.c 0, BF1.out.2.c 1, BF1.out.2.c 2, BF1.out.2.c 3, BF1.out.2.c 4⟩); clear hb9)
            | (go_at_call 14; (with_reducible refine (HC6.out _).mono ?_); rintro r9 w9 ⟨rfl, rfl⟩)
            | (go_at_call 15; (with_reducible refine (HC7.out _).mono ?_); rintro r9 w9 ⟨rfl, rfl⟩)
            | (go_at_call 16; (with_reducible refine (HC8.out _).mono ?_); rintro r9 w9 ⟨rfl, rfl⟩)
            | (go_at_call 17; (with_reducible refine (HC9.out _).mono ?_); rintro r9 w9 ⟨rfl, rfl⟩)
            | (go_at_call 7; (with_reducible refine (HLV.out _).mono ?_); rintro r9 wG ⟨rfl, hb9⟩; have LG1 := Lib.hid (Gl.below_next LF1.out hb9); have BG1 := Lib.hid (TwoP.next BF1.out hb9); have KG := Lib.hid (show wG.cell? ⟨w.heap.size, 0, none⟩ = some (.string p.name) ∧ wG.cell? ⟨w.heap.size, 1, none⟩ = some (.slice p.da p.dims.length p.dc) ∧ wG.cell? ⟨w.heap.size, 2, none⟩ = some (.slice p.na p.nodes.length p.nc) ∧ wG.cell? ⟨w.heap.size, 3, none⟩ = some (.slice p.fa p.defs.length p.fc) ∧ wG.cell? ⟨w.heap.size, 4, none⟩ = some (.int .i64 p.root) ∧ wG.cell? ⟨w.heap.size + 1, 0, none⟩ = some (.string q.name) ∧ wG.cell? ⟨w.heap.size + 1, 1, none⟩ = some (.slice q.da q.dims.length q.dc) ∧ wG.cell? ⟨w.heap.size + 1, 2, none⟩ = some (.slice q.na q.nodes.length q.nc) ∧ wG.cell? ⟨w.heap.size + 1, 3, none⟩ = some (.slice q.fa q.defs.length q.fc) ∧ wG.cell? ⟨w.heap.size + 1, 4, none⟩ = some (.int .i64 q.root) from ⟨BG1.out.1.c 0, BG1.out.1.c 1, BG1.out.1.c 2, BG1.out.1.c 3, BG1.out.1.c 4, BG1.out.2.c 0, BG1.out.2.c 1, BG1.out.2.c 2, BG1.out.2.c 3, BG1.out.2.c 4⟩); clear hb9))
        go_wp2
        go_ret
        exact ⟨rfl, LG1.out⟩
      | false =>
        by_cases hneg : i < 0
        · have t0 : decide ((0 : Int) ≤ i) = false := by simp; omega
          obtain rfl : zeroNd = nn := by have h := HNN.out; unfold nodeAt at h; rw [if_neg (by rw [HTB.out]; simp)] at h; exact h
          have HAL := Lib.hid (alike_b ⟨zeroNd, ka, kc, na, nc⟩ ⟨zeroNd, none, 0, none, 0⟩ true (w3.alloc (.cells #[.int .i64 0, .int .i64 0, .int .i64 0, .slice ka 0 kc, .slice na 0 nc, .string ⟨#[]⟩] 31)).drew HI4.out (zero_in _) (alike_self _))
          unfold nodeV at HAL
          unfold zeroNd at HAL BN LN L4 BB4 HI4 y2 ⊢
          simp only [List.length_nil] at HAL BN LN L4 BB4 HI4 y2 ⊢
          go_upto_region 5 with fail
          generalize hwz : w3.alloc (.cells #[.int .i64 0, .int .i64 0, .int .i64 0, .slice ka 0 kc, .slice na 0 nc, .string ⟨#[]⟩] 31) = wz at *
          have hlt3 : w3.heap.size < wz.heap.size := BN.out.lt
          have hS0 : wz.drew.cell? ⟨w3.heap.size, 0, none⟩ = some (.int .i64 0) ∧ wz.drew.cell? ⟨w3.heap.size, 1, none⟩ = some (.int .i64 0) ∧ wz.drew.cell? ⟨w3.heap.size, 2, none⟩ = some (.int .i64 0) ∧ wz.drew.cell? ⟨w3.heap.size, 3, none⟩ = some (.slice ka 0 kc) ∧ wz.drew.cell? ⟨w3.heap.size, 4, none⟩ = some (.slice na 0 nc) ∧ wz.drew.cell? ⟨w3.heap.size, 5, none⟩ = some (.string ⟨#[]⟩) := ⟨BN.out.c 0, BN.out.c 1, BN.out.c 2, BN.out.c 3, BN.out.c 4, BN.out.c 5⟩
          clear hwz HTB HNN y2
          refine wp_region_held_drew (S := fun w' => w'.cell? ⟨w3.heap.size, 0, none⟩ = some (.int .i64 0) ∧ w'.cell? ⟨w3.heap.size, 1, none⟩ = some (.int .i64 0) ∧ w'.cell? ⟨w3.heap.size, 2, none⟩ = some (.int .i64 0) ∧ w'.cell? ⟨w3.heap.size, 3, none⟩ = some (.slice ka 0 kc) ∧ w'.cell? ⟨w3.heap.size, 4, none⟩ = some (.slice na 0 nc) ∧ w'.cell? ⟨w3.heap.size, 5, none⟩ = some (.string ⟨#[]⟩)) (by kernel_rfl) hS0 (fun hHeld => ?_)
          refine take_yes (i := 0) (some 32) (.bool false) rfl rfl (by kernel_rfl) (by kernel_rfl) (by kernel_rfl) (fun _ _ _ h => h) (by rfl) hHeld ?_ ?_
          · intro wq hSw; obtain ⟨s0, s1, s2, s3, s4, s5⟩ := hSw; go_simp
          simp only [Act.put, List.setIfInBounds_toArray, List.set_cons_zero, List.set_cons_succ]
          refine take_yes (i := 1) (some 33) (.bool false) rfl rfl (by kernel_rfl) (by kernel_rfl) (by kernel_rfl) (fun _ _ _ h => h) (by rfl) hHeld ?_ ?_
          · intro wq hSw; obtain ⟨s0, s1, s2, s3, s4, s5⟩ := hSw; go_simp
          simp only [Act.put, List.setIfInBounds_toArray, List.set_cons_zero, List.set_cons_succ]
          refine take_yes (i := 2) (some 34) (.bool false) rfl rfl (by kernel_rfl) (by kernel_rfl) (by kernel_rfl) (fun _ _ _ h => h) (by rfl) hHeld ?_ ?_
          · intro wq hSw; obtain ⟨s0, s1, s2, s3, s4, s5⟩ := hSw; go_simp
          simp only [Act.put, List.setIfInBounds_toArray, List.set_cons_zero, List.set_cons_succ]
          refine take_yes (i := 3) (some 35) (.bool false) rfl rfl (by kernel_rfl) (by kernel_rfl) (by kernel_rfl) (fun _ _ _ h => h) (by rfl) hHeld ?_ ?_
          · intro wq hSw; obtain ⟨s0, s1, s2, s3, s4, s5⟩ := hSw; go_simp
          simp only [Act.put, List.setIfInBounds_toArray, List.set_cons_zero, List.set_cons_succ]
          refine take_yes (i := 4) (some 36) (.bool false) rfl rfl (by kernel_rfl) (by kernel_rfl) (by kernel_rfl) (fun _ _ _ h => h) (by rfl) hHeld ?_ ?_
          · intro wq hSw; obtain ⟨s0, s1, s2, s3, s4, s5⟩ := hSw; go_simp
          simp only [Act.put, List.setIfInBounds_toArray, List.set_cons_zero, List.set_cons_succ]
          refine take_yes (i := 5) (some 37) (.bool false) rfl rfl (by kernel_rfl) (by kernel_rfl) (by kernel_rfl) (fun _ _ _ h => h) (by rfl) hHeld ?_ ?_
          · intro wq hSw; obtain ⟨s0, s1, s2, s3, s4, s5⟩ := hSw; go_simp
          simp only [Act.put, List.setIfInBounds_toArray, List.set_cons_zero, List.set_cons_succ]
          refine take_no (i := 6) (some 38) rfl rfl (by kernel_rfl) (by kernel_rfl) (by kernel_rfl) (fun _ _ _ h => h) (by rfl) hHeld ?_
          simp only [Act.put, List.setIfInBounds_toArray, List.set_cons_zero, List.set_cons_succ]
          refine take_no (i := 7) (some 39) rfl rfl (by kernel_rfl) (by kernel_rfl) (by kernel_rfl) (fun _ _ _ h => h) (by rfl) hHeld ?_
          simp only [Act.put, List.setIfInBounds_toArray, List.set_cons_zero, List.set_cons_succ]
          refine take_no (i := 8) (some 40) rfl rfl (by kernel_rfl) (by kernel_rfl) (by kernel_rfl) (fun _ _ _ h => h) (by rfl) hHeld ?_
          simp only [Act.put, List.setIfInBounds_toArray, List.set_cons_zero, List.set_cons_succ]
          refine take_no (i := 9) (some 41) rfl rfl (by kernel_rfl) (by kernel_rfl) (by kernel_rfl) (fun _ _ _ h => h) (by rfl) hHeld ?_
          simp only [Act.put, List.setIfInBounds_toArray, List.set_cons_zero, List.set_cons_succ]
          refine take_no (i := 10) (some 42) rfl rfl (by kernel_rfl) (by kernel_rfl) (by kernel_rfl) (fun _ _ _ h => h) (by rfl) hHeld ?_
          simp only [Act.put, List.setIfInBounds_toArray, List.set_cons_zero, List.set_cons_succ]
          refine take_no (i := 11) (some 43) rfl rfl (by kernel_rfl) (by kernel_rfl) (by kernel_rfl) (fun _ _ _ h => h) (by rfl) hHeld ?_
          simp only [Act.put, List.setIfInBounds_toArray, List.set_cons_zero, List.set_cons_succ]
          refine take_no (i := 12) (some 44) rfl rfl (by kernel_rfl) (by kernel_rfl) (by kernel_rfl) (fun _ _ _ h => h) (by rfl) hHeld ?_
          simp only [Act.put, List.setIfInBounds_toArray, List.set_cons_zero, List.set_cons_succ]
          refine take_no (i := 13) (some 45) rfl rfl (by kernel_rfl) (by kernel_rfl) (by kernel_rfl) (fun _ _ _ h => h) (by rfl) hHeld ?_
          simp only [Act.put, List.setIfInBounds_toArray, List.set_cons_zero, List.set_cons_succ]
          refine take_no (i := 14) (some 46) rfl rfl (by kernel_rfl) (by kernel_rfl) (by kernel_rfl) (fun _ _ _ h => h) (by rfl) hHeld ?_
          simp only [Act.put, List.setIfInBounds_toArray, List.set_cons_zero, List.set_cons_succ]
          refine take_no (i := 15) (some 47) rfl rfl (by kernel_rfl) (by kernel_rfl) (by kernel_rfl) (fun _ _ _ h => h) (by rfl) hHeld ?_
          simp only [Act.put, List.setIfInBounds_toArray, List.set_cons_zero, List.set_cons_succ]
          refine take_no (i := 16) (some 48) rfl rfl (by kernel_rfl) (by kernel_rfl) (by kernel_rfl) (fun _ _ _ h => h) (by rfl) hHeld ?_
          simp only [Act.put, List.setIfInBounds_toArray, List.set_cons_zero, List.set_cons_succ]
          refine take_no (i := 17) (some 49) rfl rfl (by kernel_rfl) (by kernel_rfl) (by kernel_rfl) (fun _ _ _ h => h) (by rfl) hHeld ?_
          simp only [Act.put, List.setIfInBounds_toArray, List.set_cons_zero, List.set_cons_succ]
          refine take_no (i := 18) (some 50) rfl rfl (by kernel_rfl) (by kernel_rfl) (by kernel_rfl) (fun _ _ _ h => h) (by rfl) hHeld ?_
          simp only [Act.put, List.setIfInBounds_toArray, List.set_cons_zero, List.set_cons_succ]
          refine take_no (i := 19) (some 51) rfl rfl (by kernel_rfl) (by kernel_rfl) (by kernel_rfl) (fun _ _ _ h => h) (by rfl) hHeld ?_
          simp only [Act.put, List.setIfInBounds_toArray, List.set_cons_zero, List.set_cons_succ]
          refine take_no (i := 20) (some 52) rfl rfl (by kernel_rfl) (by kernel_rfl) (by kernel_rfl) (fun _ _ _ h => h) (by rfl) hHeld ?_
          simp only [Act.put, List.setIfInBounds_toArray, List.set_cons_zero, List.set_cons_succ]
          refine take_no (i := 21) (some 53) rfl rfl (by kernel_rfl) (by kernel_rfl) (by kernel_rfl) (fun _ _ _ h => h) (by rfl) hHeld ?_
          simp only [Act.put, List.setIfInBounds_toArray, List.set_cons_zero, List.set_cons_succ]
          refine take_no (i := 22) (some 54) rfl rfl (by kernel_rfl) (by kernel_rfl) (by kernel_rfl) (fun _ _ _ h => h) (by rfl) hHeld ?_
          simp only [Act.put, List.setIfInBounds_toArray, List.set_cons_zero, List.set_cons_succ]
          refine take_no (i := 23) (some 55) rfl rfl (by kernel_rfl) (by kernel_rfl) (by kernel_rfl) (fun _ _ _ h => h) (by rfl) hHeld ?_
          simp only [Act.put, List.setIfInBounds_toArray, List.set_cons_zero, List.set_cons_succ]
          refine take_no (i := 24) (some 56) rfl rfl (by kernel_rfl) (by kernel_rfl) (by kernel_rfl) (fun _ _ _ h => h) (by rfl) hHeld ?_
          simp only [Act.put, List.setIfInBounds_toArray, List.set_cons_zero, List.set_cons_succ]
          refine take_yes (i := 25) (some 57) (.bool false) rfl rfl (by kernel_rfl) (by kernel_rfl) (by kernel_rfl) (fun _ _ _ h => h) (by rfl) hHeld ?_ ?_
          · intro wq hSw; obtain ⟨s0, s1, s2, s3, s4, s5⟩ := hSw; go_simp
          simp only [Act.put, List.setIfInBounds_toArray, List.set_cons_zero, List.set_cons_succ]
          refine take_yes (i := 26) (some 58) (.bool false) rfl rfl (by kernel_rfl) (by kernel_rfl) (by kernel_rfl) (fun _ _ _ h => h) (by rfl) hHeld ?_ ?_
          · intro wq hSw; obtain ⟨s0, s1, s2, s3, s4, s5⟩ := hSw; go_simp
          simp only [Act.put, List.setIfInBounds_toArray, List.set_cons_zero, List.set_cons_succ]
          refine take_yes (i := 27) (some 59) (.bool false) rfl rfl (by kernel_rfl) (by kernel_rfl) (by kernel_rfl) (fun _ _ _ h => h) (by rfl) hHeld ?_ ?_
          · intro wq hSw; obtain ⟨s0, s1, s2, s3, s4, s5⟩ := hSw; go_simp
          simp only [Act.put, List.setIfInBounds_toArray, List.set_cons_zero, List.set_cons_succ]
          refine take_yes (i := 28) (some 60) (.bool false) rfl rfl (by kernel_rfl) (by kernel_rfl) (by kernel_rfl) (fun _ _ _ h => h) (by rfl) hHeld ?_ ?_
          · intro wq hSw; obtain ⟨s0, s1, s2, s3, s4, s5⟩ := hSw; go_simp
          simp only [Act.put, List.setIfInBounds_toArray, List.set_cons_zero, List.set_cons_succ]
          refine take_yes (i := 29) (some 61) (.bool true) rfl rfl (by kernel_rfl) (by kernel_rfl) (by kernel_rfl) (fun _ _ _ h => h) (by rfl) hHeld ?_ ?_
          · intro wq hSw; obtain ⟨s0, s1, s2, s3, s4, s5⟩ := hSw; go_simp
          simp only [Act.put, List.setIfInBounds_toArray, List.set_cons_zero, List.set_cons_succ]
          refine take_yes (i := 30) (some 62) (.bool true) rfl rfl (by kernel_rfl) (by kernel_rfl) (by kernel_rfl) (fun _ _ _ h => h) (by rfl) hHeld ?_ ?_
          · intro wq hSw; obtain ⟨s0, s1, s2, s3, s4, s5⟩ := hSw; go_simp
          simp only [Act.put, List.setIfInBounds_toArray, List.set_cons_zero, List.set_cons_succ]
          refine take_yes (i := 31) (some 63) (.agg #[.int .i64 0, .int .i64 0, .int .i64 0, .slice ka 0 kc, .slice na 0 nc, .string ⟨#[]⟩]) rfl rfl (by kernel_rfl) (by kernel_rfl) (by kernel_rfl) (fun _ _ _ h => h) (by rfl) hHeld ?_ ?_
          · intro wq hSw; obtain ⟨s0, s1, s2, s3, s4, s5⟩ := hSw; go_simp
          simp only [Act.put, List.setIfInBounds_toArray, List.set_cons_zero, List.set_cons_succ]
          refine take_yes (i := 32) (some 64) (.agg #[.int .i64 0, .int .i64 0, .int .i64 0, .slice none 0 0, .slice none 0 0, .string ⟨#[]⟩]) rfl rfl (by kernel_rfl) (by kernel_rfl) (by kernel_rfl) (fun _ _ _ h => h) (by rfl) hHeld ?_ ?_
          · intro wq hSw; obtain ⟨s0, s1, s2, s3, s4, s5⟩ := hSw; go_simp
          simp only [Act.put, List.setIfInBounds_toArray, List.set_cons_zero, List.set_cons_succ]
          refine wpAnyH_ready (rs := [33]) (by kernel_rfl) (by simp) ?_
          refine AllReadyH.cons rfl (fun K hK => ?_) AllReadyH.nil
          go_simp
          (go_at_call 9; refine (HAL.out).mono ?_; rintro r w7 ⟨rfl, hb7⟩)
          have hq : w7.cell? ⟨w3.heap.size, 0, none⟩ = some (.int .i64 0) ∧ w7.cell? ⟨w3.heap.size, 1, none⟩ = some (.int .i64 0) ∧ w7.cell? ⟨w3.heap.size, 2, none⟩ = some (.int .i64 0) ∧ w7.cell? ⟨w3.heap.size, 3, none⟩ = some (.slice ka 0 kc) ∧ w7.cell? ⟨w3.heap.size, 4, none⟩ = some (.slice na 0 nc) ∧ w7.cell? ⟨w3.heap.size, 5, none⟩ = some (.string ⟨#[]⟩) := by obtain ⟨s0, s1, s2, s3, s4, s5⟩ := hHeld; exact ⟨(hb7.cell (p := ⟨w3.heap.size, _, none⟩) hlt3).trans s0, (hb7.cell (p := ⟨w3.heap.size, _, none⟩) hlt3).trans s1, (hb7.cell (p := ⟨w3.heap.size, _, none⟩) hlt3).trans s2, (hb7.cell (p := ⟨w3.heap.size, _, none⟩) hlt3).trans s3, (hb7.cell (p := ⟨w3.heap.size, _, none⟩) hlt3).trans s4, (hb7.cell (p := ⟨w3.heap.size, _, none⟩) hlt3).trans s5⟩
          have L7 := Lib.hid (Gl.below_next L4.out.drew hb7)
          have BB7 := Lib.hid (TwoP.next (show TwoP p q w.heap.size wz.drew from BB4.out) hb7)
          clear hb7
          go_wp2_with fail
          refine hK.out _ _ hq (fun hHeld => ?_)
          clear hK K
          refine take_yes (i := 34) (some 66) (.bool false) rfl rfl (by kernel_rfl) (by kernel_rfl) (by kernel_rfl) (fun _ _ _ h => h) (by rfl) hHeld ?_ ?_
          · intro wq hSw; obtain ⟨s0, s1, s2, s3, s4, s5⟩ := hSw; go_simp
          simp only [Act.put, List.setIfInBounds_toArray, List.set_cons_zero, List.set_cons_succ]
          refine take_yes (i := 35) (some 67) (.bool false) rfl rfl (by kernel_rfl) (by kernel_rfl) (by kernel_rfl) (fun _ _ _ h => h) (by rfl) hHeld ?_ ?_
          · intro wq hSw; obtain ⟨s0, s1, s2, s3, s4, s5⟩ := hSw; go_simp
          simp only [Act.put, List.setIfInBounds_toArray, List.set_cons_zero, List.set_cons_succ]
          refine take_yes (i := 36) (some 68) (.pointer (some ⟨w3.heap.size, 1, none⟩)) rfl rfl (by kernel_rfl) (by kernel_rfl) (by kernel_rfl) (fun _ _ _ h => h) (by rfl) hHeld ?_ ?_
          · intro wq hSw; obtain ⟨s0, s1, s2, s3, s4, s5⟩ := hSw; go_simp
          simp only [Act.put, List.setIfInBounds_toArray, List.set_cons_zero, List.set_cons_succ]
          refine take_yes (i := 37) (some 69) (.int .i64 0) rfl rfl (by kernel_rfl) (by kernel_rfl) (by kernel_rfl) (fun _ _ _ h => h) (by rfl) hHeld ?_ ?_
          · intro wq hSw; obtain ⟨s0, s1, s2, s3, s4, s5⟩ := hSw; go_simp
          simp only [Act.put, List.setIfInBounds_toArray, List.set_cons_zero, List.set_cons_succ]
          refine take_yes (i := 38) (some 70) (.bool false) rfl rfl (by kernel_rfl) (by kernel_rfl) (by kernel_rfl) (fun _ _ _ h => h) (by rfl) hHeld ?_ ?_
          · intro wq hSw; obtain ⟨s0, s1, s2, s3, s4, s5⟩ := hSw; go_simp
          simp only [Act.put, List.setIfInBounds_toArray, List.set_cons_zero, List.set_cons_succ]
          refine take_yes (i := 39) (some 71) (.bool false) rfl rfl (by kernel_rfl) (by kernel_rfl) (by kernel_rfl) (fun _ _ _ h => h) (by rfl) hHeld ?_ ?_
          · intro wq hSw; obtain ⟨s0, s1, s2, s3, s4, s5⟩ := hSw; go_simp
          simp only [Act.put, List.setIfInBounds_toArray, List.set_cons_zero, List.set_cons_succ]
          refine take_yes (i := 40) (some 72) (.bool false) rfl rfl (by kernel_rfl) (by kernel_rfl) (by kernel_rfl) (fun _ _ _ h => h) (by rfl) hHeld ?_ ?_
          · intro wq hSw; obtain ⟨s0, s1, s2, s3, s4, s5⟩ := hSw; go_simp
          simp only [Act.put, List.setIfInBounds_toArray, List.set_cons_zero, List.set_cons_succ]
          refine take_yes (i := 41) (some 73) (.bool false) rfl rfl (by kernel_rfl) (by kernel_rfl) (by kernel_rfl) (fun _ _ _ h => h) (by rfl) hHeld ?_ ?_
          · intro wq hSw; obtain ⟨s0, s1, s2, s3, s4, s5⟩ := hSw; go_simp
          simp only [Act.put, List.setIfInBounds_toArray, List.set_cons_zero, List.set_cons_succ]
          refine wpAnyH_done (by kernel_rfl) ?_ _
          go_wp2_with fail
          obtain ⟨rb, hrb⟩ : ∃ rb, rightT p = rb := ⟨_, rfl⟩
          obtain ⟨sb, hsb⟩ : ∃ sb, sameT p q = sb := ⟨_, rfl⟩
          obtain ⟨vb, hvb⟩ : ∃ vb, valI (i) = vb := ⟨_, rfl⟩
          obtain ⟨fb, hfb⟩ : ∃ fb, funI (i) = fb := ⟨_, rfl⟩
          have HC1 := Lib.hid (fun W (hw : Below w.heap.size w W) => right_b p rb W (HP.out.next hw) HF.out hrb)
          have HC2 := Lib.hid (fun W (hw : Below w.heap.size w W) => rright_b p rb W (HP.out.next hw) HF.out (by rw [← right_same]; exact hrb))
          have HC3 := Lib.hid (fun W (hw : Below w.heap.size w W) => same_b p q sb W (HP.out.next hw) (HQ.out.next hw) HF.out hsb)
          have HC4 := Lib.hid (fun W (hw : Below w.heap.size w W) => rsame_b p q sb W (HP.out.next hw) (HQ.out.next hw) HF.out HFq.out hsb)
          have HC5 := Lib.hid (fun W (hw : Below w.heap.size w W) => same_b p p true W (HP.out.next hw) (HP.out.next hw) HF.out (same_self p))
          have HC6 := Lib.hid (fun W => value_b (i) vb W hvb)
          have HC7 := Lib.hid (fun W => rvalue_b (i) vb W hvb)
          have HC8 := Lib.hid (fun W => function_b (i) fb W hfb)
          have HC9 := Lib.hid (fun W => rfunction_b (i) fb W hfb)
          unfold progV at HC1 HC2 HC3 HC4 HC5
          clear hrb hsb hvb hfb
          have LA := Lib.hid (show Below w.heap.size w w7.drew from L7.out.drew)
          have BA : Hid (TwoP p q w.heap.size w7.drew) := BB7
          have KA := Lib.hid (show w7.drew.cell? ⟨w.heap.size, 0, none⟩ = some (.string p.name) ∧ w7.drew.cell? ⟨w.heap.size, 1, none⟩ = some (.slice p.da p.dims.length p.dc) ∧ w7.drew.cell? ⟨w.heap.size, 2, none⟩ = some (.slice p.na p.nodes.length p.nc) ∧ w7.drew.cell? ⟨w.heap.size, 3, none⟩ = some (.slice p.fa p.defs.length p.fc) ∧ w7.drew.cell? ⟨w.heap.size, 4, none⟩ = some (.int .i64 p.root) ∧ w7.drew.cell? ⟨w.heap.size + 1, 0, none⟩ = some (.string q.name) ∧ w7.drew.cell? ⟨w.heap.size + 1, 1, none⟩ = some (.slice q.da q.dims.length q.dc) ∧ w7.drew.cell? ⟨w.heap.size + 1, 2, none⟩ = some (.slice q.na q.nodes.length q.nc) ∧ w7.drew.cell? ⟨w.heap.size + 1, 3, none⟩ = some (.slice q.fa q.defs.length q.fc) ∧ w7.drew.cell? ⟨w.heap.size + 1, 4, none⟩ = some (.int .i64 q.root) from ⟨BA.out.1.c 0, BA.out.1.c 1, BA.out.1.c 2, BA.out.1.c 3, BA.out.1.c 4, BA.out.2.c 0, BA.out.2.c 1, BA.out.2.c 2, BA.out.2.c 3, BA.out.2.c 4⟩)
          go_region_held3 (fun w' => w'.cell? ⟨w.heap.size, 0, none⟩ = some (.string p.name) ∧ w'.cell? ⟨w.heap.size, 1, none⟩ = some (.slice p.da p.dims.length p.dc) ∧ w'.cell? ⟨w.heap.size, 2, none⟩ = some (.slice p.na p.nodes.length p.nc) ∧ w'.cell? ⟨w.heap.size, 3, none⟩ = some (.slice p.fa p.defs.length p.fc) ∧ w'.cell? ⟨w.heap.size, 4, none⟩ = some (.int .i64 p.root) ∧ w'.cell? ⟨w.heap.size + 1, 0, none⟩ = some (.string q.name) ∧ w'.cell? ⟨w.heap.size + 1, 1, none⟩ = some (.slice q.da q.dims.length q.dc) ∧ w'.cell? ⟨w.heap.size + 1, 2, none⟩ = some (.slice q.na q.nodes.length q.nc) ∧ w'.cell? ⟨w.heap.size + 1, 3, none⟩ = some (.slice q.fa q.defs.length q.fc) ∧ w'.cell? ⟨w.heap.size + 1, 4, none⟩ = some (.int .i64 q.root))
            (first
              | with_reducible exact KG.out
              | with_reducible exact KF.out
              | with_reducible exact KE.out
              | with_reducible exact KD.out
              | with_reducible exact KC.out
              | with_reducible exact KB.out
              | with_reducible exact KA.out
              | go_keep)
            (first
              | (go_at_call 10; (with_reducible refine (HC1.out _ LA.out).mono ?_); rintro r9 wB ⟨rfl, hb9⟩; have LB1 := Lib.hid (Gl.below_next LA.out hb9); have BB1x := Lib.hid (TwoP.next BA.out hb9); have KB := Lib.hid (show wB.cell? ⟨w.heap.size, 0, none⟩ = some (.string p.name) ∧ wB.cell? ⟨w.heap.size, 1, none⟩ = some (.slice p.da p.dims.length p.dc) ∧ wB.cell? ⟨w.heap.size, 2, none⟩ = some (.slice p.na p.nodes.length p.nc) ∧ wB.cell? ⟨w.heap.size, 3, none⟩ = some (.slice p.fa p.defs.length p.fc) ∧ wB.cell? ⟨w.heap.size, 4, none⟩ = some (.int .i64 p.root) ∧ wB.cell? ⟨w.heap.size + 1, 0, none⟩ = some (.string q.name) ∧ wB.cell? ⟨w.heap.size + 1, 1, none⟩ = some (.slice q.da q.dims.length q.dc) ∧ wB.cell? ⟨w.heap.size + 1, 2, none⟩ = some (.slice q.na q.nodes.length q.nc) ∧ wB.cell? ⟨w.heap.size + 1, 3, none⟩ = some (.slice q.fa q.defs.length q.fc) ∧ wB.cell? ⟨w.heap.size + 1, 4, none⟩ = some (.int .i64 q.root) from ⟨BB1x.out.1.c 0, BB1x.out.1.c 1, BB1x.out.1.c 2, BB1x.out.1.c 3, BB1x.out.1.c 4, BB1x.out.2.c 0, BB1x.out.2.c 1, BB1x.out.2.c 2, BB1x.out.2.c 3, BB1x.out.2.c 4⟩); clear hb9)
              | (go_at_call 11; (with_reducible refine (HC2.out _ LB1.out).mono ?_); rintro r9 wC ⟨rfl, hb9⟩; have LC1 := Lib.hid (Gl.below_next LB1.out hb9); have BC1 := Lib.hid (TwoP.next BB1x.out hb9); have KC := Lib.hid (show wC.cell? ⟨w.heap.size, 0, none⟩ = some (.string p.name) ∧ wC.cell? ⟨w.heap.size, 1, none⟩ = some (.slice p.da p.dims.length p.dc) ∧ wC.cell? ⟨w.heap.size, 2, none⟩ = some (.slice p.na p.nodes.length p.nc) ∧ wC.cell? ⟨w.heap.size, 3, none⟩ = some (.slice p.fa p.defs.length p.fc) ∧ wC.cell? ⟨w.heap.size, 4, none⟩ = some (.int .i64 p.root) ∧ wC.cell? ⟨w.heap.size + 1, 0, none⟩ = some (.string q.name) ∧ wC.cell? ⟨w.heap.size + 1, 1, none⟩ = some (.slice q.da q.dims.length q.dc) ∧ wC.cell? ⟨w.heap.size + 1, 2, none⟩ = some (.slice q.na q.nodes.length q.nc) ∧ wC.cell? ⟨w.heap.size + 1, 3, none⟩ = some (.slice q.fa q.defs.length q.fc) ∧ wC.cell? ⟨w.heap.size + 1, 4, none⟩ = some (.int .i64 q.root) from ⟨BC1.out.1.c 0, BC1.out.1.c 1, BC1.out.1.c 2, BC1.out.1.c 3, BC1.out.1.c 4, BC1.out.2.c 0, BC1.out.2.c 1, BC1.out.2.c 2, BC1.out.2.c 3, BC1.out.2.c 4⟩); clear hb9)
              | (go_at_call 12; (with_reducible refine (HC3.out _ LC1.out).mono ?_); rintro r9 wD ⟨rfl, hb9⟩; have LD1 := Lib.hid (Gl.below_next LC1.out hb9); have BD1 := Lib.hid (TwoP.next BC1.out hb9); have KD := Lib.hid (show wD.cell? ⟨w.heap.size, 0, none⟩ = some (.string p.name) ∧ wD.cell? ⟨w.heap.size, 1, none⟩ = some (.slice p.da p.dims.length p.dc) ∧ wD.cell? ⟨w.heap.size, 2, none⟩ = some (.slice p.na p.nodes.length p.nc) ∧ wD.cell? ⟨w.heap.size, 3, none⟩ = some (.slice p.fa p.defs.length p.fc) ∧ wD.cell? ⟨w.heap.size, 4, none⟩ = some (.int .i64 p.root) ∧ wD.cell? ⟨w.heap.size + 1, 0, none⟩ = some (.string q.name) ∧ wD.cell? ⟨w.heap.size + 1, 1, none⟩ = some (.slice q.da q.dims.length q.dc) ∧ wD.cell? ⟨w.heap.size + 1, 2, none⟩ = some (.slice q.na q.nodes.length q.nc) ∧ wD.cell? ⟨w.heap.size + 1, 3, none⟩ = some (.slice q.fa q.defs.length q.fc) ∧ wD.cell? ⟨w.heap.size + 1, 4, none⟩ = some (.int .i64 q.root) from ⟨BD1.out.1.c 0, BD1.out.1.c 1, BD1.out.1.c 2, BD1.out.1.c 3, BD1.out.1.c 4, BD1.out.2.c 0, BD1.out.2.c 1, BD1.out.2.c 2, BD1.out.2.c 3, BD1.out.2.c 4⟩); clear hb9)
              | (go_at_call 13; (with_reducible refine (HC4.out _ LD1.out).mono ?_); rintro r9 wE ⟨rfl, hb9⟩; have LE1 := Lib.hid (Gl.below_next LD1.out hb9); have BE1 := Lib.hid (TwoP.next BD1.out hb9); have KE := Lib.hid (show wE.cell? ⟨w.heap.size, 0, none⟩ = some (.string p.name) ∧ wE.cell? ⟨w.heap.size, 1, none⟩ = some (.slice p.da p.dims.length p.dc) ∧ wE.cell? ⟨w.heap.size, 2, none⟩ = some (.slice p.na p.nodes.length p.nc) ∧ wE.cell? ⟨w.heap.size, 3, none⟩ = some (.slice p.fa p.defs.length p.fc) ∧ wE.cell? ⟨w.heap.size, 4, none⟩ = some (.int .i64 p.root) ∧ wE.cell? ⟨w.heap.size + 1, 0, none⟩ = some (.string q.name) ∧ wE.cell? ⟨w.heap.size + 1, 1, none⟩ = some (.slice q.da q.dims.length q.dc) ∧ wE.cell? ⟨w.heap.size + 1, 2, none⟩ = some (.slice q.na q.nodes.length q.nc) ∧ wE.cell? ⟨w.heap.size + 1, 3, none⟩ = some (.slice q.fa q.defs.length q.fc) ∧ wE.cell? ⟨w.heap.size + 1, 4, none⟩ = some (.int .i64 q.root) from ⟨BE1.out.1.c 0, BE1.out.1.c 1, BE1.out.1.c 2, BE1.out.1.c 3, BE1.out.1.c 4, BE1.out.2.c 0, BE1.out.2.c 1, BE1.out.2.c 2, BE1.out.2.c 3, BE1.out.2.c 4⟩); clear hb9)
              | (go_at_call 12; (with_reducible refine (HC5.out _ LE1.out).mono ?_); rintro r9 wF ⟨rfl, hb9⟩; have LF1 := Lib.hid (Gl.below_next LE1.out hb9); have BF1 := Lib.hid (TwoP.next BE1.out hb9); have KF := Lib.hid (show wF.cell? ⟨w.heap.size, 0, none⟩ = some (.string p.name) ∧ wF.cell? ⟨w.heap.size, 1, none⟩ = some (.slice p.da p.dims.length p.dc) ∧ wF.cell? ⟨w.heap.size, 2, none⟩ = some (.slice p.na p.nodes.length p.nc) ∧ wF.cell? ⟨w.heap.size, 3, none⟩ = some (.slice p.fa p.defs.length p.fc) ∧ wF.cell? ⟨w.heap.size, 4, none⟩ = some (.int .i64 p.root) ∧ wF.cell? ⟨w.heap.size + 1, 0, none⟩ = some (.string q.name) ∧ wF.cell? ⟨w.heap.size + 1, 1, none⟩ = some (.slice q.da q.dims.length q.dc) ∧ wF.cell? ⟨w.heap.size + 1, 2, none⟩ = some (.slice q.na q.nodes.length q.nc) ∧ wF.cell? ⟨w.heap.size + 1, 3, none⟩ = some (.slice q.fa q.defs.length q.fc) ∧ wF.cell? ⟨w.heap.size + 1, 4, none⟩ = some (.int .i64 q.root) from ⟨BF1.out.1.c 0, BF1.out.1.c 1, BF1.out.1.c 2, BF1.out.1.c 3, BF1.out.1.c 4, BF1.out.2.c 0, BF1.out.2.c 1, BF1.out.2.c 2, BF1.out.2.c 3, BF1.out.2.c 4⟩); clear hb9)
              | (go_at_call 14; (with_reducible refine (HC6.out _).mono ?_); rintro r9 w9 ⟨rfl, rfl⟩)
              | (go_at_call 15; (with_reducible refine (HC7.out _).mono ?_); rintro r9 w9 ⟨rfl, rfl⟩)
              | (go_at_call 16; (with_reducible refine (HC8.out _).mono ?_); rintro r9 w9 ⟨rfl, rfl⟩)
              | (go_at_call 17; (with_reducible refine (HC9.out _).mono ?_); rintro r9 w9 ⟨rfl, rfl⟩)
              | (go_at_call 7; (with_reducible refine (HLV.out _).mono ?_); rintro r9 wG ⟨rfl, hb9⟩; have LG1 := Lib.hid (Gl.below_next LF1.out hb9); have BG1 := Lib.hid (TwoP.next BF1.out hb9); have KG := Lib.hid (show wG.cell? ⟨w.heap.size, 0, none⟩ = some (.string p.name) ∧ wG.cell? ⟨w.heap.size, 1, none⟩ = some (.slice p.da p.dims.length p.dc) ∧ wG.cell? ⟨w.heap.size, 2, none⟩ = some (.slice p.na p.nodes.length p.nc) ∧ wG.cell? ⟨w.heap.size, 3, none⟩ = some (.slice p.fa p.defs.length p.fc) ∧ wG.cell? ⟨w.heap.size, 4, none⟩ = some (.int .i64 p.root) ∧ wG.cell? ⟨w.heap.size + 1, 0, none⟩ = some (.string q.name) ∧ wG.cell? ⟨w.heap.size + 1, 1, none⟩ = some (.slice q.da q.dims.length q.dc) ∧ wG.cell? ⟨w.heap.size + 1, 2, none⟩ = some (.slice q.na q.nodes.length q.nc) ∧ wG.cell? ⟨w.heap.size + 1, 3, none⟩ = some (.slice q.fa q.defs.length q.fc) ∧ wG.cell? ⟨w.heap.size + 1, 4, none⟩ = some (.int .i64 q.root) from ⟨BG1.out.1.c 0, BG1.out.1.c 1, BG1.out.1.c 2, BG1.out.1.c 3, BG1.out.1.c 4, BG1.out.2.c 0, BG1.out.2.c 1, BG1.out.2.c 2, BG1.out.2.c 3, BG1.out.2.c 4⟩); clear hb9))
          go_wp2
          go_ret
          exact ⟨rfl, LG1.out⟩
        · have t0 : decide ((0 : Int) ≤ i) = true := by simp; omega
          have t1 : decide (i < (p.nodes.length : Int)) = false := by have h := HTB.out; unfold thereB at h; simp at h; simp; omega
          obtain rfl : zeroNd = nn := by have h := HNN.out; unfold nodeAt at h; rw [if_neg (by rw [HTB.out]; simp)] at h; exact h
          have HAL := Lib.hid (alike_b ⟨zeroNd, ka, kc, na, nc⟩ ⟨zeroNd, none, 0, none, 0⟩ true (w3.alloc (.cells #[.int .i64 0, .int .i64 0, .int .i64 0, .slice ka 0 kc, .slice na 0 nc, .string ⟨#[]⟩] 31)).drew HI4.out (zero_in _) (alike_self _))
          unfold nodeV at HAL
          unfold zeroNd at HAL BN LN L4 BB4 HI4 y2 ⊢
          simp only [List.length_nil] at HAL BN LN L4 BB4 HI4 y2 ⊢
          go_upto_region 5 with fail
          generalize hwz : w3.alloc (.cells #[.int .i64 0, .int .i64 0, .int .i64 0, .slice ka 0 kc, .slice na 0 nc, .string ⟨#[]⟩] 31) = wz at *
          have hlt3 : w3.heap.size < wz.heap.size := BN.out.lt
          have hS0 : wz.drew.cell? ⟨w3.heap.size, 0, none⟩ = some (.int .i64 0) ∧ wz.drew.cell? ⟨w3.heap.size, 1, none⟩ = some (.int .i64 0) ∧ wz.drew.cell? ⟨w3.heap.size, 2, none⟩ = some (.int .i64 0) ∧ wz.drew.cell? ⟨w3.heap.size, 3, none⟩ = some (.slice ka 0 kc) ∧ wz.drew.cell? ⟨w3.heap.size, 4, none⟩ = some (.slice na 0 nc) ∧ wz.drew.cell? ⟨w3.heap.size, 5, none⟩ = some (.string ⟨#[]⟩) := ⟨BN.out.c 0, BN.out.c 1, BN.out.c 2, BN.out.c 3, BN.out.c 4, BN.out.c 5⟩
          clear hwz HTB HNN y2
          refine wp_region_held_drew (S := fun w' => w'.cell? ⟨w3.heap.size, 0, none⟩ = some (.int .i64 0) ∧ w'.cell? ⟨w3.heap.size, 1, none⟩ = some (.int .i64 0) ∧ w'.cell? ⟨w3.heap.size, 2, none⟩ = some (.int .i64 0) ∧ w'.cell? ⟨w3.heap.size, 3, none⟩ = some (.slice ka 0 kc) ∧ w'.cell? ⟨w3.heap.size, 4, none⟩ = some (.slice na 0 nc) ∧ w'.cell? ⟨w3.heap.size, 5, none⟩ = some (.string ⟨#[]⟩)) (by kernel_rfl) hS0 (fun hHeld => ?_)
          refine take_yes (i := 0) (some 32) (.bool false) rfl rfl (by kernel_rfl) (by kernel_rfl) (by kernel_rfl) (fun _ _ _ h => h) (by rfl) hHeld ?_ ?_
          · intro wq hSw; obtain ⟨s0, s1, s2, s3, s4, s5⟩ := hSw; go_simp
          simp only [Act.put, List.setIfInBounds_toArray, List.set_cons_zero, List.set_cons_succ]
          refine take_yes (i := 1) (some 33) (.bool false) rfl rfl (by kernel_rfl) (by kernel_rfl) (by kernel_rfl) (fun _ _ _ h => h) (by rfl) hHeld ?_ ?_
          · intro wq hSw; obtain ⟨s0, s1, s2, s3, s4, s5⟩ := hSw; go_simp
          simp only [Act.put, List.setIfInBounds_toArray, List.set_cons_zero, List.set_cons_succ]
          refine take_yes (i := 2) (some 34) (.bool false) rfl rfl (by kernel_rfl) (by kernel_rfl) (by kernel_rfl) (fun _ _ _ h => h) (by rfl) hHeld ?_ ?_
          · intro wq hSw; obtain ⟨s0, s1, s2, s3, s4, s5⟩ := hSw; go_simp
          simp only [Act.put, List.setIfInBounds_toArray, List.set_cons_zero, List.set_cons_succ]
          refine take_yes (i := 3) (some 35) (.bool false) rfl rfl (by kernel_rfl) (by kernel_rfl) (by kernel_rfl) (fun _ _ _ h => h) (by rfl) hHeld ?_ ?_
          · intro wq hSw; obtain ⟨s0, s1, s2, s3, s4, s5⟩ := hSw; go_simp
          simp only [Act.put, List.setIfInBounds_toArray, List.set_cons_zero, List.set_cons_succ]
          refine take_yes (i := 4) (some 36) (.bool false) rfl rfl (by kernel_rfl) (by kernel_rfl) (by kernel_rfl) (fun _ _ _ h => h) (by rfl) hHeld ?_ ?_
          · intro wq hSw; obtain ⟨s0, s1, s2, s3, s4, s5⟩ := hSw; go_simp
          simp only [Act.put, List.setIfInBounds_toArray, List.set_cons_zero, List.set_cons_succ]
          refine take_yes (i := 5) (some 37) (.bool false) rfl rfl (by kernel_rfl) (by kernel_rfl) (by kernel_rfl) (fun _ _ _ h => h) (by rfl) hHeld ?_ ?_
          · intro wq hSw; obtain ⟨s0, s1, s2, s3, s4, s5⟩ := hSw; go_simp
          simp only [Act.put, List.setIfInBounds_toArray, List.set_cons_zero, List.set_cons_succ]
          refine take_no (i := 6) (some 38) rfl rfl (by kernel_rfl) (by kernel_rfl) (by kernel_rfl) (fun _ _ _ h => h) (by rfl) hHeld ?_
          simp only [Act.put, List.setIfInBounds_toArray, List.set_cons_zero, List.set_cons_succ]
          refine take_no (i := 7) (some 39) rfl rfl (by kernel_rfl) (by kernel_rfl) (by kernel_rfl) (fun _ _ _ h => h) (by rfl) hHeld ?_
          simp only [Act.put, List.setIfInBounds_toArray, List.set_cons_zero, List.set_cons_succ]
          refine take_no (i := 8) (some 40) rfl rfl (by kernel_rfl) (by kernel_rfl) (by kernel_rfl) (fun _ _ _ h => h) (by rfl) hHeld ?_
          simp only [Act.put, List.setIfInBounds_toArray, List.set_cons_zero, List.set_cons_succ]
          refine take_no (i := 9) (some 41) rfl rfl (by kernel_rfl) (by kernel_rfl) (by kernel_rfl) (fun _ _ _ h => h) (by rfl) hHeld ?_
          simp only [Act.put, List.setIfInBounds_toArray, List.set_cons_zero, List.set_cons_succ]
          refine take_no (i := 10) (some 42) rfl rfl (by kernel_rfl) (by kernel_rfl) (by kernel_rfl) (fun _ _ _ h => h) (by rfl) hHeld ?_
          simp only [Act.put, List.setIfInBounds_toArray, List.set_cons_zero, List.set_cons_succ]
          refine take_no (i := 11) (some 43) rfl rfl (by kernel_rfl) (by kernel_rfl) (by kernel_rfl) (fun _ _ _ h => h) (by rfl) hHeld ?_
          simp only [Act.put, List.setIfInBounds_toArray, List.set_cons_zero, List.set_cons_succ]
          refine take_no (i := 12) (some 44) rfl rfl (by kernel_rfl) (by kernel_rfl) (by kernel_rfl) (fun _ _ _ h => h) (by rfl) hHeld ?_
          simp only [Act.put, List.setIfInBounds_toArray, List.set_cons_zero, List.set_cons_succ]
          refine take_no (i := 13) (some 45) rfl rfl (by kernel_rfl) (by kernel_rfl) (by kernel_rfl) (fun _ _ _ h => h) (by rfl) hHeld ?_
          simp only [Act.put, List.setIfInBounds_toArray, List.set_cons_zero, List.set_cons_succ]
          refine take_no (i := 14) (some 46) rfl rfl (by kernel_rfl) (by kernel_rfl) (by kernel_rfl) (fun _ _ _ h => h) (by rfl) hHeld ?_
          simp only [Act.put, List.setIfInBounds_toArray, List.set_cons_zero, List.set_cons_succ]
          refine take_no (i := 15) (some 47) rfl rfl (by kernel_rfl) (by kernel_rfl) (by kernel_rfl) (fun _ _ _ h => h) (by rfl) hHeld ?_
          simp only [Act.put, List.setIfInBounds_toArray, List.set_cons_zero, List.set_cons_succ]
          refine take_no (i := 16) (some 48) rfl rfl (by kernel_rfl) (by kernel_rfl) (by kernel_rfl) (fun _ _ _ h => h) (by rfl) hHeld ?_
          simp only [Act.put, List.setIfInBounds_toArray, List.set_cons_zero, List.set_cons_succ]
          refine take_no (i := 17) (some 49) rfl rfl (by kernel_rfl) (by kernel_rfl) (by kernel_rfl) (fun _ _ _ h => h) (by rfl) hHeld ?_
          simp only [Act.put, List.setIfInBounds_toArray, List.set_cons_zero, List.set_cons_succ]
          refine take_no (i := 18) (some 50) rfl rfl (by kernel_rfl) (by kernel_rfl) (by kernel_rfl) (fun _ _ _ h => h) (by rfl) hHeld ?_
          simp only [Act.put, List.setIfInBounds_toArray, List.set_cons_zero, List.set_cons_succ]
          refine take_no (i := 19) (some 51) rfl rfl (by kernel_rfl) (by kernel_rfl) (by kernel_rfl) (fun _ _ _ h => h) (by rfl) hHeld ?_
          simp only [Act.put, List.setIfInBounds_toArray, List.set_cons_zero, List.set_cons_succ]
          refine take_no (i := 20) (some 52) rfl rfl (by kernel_rfl) (by kernel_rfl) (by kernel_rfl) (fun _ _ _ h => h) (by rfl) hHeld ?_
          simp only [Act.put, List.setIfInBounds_toArray, List.set_cons_zero, List.set_cons_succ]
          refine take_no (i := 21) (some 53) rfl rfl (by kernel_rfl) (by kernel_rfl) (by kernel_rfl) (fun _ _ _ h => h) (by rfl) hHeld ?_
          simp only [Act.put, List.setIfInBounds_toArray, List.set_cons_zero, List.set_cons_succ]
          refine take_no (i := 22) (some 54) rfl rfl (by kernel_rfl) (by kernel_rfl) (by kernel_rfl) (fun _ _ _ h => h) (by rfl) hHeld ?_
          simp only [Act.put, List.setIfInBounds_toArray, List.set_cons_zero, List.set_cons_succ]
          refine take_no (i := 23) (some 55) rfl rfl (by kernel_rfl) (by kernel_rfl) (by kernel_rfl) (fun _ _ _ h => h) (by rfl) hHeld ?_
          simp only [Act.put, List.setIfInBounds_toArray, List.set_cons_zero, List.set_cons_succ]
          refine take_no (i := 24) (some 56) rfl rfl (by kernel_rfl) (by kernel_rfl) (by kernel_rfl) (fun _ _ _ h => h) (by rfl) hHeld ?_
          simp only [Act.put, List.setIfInBounds_toArray, List.set_cons_zero, List.set_cons_succ]
          refine take_yes (i := 25) (some 57) (.bool false) rfl rfl (by kernel_rfl) (by kernel_rfl) (by kernel_rfl) (fun _ _ _ h => h) (by rfl) hHeld ?_ ?_
          · intro wq hSw; obtain ⟨s0, s1, s2, s3, s4, s5⟩ := hSw; go_simp
          simp only [Act.put, List.setIfInBounds_toArray, List.set_cons_zero, List.set_cons_succ]
          refine take_yes (i := 26) (some 58) (.bool false) rfl rfl (by kernel_rfl) (by kernel_rfl) (by kernel_rfl) (fun _ _ _ h => h) (by rfl) hHeld ?_ ?_
          · intro wq hSw; obtain ⟨s0, s1, s2, s3, s4, s5⟩ := hSw; go_simp
          simp only [Act.put, List.setIfInBounds_toArray, List.set_cons_zero, List.set_cons_succ]
          refine take_yes (i := 27) (some 59) (.bool false) rfl rfl (by kernel_rfl) (by kernel_rfl) (by kernel_rfl) (fun _ _ _ h => h) (by rfl) hHeld ?_ ?_
          · intro wq hSw; obtain ⟨s0, s1, s2, s3, s4, s5⟩ := hSw; go_simp
          simp only [Act.put, List.setIfInBounds_toArray, List.set_cons_zero, List.set_cons_succ]
          refine take_yes (i := 28) (some 60) (.bool false) rfl rfl (by kernel_rfl) (by kernel_rfl) (by kernel_rfl) (fun _ _ _ h => h) (by rfl) hHeld ?_ ?_
          · intro wq hSw; obtain ⟨s0, s1, s2, s3, s4, s5⟩ := hSw; go_simp
          simp only [Act.put, List.setIfInBounds_toArray, List.set_cons_zero, List.set_cons_succ]
          refine take_yes (i := 29) (some 61) (.bool true) rfl rfl (by kernel_rfl) (by kernel_rfl) (by kernel_rfl) (fun _ _ _ h => h) (by rfl) hHeld ?_ ?_
          · intro wq hSw; obtain ⟨s0, s1, s2, s3, s4, s5⟩ := hSw; go_simp
          simp only [Act.put, List.setIfInBounds_toArray, List.set_cons_zero, List.set_cons_succ]
          refine take_yes (i := 30) (some 62) (.bool true) rfl rfl (by kernel_rfl) (by kernel_rfl) (by kernel_rfl) (fun _ _ _ h => h) (by rfl) hHeld ?_ ?_
          · intro wq hSw; obtain ⟨s0, s1, s2, s3, s4, s5⟩ := hSw; go_simp
          simp only [Act.put, List.setIfInBounds_toArray, List.set_cons_zero, List.set_cons_succ]
          refine take_yes (i := 31) (some 63) (.agg #[.int .i64 0, .int .i64 0, .int .i64 0, .slice ka 0 kc, .slice na 0 nc, .string ⟨#[]⟩]) rfl rfl (by kernel_rfl) (by kernel_rfl) (by kernel_rfl) (fun _ _ _ h => h) (by rfl) hHeld ?_ ?_
          · intro wq hSw; obtain ⟨s0, s1, s2, s3, s4, s5⟩ := hSw; go_simp
          simp only [Act.put, List.setIfInBounds_toArray, List.set_cons_zero, List.set_cons_succ]
          refine take_yes (i := 32) (some 64) (.agg #[.int .i64 0, .int .i64 0, .int .i64 0, .slice none 0 0, .slice none 0 0, .string ⟨#[]⟩]) rfl rfl (by kernel_rfl) (by kernel_rfl) (by kernel_rfl) (fun _ _ _ h => h) (by rfl) hHeld ?_ ?_
          · intro wq hSw; obtain ⟨s0, s1, s2, s3, s4, s5⟩ := hSw; go_simp
          simp only [Act.put, List.setIfInBounds_toArray, List.set_cons_zero, List.set_cons_succ]
          refine wpAnyH_ready (rs := [33]) (by kernel_rfl) (by simp) ?_
          refine AllReadyH.cons rfl (fun K hK => ?_) AllReadyH.nil
          go_simp
          (go_at_call 9; refine (HAL.out).mono ?_; rintro r w7 ⟨rfl, hb7⟩)
          have hq : w7.cell? ⟨w3.heap.size, 0, none⟩ = some (.int .i64 0) ∧ w7.cell? ⟨w3.heap.size, 1, none⟩ = some (.int .i64 0) ∧ w7.cell? ⟨w3.heap.size, 2, none⟩ = some (.int .i64 0) ∧ w7.cell? ⟨w3.heap.size, 3, none⟩ = some (.slice ka 0 kc) ∧ w7.cell? ⟨w3.heap.size, 4, none⟩ = some (.slice na 0 nc) ∧ w7.cell? ⟨w3.heap.size, 5, none⟩ = some (.string ⟨#[]⟩) := by obtain ⟨s0, s1, s2, s3, s4, s5⟩ := hHeld; exact ⟨(hb7.cell (p := ⟨w3.heap.size, _, none⟩) hlt3).trans s0, (hb7.cell (p := ⟨w3.heap.size, _, none⟩) hlt3).trans s1, (hb7.cell (p := ⟨w3.heap.size, _, none⟩) hlt3).trans s2, (hb7.cell (p := ⟨w3.heap.size, _, none⟩) hlt3).trans s3, (hb7.cell (p := ⟨w3.heap.size, _, none⟩) hlt3).trans s4, (hb7.cell (p := ⟨w3.heap.size, _, none⟩) hlt3).trans s5⟩
          have L7 := Lib.hid (Gl.below_next L4.out.drew hb7)
          have BB7 := Lib.hid (TwoP.next (show TwoP p q w.heap.size wz.drew from BB4.out) hb7)
          clear hb7
          go_wp2_with fail
          refine hK.out _ _ hq (fun hHeld => ?_)
          clear hK K
          refine take_yes (i := 34) (some 66) (.bool false) rfl rfl (by kernel_rfl) (by kernel_rfl) (by kernel_rfl) (fun _ _ _ h => h) (by rfl) hHeld ?_ ?_
          · intro wq hSw; obtain ⟨s0, s1, s2, s3, s4, s5⟩ := hSw; go_simp
          simp only [Act.put, List.setIfInBounds_toArray, List.set_cons_zero, List.set_cons_succ]
          refine take_yes (i := 35) (some 67) (.bool false) rfl rfl (by kernel_rfl) (by kernel_rfl) (by kernel_rfl) (fun _ _ _ h => h) (by rfl) hHeld ?_ ?_
          · intro wq hSw; obtain ⟨s0, s1, s2, s3, s4, s5⟩ := hSw; go_simp
          simp only [Act.put, List.setIfInBounds_toArray, List.set_cons_zero, List.set_cons_succ]
          refine take_yes (i := 36) (some 68) (.pointer (some ⟨w3.heap.size, 1, none⟩)) rfl rfl (by kernel_rfl) (by kernel_rfl) (by kernel_rfl) (fun _ _ _ h => h) (by rfl) hHeld ?_ ?_
          · intro wq hSw; obtain ⟨s0, s1, s2, s3, s4, s5⟩ := hSw; go_simp
          simp only [Act.put, List.setIfInBounds_toArray, List.set_cons_zero, List.set_cons_succ]
          refine take_yes (i := 37) (some 69) (.int .i64 0) rfl rfl (by kernel_rfl) (by kernel_rfl) (by kernel_rfl) (fun _ _ _ h => h) (by rfl) hHeld ?_ ?_
          · intro wq hSw; obtain ⟨s0, s1, s2, s3, s4, s5⟩ := hSw; go_simp
          simp only [Act.put, List.setIfInBounds_toArray, List.set_cons_zero, List.set_cons_succ]
          refine take_yes (i := 38) (some 70) (.bool false) rfl rfl (by kernel_rfl) (by kernel_rfl) (by kernel_rfl) (fun _ _ _ h => h) (by rfl) hHeld ?_ ?_
          · intro wq hSw; obtain ⟨s0, s1, s2, s3, s4, s5⟩ := hSw; go_simp
          simp only [Act.put, List.setIfInBounds_toArray, List.set_cons_zero, List.set_cons_succ]
          refine take_yes (i := 39) (some 71) (.bool false) rfl rfl (by kernel_rfl) (by kernel_rfl) (by kernel_rfl) (fun _ _ _ h => h) (by rfl) hHeld ?_ ?_
          · intro wq hSw; obtain ⟨s0, s1, s2, s3, s4, s5⟩ := hSw; go_simp
          simp only [Act.put, List.setIfInBounds_toArray, List.set_cons_zero, List.set_cons_succ]
          refine take_yes (i := 40) (some 72) (.bool false) rfl rfl (by kernel_rfl) (by kernel_rfl) (by kernel_rfl) (fun _ _ _ h => h) (by rfl) hHeld ?_ ?_
          · intro wq hSw; obtain ⟨s0, s1, s2, s3, s4, s5⟩ := hSw; go_simp
          simp only [Act.put, List.setIfInBounds_toArray, List.set_cons_zero, List.set_cons_succ]
          refine take_yes (i := 41) (some 73) (.bool false) rfl rfl (by kernel_rfl) (by kernel_rfl) (by kernel_rfl) (fun _ _ _ h => h) (by rfl) hHeld ?_ ?_
          · intro wq hSw; obtain ⟨s0, s1, s2, s3, s4, s5⟩ := hSw; go_simp
          simp only [Act.put, List.setIfInBounds_toArray, List.set_cons_zero, List.set_cons_succ]
          refine wpAnyH_done (by kernel_rfl) ?_ _
          go_wp2_with fail
          obtain ⟨rb, hrb⟩ : ∃ rb, rightT p = rb := ⟨_, rfl⟩
          obtain ⟨sb, hsb⟩ : ∃ sb, sameT p q = sb := ⟨_, rfl⟩
          obtain ⟨vb, hvb⟩ : ∃ vb, valI (i) = vb := ⟨_, rfl⟩
          obtain ⟨fb, hfb⟩ : ∃ fb, funI (i) = fb := ⟨_, rfl⟩
          have HC1 := Lib.hid (fun W (hw : Below w.heap.size w W) => right_b p rb W (HP.out.next hw) HF.out hrb)
          have HC2 := Lib.hid (fun W (hw : Below w.heap.size w W) => rright_b p rb W (HP.out.next hw) HF.out (by rw [← right_same]; exact hrb))
          have HC3 := Lib.hid (fun W (hw : Below w.heap.size w W) => same_b p q sb W (HP.out.next hw) (HQ.out.next hw) HF.out hsb)
          have HC4 := Lib.hid (fun W (hw : Below w.heap.size w W) => rsame_b p q sb W (HP.out.next hw) (HQ.out.next hw) HF.out HFq.out hsb)
          have HC5 := Lib.hid (fun W (hw : Below w.heap.size w W) => same_b p p true W (HP.out.next hw) (HP.out.next hw) HF.out (same_self p))
          have HC6 := Lib.hid (fun W => value_b (i) vb W hvb)
          have HC7 := Lib.hid (fun W => rvalue_b (i) vb W hvb)
          have HC8 := Lib.hid (fun W => function_b (i) fb W hfb)
          have HC9 := Lib.hid (fun W => rfunction_b (i) fb W hfb)
          unfold progV at HC1 HC2 HC3 HC4 HC5
          clear hrb hsb hvb hfb
          have LA := Lib.hid (show Below w.heap.size w w7.drew from L7.out.drew)
          have BA : Hid (TwoP p q w.heap.size w7.drew) := BB7
          have KA := Lib.hid (show w7.drew.cell? ⟨w.heap.size, 0, none⟩ = some (.string p.name) ∧ w7.drew.cell? ⟨w.heap.size, 1, none⟩ = some (.slice p.da p.dims.length p.dc) ∧ w7.drew.cell? ⟨w.heap.size, 2, none⟩ = some (.slice p.na p.nodes.length p.nc) ∧ w7.drew.cell? ⟨w.heap.size, 3, none⟩ = some (.slice p.fa p.defs.length p.fc) ∧ w7.drew.cell? ⟨w.heap.size, 4, none⟩ = some (.int .i64 p.root) ∧ w7.drew.cell? ⟨w.heap.size + 1, 0, none⟩ = some (.string q.name) ∧ w7.drew.cell? ⟨w.heap.size + 1, 1, none⟩ = some (.slice q.da q.dims.length q.dc) ∧ w7.drew.cell? ⟨w.heap.size + 1, 2, none⟩ = some (.slice q.na q.nodes.length q.nc) ∧ w7.drew.cell? ⟨w.heap.size + 1, 3, none⟩ = some (.slice q.fa q.defs.length q.fc) ∧ w7.drew.cell? ⟨w.heap.size + 1, 4, none⟩ = some (.int .i64 q.root) from ⟨BA.out.1.c 0, BA.out.1.c 1, BA.out.1.c 2, BA.out.1.c 3, BA.out.1.c 4, BA.out.2.c 0, BA.out.2.c 1, BA.out.2.c 2, BA.out.2.c 3, BA.out.2.c 4⟩)
          go_region_held3 (fun w' => w'.cell? ⟨w.heap.size, 0, none⟩ = some (.string p.name) ∧ w'.cell? ⟨w.heap.size, 1, none⟩ = some (.slice p.da p.dims.length p.dc) ∧ w'.cell? ⟨w.heap.size, 2, none⟩ = some (.slice p.na p.nodes.length p.nc) ∧ w'.cell? ⟨w.heap.size, 3, none⟩ = some (.slice p.fa p.defs.length p.fc) ∧ w'.cell? ⟨w.heap.size, 4, none⟩ = some (.int .i64 p.root) ∧ w'.cell? ⟨w.heap.size + 1, 0, none⟩ = some (.string q.name) ∧ w'.cell? ⟨w.heap.size + 1, 1, none⟩ = some (.slice q.da q.dims.length q.dc) ∧ w'.cell? ⟨w.heap.size + 1, 2, none⟩ = some (.slice q.na q.nodes.length q.nc) ∧ w'.cell? ⟨w.heap.size + 1, 3, none⟩ = some (.slice q.fa q.defs.length q.fc) ∧ w'.cell? ⟨w.heap.size + 1, 4, none⟩ = some (.int .i64 q.root))
            (first
              | with_reducible exact KG.out
              | with_reducible exact KF.out
              | with_reducible exact KE.out
              | with_reducible exact KD.out
              | with_reducible exact KC.out
              | with_reducible exact KB.out
              | with_reducible exact KA.out
              | go_keep)
            (first
              | (go_at_call 10; (with_reducible refine (HC1.out _ LA.out).mono ?_); rintro r9 wB ⟨rfl, hb9⟩; have LB1 := Lib.hid (Gl.below_next LA.out hb9); have BB1x := Lib.hid (TwoP.next BA.out hb9); have KB := Lib.hid (show wB.cell? ⟨w.heap.size, 0, none⟩ = some (.string p.name) ∧ wB.cell? ⟨w.heap.size, 1, none⟩ = some (.slice p.da p.dims.length p.dc) ∧ wB.cell? ⟨w.heap.size, 2, none⟩ = some (.slice p.na p.nodes.length p.nc) ∧ wB.cell? ⟨w.heap.size, 3, none⟩ = some (.slice p.fa p.defs.length p.fc) ∧ wB.cell? ⟨w.heap.size, 4, none⟩ = some (.int .i64 p.root) ∧ wB.cell? ⟨w.heap.size + 1, 0, none⟩ = some (.string q.name) ∧ wB.cell? ⟨w.heap.size + 1, 1, none⟩ = some (.slice q.da q.dims.length q.dc) ∧ wB.cell? ⟨w.heap.size + 1, 2, none⟩ = some (.slice q.na q.nodes.length q.nc) ∧ wB.cell? ⟨w.heap.size + 1, 3, none⟩ = some (.slice q.fa q.defs.length q.fc) ∧ wB.cell? ⟨w.heap.size + 1, 4, none⟩ = some (.int .i64 q.root) from ⟨BB1x.out.1.c 0, BB1x.out.1.c 1, BB1x.out.1.c 2, BB1x.out.1.c 3, BB1x.out.1.c 4, BB1x.out.2.c 0, BB1x.out.2.c 1, BB1x.out.2.c 2, BB1x.out.2.c 3, BB1x.out.2.c 4⟩); clear hb9)
              | (go_at_call 11; (with_reducible refine (HC2.out _ LB1.out).mono ?_); rintro r9 wC ⟨rfl, hb9⟩; have LC1 := Lib.hid (Gl.below_next LB1.out hb9); have BC1 := Lib.hid (TwoP.next BB1x.out hb9); have KC := Lib.hid (show wC.cell? ⟨w.heap.size, 0, none⟩ = some (.string p.name) ∧ wC.cell? ⟨w.heap.size, 1, none⟩ = some (.slice p.da p.dims.length p.dc) ∧ wC.cell? ⟨w.heap.size, 2, none⟩ = some (.slice p.na p.nodes.length p.nc) ∧ wC.cell? ⟨w.heap.size, 3, none⟩ = some (.slice p.fa p.defs.length p.fc) ∧ wC.cell? ⟨w.heap.size, 4, none⟩ = some (.int .i64 p.root) ∧ wC.cell? ⟨w.heap.size + 1, 0, none⟩ = some (.string q.name) ∧ wC.cell? ⟨w.heap.size + 1, 1, none⟩ = some (.slice q.da q.dims.length q.dc) ∧ wC.cell? ⟨w.heap.size + 1, 2, none⟩ = some (.slice q.na q.nodes.length q.nc) ∧ wC.cell? ⟨w.heap.size + 1, 3, none⟩ = some (.slice q.fa q.defs.length q.fc) ∧ wC.cell? ⟨w.heap.size + 1, 4, none⟩ = some (.int .i64 q.root) from ⟨BC1.out.1.c 0, BC1.out.1.c 1, BC1.out.1.c 2, BC1.out.1.c 3, BC1.out.1.c 4, BC1.out.2.c 0, BC1.out.2.c 1, BC1.out.2.c 2, BC1.out.2.c 3, BC1.out.2.c 4⟩); clear hb9)
              | (go_at_call 12; (with_reducible refine (HC3.out _ LC1.out).mono ?_); rintro r9 wD ⟨rfl, hb9⟩; have LD1 := Lib.hid (Gl.below_next LC1.out hb9); have BD1 := Lib.hid (TwoP.next BC1.out hb9); have KD := Lib.hid (show wD.cell? ⟨w.heap.size, 0, none⟩ = some (.string p.name) ∧ wD.cell? ⟨w.heap.size, 1, none⟩ = some (.slice p.da p.dims.length p.dc) ∧ wD.cell? ⟨w.heap.size, 2, none⟩ = some (.slice p.na p.nodes.length p.nc) ∧ wD.cell? ⟨w.heap.size, 3, none⟩ = some (.slice p.fa p.defs.length p.fc) ∧ wD.cell? ⟨w.heap.size, 4, none⟩ = some (.int .i64 p.root) ∧ wD.cell? ⟨w.heap.size + 1, 0, none⟩ = some (.string q.name) ∧ wD.cell? ⟨w.heap.size + 1, 1, none⟩ = some (.slice q.da q.dims.length q.dc) ∧ wD.cell? ⟨w.heap.size + 1, 2, none⟩ = some (.slice q.na q.nodes.length q.nc) ∧ wD.cell? ⟨w.heap.size + 1, 3, none⟩ = some (.slice q.fa q.defs.length q.fc) ∧ wD.cell? ⟨w.heap.size + 1, 4, none⟩ = some (.int .i64 q.root) from ⟨BD1.out.1.c 0, BD1.out.1.c 1, BD1.out.1.c 2, BD1.out.1.c 3, BD1.out.1.c 4, BD1.out.2.c 0, BD1.out.2.c 1, BD1.out.2.c 2, BD1.out.2.c 3, BD1.out.2.c 4⟩); clear hb9)
              | (go_at_call 13; (with_reducible refine (HC4.out _ LD1.out).mono ?_); rintro r9 wE ⟨rfl, hb9⟩; have LE1 := Lib.hid (Gl.below_next LD1.out hb9); have BE1 := Lib.hid (TwoP.next BD1.out hb9); have KE := Lib.hid (show wE.cell? ⟨w.heap.size, 0, none⟩ = some (.string p.name) ∧ wE.cell? ⟨w.heap.size, 1, none⟩ = some (.slice p.da p.dims.length p.dc) ∧ wE.cell? ⟨w.heap.size, 2, none⟩ = some (.slice p.na p.nodes.length p.nc) ∧ wE.cell? ⟨w.heap.size, 3, none⟩ = some (.slice p.fa p.defs.length p.fc) ∧ wE.cell? ⟨w.heap.size, 4, none⟩ = some (.int .i64 p.root) ∧ wE.cell? ⟨w.heap.size + 1, 0, none⟩ = some (.string q.name) ∧ wE.cell? ⟨w.heap.size + 1, 1, none⟩ = some (.slice q.da q.dims.length q.dc) ∧ wE.cell? ⟨w.heap.size + 1, 2, none⟩ = some (.slice q.na q.nodes.length q.nc) ∧ wE.cell? ⟨w.heap.size + 1, 3, none⟩ = some (.slice q.fa q.defs.length q.fc) ∧ wE.cell? ⟨w.heap.size + 1, 4, none⟩ = some (.int .i64 q.root) from ⟨BE1.out.1.c 0, BE1.out.1.c 1, BE1.out.1.c 2, BE1.out.1.c 3, BE1.out.1.c 4, BE1.out.2.c 0, BE1.out.2.c 1, BE1.out.2.c 2, BE1.out.2.c 3, BE1.out.2.c 4⟩); clear hb9)
              | (go_at_call 12; (with_reducible refine (HC5.out _ LE1.out).mono ?_); rintro r9 wF ⟨rfl, hb9⟩; have LF1 := Lib.hid (Gl.below_next LE1.out hb9); have BF1 := Lib.hid (TwoP.next BE1.out hb9); have KF := Lib.hid (show wF.cell? ⟨w.heap.size, 0, none⟩ = some (.string p.name) ∧ wF.cell? ⟨w.heap.size, 1, none⟩ = some (.slice p.da p.dims.length p.dc) ∧ wF.cell? ⟨w.heap.size, 2, none⟩ = some (.slice p.na p.nodes.length p.nc) ∧ wF.cell? ⟨w.heap.size, 3, none⟩ = some (.slice p.fa p.defs.length p.fc) ∧ wF.cell? ⟨w.heap.size, 4, none⟩ = some (.int .i64 p.root) ∧ wF.cell? ⟨w.heap.size + 1, 0, none⟩ = some (.string q.name) ∧ wF.cell? ⟨w.heap.size + 1, 1, none⟩ = some (.slice q.da q.dims.length q.dc) ∧ wF.cell? ⟨w.heap.size + 1, 2, none⟩ = some (.slice q.na q.nodes.length q.nc) ∧ wF.cell? ⟨w.heap.size + 1, 3, none⟩ = some (.slice q.fa q.defs.length q.fc) ∧ wF.cell? ⟨w.heap.size + 1, 4, none⟩ = some (.int .i64 q.root) from ⟨BF1.out.1.c 0, BF1.out.1.c 1, BF1.out.1.c 2, BF1.out.1.c 3, BF1.out.1.c 4, BF1.out.2.c 0, BF1.out.2.c 1, BF1.out.2.c 2, BF1.out.2.c 3, BF1.out.2.c 4⟩); clear hb9)
              | (go_at_call 14; (with_reducible refine (HC6.out _).mono ?_); rintro r9 w9 ⟨rfl, rfl⟩)
              | (go_at_call 15; (with_reducible refine (HC7.out _).mono ?_); rintro r9 w9 ⟨rfl, rfl⟩)
              | (go_at_call 16; (with_reducible refine (HC8.out _).mono ?_); rintro r9 w9 ⟨rfl, rfl⟩)
              | (go_at_call 17; (with_reducible refine (HC9.out _).mono ?_); rintro r9 w9 ⟨rfl, rfl⟩)
              | (go_at_call 7; (with_reducible refine (HLV.out _).mono ?_); rintro r9 wG ⟨rfl, hb9⟩; have LG1 := Lib.hid (Gl.below_next LF1.out hb9); have BG1 := Lib.hid (TwoP.next BF1.out hb9); have KG := Lib.hid (show wG.cell? ⟨w.heap.size, 0, none⟩ = some (.string p.name) ∧ wG.cell? ⟨w.heap.size, 1, none⟩ = some (.slice p.da p.dims.length p.dc) ∧ wG.cell? ⟨w.heap.size, 2, none⟩ = some (.slice p.na p.nodes.length p.nc) ∧ wG.cell? ⟨w.heap.size, 3, none⟩ = some (.slice p.fa p.defs.length p.fc) ∧ wG.cell? ⟨w.heap.size, 4, none⟩ = some (.int .i64 p.root) ∧ wG.cell? ⟨w.heap.size + 1, 0, none⟩ = some (.string q.name) ∧ wG.cell? ⟨w.heap.size + 1, 1, none⟩ = some (.slice q.da q.dims.length q.dc) ∧ wG.cell? ⟨w.heap.size + 1, 2, none⟩ = some (.slice q.na q.nodes.length q.nc) ∧ wG.cell? ⟨w.heap.size + 1, 3, none⟩ = some (.slice q.fa q.defs.length q.fc) ∧ wG.cell? ⟨w.heap.size + 1, 4, none⟩ = some (.int .i64 q.root) from ⟨BG1.out.1.c 0, BG1.out.1.c 1, BG1.out.1.c 2, BG1.out.1.c 3, BG1.out.1.c 4, BG1.out.2.c 0, BG1.out.2.c 1, BG1.out.2.c 2, BG1.out.2.c 3, BG1.out.2.c 4⟩); clear hb9))
          go_wp2
          go_ret
          exact ⟨rfl, LG1.out⟩
end Go.Proofs.Ytdhpplbopciijaa.Tr
