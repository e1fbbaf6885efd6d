/-
  Layer 18, tree: riffleref18.Same. Condition: the programs are no greater than what is gone through.
-/
import Derived.Test.YtdhpplbopciijaaTrSame
set_option maxRecDepth 100000
namespace Go.Proofs.Ytdhpplbopciijaa.Tr
open Go.Proofs.Ytdhpplbopciijaa.Sh Go.Proofs.Ytdhpplbopciijaa.St
open Go.RowKit
set_option linter.unusedVariables false
set_option linter.unusedSimpArgs false

theorem bne_ba {a b : ByteArray} {t : Bool} (h : (a.toList == b.toList) = t) : (a.toList != b.toList) = !t := by rw [bne, h]
set_option maxRecDepth 100000 in
set_option maxHeartbeats 16000000 in
theorem rsame_b (p q : Pq) (b : Bool) (w : World) (hp : ProgIn w p) (hq : ProgIn w q) (hf : FitP p) (hg : FitP q) (hb : sameT p q = b) : Calls Try.prog 13 #[progV p, progV q] w (RetBl b w) := by
  unfold progV
  unfold sameT nodesSame defsSame at hb
  have e1 : (w.alloc (.cells #[.string p.name, .slice p.da p.dims.length p.dc, .slice p.na p.nodes.length p.nc, .slice p.fa p.defs.length p.fc, .int .i64 p.root] 26)).heap.size = w.heap.size + 1 := by simp
  have B1 := Lib.hid ((Bk.new 26 w [.string p.name, .slice p.da p.dims.length p.dc, .slice p.na p.nodes.length p.nc, .slice p.fa p.defs.length p.fc, .int .i64 p.root]).alloc (.cells #[.string q.name, .slice q.da q.dims.length q.dc, .slice q.na q.nodes.length q.nc, .slice q.fa q.defs.length q.fc, .int .i64 q.root] 26))
  have B2 := Lib.hid (Bk.new 26 (w.alloc (.cells #[.string p.name, .slice p.da p.dims.length p.dc, .slice p.na p.nodes.length p.nc, .slice p.fa p.defs.length p.fc, .int .i64 p.root] 26)) [.string q.name, .slice q.da q.dims.length q.dc, .slice q.na q.nodes.length q.nc, .slice q.fa q.defs.length q.fc, .int .i64 q.root])
  rw [e1] at B2
  have LW := Lib.hid (((Below.refl _ w).alloc (Nat.le_refl _) (.cells #[.string p.name, .slice p.da p.dims.length p.dc, .slice p.na p.nodes.length p.nc, .slice p.fa p.defs.length p.fc, .int .i64 p.root] 26)).alloc (by simp) (.cells #[.string q.name, .slice q.da q.dims.length q.dc, .slice q.na q.nodes.length q.nc, .slice q.fa q.defs.length q.fc, .int .i64 q.root] 26))
  have HD := Lib.hid (((refSame_any p.da p.dc p.dims q.da q.dc q.dims ((w.alloc (.cells #[.string p.name, .slice p.da p.dims.length p.dc, .slice p.na p.nodes.length p.nc, .slice p.fa p.defs.length p.fc, .int .i64 p.root] 26)).alloc (.cells #[.string q.name, .slice q.da q.dims.length q.dc, .slice q.na q.nodes.length q.nc, .slice q.fa q.defs.length q.fc, .int .i64 q.root] 26)) hp.2.2.2.2.1 hq.2.2.2.2.1 (hp.1.below LW.out) (hq.1.below LW.out))).mono (fun e0 w0 hr => (⟨hr.1, by obtain ⟨dn, h⟩ := hr.2; rw [h]; exact below_drewN (Below.refl _ _) dn⟩ : RetBl (decide (p.dims = q.dims)) ((w.alloc (.cells #[.string p.name, .slice p.da p.dims.length p.dc, .slice p.na p.nodes.length p.nc, .slice p.fa p.defs.length p.fc, .int .i64 p.root] 26)).alloc (.cells #[.string q.name, .slice q.da q.dims.length q.dc, .slice q.na q.nodes.length q.nc, .slice q.fa q.defs.length q.fc, .int .i64 q.root] 26)) e0 w0)))
  have HPN := Lib.hid hp.2.1
  have HQN := Lib.hid hq.2.1
  have HPD := Lib.hid hp.2.2.1
  have HQD := Lib.hid hq.2.2.1
  have hn3 := hf.nodes
  have hd3 := hf.defs
  have hn4 := hg.nodes
  have hd4 := hg.defs
  clear hp hq hf hg e1
  by_cases h1 : p.name = q.name
  · have q1 : (p.name.toList == q.name.toList) = true := ba_yes h1
    have q1' : (p.name.toList != q.name.toList) = false := bne_ba q1
    rw [decide_eq_true h1, Bool.true_and] at hb
    clear h1
    by_cases h2 : p.root = q.root
    · have q2 : (p.root != q.root) = false := by simp [h2]
      rw [decide_eq_true h2, Bool.true_and] at hb
      clear h2
      obtain ⟨dd, hdd⟩ : ∃ dd, decide (p.dims = q.dims) = dd := ⟨_, rfl⟩
      rw [hdd] at hb HD
      clear hdd
      cases dd with
      | false =>
        have HS := Lib.hid (show b = false from hb.symm)
        clear hb
        go_enter Try.func13, Try.ntmps13
        go_wp2_with fail
        refine (HD.out).mono ?_
        rintro e w1 ⟨rfl, hb1⟩
        have L1 := Lib.hid (Gl.below_next LW.out hb1)
        clear hb1
        go_wp2
        go_ret
        exact ⟨by rw [HS.out]; rfl, L1.out⟩
      | true =>
        rw [Bool.true_and] at hb
        by_cases h4 : p.nodes.length = q.nodes.length
        · have q4 : ((p.nodes.length : Int) != (q.nodes.length : Int)) = false := by simp [h4]
          by_cases h5 : p.defs.length = q.defs.length
          · have q5 : ((p.defs.length : Int) != (q.defs.length : Int)) = false := by simp [h5]
            rw [decide_eq_true h4, decide_eq_true h5, Bool.true_and, Bool.true_and] at hb
            have HBB := Lib.hid hb
            have H4 := Lib.hid h4
            have H5 := Lib.hid h5
            clear hb h4 h5
            go_enter Try.func13, Try.ntmps13
            go_wp2_with fail
            refine (HD.out).mono ?_
            rintro e w1 ⟨rfl, hb1⟩
            have L1 := Lib.hid (Gl.below_next LW.out hb1)
            have x2 := (B1.out.next hb1).c 2
            have x3 := (B1.out.next hb1).c 3
            have y2 := (B2.out.next hb1).c 2
            have y3 := (B2.out.next hb1).c 3
            simp only [List.getElem?_cons_zero, List.getElem?_cons_succ] at x2 x3 y2 y3
            have C1 := Lib.hid (B1.out.next hb1)
            have C2 := Lib.hid (B2.out.next hb1)
            clear hb1
            go_wp2_with fail
            go_loopw [5] (fun i wr => ∃ k : Nat, k ≤ p.nodes.length ∧ i = .int .i64 (k : Int) ∧ ((p.nodes.zip q.nodes).take k).all (fun x => alikeB x.1.n x.2.n) = true ∧ Hid (Below w1.heap.size w1 wr)) (fun i _ => p.nodes.length - (intOf i).toNat)
            case atStart => exact ⟨0, Nat.zero_le _, rfl, by simp, Lib.hid (Below.refl _ _)⟩
            case round =>
              obtain ⟨k, hk, rfl, hal, HW⟩ := hrel
              have HA := Lib.hid hal
              have LR := Lib.hid (Gl.below_next L1.out HW.out)
              clear hal
              by_cases hlt : k < p.nodes.length
              · obtain ⟨x, hx⟩ : ∃ x, p.nodes[k]? = some x := ⟨_, List.getElem?_eq_getElem hlt⟩
                obtain ⟨y, hy⟩ : ∃ y, q.nodes[k]? = some y := ⟨_, List.getElem?_eq_getElem (by have := H4.out; omega)⟩
                have hz : (p.nodes.zip q.nodes)[k]? = some (x, y) := by rw [List.getElem?_zip_eq_some]; exact ⟨hx, hy⟩
                have HZZ := Lib.hid hz
                obtain ⟨b0, o0, hA0, hb0, ⟨c0, c1, c2, c3, c4, c5⟩, hin⟩ := (HPN.out.next LR.out).at_ hx
                obtain ⟨b9, o9, hA9, hb9, ⟨n0, n1, n2, n3, n4, n5⟩, hin'⟩ := (HQN.out.next LR.out).at_ hy
                have z2 := (C1.out.next HW.out).c 2
                have v2 := (C2.out.next HW.out).c 2
                simp only [List.getElem?_cons_zero, List.getElem?_cons_succ] at z2 v2
                rw [hA0] at z2
                rw [hA9] at v2
                obtain ⟨t, ht⟩ : ∃ t, alikeB x.n y.n = t := ⟨_, rfl⟩
                have HC := Lib.hid (alike_b x y t wr.drew hin hin' ht)
                unfold nodeV at HC
                have HT : Hid ((fun x : Nq × Nq => alikeB x.1.n x.2.n) (x, y) = t) := Lib.hid ht
                have KX := Lib.hid (show wr.drew.cell? ⟨w.heap.size, 2, none⟩ = some (.slice (some ⟨b0, o0, none⟩) p.nodes.length p.nc) ∧ wr.drew.cell? ⟨w.heap.size + 1, 2, none⟩ = some (.slice (some ⟨b9, o9, none⟩) q.nodes.length q.nc) ∧ wr.drew.cell? ⟨b0, o0 + k * 6, none⟩ = some (.int .i64 x.n.kind) ∧ wr.drew.cell? ⟨b0, o0 + k * 6 + 1, none⟩ = some (.int .i64 x.n.pos) ∧ wr.drew.cell? ⟨b0, o0 + k * 6 + 2, none⟩ = some (.int .i64 x.n.code) ∧ wr.drew.cell? ⟨b0, o0 + k * 6 + 3, none⟩ = some (.slice x.ka x.n.kids.length x.kc) ∧ wr.drew.cell? ⟨b0, o0 + k * 6 + 4, none⟩ = some (.slice x.na x.n.nums.length x.nc) ∧ wr.drew.cell? ⟨b0, o0 + k * 6 + 5, none⟩ = some (.string x.n.name) ∧ wr.drew.cell? ⟨b9, o9 + k * 6, none⟩ = some (.int .i64 y.n.kind) ∧ wr.drew.cell? ⟨b9, o9 + k * 6 + 1, none⟩ = some (.int .i64 y.n.pos) ∧ wr.drew.cell? ⟨b9, o9 + k * 6 + 2, none⟩ = some (.int .i64 y.n.code) ∧ wr.drew.cell? ⟨b9, o9 + k * 6 + 3, none⟩ = some (.slice y.ka y.n.kids.length y.kc) ∧ wr.drew.cell? ⟨b9, o9 + k * 6 + 4, none⟩ = some (.slice y.na y.n.nums.length y.nc) ∧ wr.drew.cell? ⟨b9, o9 + k * 6 + 5, none⟩ = some (.string y.n.name) from ⟨z2, v2, c0, c1, c2, c3, c4, c5, n0, n1, n2, n3, n4, n5⟩)
                have i0 : (0 : Int) ≤ (k : Int) := by omega
                have i1 : (k : Int) < (p.nodes.length : Int) := by omega
                have i2 : (k : Int) < (q.nodes.length : Int) := by have := H4.out; omega
                have hsum := wrap_k k (by omega)
                have HBb := Lib.hid (And.intro hb0 hb9)
                clear hx hy hz ht hA0 hA9 c1 c2 c4 c5 c0 c3 n0 n1 n2 n3 n4 n5 hin hin'
                cases t with
                | true =>
                  go_upto_region 6 with fail
                  go_region_held3 (fun w' => w'.cell? ⟨w.heap.size, 2, none⟩ = some (.slice (some ⟨b0, o0, none⟩) p.nodes.length p.nc) ∧ w'.cell? ⟨w.heap.size + 1, 2, none⟩ = some (.slice (some ⟨b9, o9, none⟩) q.nodes.length q.nc) ∧ w'.cell? ⟨b0, o0 + k * 6, none⟩ = some (.int .i64 x.n.kind) ∧ w'.cell? ⟨b0, o0 + k * 6 + 1, none⟩ = some (.int .i64 x.n.pos) ∧ w'.cell? ⟨b0, o0 + k * 6 + 2, none⟩ = some (.int .i64 x.n.code) ∧ w'.cell? ⟨b0, o0 + k * 6 + 3, none⟩ = some (.slice x.ka x.n.kids.length x.kc) ∧ w'.cell? ⟨b0, o0 + k * 6 + 4, none⟩ = some (.slice x.na x.n.nums.length x.nc) ∧ w'.cell? ⟨b0, o0 + k * 6 + 5, none⟩ = some (.string x.n.name) ∧ w'.cell? ⟨b9, o9 + k * 6, none⟩ = some (.int .i64 y.n.kind) ∧ w'.cell? ⟨b9, o9 + k * 6 + 1, none⟩ = some (.int .i64 y.n.pos) ∧ w'.cell? ⟨b9, o9 + k * 6 + 2, none⟩ = some (.int .i64 y.n.code) ∧ w'.cell? ⟨b9, o9 + k * 6 + 3, none⟩ = some (.slice y.ka y.n.kids.length y.kc) ∧ w'.cell? ⟨b9, o9 + k * 6 + 4, none⟩ = some (.slice y.na y.n.nums.length y.nc) ∧ w'.cell? ⟨b9, o9 + k * 6 + 5, none⟩ = some (.string y.n.name))
                      (first
                        | with_reducible exact KX.out
                        | with_reducible exact K7.out
                        | go_keep)
                      (first
                        | (go_at_call 9; (with_reducible refine (HC.out).mono ?_); rintro r5 w7 ⟨rfl, hb7⟩; have K7 := Lib.hid (show w7.cell? ⟨w.heap.size, 2, none⟩ = some (.slice (some ⟨b0, o0, none⟩) p.nodes.length p.nc) ∧ w7.cell? ⟨w.heap.size + 1, 2, none⟩ = some (.slice (some ⟨b9, o9, none⟩) q.nodes.length q.nc) ∧ w7.cell? ⟨b0, o0 + k * 6, none⟩ = some (.int .i64 x.n.kind) ∧ w7.cell? ⟨b0, o0 + k * 6 + 1, none⟩ = some (.int .i64 x.n.pos) ∧ w7.cell? ⟨b0, o0 + k * 6 + 2, none⟩ = some (.int .i64 x.n.code) ∧ w7.cell? ⟨b0, o0 + k * 6 + 3, none⟩ = some (.slice x.ka x.n.kids.length x.kc) ∧ w7.cell? ⟨b0, o0 + k * 6 + 4, none⟩ = some (.slice x.na x.n.nums.length x.nc) ∧ w7.cell? ⟨b0, o0 + k * 6 + 5, none⟩ = some (.string x.n.name) ∧ w7.cell? ⟨b9, o9 + k * 6, none⟩ = some (.int .i64 y.n.kind) ∧ w7.cell? ⟨b9, o9 + k * 6 + 1, none⟩ = some (.int .i64 y.n.pos) ∧ w7.cell? ⟨b9, o9 + k * 6 + 2, none⟩ = some (.int .i64 y.n.code) ∧ w7.cell? ⟨b9, o9 + k * 6 + 3, none⟩ = some (.slice y.ka y.n.kids.length y.kc) ∧ w7.cell? ⟨b9, o9 + k * 6 + 4, none⟩ = some (.slice y.na y.n.nums.length y.nc) ∧ w7.cell? ⟨b9, o9 + k * 6 + 5, none⟩ = some (.string y.n.name) from (by obtain ⟨m1, m2⟩ := HBb.out; obtain ⟨k0, k1, k2, k3, k4, k5, k6, k7, k8, k9, k10, k11, k12, k13⟩ := KX.out; have g1 := (C1.out.next HW.out).lt; have g2 := (C2.out.next HW.out).lt; exact ⟨(hb7.cell (p := ⟨w.heap.size, 2, none⟩) g1).trans k0, (hb7.cell (p := ⟨w.heap.size + 1, 2, none⟩) g2).trans k1, (hb7.cell (p := ⟨b0, _, none⟩) m1).trans k2, (hb7.cell (p := ⟨b0, _, none⟩) m1).trans k3, (hb7.cell (p := ⟨b0, _, none⟩) m1).trans k4, (hb7.cell (p := ⟨b0, _, none⟩) m1).trans k5, (hb7.cell (p := ⟨b0, _, none⟩) m1).trans k6, (hb7.cell (p := ⟨b0, _, none⟩) m1).trans k7, (hb7.cell (p := ⟨b9, _, none⟩) m2).trans k8, (hb7.cell (p := ⟨b9, _, none⟩) m2).trans k9, (hb7.cell (p := ⟨b9, _, none⟩) m2).trans k10, (hb7.cell (p := ⟨b9, _, none⟩) m2).trans k11, (hb7.cell (p := ⟨b9, _, none⟩) m2).trans k12, (hb7.cell (p := ⟨b9, _, none⟩) m2).trans k13⟩)); have HW7 := Lib.hid (Gl.below_next HW.out.drew hb7); have L7 := Lib.hid (Gl.below_next LR.out.drew hb7); clear hb7))
                  go_wp2
                  go_round
                  case rel => exact ⟨k + 1, by omega, by go_num, all_snocP HA.out HZZ.out HT.out, HW7⟩
                  case measure => simp [intOf]; omega
                | false =>
                  have HS := Lib.hid (show b = false by rw [← HBB.out]; rw [all_badP HZZ.out HT.out]; rfl)
                  go_upto_region 6 with fail
                  go_region_held3 (fun w' => w'.cell? ⟨w.heap.size, 2, none⟩ = some (.slice (some ⟨b0, o0, none⟩) p.nodes.length p.nc) ∧ w'.cell? ⟨w.heap.size + 1, 2, none⟩ = some (.slice (some ⟨b9, o9, none⟩) q.nodes.length q.nc) ∧ w'.cell? ⟨b0, o0 + k * 6, none⟩ = some (.int .i64 x.n.kind) ∧ w'.cell? ⟨b0, o0 + k * 6 + 1, none⟩ = some (.int .i64 x.n.pos) ∧ w'.cell? ⟨b0, o0 + k * 6 + 2, none⟩ = some (.int .i64 x.n.code) ∧ w'.cell? ⟨b0, o0 + k * 6 + 3, none⟩ = some (.slice x.ka x.n.kids.length x.kc) ∧ w'.cell? ⟨b0, o0 + k * 6 + 4, none⟩ = some (.slice x.na x.n.nums.length x.nc) ∧ w'.cell? ⟨b0, o0 + k * 6 + 5, none⟩ = some (.string x.n.name) ∧ w'.cell? ⟨b9, o9 + k * 6, none⟩ = some (.int .i64 y.n.kind) ∧ w'.cell? ⟨b9, o9 + k * 6 + 1, none⟩ = some (.int .i64 y.n.pos) ∧ w'.cell? ⟨b9, o9 + k * 6 + 2, none⟩ = some (.int .i64 y.n.code) ∧ w'.cell? ⟨b9, o9 + k * 6 + 3, none⟩ = some (.slice y.ka y.n.kids.length y.kc) ∧ w'.cell? ⟨b9, o9 + k * 6 + 4, none⟩ = some (.slice y.na y.n.nums.length y.nc) ∧ w'.cell? ⟨b9, o9 + k * 6 + 5, none⟩ = some (.string y.n.name))
                      (first
                        | with_reducible exact KX.out
                        | with_reducible exact K7.out
                        | go_keep)
                      (first
                        | (go_at_call 9; (with_reducible refine (HC.out).mono ?_); rintro r5 w7 ⟨rfl, hb7⟩; have K7 := Lib.hid (show w7.cell? ⟨w.heap.size, 2, none⟩ = some (.slice (some ⟨b0, o0, none⟩) p.nodes.length p.nc) ∧ w7.cell? ⟨w.heap.size + 1, 2, none⟩ = some (.slice (some ⟨b9, o9, none⟩) q.nodes.length q.nc) ∧ w7.cell? ⟨b0, o0 + k * 6, none⟩ = some (.int .i64 x.n.kind) ∧ w7.cell? ⟨b0, o0 + k * 6 + 1, none⟩ = some (.int .i64 x.n.pos) ∧ w7.cell? ⟨b0, o0 + k * 6 + 2, none⟩ = some (.int .i64 x.n.code) ∧ w7.cell? ⟨b0, o0 + k * 6 + 3, none⟩ = some (.slice x.ka x.n.kids.length x.kc) ∧ w7.cell? ⟨b0, o0 + k * 6 + 4, none⟩ = some (.slice x.na x.n.nums.length x.nc) ∧ w7.cell? ⟨b0, o0 + k * 6 + 5, none⟩ = some (.string x.n.name) ∧ w7.cell? ⟨b9, o9 + k * 6, none⟩ = some (.int .i64 y.n.kind) ∧ w7.cell? ⟨b9, o9 + k * 6 + 1, none⟩ = some (.int .i64 y.n.pos) ∧ w7.cell? ⟨b9, o9 + k * 6 + 2, none⟩ = some (.int .i64 y.n.code) ∧ w7.cell? ⟨b9, o9 + k * 6 + 3, none⟩ = some (.slice y.ka y.n.kids.length y.kc) ∧ w7.cell? ⟨b9, o9 + k * 6 + 4, none⟩ = some (.slice y.na y.n.nums.length y.nc) ∧ w7.cell? ⟨b9, o9 + k * 6 + 5, none⟩ = some (.string y.n.name) from (by obtain ⟨m1, m2⟩ := HBb.out; obtain ⟨k0, k1, k2, k3, k4, k5, k6, k7, k8, k9, k10, k11, k12, k13⟩ := KX.out; have g1 := (C1.out.next HW.out).lt; have g2 := (C2.out.next HW.out).lt; exact ⟨(hb7.cell (p := ⟨w.heap.size, 2, none⟩) g1).trans k0, (hb7.cell (p := ⟨w.heap.size + 1, 2, none⟩) g2).trans k1, (hb7.cell (p := ⟨b0, _, none⟩) m1).trans k2, (hb7.cell (p := ⟨b0, _, none⟩) m1).trans k3, (hb7.cell (p := ⟨b0, _, none⟩) m1).trans k4, (hb7.cell (p := ⟨b0, _, none⟩) m1).trans k5, (hb7.cell (p := ⟨b0, _, none⟩) m1).trans k6, (hb7.cell (p := ⟨b0, _, none⟩) m1).trans k7, (hb7.cell (p := ⟨b9, _, none⟩) m2).trans k8, (hb7.cell (p := ⟨b9, _, none⟩) m2).trans k9, (hb7.cell (p := ⟨b9, _, none⟩) m2).trans k10, (hb7.cell (p := ⟨b9, _, none⟩) m2).trans k11, (hb7.cell (p := ⟨b9, _, none⟩) m2).trans k12, (hb7.cell (p := ⟨b9, _, none⟩) m2).trans k13⟩)); have HW7 := Lib.hid (Gl.below_next HW.out.drew hb7); have L7 := Lib.hid (Gl.below_next LR.out.drew hb7); clear hb7))
                  go_wp2
                  go_ret
                  exact ⟨by rw [HS.out]; rfl, L7.out⟩
              · have HALL := Lib.hid (show ((p.nodes.zip q.nodes).all fun x => alikeB x.1.n x.2.n) = true by
                  have h := HA.out
                  rwa [List.take_of_length_le (by rw [List.length_zip]; omega)] at h)
                have hke : k = p.nodes.length := by omega
                have hkn : decide (k < p.nodes.length) = false := by simp; omega
                have z3 := (C1.out.next HW.out).c 3
                have v3 := (C2.out.next HW.out).c 3
                have z2 := (C1.out.next HW.out).c 2
                simp only [List.getElem?_cons_zero, List.getElem?_cons_succ] at z3 v3 z2
                have G1 := Lib.hid (C1.out.next HW.out)
                have G2 := Lib.hid (C2.out.next HW.out)
                subst hke
                clear hk hlt
                obtain ⟨W9, rfl⟩ : ∃ W9, W9 = wr := ⟨_, rfl⟩
                go_wp2_with fail
                go_loopw [6] (fun i wz => ∃ k : Nat, k ≤ p.defs.length ∧ i = .int .i64 (k : Int) ∧ ((p.defs.zip q.defs).take k).all (fun x => sameDefB x.1 x.2) = true ∧ Hid (Below W9.heap.size W9 wz)) (fun i _ => p.defs.length - (intOf i).toNat)
                case atStart => exact ⟨0, Nat.zero_le _, rfl, by simp, Lib.hid (Below.refl _ _)⟩
                case round =>
                  obtain ⟨k, hk, rfl, hal, HW2⟩ := hrel
                  have HA2 := Lib.hid hal
                  have LR2 := Lib.hid (Gl.below_next LR.out HW2.out)
                  clear hal
                  by_cases hlt : k < p.defs.length
                  · obtain ⟨x, hx⟩ : ∃ x, p.defs[k]? = some x := ⟨_, List.getElem?_eq_getElem hlt⟩
                    obtain ⟨y, hy⟩ : ∃ y, q.defs[k]? = some y := ⟨_, List.getElem?_eq_getElem (by have := H5.out; omega)⟩
                    have hz : (p.defs.zip q.defs)[k]? = some (x, y) := by rw [List.getElem?_zip_eq_some]; exact ⟨hx, hy⟩
                    have HZZ := Lib.hid hz
                    obtain ⟨b0, o0, hA0, hb0, ⟨c0, c1, c2⟩, hin⟩ := (HPD.out.next LR2.out).at_ hx
                    obtain ⟨b9, o9, hA9, hb9, ⟨n0, n1, n2⟩, hin'⟩ := (HQD.out.next LR2.out).at_ hy
                    have z3 := (G1.out.next HW2.out).c 3
                    have v3 := (G2.out.next HW2.out).c 3
                    simp only [List.getElem?_cons_zero, List.getElem?_cons_succ] at z3 v3
                    rw [hA0] at z3
                    rw [hA9] at v3
                    have i0 : (0 : Int) ≤ (k : Int) := by omega
                    have i1 : (k : Int) < (p.defs.length : Int) := by omega
                    have i2 : (k : Int) < (q.defs.length : Int) := by have := H5.out; omega
                    have hsum := wrap_k k (by omega)
                    clear hx hy hz hA0 hA9 hin hin' hb0 hb9
                    by_cases hnm : x.name = y.name
                    · have q1 : (x.name.toList == y.name.toList) = true := ba_yes hnm
                      have q1' : (x.name.toList != y.name.toList) = false := bne_ba q1
                      by_cases hnd : x.node = y.node
                      · have q2 : (x.node != y.node) = false := by simp [hnd]
                        have HT : Hid ((fun x : Df × Df => sameDefB x.1 x.2) (x, y) = true) := Lib.hid (by simp [sameDefB, hnm, hnd])
                        clear hnm hnd
                        go_upto_region 11 with fail
                        go_quiet (go_wp2)
                        go_wp2
                        go_round
                        case rel => exact ⟨k + 1, by omega, by go_num, all_snocP HA2.out HZZ.out HT.out, Lib.hid (Gl.below_drewN HW2.out _)⟩
                        case measure => simp [intOf]; omega
                      · have q2 : (x.node != y.node) = true := by simpa using hnd
                        have HT : Hid ((fun x : Df × Df => sameDefB x.1 x.2) (x, y) = false) := Lib.hid (by simp [sameDefB, hnd])
                        have HS := Lib.hid (show b = false by rw [← HBB.out]; rw [all_badP HZZ.out HT.out]; simp)
                        clear hnm hnd
                        go_upto_region 11 with fail
                        go_quiet (go_wp2)
                        go_wp2
                        go_ret
                        exact ⟨by rw [HS.out]; rfl, Gl.below_drewN LR2.out _⟩
                    · have q1 : (x.name.toList == y.name.toList) = false := ba_no hnm
                      have q1' : (x.name.toList != y.name.toList) = true := bne_ba q1
                      have HT : Hid ((fun x : Df × Df => sameDefB x.1 x.2) (x, y) = false) := Lib.hid (by simp [sameDefB, hnm])
                      have HS := Lib.hid (show b = false by rw [← HBB.out]; rw [all_badP HZZ.out HT.out]; simp)
                      clear hnm
                      go_upto_region 11 with fail
                      go_quiet (go_wp2)
                      go_wp2
                      go_ret
                      exact ⟨by rw [HS.out]; rfl, Gl.below_drewN LR2.out _⟩
                  · have HS := Lib.hid (show b = true by
                      rw [← HBB.out, HALL.out, Bool.true_and]
                      have h := HA2.out
                      rwa [List.take_of_length_le (by rw [List.length_zip]; omega)] at h)
                    have hkn : decide (k < p.defs.length) = false := by simp; omega
                    have hke : k = p.defs.length := by omega
                    have z3 := (G1.out.next HW2.out).c 3
                    simp only [List.getElem?_cons_zero, List.getElem?_cons_succ] at z3
                    subst hke
                    go_wp2
                    go_ret
                    exact ⟨by rw [HS.out]; rfl, LR2.out⟩
          · have q5 : ((p.defs.length : Int) != (q.defs.length : Int)) = true := by simp; omega
            have HS := Lib.hid (show b = false by rw [← hb, decide_eq_false h5]; simp)
            clear hb h5 h4
            go_enter Try.func13, Try.ntmps13
            go_wp2_with fail
            refine (HD.out).mono ?_
            rintro e w1 ⟨rfl, hb1⟩
            have L1 := Lib.hid (Gl.below_next LW.out hb1)
            have x2 := (B1.out.next hb1).c 2
            have x3 := (B1.out.next hb1).c 3
            have y2 := (B2.out.next hb1).c 2
            have y3 := (B2.out.next hb1).c 3
            simp only [List.getElem?_cons_zero, List.getElem?_cons_succ] at x2 x3 y2 y3
            clear hb1
            go_wp2
            go_ret
            exact ⟨by rw [HS.out]; rfl, L1.out⟩
        · have q4 : ((p.nodes.length : Int) != (q.nodes.length : Int)) = true := by simp; omega
          have HS := Lib.hid (show b = false by rw [← hb, decide_eq_false h4]; rfl)
          clear hb h4
          go_enter Try.func13, Try.ntmps13
          go_wp2_with fail
          refine (HD.out).mono ?_
          rintro e w1 ⟨rfl, hb1⟩
          have L1 := Lib.hid (Gl.below_next LW.out hb1)
          have x2 := (B1.out.next hb1).c 2
          have y2 := (B2.out.next hb1).c 2
          simp only [List.getElem?_cons_zero, List.getElem?_cons_succ] at x2 y2
          clear hb1
          go_wp2
          go_ret
          exact ⟨by rw [HS.out]; rfl, L1.out⟩
    · have q2 : (p.root != q.root) = true := by simpa using h2
      have HS := Lib.hid (show b = false by rw [← hb, decide_eq_false h2]; simp)
      clear h2 hb HD
      go_enter Try.func13, Try.ntmps13
      go_wp2
      go_ret
      exact ⟨by rw [HS.out]; rfl, LW.out⟩
  · have q1 : (p.name.toList == q.name.toList) = false := ba_no h1
    have q1' : (p.name.toList != q.name.toList) = true := bne_ba q1
    have HS := Lib.hid (show b = false by rw [← hb, decide_eq_false h1]; rfl)
    clear h1 hb HD
    go_enter Try.func13, Try.ntmps13
    go_wp2
    go_ret
    exact ⟨by rw [HS.out]; rfl, LW.out⟩
end Go.Proofs.Ytdhpplbopciijaa.Tr
