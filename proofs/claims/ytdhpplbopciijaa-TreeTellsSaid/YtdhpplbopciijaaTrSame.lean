/-
  Layer 18, tree: slices.EqualFunc of nodes and of definitions, and tree.Same. Condition: the programs are no greater than what is gone through.
-/
import Derived.Test.YtdhpplbopciijaaTrRight
set_option maxRecDepth 100000
namespace Go.Proofs.Ytdhpplbopciijaa.Tr
open Go.Proofs.Ytdhpplbopciijaa.Sh Go.Proofs.Ytdhpplbopciijaa.St
open Go.RowKit
set_option linter.unusedVariables false
set_option linter.unusedSimpArgs false

def nodesSame (a b : List Nq) : Bool := decide (a.length = b.length) && (a.zip b).all fun x => alikeB x.1.n x.2.n
def defsSame (a b : List Df) : Bool := decide (a.length = b.length) && (a.zip b).all fun x => sameDefB x.1 x.2
def sameT (p q : Pq) : Bool := decide (p.name = q.name) && (decide (p.dims = q.dims) && (decide (p.root = q.root) && (nodesSame p.nodes q.nodes && defsSame p.defs q.defs)))
set_option maxHeartbeats 8000000 in
theorem eqNodes_b (A : Option Addr) (c : Nat) (qs : List Nq) (B : Option Addr) (d : Nat) (qs' : List Nq) (b : Bool) (w : World) (hn : Nodes w A qs) (hn' : Nodes w B qs') (h3 : qs.length ≤ 1000) (hb : nodesSame qs qs' = b) :
    Calls Try.prog 35 #[.slice A qs.length c, .slice B qs'.length d, .func (.func 36) #[] #[]] w (RetBl b w) := by
  by_cases hl : qs.length = qs'.length
  · have hev : ((qs.length : Int) != (qs'.length : Int)) = false := by simp [hl]
    have HB := Lib.hid (show ((qs.zip qs').all fun x => alikeB x.1.n x.2.n) = b by rw [← hb]; unfold nodesSame; rw [decide_eq_true hl, Bool.true_and])
    have HN := Lib.hid hn
    have HN' := Lib.hid hn'
    have HZ : Hid ((qs.zip qs').length = qs.length) := Lib.hid (by rw [List.length_zip, hl, Nat.min_self])
    have hle : qs.length ≤ qs'.length := by omega
    have HL := Lib.hid hl
    clear hn hn' hb hl
    go_enter Try.func35, Try.ntmps35
    go_wp2_with fail
    go_loopw [17] (fun i wr => ∃ k : Nat, k ≤ qs.length ∧ i = .int .i64 (k : Int) ∧ ((qs.zip qs').take k).all (fun x => alikeB x.1.n x.2.n) = true ∧ Hid (Below w.heap.size w wr)) (fun i _ => qs.length - (intOf i).toNat)
    case atStart => exact ⟨0, Nat.zero_le _, rfl, by simp, Lib.hid (Below.refl _ _)⟩
    case round =>
      obtain ⟨k, hk, rfl, hal, HW⟩ := hrel
      have HA := Lib.hid hal
      clear hal
      by_cases hlt : k < qs.length
      · obtain ⟨x, hx⟩ : ∃ x, qs[k]? = some x := ⟨_, List.getElem?_eq_getElem hlt⟩
        obtain ⟨y, hy⟩ : ∃ y, qs'[k]? = some y := ⟨_, List.getElem?_eq_getElem (by omega)⟩
        have hz : (qs.zip qs')[k]? = some (x, y) := by rw [List.getElem?_zip_eq_some]; exact ⟨hx, hy⟩
        have HZZ := Lib.hid hz
        obtain ⟨b0, o0, rfl, hb0, ⟨c0, c1, c2, c3, c4, c5⟩, hin⟩ := (HN.out.next HW.out).at_ hx
        obtain ⟨b9, o9, rfl, hb9, ⟨n0, n1, n2, n3, n4, n5⟩, hin'⟩ := (HN'.out.next HW.out).at_ hy
        have HI := Lib.hid hin
        have HI' := Lib.hid hin'
        have l9 := below_new wr (.cells #[.int .i64 x.n.kind, .int .i64 x.n.pos, .int .i64 x.n.code, .slice x.ka x.n.kids.length x.kc, .slice x.na x.n.nums.length x.nc, .string x.n.name] 31)
        have m0 := (l9.cell (p := ⟨b9, o9 + k * 6, none⟩) hb9).trans n0
        have m1 := (l9.cell (p := ⟨b9, o9 + k * 6 + 1, none⟩) hb9).trans n1
        have m2 := (l9.cell (p := ⟨b9, o9 + k * 6 + 2, none⟩) hb9).trans n2
        have m3 := (l9.cell (p := ⟨b9, o9 + k * 6 + 3, none⟩) hb9).trans n3
        have m4 := (l9.cell (p := ⟨b9, o9 + k * 6 + 4, none⟩) hb9).trans n4
        have m5 := (l9.cell (p := ⟨b9, o9 + k * 6 + 5, none⟩) hb9).trans n5
        clear hin hin' l9
        have i0 : (0 : Int) ≤ (k : Int) := by omega
        have i1 : (k : Int) < (qs.length : Int) := by omega
        have i2 : (k : Int) < (qs'.length : Int) := by omega
        have hsum := wrap_k k (by omega)
        have LX := Lib.hid (below_new wr (.cells #[.int .i64 x.n.kind, .int .i64 x.n.pos, .int .i64 x.n.code, .slice x.ka x.n.kids.length x.kc, .slice x.na x.n.nums.length x.nc, .string x.n.name] 31))
        have LY := Lib.hid (below_new (wr.alloc (.cells #[.int .i64 x.n.kind, .int .i64 x.n.pos, .int .i64 x.n.code, .slice x.ka x.n.kids.length x.kc, .slice x.na x.n.nums.length x.nc, .string x.n.name] 31)) (.cells #[.int .i64 y.n.kind, .int .i64 y.n.pos, .int .i64 y.n.code, .slice y.ka y.n.kids.length y.kc, .slice y.na y.n.nums.length y.nc, .string y.n.name] 31))
        have L2 := Lib.hid (Gl.below_next (Gl.below_next HW.out LX.out) LY.out)
        obtain ⟨t, ht⟩ : ∃ t, alikeB x.n y.n = t := ⟨_, rfl⟩
        have HC := Lib.hid (sameNode_b x y t _ ((HI.out.next LX.out).next LY.out) ((HI'.out.next LX.out).next LY.out) ht)
        have HT : Hid ((fun x : Nq × Nq => alikeB x.1.n x.2.n) (x, y) = t) := Lib.hid ht
        unfold nodeV at HC
        clear hx hy hz ht
        cases t with
        | true =>
          go_wp2_with fail
          refine (HC.out).mono ?_
          rintro e w1 ⟨rfl, hb1⟩
          have HW1 := Lib.hid (Gl.below_next L2.out hb1)
          clear hb1
          go_wp2
          go_round
          case rel => exact ⟨k + 1, by omega, by go_num, all_snocP HA.out HZZ.out HT.out, HW1⟩
          case measure => simp [intOf]; omega
        | false =>
          have HS := Lib.hid (show b = false by rw [← HB.out]; exact all_badP HZZ.out HT.out)
          go_wp2_with fail
          refine (HC.out).mono ?_
          rintro e w1 ⟨rfl, hb1⟩
          have HW1 := Lib.hid (Gl.below_next L2.out hb1)
          clear hb1
          go_wp2
          go_ret
          exact ⟨by rw [HS.out]; rfl, HW1.out⟩
      · have HS := Lib.hid (show b = true by
          rw [← HB.out]
          have h := HA.out
          rwa [List.take_of_length_le (by rw [HZ.out]; omega)] at h)
        have hke : k = qs.length := by omega
        have hkn : decide (k < qs.length) = false := by simp; omega
        subst hke
        go_wp2
        go_ret
        exact ⟨by rw [HS.out]; rfl, HW.out⟩
  · have hev : ((qs.length : Int) != (qs'.length : Int)) = true := by simp; omega
    have HS := Lib.hid (show b = false by rw [← hb]; unfold nodesSame; rw [decide_eq_false hl]; rfl)
    clear hl hb hn hn'
    go_enter Try.func35, Try.ntmps35
    go_wp2
    go_ret
    exact ⟨by rw [HS.out]; rfl, Below.refl _ _⟩
set_option maxHeartbeats 8000000 in
theorem eqDefs_b (A : Option Addr) (c : Nat) (qs : List Df) (B : Option Addr) (d : Nat) (qs' : List Df) (b : Bool) (w : World) (hn : Defs w A qs) (hn' : Defs w B qs') (h3 : qs.length ≤ 1000) (hb : defsSame qs qs' = b) :
    Calls Try.prog 37 #[.slice A qs.length c, .slice B qs'.length d, .func (.func 38) #[] #[]] w (RetBl b w) := by
  by_cases hl : qs.length = qs'.length
  · have hev : ((qs.length : Int) != (qs'.length : Int)) = false := by simp [hl]
    have HB := Lib.hid (show ((qs.zip qs').all fun x => sameDefB x.1 x.2) = b by rw [← hb]; unfold defsSame; rw [decide_eq_true hl, Bool.true_and])
    have HN := Lib.hid hn
    have HN' := Lib.hid hn'
    have HZ : Hid ((qs.zip qs').length = qs.length) := Lib.hid (by rw [List.length_zip, hl, Nat.min_self])
    have hle : qs.length ≤ qs'.length := by omega
    have HL := Lib.hid hl
    clear hn hn' hb hl
    go_enter Try.func37, Try.ntmps37
    go_wp2_with fail
    go_loopw [17] (fun i wr => ∃ k : Nat, k ≤ qs.length ∧ i = .int .i64 (k : Int) ∧ ((qs.zip qs').take k).all (fun x => sameDefB x.1 x.2) = true ∧ Hid (Below w.heap.size w wr)) (fun i _ => qs.length - (intOf i).toNat)
    case atStart => exact ⟨0, Nat.zero_le _, rfl, by simp, Lib.hid (Below.refl _ _)⟩
    case round =>
      obtain ⟨k, hk, rfl, hal, HW⟩ := hrel
      have HA := Lib.hid hal
      clear hal
      by_cases hlt : k < qs.length
      · obtain ⟨x, hx⟩ : ∃ x, qs[k]? = some x := ⟨_, List.getElem?_eq_getElem hlt⟩
        obtain ⟨y, hy⟩ : ∃ y, qs'[k]? = some y := ⟨_, List.getElem?_eq_getElem (by omega)⟩
        have hz : (qs.zip qs')[k]? = some (x, y) := by rw [List.getElem?_zip_eq_some]; exact ⟨hx, hy⟩
        have HZZ := Lib.hid hz
        obtain ⟨b0, o0, rfl, hb0, ⟨c0, c1, c2⟩, hin⟩ := (HN.out.next HW.out).at_ hx
        obtain ⟨b9, o9, rfl, hb9, ⟨n0, n1, n2⟩, hin'⟩ := (HN'.out.next HW.out).at_ hy
        have l9 := below_new wr (.cells #[.string x.name, .int .i64 x.pos, .int .i64 x.node] 60)
        have m0 := (l9.cell (p := ⟨b9, o9 + k * 3, none⟩) hb9).trans n0
        have m1 := (l9.cell (p := ⟨b9, o9 + k * 3 + 1, none⟩) hb9).trans n1
        have m2 := (l9.cell (p := ⟨b9, o9 + k * 3 + 2, none⟩) hb9).trans n2
        clear hin hin' l9
        have i0 : (0 : Int) ≤ (k : Int) := by omega
        have i1 : (k : Int) < (qs.length : Int) := by omega
        have i2 : (k : Int) < (qs'.length : Int) := by omega
        have hsum := wrap_k k (by omega)
        have LX := Lib.hid (below_new wr (.cells #[.string x.name, .int .i64 x.pos, .int .i64 x.node] 60))
        have LY := Lib.hid (below_new (wr.alloc (.cells #[.string x.name, .int .i64 x.pos, .int .i64 x.node] 60)) (.cells #[.string y.name, .int .i64 y.pos, .int .i64 y.node] 60))
        have L2 := Lib.hid (Gl.below_next (Gl.below_next HW.out LX.out) LY.out)
        obtain ⟨t, ht⟩ : ∃ t, sameDefB x y = t := ⟨_, rfl⟩
        have HC := Lib.hid (sameDef_b x y t ((wr.alloc (.cells #[.string x.name, .int .i64 x.pos, .int .i64 x.node] 60)).alloc (.cells #[.string y.name, .int .i64 y.pos, .int .i64 y.node] 60)) ht)
        have HT : Hid ((fun x : Df × Df => sameDefB x.1 x.2) (x, y) = t) := Lib.hid ht

        clear hx hy hz ht
        cases t with
        | true =>
          go_wp2_with fail
          refine (HC.out).mono ?_
          rintro e w1 ⟨rfl, hb1⟩
          have HW1 := Lib.hid (Gl.below_next L2.out hb1)
          clear hb1
          go_wp2
          go_round
          case rel => exact ⟨k + 1, by omega, by go_num, all_snocP HA.out HZZ.out HT.out, HW1⟩
          case measure => simp [intOf]; omega
        | false =>
          have HS := Lib.hid (show b = false by rw [← HB.out]; exact all_badP HZZ.out HT.out)
          go_wp2_with fail
          refine (HC.out).mono ?_
          rintro e w1 ⟨rfl, hb1⟩
          have HW1 := Lib.hid (Gl.below_next L2.out hb1)
          clear hb1
          go_wp2
          go_ret
          exact ⟨by rw [HS.out]; rfl, HW1.out⟩
      · have HS := Lib.hid (show b = true by
          rw [← HB.out]
          have h := HA.out
          rwa [List.take_of_length_le (by rw [HZ.out]; omega)] at h)
        have hke : k = qs.length := by omega
        have hkn : decide (k < qs.length) = false := by simp; omega
        subst hke
        go_wp2
        go_ret
        exact ⟨by rw [HS.out]; rfl, HW.out⟩
  · have hev : ((qs.length : Int) != (qs'.length : Int)) = true := by simp; omega
    have HS := Lib.hid (show b = false by rw [← hb]; unfold defsSame; rw [decide_eq_false hl]; rfl)
    clear hl hb hn hn'
    go_enter Try.func37, Try.ntmps37
    go_wp2
    go_ret
    exact ⟨by rw [HS.out]; rfl, Below.refl _ _⟩
set_option maxHeartbeats 8000000 in
theorem same_b (p q : Pq) (b : Bool) (w : World) (hp : ProgIn w p) (hq : ProgIn w q) (hf : FitP p) (hb : sameT p q = b) : Calls Try.prog 12 #[progV p, progV q] w (RetBl b w) := by
  unfold progV
  unfold sameT at hb
  have e1 : (w.alloc (.cells #[.string p.name, .slice p.da p.dims.length p.dc, .slice p.na p.nodes.length p.nc, .slice p.fa p.defs.length p.fc, .int .i64 p.root] 26)).heap.size = w.heap.size + 1 := by simp
  have B1 := Lib.hid ((Bk.new 26 w [.string p.name, .slice p.da p.dims.length p.dc, .slice p.na p.nodes.length p.nc, .slice p.fa p.defs.length p.fc, .int .i64 p.root]).alloc (.cells #[.string q.name, .slice q.da q.dims.length q.dc, .slice q.na q.nodes.length q.nc, .slice q.fa q.defs.length q.fc, .int .i64 q.root] 26))
  have B2 := Lib.hid (Bk.new 26 (w.alloc (.cells #[.string p.name, .slice p.da p.dims.length p.dc, .slice p.na p.nodes.length p.nc, .slice p.fa p.defs.length p.fc, .int .i64 p.root] 26)) [.string q.name, .slice q.da q.dims.length q.dc, .slice q.na q.nodes.length q.nc, .slice q.fa q.defs.length q.fc, .int .i64 q.root])
  rw [e1] at B2
  have LW := Lib.hid (((Below.refl _ w).alloc (Nat.le_refl _) (.cells #[.string p.name, .slice p.da p.dims.length p.dc, .slice p.na p.nodes.length p.nc, .slice p.fa p.defs.length p.fc, .int .i64 p.root] 26)).alloc (by simp) (.cells #[.string q.name, .slice q.da q.dims.length q.dc, .slice q.na q.nodes.length q.nc, .slice q.fa q.defs.length q.fc, .int .i64 q.root] 26))
  have HD := Lib.hid (((same_any p.da p.dc p.dims q.da q.dc q.dims ((w.alloc (.cells #[.string p.name, .slice p.da p.dims.length p.dc, .slice p.na p.nodes.length p.nc, .slice p.fa p.defs.length p.fc, .int .i64 p.root] 26)).alloc (.cells #[.string q.name, .slice q.da q.dims.length q.dc, .slice q.na q.nodes.length q.nc, .slice q.fa q.defs.length q.fc, .int .i64 q.root] 26)) hp.2.2.2.2.1 hq.2.2.2.2.1 (hp.1.below LW.out) (hq.1.below LW.out))).mono (fun e0 w0 hr => (⟨hr.1, by obtain ⟨dn, h⟩ := hr.2; rw [h]; exact below_drewN (Below.refl _ _) dn⟩ : RetBl (decide (p.dims = q.dims)) ((w.alloc (.cells #[.string p.name, .slice p.da p.dims.length p.dc, .slice p.na p.nodes.length p.nc, .slice p.fa p.defs.length p.fc, .int .i64 p.root] 26)).alloc (.cells #[.string q.name, .slice q.da q.dims.length q.dc, .slice q.na q.nodes.length q.nc, .slice q.fa q.defs.length q.fc, .int .i64 q.root] 26)) e0 w0)))
  have HNS := Lib.hid (fun W (hw : Below w.heap.size w W) (t : Bool) ht => eqNodes_b p.na p.nc p.nodes q.na q.nc q.nodes t W (hp.2.1.next hw) (hq.2.1.next hw) (by have := hf.nodes; omega) ht)
  have HDS := Lib.hid (fun W (hw : Below w.heap.size w W) (t : Bool) ht => eqDefs_b p.fa p.fc p.defs q.fa q.fc q.defs t W (hp.2.2.1.next hw) (hq.2.2.1.next hw) (by have := hf.defs; omega) ht)
  clear hp hq hf e1
  by_cases h1 : p.name = q.name
  · have q1 : (p.name.toList == q.name.toList) = true := ba_yes h1
    have D1 := Lib.hid h1
    obtain ⟨dd, hdd⟩ : ∃ dd, decide (p.dims = q.dims) = dd := ⟨_, rfl⟩
    rw [decide_eq_true h1, Bool.true_and, hdd] at hb
    rw [hdd] at HD
    have HBB := Lib.hid hb
    clear h1 hb hdd
    cases dd with
    | false =>
      have HS := Lib.hid (show b = false from HBB.out.symm)
      go_enter Try.func12, Try.ntmps12
      go_wp2_with fail
      refine (HD.out).mono ?_
      rintro e w1 ⟨rfl, hb1⟩
      have L1 := Lib.hid (Gl.below_next LW.out hb1)
      clear hb1
      go_wp2
      go_ret
      exact ⟨by rw [HS.out]; rfl, L1.out⟩
    | true =>
      by_cases h3 : p.root = q.root
      · have q3 : (p.root == q.root) = true := by simpa using h3
        have D3 := Lib.hid h3
        obtain ⟨ns, hns⟩ : ∃ ns, nodesSame p.nodes q.nodes = ns := ⟨_, rfl⟩
        obtain ⟨ds, hds⟩ : ∃ ds, defsSame p.defs q.defs = ds := ⟨_, rfl⟩
        have HB2 : Hid ((ns && ds) = b) := Lib.hid (by rw [← HBB.out, decide_eq_true h3, hns, hds]; rfl)
        have HNN := Lib.hid (fun W hw => HNS.out W hw ns hns)
        have HDD := Lib.hid (fun W hw => HDS.out W hw ds hds)
        clear h3 hns hds HNS HDS
        cases ns with
        | false =>
          have HS := Lib.hid (show b = false from HB2.out.symm)
          go_enter Try.func12, Try.ntmps12
          go_wp2_with fail
          refine (HD.out).mono ?_
          rintro e w1 ⟨rfl, hb1⟩
          have L1 := Lib.hid (Gl.below_next LW.out hb1)
          have x2 := (B1.out.next hb1).c 2
          have x3 := (B1.out.next hb1).c 3
          have x4 := (B1.out.next hb1).c 4
          have y2 := (B2.out.next hb1).c 2
          have y3 := (B2.out.next hb1).c 3
          have y4 := (B2.out.next hb1).c 4
          simp only [List.getElem?_cons_zero, List.getElem?_cons_succ] at x2 x3 x4 y2 y3 y4
          have C1 := Lib.hid (B1.out.next hb1)
          have C2 := Lib.hid (B2.out.next hb1)
          have HN2 := Lib.hid (HNN.out w1 L1.out)
          clear hb1
          go_wp2_with fail
          refine (HN2.out).mono ?_
          rintro e w2 ⟨rfl, hb2⟩
          have L2 := Lib.hid (Gl.below_next L1.out hb2)
          clear x2 x3 x4 y2 y3 y4
          clear hb2
          go_wp2
          go_ret
          exact ⟨by rw [HS.out]; rfl, L2.out⟩
        | true =>
          go_enter Try.func12, Try.ntmps12
          go_wp2_with fail
          refine (HD.out).mono ?_
          rintro e w1 ⟨rfl, hb1⟩
          have L1 := Lib.hid (Gl.below_next LW.out hb1)
          have x2 := (B1.out.next hb1).c 2
          have x3 := (B1.out.next hb1).c 3
          have x4 := (B1.out.next hb1).c 4
          have y2 := (B2.out.next hb1).c 2
          have y3 := (B2.out.next hb1).c 3
          have y4 := (B2.out.next hb1).c 4
          simp only [List.getElem?_cons_zero, List.getElem?_cons_succ] at x2 x3 x4 y2 y3 y4
          have C1 := Lib.hid (B1.out.next hb1)
          have C2 := Lib.hid (B2.out.next hb1)
          have HN2 := Lib.hid (HNN.out w1 L1.out)
          clear hb1
          go_wp2_with fail
          refine (HN2.out).mono ?_
          rintro e w2 ⟨rfl, hb2⟩
          have L2 := Lib.hid (Gl.below_next L1.out hb2)
          clear x2 x3 x4 y2 y3 y4
          have x3 := (C1.out.next hb2).c 3
          have y3 := (C2.out.next hb2).c 3
          simp only [List.getElem?_cons_zero, List.getElem?_cons_succ] at x3 y3
          have HD2 := Lib.hid (HDD.out w2 L2.out)
          clear hb2
          go_wp2_with fail
          refine (HD2.out).mono ?_
          rintro e w3 ⟨rfl, hb3⟩
          have L3 := Lib.hid (Gl.below_next L2.out hb3)
          clear hb3 x3 y3
          go_wp2
          go_ret
          exact ⟨by rw [← HB2.out]; rfl, L3.out⟩
      · have q3 : (p.root == q.root) = false := by simpa using h3
        have HS := Lib.hid (show b = false by rw [← HBB.out, decide_eq_false h3]; rfl)
        clear h3
        go_enter Try.func12, Try.ntmps12
        go_wp2_with fail
        refine (HD.out).mono ?_
        rintro e w1 ⟨rfl, hb1⟩
        have L1 := Lib.hid (Gl.below_next LW.out hb1)
        have x4 := (B1.out.next hb1).c 4
        have y4 := (B2.out.next hb1).c 4
        simp only [List.getElem?_cons_zero, List.getElem?_cons_succ] at x4 y4
        clear hb1
        go_wp2
        go_ret
        exact ⟨by rw [HS.out]; rfl, L1.out⟩
  · have q1 : (p.name.toList == q.name.toList) = false := ba_no h1
    have HS := Lib.hid (show b = false by rw [← hb, decide_eq_false h1]; rfl)
    clear h1 hb HD HNS HDS
    go_enter Try.func12, Try.ntmps12
    go_wp2
    go_ret
    exact ⟨by rw [HS.out]; rfl, LW.out⟩
end Go.Proofs.Ytdhpplbopciijaa.Tr
