/-
  Layer 18, tree: copied and Node; rifflelaw18.Great. Conditions: as told in each.
-/
import Derived.Test.YtjmpilmmgfjpmaaDoorTrRight
set_option maxRecDepth 100000
namespace Go.Proofs.YtjmpilmmgfjpmaaDoor.Tr
open Go.Proofs.YtjmpilmmgfjpmaaDoor.Sh Go.Proofs.YtjmpilmmgfjpmaaDoor.St
open Go.RowKit
set_option linter.unusedVariables false

def wSet6 (wr : World) (g : Nat) (v0 v1 v2 v3 v4 v5 : Value) : World :=
  (((((wr.setCell ⟨g, 0, none⟩ v0).setCell ⟨g, 1, none⟩ v1).setCell ⟨g, 2, none⟩ v2).setCell ⟨g, 3, none⟩ v3).setCell ⟨g, 4, none⟩ v4).setCell ⟨g, 5, none⟩ v5
section
variable {wr : World} {g : Nat} {v0 v1 v2 v3 v4 v5 u0 u1 u2 u3 u4 u5 : Value} {t : TypeId}
theorem wSet6_bk (h : Bk t wr g [u0, u1, u2, u3, u4, u5]) : Bk t (wSet6 wr g v0 v1 v2 v3 v4 v5) g [v0, v1, v2, v3, v4, v5] :=
  (((((h.set_ 0 v0).set_ 1 v1).set_ 2 v2).set_ 3 v3).set_ 4 v4).set_ 5 v5
theorem wSet6_below {b : Nat} {w : World} (h : Below b w wr) (h6 : b ≤ g) : Below b w (wSet6 wr g v0 v1 v2 v3 v4 v5) :=
  (((((h.setCell (p := ⟨g, 0, none⟩) h6 v0).setCell (p := ⟨g, 1, none⟩) h6 v1).setCell (p := ⟨g, 2, none⟩) h6 v2).setCell (p := ⟨g, 3, none⟩) h6 v3).setCell (p := ⟨g, 4, none⟩) h6 v4).setCell (p := ⟨g, 5, none⟩) h6 v5
theorem wSet6_own {b : Nat} {e : TypeId} {size n : Nat} {v : Value} {xs : List Value} (h : wr.ownsRow b e size v n xs) (h6 : g < b) : (wSet6 wr g v0 v1 v2 v3 v4 v5).ownsRow b e size v n xs :=
  ownsRow_setCell_below (a := ⟨g, 5, none⟩) (ownsRow_setCell_below (a := ⟨g, 4, none⟩) (ownsRow_setCell_below (a := ⟨g, 3, none⟩) (ownsRow_setCell_below (a := ⟨g, 2, none⟩) (ownsRow_setCell_below (a := ⟨g, 1, none⟩) (ownsRow_setCell_below (a := ⟨g, 0, none⟩) h h6 v0) h6 v1) h6 v2) h6 v3) h6 v4) h6 v5
end
theorem res_node {fn : Func} {W : World} {g : Nat} {v0 v1 v2 v3 v4 v5 : Value} (h : fn.results = #[.cell 2 45]) (tmps : Array Value) (h0 : tmps.getD 2 undef = .pointer (some ⟨g, 0, none⟩))
    (b : Bk 45 W g [v0, v1, v2, v3, v4, v5]) : (results fn tmps).run Tryd.prog W = .ok (.agg #[v0, v1, v2, v3, v4, v5]) W := by
  have a0 : W.cell? ⟨g, 0, none⟩ = some v0 := b.c 0
  have a1 : W.cell? ⟨g, 1, none⟩ = some v1 := b.c 1
  have a2 : W.cell? ⟨g, 2, none⟩ = some v2 := b.c 2
  have a3 : W.cell? ⟨g, 3, none⟩ = some v3 := b.c 3
  have a4 : W.cell? ⟨g, 4, none⟩ = some v4 := b.c 4
  have a5 : W.cell? ⟨g, 5, none⟩ = some v5 := b.c 5
  rw [Array.getD_eq_getD_getElem?] at h0
  simp [results, h, h0, go_sem, a0, a1, a2, a3, a4, a5]
theorem res_node2 {fn : Func} {W : World} {g : Nat} {v0 v1 v2 v3 v4 v5 : Value} (h : fn.results = #[.cell 4 45, .tmp 5]) (tmps : Array Value) (h0 : tmps.getD 4 undef = .pointer (some ⟨g, 0, none⟩))
    (b : Bk 45 W g [v0, v1, v2, v3, v4, v5]) : (results fn tmps).run Tryd.prog W = .ok (.tuple #[.agg #[v0, v1, v2, v3, v4, v5], tmps.getD 5 undef]) W := by
  have a0 : W.cell? ⟨g, 0, none⟩ = some v0 := b.c 0
  have a1 : W.cell? ⟨g, 1, none⟩ = some v1 := b.c 1
  have a2 : W.cell? ⟨g, 2, none⟩ = some v2 := b.c 2
  have a3 : W.cell? ⟨g, 3, none⟩ = some v3 := b.c 3
  have a4 : W.cell? ⟨g, 4, none⟩ = some v4 := b.c 4
  have a5 : W.cell? ⟨g, 5, none⟩ = some v5 := b.c 5
  rw [Array.getD_eq_getD_getElem?] at h0
  simp [results, h, h0, go_sem, a0, a1, a2, a3, a4, a5]
theorem mine_int {t : TypeId} {w : World} {base n c : Nat} {A : Option Addr} {l : List Int} (h : MineT t w base (.slice A n c) l) : Ints w A l := by
  obtain ⟨A2, c2, e2, hi2⟩ := MineT.ints h
  injection e2 with e2
  rw [e2]; exact hi2
/-- A node with these fields, of the call's own, is answered. -/
def RetNd (n : Nd) (w : World) (e : Ending) (w' : World) : Prop := ∃ ka kc na nc, e = .returned (nodeV ⟨n, ka, kc, na, nc⟩) ∧ NodeIn w' ⟨n, ka, kc, na, nc⟩ ∧ Below w.heap.size w w' ∧ MineT 3 w' w.heap.size (.slice ka n.kids.length kc) n.kids ∧ MineT 2 w' w.heap.size (.slice na n.nums.length nc) n.nums
theorem own_weakT {w : World} {b b' : Nat} {e : TypeId} {size n : Nat} {v : Value} {xs : List Value} (h : w.ownsRow b e size v n xs) (hb : b' ≤ b) : w.ownsRow b' e size v n xs := by
  refine ⟨h.1, ?_⟩
  rcases h.2 with h | ⟨g, cap, cur, e1, h1, h2⟩
  · exact .inl h
  · exact .inr ⟨g, cap, cur, e1, Nat.le_trans hb h1, h2⟩
set_option maxHeartbeats 8000000 in
theorem copied_any (q : Nq) (w : World) (hq : NodeIn w q) (h20 : q.n.kids.length ≤ 100) (h100 : q.n.nums.length ≤ 1000) : Calls Tryd.prog 53 #[nodeV q] w (RetNd q.n w) := by
  obtain ⟨⟨k, p, c, kids, nums, name⟩, ka, kc, na, nc⟩ := q
  obtain ⟨i1, i2, l1, l2, l3⟩ := hq
  unfold nodeV
  simp only at i1 i2 l1 l2 l3 h20 h100 ⊢
  have e1 : (w.alloc (.cells #[.int .i64 k, .int .i64 p, .int .i64 c, .slice ka kids.length kc, .slice na nums.length nc, .string name] 45)).heap.size = w.heap.size + 1 := by simp
  have B1 := Lib.hid ((Bk.new 45 w [.int .i64 k, .int .i64 p, .int .i64 c, .slice ka kids.length kc, .slice na nums.length nc, .string name]).alloc (.cells #[.int .i64 0, .int .i64 0, .int .i64 0, .slice none 0 0, .slice none 0 0, .string ⟨#[]⟩] 45))
  have B2 := Lib.hid (Bk.new 45 (w.alloc (.cells #[.int .i64 k, .int .i64 p, .int .i64 c, .slice ka kids.length kc, .slice na nums.length nc, .string name] 45)) [.int .i64 0, .int .i64 0, .int .i64 0, .slice none 0 0, .slice none 0 0, .string ⟨#[]⟩])
  rw [e1] at B2
  have LB := Lib.hid (((Below.refl _ w).alloc (Nat.le_refl _) (.cells #[.int .i64 k, .int .i64 p, .int .i64 c, .slice ka kids.length kc, .slice na nums.length nc, .string name] 45)).alloc (by simp) (.cells #[.int .i64 0, .int .i64 0, .int .i64 0, .slice none 0 0, .slice none 0 0, .string ⟨#[]⟩] 45))
  have HCK := Lib.hid (clone_t ka kc kids _ h20 (i1.below LB.out))
  have HCN := Lib.hid (fun W (hw : Below w.heap.size w W) => clone64_any na nc nums W h100 (i2.below hw))
  have HL := Lib.hid (And.intro l1 (And.intro l2 l3))
  have e2 : ((w.alloc (.cells #[.int .i64 k, .int .i64 p, .int .i64 c, .slice ka kids.length kc, .slice na nums.length nc, .string name] 45)).alloc (.cells #[.int .i64 0, .int .i64 0, .int .i64 0, .slice none 0 0, .slice none 0 0, .string ⟨#[]⟩] 45)).heap.size = w.heap.size + 1 + 1 := by simp
  have E2 := Lib.hid e2
  have n1 : ¬ w.heap.size = w.heap.size + 1 := by omega
  have n2 : ¬ w.heap.size + 1 = w.heap.size := by omega
  clear i1 i2 l1 l2 l3 h20 h100 e1 e2
  go_enter Tryd.func53, Tryd.ntmps53
  go_wp2_with fail
  refine (HCK.out).mono ?_
  rintro e w1 ⟨K, cK, rfl, hmK, hb1⟩
  rw [E2.out] at hmK
  have C1 := Lib.hid ((B1.out.next hb1).set_ 3 (.slice K kids.length cK))
  have C2 := Lib.hid ((B2.out.next hb1).far (p := ⟨w.heap.size, 3, none⟩) n2 (.slice K kids.length cK))
  have L1 := Lib.hid ((Gl.below_next LB.out hb1).setCell (p := ⟨w.heap.size, 3, none⟩) (Nat.le_refl _) (.slice K kids.length cK))
  have M1 := Lib.hid (ownsRow_setCell_below (a := ⟨w.heap.size, 3, none⟩) hmK (show w.heap.size < w.heap.size + 1 + 1 by omega) (.slice K kids.length cK))
  have HS1 := Lib.hid (show w.heap.size + 1 + 1 ≤ w1.heap.size by have := hb1.size; rw [E2.out] at this; exact this)
  have f3 := (B1.out.next hb1).f 3
  have x3 := (B1.out.next hb1).c 3
  have x4 := (B1.out.next hb1).c 4
  simp only [List.getElem?_cons_zero, List.getElem?_cons_succ] at x3 x4
  have HCN1 := Lib.hid (HCN.out _ L1.out)
  clear hmK hb1
  go_wp2_with fail
  refine (HCN1.out).mono ?_
  generalize w1.setCell ⟨w.heap.size, 3, none⟩ (.slice K kids.length cK) = w2 at *
  rintro e w3 ⟨N, cN, rfl, hmN, hb3⟩
  have D1 := Lib.hid (C1.out.next hb3)
  have D2 := Lib.hid (C2.out.next hb3)
  obtain ⟨y0, y1, y2, y3, y4, y5⟩ : w3.cell? ⟨w.heap.size, 0, none⟩ = some (.int .i64 k) ∧ w3.cell? ⟨w.heap.size, 1, none⟩ = some (.int .i64 p) ∧ w3.cell? ⟨w.heap.size, 2, none⟩ = some (.int .i64 c) ∧ w3.cell? ⟨w.heap.size, 3, none⟩ = some (.slice K kids.length cK) ∧ w3.cell? ⟨w.heap.size, 4, none⟩ = some (.slice na nums.length nc) ∧ w3.cell? ⟨w.heap.size, 5, none⟩ = some (.string name) := ⟨D1.out.c 0, D1.out.c 1, D1.out.c 2, D1.out.c 3, D1.out.c 4, D1.out.c 5⟩
  obtain ⟨z0, z1, z2, z3, z4, z5⟩ : w3.cell? ⟨w.heap.size + 1, 0, none⟩ = some (.int .i64 0) ∧ w3.cell? ⟨w.heap.size + 1, 1, none⟩ = some (.int .i64 0) ∧ w3.cell? ⟨w.heap.size + 1, 2, none⟩ = some (.int .i64 0) ∧ w3.cell? ⟨w.heap.size + 1, 3, none⟩ = some (.slice none 0 0) ∧ w3.cell? ⟨w.heap.size + 1, 4, none⟩ = some (.slice none 0 0) ∧ w3.cell? ⟨w.heap.size + 1, 5, none⟩ = some (.string ⟨#[]⟩) := ⟨D2.out.c 0, D2.out.c 1, D2.out.c 2, D2.out.c 3, D2.out.c 4, D2.out.c 5⟩
  have f4 := D1.out.f 4
  obtain ⟨g0, g1, g2, g3, g4, g5⟩ := And.intro (D2.out.f 0) (And.intro (D2.out.f 1) (And.intro (D2.out.f 2) (And.intro (D2.out.f 3) (And.intro (D2.out.f 4) (D2.out.f 5)))))
  have D3 := Lib.hid (D2.out.far (p := ⟨w.heap.size, 4, none⟩) n2 (.slice N nums.length cN))
  have L3 := Lib.hid ((Gl.below_next L1.out hb3).setCell (p := ⟨w.heap.size, 4, none⟩) (Nat.le_refl _) (.slice N nums.length cN))
  have hsz : w.heap.size + 1 + 1 ≤ w2.heap.size := by have := C2.out.lt; omega
  have M3 := Lib.hid (ownsRow_setCell_below (a := ⟨w.heap.size, 4, none⟩) (own_below M1.out hb3) (show w.heap.size < w.heap.size + 1 + 1 by omega) (.slice N nums.length cN))
  have M4 := Lib.hid (ownsRow_setCell_below (a := ⟨w.heap.size, 4, none⟩) hmN (show w.heap.size < w2.heap.size by omega) (.slice N nums.length cN))
  have HSZ := Lib.hid hsz
  clear hb3 hmN x3 x4 f3 hsz HCN1 HCN HCK
  go_wp2
  refine bodyPost_ret (res_node Tryd.results53 _ rfl (wSet6_bk D3.out)) rfl ?_
  have hM3 := wSet6_own (g := w.heap.size + 1) (v0 := .int .i64 k) (v1 := .int .i64 p) (v2 := .int .i64 c) (v3 := .slice K kids.length cK) (v4 := .slice N nums.length cN) (v5 := .string name) M3.out (show w.heap.size + 1 < w.heap.size + 1 + 1 by omega)
  have hM4 := wSet6_own (g := w.heap.size + 1) (v0 := .int .i64 k) (v1 := .int .i64 p) (v2 := .int .i64 c) (v3 := .slice K kids.length cK) (v4 := .slice N nums.length cN) (v5 := .string name) M4.out (show w.heap.size + 1 < w2.heap.size by have := HSZ.out; omega)
  exact ⟨K, cK, N, cN, rfl, ⟨mine_int hM3, mine_int hM4, HL.out.1, HL.out.2.1, HL.out.2.2⟩, wSet6_below L3.out (Nat.le_succ _), own_weakT hM3 (by omega), own_weakT hM4 (by have := HSZ.out; omega)⟩
def zeroNd : Nd := ⟨0, 0, 0, [], [], ⟨#[]⟩⟩
def nodeAt (qs : List Nq) (i : Int) : Nd := if thereB qs.length i = true then match qs[i.toNat]? with
  | some q => q.n
  | none => zeroNd else zeroNd
def RetNo (n : Nd) (b : Bool) (w : World) (e : Ending) (w' : World) : Prop := ∃ ka kc na nc, e = .returned (.tuple #[nodeV ⟨n, ka, kc, na, nc⟩, .bool b]) ∧ NodeIn w' ⟨n, ka, kc, na, nc⟩ ∧ Below w.heap.size w w'
theorem zero_in (w : World) : NodeIn w ⟨zeroNd, none, 0, none, 0⟩ := ⟨fun hp => absurd hp (by show ¬ 0 < 0; omega), fun hp => absurd hp (by show ¬ 0 < 0; omega), by show (0 : Nat) ≤ maxLen; omega, by show (0 : Nat) ≤ maxLen; omega, by show (0 : Nat) ≤ maxLen; omega⟩
set_option maxHeartbeats 8000000 in
theorem node_any (p : Pq) (i : Int) (w : World) (hp : ProgIn w p) (hf : FitP p) : Calls Tryd.prog 32 #[progV p, .int .i64 i] w (RetNo (nodeAt p.nodes i) (thereB p.nodes.length i) w) := by
  obtain ⟨tb, htb⟩ : ∃ tb, thereB p.nodes.length i = tb := ⟨_, rfl⟩
  have HT := Lib.hid (fun W => there_b p i tb W htb)
  have e1 : (w.alloc (.cells #[.string p.name, .slice p.da p.dims.length p.dc, .slice p.na p.nodes.length p.nc, .slice p.fa p.defs.length p.fc, .int .i64 p.root] 26)).heap.size = w.heap.size + 1 := by simp
  have B1 := Lib.hid ((Bk.new 26 w [.string p.name, .slice p.da p.dims.length p.dc, .slice p.na p.nodes.length p.nc, .slice p.fa p.defs.length p.fc, .int .i64 p.root]).alloc (.cells #[.int .i64 0, .int .i64 0, .int .i64 0, .slice none 0 0, .slice none 0 0, .string ⟨#[]⟩] 45))
  have B2 := Lib.hid (Bk.new 45 (w.alloc (.cells #[.string p.name, .slice p.da p.dims.length p.dc, .slice p.na p.nodes.length p.nc, .slice p.fa p.defs.length p.fc, .int .i64 p.root] 26)) [.int .i64 0, .int .i64 0, .int .i64 0, .slice none 0 0, .slice none 0 0, .string ⟨#[]⟩])
  rw [e1] at B2
  have LB := Lib.hid (((Below.refl _ w).alloc (Nat.le_refl _) (.cells #[.string p.name, .slice p.da p.dims.length p.dc, .slice p.na p.nodes.length p.nc, .slice p.fa p.defs.length p.fc, .int .i64 p.root] 26)).alloc (by simp) (.cells #[.int .i64 0, .int .i64 0, .int .i64 0, .slice none 0 0, .slice none 0 0, .string ⟨#[]⟩] 45))
  have n1 : ¬ w.heap.size = w.heap.size + 1 := by omega
  have n2 : ¬ w.heap.size + 1 = w.heap.size := by omega
  unfold progV at HT ⊢
  rw [htb]
  cases tb with
  | false =>
    have HS := Lib.hid (show nodeAt p.nodes i = zeroNd by unfold nodeAt; rw [htb]; rfl)
    clear htb hp hf e1
    go_enter Tryd.func32, Tryd.ntmps32
    go_wp2_with fail
    refine (HT.out _).mono ?_
    rintro e w1 ⟨rfl, hb1⟩
    have L1 := Lib.hid (Gl.below_next LB.out hb1)
    have C2 := Lib.hid (B2.out.next hb1)
    obtain ⟨z0, z1, z2, z3, z4, z5⟩ : w1.cell? ⟨w.heap.size + 1, 0, none⟩ = some (.int .i64 0) ∧ w1.cell? ⟨w.heap.size + 1, 1, none⟩ = some (.int .i64 0) ∧ w1.cell? ⟨w.heap.size + 1, 2, none⟩ = some (.int .i64 0) ∧ w1.cell? ⟨w.heap.size + 1, 3, none⟩ = some (.slice none 0 0) ∧ w1.cell? ⟨w.heap.size + 1, 4, none⟩ = some (.slice none 0 0) ∧ w1.cell? ⟨w.heap.size + 1, 5, none⟩ = some (.string ⟨#[]⟩) := ⟨C2.out.c 0, C2.out.c 1, C2.out.c 2, C2.out.c 3, C2.out.c 4, C2.out.c 5⟩
    obtain ⟨g0, g1, g2, g3, g4, g5⟩ := And.intro (C2.out.f 0) (And.intro (C2.out.f 1) (And.intro (C2.out.f 2) (And.intro (C2.out.f 3) (And.intro (C2.out.f 4) (C2.out.f 5)))))
    clear hb1
    go_wp2
    refine bodyPost_ret (res_node2 Tryd.results32 _ rfl (wSet6_bk C2.out)) rfl ?_
    rw [HS.out]
    exact ⟨none, 0, none, 0, rfl, zero_in _, wSet6_below L1.out (Nat.le_succ _)⟩
  | true =>
    obtain ⟨k, hk⟩ : ∃ k : Nat, i = (k : Int) := ⟨i.toNat, by unfold thereB at htb; simp at htb; omega⟩
    subst hk
    have hkl : k < p.nodes.length := by unfold thereB at htb; simp at htb; omega
    obtain ⟨q, hq⟩ : ∃ q, p.nodes[k]? = some q := ⟨_, List.getElem?_eq_getElem hkl⟩
    have HS := Lib.hid (show nodeAt p.nodes (k : Int) = q.n by unfold nodeAt; rw [if_pos htb, show ((k : Int)).toNat = k by simp, hq])
    have HPN := Lib.hid hp.2.1
    have HQ := Lib.hid hq
    have hk20 := hf.kids q (List.mem_of_getElem? hq)
    have hk10 := hf.nums q (List.mem_of_getElem? hq)
    have HCP := Lib.hid (fun W hw => copied_any q W hw (by omega) (by omega))
    unfold nodeV at HCP
    have i0 : (0 : Int) ≤ (k : Int) := by omega
    have i1 : (k : Int) < (p.nodes.length : Int) := by omega
    clear htb hp hf e1 hq hk20 hk10 hkl
    go_enter Tryd.func32, Tryd.ntmps32
    go_wp2_with fail
    refine (HT.out _).mono ?_
    rintro e w1 ⟨rfl, hb1⟩
    have L1 := Lib.hid (Gl.below_next LB.out hb1)
    have C1 := Lib.hid (B1.out.next hb1)
    have C2 := Lib.hid (B2.out.next hb1)
    have x2 := C1.out.c 2
    simp only [List.getElem?_cons_zero, List.getElem?_cons_succ] at x2
    obtain ⟨b0, o0, hA0, hb0, ⟨c0, c1, c2, c3, c4, c5⟩, hin⟩ := (HPN.out.next L1.out).at_ HQ.out
    rw [hA0] at x2
    have HC1 := Lib.hid (HCP.out w1 hin)
    clear hb1 hin hb0 hA0
    go_wp2_with fail
    refine (HC1.out).mono ?_
    rintro e w2 ⟨ka, kc, na, nc, rfl, hin2, hb2, m1, m2⟩
    have hs1 := C2.out.lt
    unfold nodeV
    simp only
    have L2 := Lib.hid (Gl.below_next L1.out hb2)
    have D2 := Lib.hid (C2.out.next hb2)
    obtain ⟨z0, z1, z2, z3, z4, z5⟩ : w2.cell? ⟨w.heap.size + 1, 0, none⟩ = some (.int .i64 0) ∧ w2.cell? ⟨w.heap.size + 1, 1, none⟩ = some (.int .i64 0) ∧ w2.cell? ⟨w.heap.size + 1, 2, none⟩ = some (.int .i64 0) ∧ w2.cell? ⟨w.heap.size + 1, 3, none⟩ = some (.slice none 0 0) ∧ w2.cell? ⟨w.heap.size + 1, 4, none⟩ = some (.slice none 0 0) ∧ w2.cell? ⟨w.heap.size + 1, 5, none⟩ = some (.string ⟨#[]⟩) := ⟨D2.out.c 0, D2.out.c 1, D2.out.c 2, D2.out.c 3, D2.out.c 4, D2.out.c 5⟩
    obtain ⟨g0, g1, g2, g3, g4, g5⟩ := And.intro (D2.out.f 0) (And.intro (D2.out.f 1) (And.intro (D2.out.f 2) (And.intro (D2.out.f 3) (And.intro (D2.out.f 4) (D2.out.f 5)))))
    have HI2 := Lib.hid hin2
    have M1 := Lib.hid m1
    have M2 := Lib.hid m2
    have HS1 := Lib.hid hs1
    clear m1 m2 hs1 hb2 hin2 x2 c0 c1 c2 c3 c4 c5
    go_wp2
    refine bodyPost_ret (res_node2 Tryd.results32 _ rfl (wSet6_bk D2.out)) rfl ?_
    rw [HS.out]
    have hM1 := wSet6_own (g := w.heap.size + 1) (v0 := .int .i64 q.n.kind) (v1 := .int .i64 q.n.pos) (v2 := .int .i64 q.n.code) (v3 := .slice ka q.n.kids.length kc) (v4 := .slice na q.n.nums.length nc) (v5 := .string q.n.name) M1.out HS1.out
    have hM2 := wSet6_own (g := w.heap.size + 1) (v0 := .int .i64 q.n.kind) (v1 := .int .i64 q.n.pos) (v2 := .int .i64 q.n.code) (v3 := .slice ka q.n.kids.length kc) (v4 := .slice na q.n.nums.length nc) (v5 := .string q.n.name) M2.out HS1.out
    exact ⟨ka, kc, na, nc, rfl, ⟨mine_int hM1, mine_int hM2, HI2.out.2.2⟩, wSet6_below L2.out (Nat.le_succ _)⟩
/-- Whether a program is greater than what is gone through, is told; if not, it isn't. -/
def RetGr (p : Pq) (w : World) (e : Ending) (w' : World) : Prop := ∃ b, e = .returned (.bool b) ∧ (b = false → FitP p) ∧ Below w.heap.size w w'
set_option maxHeartbeats 8000000 in
theorem great_any (p : Pq) (w : World) (hp : ProgIn w p) : Calls Tryd.prog 7 #[progV p] w (RetGr p w) := by
  have BX := Lib.hid (Bk.new 26 w [.string p.name, .slice p.da p.dims.length p.dc, .slice p.na p.nodes.length p.nc, .slice p.fa p.defs.length p.fc, .int .i64 p.root])
  have LX := Lib.hid (below_new w (.cells #[.string p.name, .slice p.da p.dims.length p.dc, .slice p.na p.nodes.length p.nc, .slice p.fa p.defs.length p.fc, .int .i64 p.root] 26))
  have HPN := Lib.hid (hp.2.1.next LX.out)
  unfold progV
  obtain ⟨NA, hNA⟩ : ∃ NA, p.na = NA := ⟨_, rfl⟩
  rw [hNA] at BX LX HPN ⊢
  clear hp hNA
  go_enter Tryd.func7, Tryd.ntmps7
  go_wp2_with fail
  go_loop [3] (fun i => ∃ k : Nat, k ≤ p.nodes.length ∧ k ≤ 400 ∧ i = .int .i64 (k : Int) ∧ Hid (∀ (j : Nat) (q : Nq), j < k → p.nodes[j]? = some q → q.n.kids.length ≤ 20 ∧ q.n.nums.length ≤ 100)) (fun i => 400 - (intOf i).toNat)
  case atStart => exact ⟨0, Nat.zero_le _, Nat.zero_le _, rfl, Lib.hid (fun j q h => by omega)⟩
  case round =>
    obtain ⟨k, hk, hk4, rfl, HA⟩ := hrel
    by_cases hlt : k < p.nodes.length
    · have t1 : decide (k < p.nodes.length) = true := by simpa using hlt
      by_cases h4 : k < 400
      · have t2 : decide ((k : Int) < 400) = true := by simp; omega
        obtain ⟨q, hq⟩ : ∃ q, p.nodes[k]? = some q := ⟨_, List.getElem?_eq_getElem hlt⟩
        obtain ⟨b0, o0, rfl, hb0, ⟨-, -, -, c3, c4, -⟩, -⟩ := HPN.out.at_ hq
        have HQ := Lib.hid hq
        have i0 : (0 : Int) ≤ (k : Int) := by omega
        have i1 : (k : Int) < (p.nodes.length : Int) := by omega
        have hsum := wrap_k k (by omega)
        clear hq
        by_cases h20 : q.n.kids.length ≤ 20
        · have t3 : decide ((20 : Int) < (q.n.kids.length : Int)) = false := by simp; omega
          by_cases h10 : q.n.nums.length ≤ 100
          · have t4 : decide ((100 : Int) < (q.n.nums.length : Int)) = false := by simp; omega
            have HQB := Lib.hid (And.intro h20 h10)
            clear h20 h10
            go_wp2
            go_round
            case rel => exact ⟨k + 1, by omega, by omega, by go_num, Lib.hid (fun j q2 hj hq2 => by
              by_cases he : j = k
              · subst he
                rw [HQ.out] at hq2
                injection hq2 with hq2
                rw [← hq2]; exact HQB.out
              · exact HA.out j q2 (by omega) hq2)⟩
            case measure => simp [intOf]; omega
          · have t4 : decide ((100 : Int) < (q.n.nums.length : Int)) = true := by simp; omega
            clear h20 h10
            go_wp2
            go_ret
            exact ⟨true, rfl, (fun h => by cases h), LX.out⟩
        · have t3 : decide ((20 : Int) < (q.n.kids.length : Int)) = true := by simp; omega
          clear h20
          go_wp2
          go_ret
          exact ⟨true, rfl, (fun h => by cases h), LX.out⟩
      · have t2 : decide ((k : Int) < 400) = false := by simp; omega
        have t5 : decide ((320 : Int) < (p.nodes.length : Int)) = true := by simp; omega
        go_wp2
        go_ret
        exact ⟨true, rfl, (fun h => by cases h), LX.out⟩
    · have t1 : decide (k < p.nodes.length) = false := by simp; omega
      have HALL := Lib.hid (show ∀ q ∈ p.nodes, q.n.kids.length ≤ 20 ∧ q.n.nums.length ≤ 100 from fun q hq => by
        obtain ⟨j, hj⟩ := List.getElem?_of_mem hq
        exact HA.out j q (by have := (List.getElem?_eq_some_iff.1 hj).1; omega) hj)
      by_cases h3 : p.nodes.length ≤ 320
      · have t5 : decide ((320 : Int) < (p.nodes.length : Int)) = false := by simp; omega
        by_cases h5 : p.defs.length ≤ 320
        · have t6 : decide ((320 : Int) < (p.defs.length : Int)) = false := by simp; omega
          obtain ⟨t, ht⟩ : ∃ t, decide ((20 : Int) < (p.dims.length : Int)) = t := ⟨_, rfl⟩
          have HT := Lib.hid ht
          have H3 := Lib.hid h3
          have H5 := Lib.hid h5
          clear h3 h5
          go_wp2
          go_ret
          exact ⟨t, rfl, fun h => ⟨H3.out, H5.out, by have := HT.out; rw [h] at this; simp at this; omega, fun q hq => (HALL.out q hq).1, fun q hq => (HALL.out q hq).2⟩, LX.out⟩
        · have t6 : decide ((320 : Int) < (p.defs.length : Int)) = true := by simp; omega
          clear h5 h3
          go_wp2
          go_ret
          exact ⟨true, rfl, (fun h => by cases h), LX.out⟩
      · have t5 : decide ((320 : Int) < (p.nodes.length : Int)) = true := by simp; omega
        clear h3
        go_wp2
        go_ret
        exact ⟨true, rfl, (fun h => by cases h), LX.out⟩
end Go.Proofs.YtjmpilmmgfjpmaaDoor.Tr
