/-
  Layer 18, tree: rifflelaw18.TreeWalks. No condition but that the program lies in memory.
-/
import Derived.Test.YtffccemipkhjnaaTrIter
import Derived.Test.YtffccemipkhjnaaTrLives
import Derived.Test.YtffccemipkhjnaaTrRR
import Derived.Test.YtffccemipkhjnaaTwIn
set_option maxRecDepth 100000
namespace Go.Proofs.Ytffccemipkhjnaa.Tr
open Go.Proofs.Ytffccemipkhjnaa.Sh Go.Proofs.Ytffccemipkhjnaa.St
open Go.RowKit
set_option linter.unusedVariables false
set_option linter.unusedSimpArgs false
attribute [local go_sem] Oper.semAt_some

theorem none_walks {N : Nat} (enc : Nat → Value → Array Value) (Rd : Nat → Value → World → Prop) (T : Nat → Prop) (W : World) (hN : N = 0) : RfWalks Fence.wide Try.prog 21 #[] N enc Rd T W := by
  intro n l Tx J Jx hTT hTX hJ hJx hY h0
  subst hN
  refine callsIn_of_wp Try.func21 rfl trivial ?_
  simp only [Try.ntmps21, List.size_toArray, List.length_cons, List.length_nil, Nat.reduceAdd, Nat.reduceSub, Array.replicate_succ, Array.replicate_zero, List.push_toArray, List.append_toArray, List.nil_append, List.cons_append]
  gi_wp2
  go_end0
  exact ⟨⟨_, rfl⟩, .inl ⟨h0, Turn.refl _ _⟩⟩
theorem walk_mem {qs : List Nq} (hA : Ahead qs) : ∀ (k : Nat), k < qs.length → ∀ x ∈ walkL qs (k : Int), 0 ≤ x ∧ x ≤ (k : Int) := by
  intro k
  induction k using Nat.strongRecOn with
  | ind k ih =>
  intro hk x hx
  obtain ⟨q, hq⟩ : ∃ q, qs[k]? = some q := ⟨_, List.getElem?_eq_getElem hk⟩
  rw [walkL_eq hA hq] at hx
  rcases List.mem_cons.1 hx with rfl | hx
  · omega
  · obtain ⟨y, hy, hx⟩ := List.mem_flatMap.1 hx
    have h1 := hA k q hq y hy
    obtain ⟨m, rfl⟩ : ∃ m : Nat, y = (m : Int) := ⟨y.toNat, by omega⟩
    have := ih m (by omega) (by omega) x hx
    omega
theorem walk_short {p : Pq} (h : rightT p = true) (m : Nat) (hm : m < p.nodes.length) : (walkL p.nodes (m : Int)).length ≤ m + 1 := by
  obtain ⟨a, ha, hs⟩ := walk_span h m hm
  have h1 := hs.len
  have h3 : -1 ≤ a := by
    rcases Int.lt_or_le a (-1) with h' | h'
    · have := (walk_mem (ahead_right h) m hm _ ((hs.mem (-1)).2 ⟨h', by omega⟩)).1
      omega
    · exact h'
  omega
theorem walk_copies {qs cs : List Nq} {N : Nat} (hA : Ahead qs) (hN : cs.length = N) (hNq : N ≤ qs.length) (hc : cs.map (·.n) = (qs.take N).map (·.n)) : Ahead cs ∧ ∀ (k : Nat), k < N → walkL cs (k : Int) = walkL qs (k : Int) := by
  have hat : ∀ (k : Nat) (q : Nq), cs[k]? = some q → ∃ q', qs[k]? = some q' ∧ q'.n = q.n := fun k q hq => by
    have hk : k < N := by have := (List.getElem?_eq_some_iff.1 hq).1; omega
    have h1 : (cs.map (·.n))[k]? = some q.n := by rw [List.getElem?_map, hq]; rfl
    rw [hc, List.getElem?_map, List.getElem?_take_of_lt hk] at h1
    obtain ⟨q', h2, h3⟩ := Option.map_eq_some_iff.1 h1
    exact ⟨q', h2, h3⟩
  have hAc : Ahead cs := fun k q hq x hx => by
    obtain ⟨q', h1, h2⟩ := hat k q hq
    exact hA k q' h1 x (by rw [h2]; exact hx)
  refine ⟨hAc, ?_⟩
  intro k
  induction k using Nat.strongRecOn with
  | ind k ih =>
  intro hk
  obtain ⟨q, hq⟩ : ∃ q, cs[k]? = some q := ⟨_, List.getElem?_eq_getElem (by omega)⟩
  obtain ⟨q', h1, h2⟩ := hat k q hq
  rw [walkL_eq hAc hq, walkL_eq hA h1, h2]
  congr 1
  apply flatMap_same
  intro x hx
  have h3 := hAc k q hq x hx
  obtain ⟨m, rfl⟩ : ∃ m : Nat, x = (m : Int) := ⟨x.toNat, by omega⟩
  exact ih m (by omega) (by omega)
theorem res_bool {fn : Func} {W : World} {g t : Nat} {v : Value} (h : fn.results = #[.cell t 4]) (tmps : Array Value) (h0 : tmps.getD t undef = .pointer (some ⟨g, 0, none⟩)) (b : W.cell? ⟨g, 0, none⟩ = some v) : (results fn tmps).run Try.prog W = .ok v W := by
  rw [Array.getD_eq_getD_getElem?] at h0
  simp [results, h, h0, go_sem, b]
theorem uint_bd {n : Int} (h : (Lit.int .u64 n).wf = true) : 0 ≤ n ∧ n < 18446744073709551616 := by
  simp [Lit.wf, IntKind.min, IntKind.max, IntKind.signed, IntKind.bits, Bool.and_eq_true, decide_eq_true_eq] at h
  omega
theorem func_nil (f : Nat) (lb : Array Value) (W : World) : (binOp .eql 33 (.func (.func f) #[] lb) .nilFunc).run Try.prog W = .ok (.bool false) W := by
  kernel_rfl
def boxP (p : Pq) : List Value := [.string p.name, .slice p.da p.dims.length p.dc, .slice p.na p.nodes.length p.nc, .slice p.fa p.defs.length p.fc, .int .i64 p.root]
set_option maxRecDepth 100000 in
set_option maxHeartbeats 16000000 in
theorem walks_yes (p : Pq) (k : Nat) (most : Int) (w : World) (hp : ProgIn w p) (hf : FitP p) (hm0 : 0 ≤ most) (hr : rightT p = true) (hk : k < p.nodes.length) : Calls Try.prog 3 #[progV p, .int .i64 (k : Int), .int .u64 most] w (RetBl true w) := by
  have HLV := Lib.hid (fun W => callsIn_wide (n := 3 - 1).2 (lives_any W))
  have HG1 := Lib.hid (fun W (hw : Below w.heap.size w W) => callsIn_wide (n := 3 - 1).2 (great_any p W (hp.next hw)))
  have HRR := Lib.hid (fun W (hw : Below w.heap.size w W) => callsIn_wide (n := 3 - 1).2 (rright_b p true W (hp.next hw) hf (by rw [← right_same]; exact hr)))
  have HA := Lib.hid (ahead_right hr)
  obtain ⟨nm, da, dc, dims, na, nc, nodes, fa, fc, defs, rt⟩ := p
  have HNL : Hid (∀ (m : Nat), m < nodes.length → (walkL nodes (m : Int)).length ≤ 1000) := Lib.hid (fun m hm => by
    have h1 := walk_short hr m hm
    have h2 := hf.nodes
    have h2 : nodes.length ≤ 320 := h2
    have h1 : (walkL nodes (m : Int)).length ≤ m + 1 := h1
    omega)
  have HWK := Lib.hid (fun W (hw : Below w.heap.size w W) => callsIn_wide (n := 3 - 1).2 (rwalk_k nm da dims.length dc na nc nodes fa defs.length fc rt (by have := hf.nodes; have : nodes.length ≤ 320 := this; omega) (fun q hq => by have := hf.kids q hq; omega) HA.out HNL.out k W (hp.2.1.next hw) hk))
  have HHI := Lib.hid (fun W (hw : Below w.heap.size w W) => callsIn_wide (n := 3 - 1).2 (rhigh_k nm da dims.length dc na nc nodes fa defs.length fc rt (by have := hf.nodes; have : nodes.length ≤ 320 := this; omega) (fun q hq => by have := hf.kids q hq; omega) HA.out k W (hp.2.1.next hw) hk))
  have HTW := Lib.hid (fun W (hw : Below w.heap.size w W) => callsIn_wide (n := 3 - 1).2 (walk_right nm da dims dc na nc nodes fa defs fc rt k W (hp.next hw) hf hr hk))
  have HTH := Lib.hid (fun W (hw : Below w.heap.size w W) => callsIn_wide (n := 3 - 1).2 (high_any ⟨nm, da, dc, dims, na, nc, nodes, fa, fc, defs, rt⟩ (k : Int) W (hp.next hw) hf))
  have HP := Lib.hid hp
  have HF := Lib.hid hf
  have HK := Lib.hid hk
  have hk0 : (0 : Int) ≤ (k : Int) := by omega
  have hk1 : (k : Int) < (nodes.length : Int) := by have : k < nodes.length := hk; omega
  have hk2 : decide (k < nodes.length) = true := by simpa using hk
  have HHN : Hid (highN ⟨nm, da, dc, dims, na, nc, nodes, fa, fc, defs, rt⟩ (k : Int) = hgt nodes (k : Int)) := Lib.hid (by unfold highN; rw [if_pos ⟨by unfold thereB; simp; exact hk, hr⟩])
  unfold progV at HG1 HRR HTW HTH ⊢
  clear hp hf hr hk
  refine (callsIn_wide (n := 3)).1 ?_
  refine callsIn_of_wp_marks Try.func3 rfl trivial ?_
  simp only [Try.ntmps3, List.size_toArray, List.length_cons, List.length_nil, Nat.reduceAdd, Nat.reduceSub, Array.replicate_succ, Array.replicate_zero, List.push_toArray, List.append_toArray, List.nil_append, List.cons_append]
  gi_wp2_with fail
  obtain ⟨W0, hW0⟩ : ∃ W0, ((w.alloc (.cells #[.string nm, .slice da dims.length dc, .slice na nodes.length nc, .slice fa defs.length fc, .int .i64 rt] 26)).alloc (.cells #[.int .u64 most] 27)).alloc (.cells #[.bool false] 4) = W0 := ⟨_, rfl⟩
  have P0 := Lib.hid (show Bk 26 W0 w.heap.size [.string nm, .slice da dims.length dc, .slice na nodes.length nc, .slice fa defs.length fc, .int .i64 rt] by rw [← hW0]; exact ((Bk.new _ w _).alloc _).alloc _)
  have M0 := Lib.hid (show Bk 27 W0 (w.heap.size + 1) [.int .u64 most] by rw [← hW0]; have := (Bk.new 27 (w.alloc (.cells #[.string nm, .slice da dims.length dc, .slice na nodes.length nc, .slice fa defs.length fc, .int .i64 rt] 26)) [.int .u64 most]).alloc (.cells #[.bool false] 4); rwa [World.size_alloc] at this)
  have R0 := Lib.hid (show Bk 4 W0 (w.heap.size + 1 + 1) [.bool false] by rw [← hW0]; have := Bk.new 4 ((w.alloc (.cells #[.string nm, .slice da dims.length dc, .slice na nodes.length nc, .slice fa defs.length fc, .int .i64 rt] 26)).alloc (.cells #[.int .u64 most] 27)) [.bool false]; rwa [World.size_alloc, World.size_alloc] at this)
  have L0 := Lib.hid (show Below w.heap.size w W0 by rw [← hW0]; exact below_next (below_next (below_new w _) (below_new _ _)) (below_new _ _))
  rw [hW0]
  clear hW0
  refine ⟨trivial, ?_⟩
  refine (HG1.out _ L0.out).mono ?_
  rintro e w1 ⟨b1, rfl, -, hb1⟩
  have P1 := Lib.hid (P0.out.next hb1)
  have M1 := Lib.hid (M0.out.next hb1)
  have R1 := Lib.hid (R0.out.next hb1)
  have L1 := Lib.hid (Gl.below_next L0.out hb1)
  clear hb1
  cases b1 with
  | true =>
    gi_wp2_with fail
    refine ⟨trivial, ?_⟩
    refine (HLV.out _).mono ?_
    rintro e w2 ⟨rfl, hb2⟩
    have R2 := Lib.hid (R1.out.next hb2)
    have L2 := Lib.hid (Gl.below_next L1.out hb2)
    have r0 := R2.out.c 0
    have rf := R2.out.f 0
    have r1 := (R2.out.set_ 0 (.bool true)).c 0
    simp only [List.getElem?_cons_zero, List.getElem?_cons_succ, List.set_cons_zero] at r0 r1
    gi_wp2
    refine ⟨_, res_bool rfl _ rfl r1, rfl, L2.out.setCell (p := ⟨w.heap.size + 1 + 1, 0, none⟩) (by show w.heap.size ≤ w.heap.size + 1 + 1; omega) _⟩
  | false =>
  obtain ⟨W1, hW1⟩ : ∃ W1, w1.alloc (.cells #[.slice none 0 0] 22) = W1 := ⟨_, rfl⟩
  have N1 := Lib.hid (show Bk 22 W1 w1.heap.size [.slice none 0 0] by rw [← hW1]; exact Bk.new _ w1 _)
  have hz1 := Lib.hid (show w.heap.size + 1 + 1 < w1.heap.size from R1.out.lt)
  replace P1 := Lib.hid (show Bk 26 W1 w.heap.size _ by rw [← hW1]; exact P1.out.alloc _)
  replace M1 := Lib.hid (show Bk 27 W1 (w.heap.size + 1) _ by rw [← hW1]; exact M1.out.alloc _)
  replace R1 := Lib.hid (show Bk 4 W1 (w.heap.size + 1 + 1) _ by rw [← hW1]; exact R1.out.alloc _)
  replace L1 := Lib.hid (show Below w.heap.size w W1 by rw [← hW1]; exact below_next L1.out (below_new _ _))
  have x0 := P1.out.c 0
  have x1 := P1.out.c 1
  have x2 := P1.out.c 2
  have x3 := P1.out.c 3
  have x4 := P1.out.c 4
  simp only [List.getElem?_cons_zero, List.getElem?_cons_succ] at x0 x1 x2 x3 x4
  gi_wp2_with fail
  clear x0 x1 x2 x3 x4
  refine ⟨trivial, ?_⟩
  refine (HRR.out _ L1.out).mono ?_
  rintro e w2 ⟨rfl, hb2⟩
  have P2 := Lib.hid (P1.out.next hb2)
  have M2 := Lib.hid (M1.out.next hb2)
  have R2 := Lib.hid (R1.out.next hb2)
  have N2 := Lib.hid (N1.out.next hb2)
  have L2 := Lib.hid (Gl.below_next L1.out hb2)
  clear hb2 hW1
  have x0 := P2.out.c 0
  have x1 := P2.out.c 1
  have x2 := P2.out.c 2
  have x3 := P2.out.c 3
  have x4 := P2.out.c 4
  simp only [List.getElem?_cons_zero, List.getElem?_cons_succ] at x0 x1 x2 x3 x4
  gi_wp2_with fail
  refine ⟨trivial, ?_⟩
  refine (HWK.out _ L2.out).mono ?_
  rintro e w3 ⟨B3, c3, rfl, hm3, hb3⟩
  have P3 := Lib.hid (P2.out.next hb3)
  have M3 := Lib.hid (M2.out.next hb3)
  have R3 := Lib.hid (R2.out.next hb3)
  have N3 := Lib.hid (N2.out.next hb3)
  have L3 := Lib.hid (Gl.below_next L2.out hb3)
  clear hb3 x0 x1 x2 x3 x4
  have n0 := N3.out.c 0
  have nf := N3.out.f 0
  simp only [List.getElem?_cons_zero] at n0
  have hz4 := Lib.hid (show w.heap.size ≤ w1.heap.size ∧ w.heap.size < w1.heap.size ∧ w.heap.size + 1 < w1.heap.size from ⟨by have := hz1.out; omega, by have := hz1.out; omega, by have := hz1.out; omega⟩)
  have ne0 := Lib.hid (show w.heap.size ≠ w1.heap.size by have := hz4.out; omega)
  have ne1 := Lib.hid (show w.heap.size + 1 ≠ w1.heap.size by have := hz4.out; omega)
  have ne2 := Lib.hid (show w.heap.size + 1 + 1 ≠ w1.heap.size by have := hz1.out; omega)
  have P4 := Lib.hid (P3.out.far (p := ⟨w1.heap.size, 0, none⟩) ne0.out (.slice B3 (walkL nodes (k : Int)).length c3))
  have M4 := Lib.hid (M3.out.far (p := ⟨w1.heap.size, 0, none⟩) ne1.out (.slice B3 (walkL nodes (k : Int)).length c3))
  have R4 := Lib.hid (R3.out.far (p := ⟨w1.heap.size, 0, none⟩) ne2.out (.slice B3 (walkL nodes (k : Int)).length c3))
  have N4 := Lib.hid (N3.out.set_ 0 (.slice B3 (walkL nodes (k : Int)).length c3))
  have L4 := Lib.hid (L3.out.setCell (p := ⟨w1.heap.size, 0, none⟩) hz4.out.1 (.slice B3 (walkL nodes (k : Int)).length c3))
  have O4 := Lib.hid (show MineT 3 (w3.setCell ⟨w1.heap.size, 0, none⟩ (.slice B3 (walkL nodes (k : Int)).length c3)) w2.heap.size (.slice B3 (walkL nodes (k : Int)).length c3) (walkL nodes (k : Int)) from ownsRow_setCell_below (a := ⟨w1.heap.size, 0, none⟩) hm3 N2.out.lt _)
  clear hm3
  have x0 := P4.out.c 0
  have x1 := P4.out.c 1
  have x2 := P4.out.c 2
  have x3 := P4.out.c 3
  have x4 := P4.out.c 4
  simp only [List.getElem?_cons_zero, List.getElem?_cons_succ] at x0 x1 x2 x3 x4
  gi_wp2_with fail
  clear n0 nf x0 x1 x2 x3 x4
  generalize w3.setCell ⟨w1.heap.size, 0, none⟩ (.slice B3 (walkL nodes (k : Int)).length c3) = w4 at *
  refine ⟨trivial, ?_⟩
  refine (HHI.out _ L4.out).mono ?_
  rintro e w5 ⟨rfl, hb5⟩
  have P5 := Lib.hid (P4.out.next hb5)
  have M5 := Lib.hid (M4.out.next hb5)
  have R5 := Lib.hid (R4.out.next hb5)
  have N5 := Lib.hid (N4.out.next hb5)
  have L5 := Lib.hid (Gl.below_next L4.out hb5)
  have O5 := Lib.hid (own_below O4.out hb5)
  clear hb5
  have x0 := P5.out.c 0
  have x1 := P5.out.c 1
  have x2 := P5.out.c 2
  have x3 := P5.out.c 3
  have x4 := P5.out.c 4
  simp only [List.getElem?_cons_zero, List.getElem?_cons_succ] at x0 x1 x2 x3 x4
  gi_wp2_with fail
  clear x0 x1 x2 x3 x4
  refine ⟨trivial, ?_⟩
  refine (HTW.out _ L5.out).mono ?_
  rintro e w6 ⟨g6, bi, bn, cs, rfl, hcl, hcs, hb6, hg6, hbi, hbn, hbi2, hbn2, hli⟩
  have P6 := Lib.hid (P5.out.next hb6)
  have M6 := Lib.hid (M5.out.next hb6)
  have R6 := Lib.hid (R5.out.next hb6)
  have N6 := Lib.hid (N5.out.next hb6)
  have L6 := Lib.hid (Gl.below_next L5.out hb6)
  have O6 := Lib.hid (own_below O5.out hb6)
  have C6 := Lib.hid (⟨hcl, hcs, hg6, hbi, hbn, hbi2, hbn2, hli, hb6⟩ : _ ∧ _ ∧ _ ∧ _ ∧ _ ∧ _ ∧ _ ∧ _ ∧ _)
  clear hcl hcs hg6 hbi hbn hbi2 hbn2 hli hb6
  unfold downV
  have m0 := M6.out.c 0
  have mf := M6.out.f 0
  simp only [List.getElem?_cons_zero] at m0
  have hfn := fun W => func_nil 36 #[.pointer (some ⟨bi, 0, none⟩), .pointer (some ⟨bn, 0, none⟩)] W
  gi_wp2_with fail
  obtain ⟨mm, hmm⟩ : ∃ mm : Nat, most % 400 = (mm : Int) := ⟨(most % 400).toNat, by omega⟩
  have hmm4 : mm < 400 := by omega
  obtain ⟨w7, hw7⟩ : ∃ w7, (w6.setCell ⟨w.heap.size + 1, 0, none⟩ (.int .u64 (most % 400))).alloc (.cells #[.int .i64 0] 3) = w7 := ⟨_, rfl⟩
  rw [hw7]
  have hz7 : w7.heap.size = w6.heap.size + 1 := by rw [← hw7]; simp [World.setCell]
  have hlt6 : w1.heap.size < w6.heap.size := N6.out.lt
  have hz1' := hz1.out
  have P7 := Lib.hid (show Bk 26 w7 w.heap.size _ by rw [← hw7]; exact (P6.out.far (p := ⟨w.heap.size + 1, 0, none⟩) (by show w.heap.size ≠ w.heap.size + 1; omega) _).alloc _)
  have M7 := Lib.hid (show Bk 27 w7 (w.heap.size + 1) [.int .u64 (mm : Int)] by rw [← hw7, hmm]; exact (M6.out.set_ 0 _).alloc _)
  have R7 := Lib.hid (show Bk 4 w7 (w.heap.size + 1 + 1) _ by rw [← hw7]; exact (R6.out.far (p := ⟨w.heap.size + 1, 0, none⟩) (by show w.heap.size + 1 + 1 ≠ w.heap.size + 1; omega) _).alloc _)
  have N7 := Lib.hid (show Bk 22 w7 w1.heap.size _ by rw [← hw7]; exact (N6.out.far (p := ⟨w.heap.size + 1, 0, none⟩) (by show w1.heap.size ≠ w.heap.size + 1; omega) _).alloc _)
  have L7 := Lib.hid (show Below w.heap.size w w7 by rw [← hw7]; exact (L6.out.setCell (p := ⟨w.heap.size + 1, 0, none⟩) (by show w.heap.size ≤ w.heap.size + 1; omega) _).alloc (by have := (L6.out.setCell (p := ⟨w.heap.size + 1, 0, none⟩) (by show w.heap.size ≤ w.heap.size + 1; omega) (.int .u64 (most % 400))).size; exact this) _)
  have J7 := Lib.hid (show Bk 3 w7 w6.heap.size [.int .i64 0] by rw [← hw7]; have := Bk.new 3 (w6.setCell ⟨w.heap.size + 1, 0, none⟩ (.int .u64 (most % 400))) [.int .i64 0]; rwa [show (w6.setCell ⟨w.heap.size + 1, 0, none⟩ (.int .u64 (most % 400))).heap.size = w6.heap.size by simp [World.setCell]] at this)
  have I6 := Lib.hid (show Ints w6 B3 (walkL nodes (k : Int)) from mine_int O6.out)
  have T67 : ∀ (U : Nat → Prop), U (w.heap.size + 1) → Turn U w6 w7 := fun U hU => by rw [← hw7]; exact ((Turn.refl U w6).setCell (p := ⟨w.heap.size + 1, 0, none⟩) (.inl hU) _).alloc _
  have HC := Lib.hid (walk_copies HA.out C6.out.1 (by have := HK.out; show k + 1 ≤ nodes.length; have : k < nodes.length := this; omega) C6.out.2.1)
  have hwn : walkL cs (k : Int) = walkL nodes (k : Int) := HC.out.2 k (by omega)
  have hat : Hid (∀ (m : Nat) (q : Nq), cs[m]? = some q → ∃ q', nodes[m]? = some q' ∧ q'.n = q.n) := Lib.hid (fun m q hq => by
    have hk : m < k + 1 := by have := (List.getElem?_eq_some_iff.1 hq).1; have := C6.out.1; omega
    have h1 : (cs.map (·.n))[m]? = some q.n := by rw [List.getElem?_map, hq]; rfl
    rw [C6.out.2.1, List.getElem?_map, List.getElem?_take_of_lt hk] at h1
    obtain ⟨q', h2, h3⟩ := Option.map_eq_some_iff.1 h1
    exact ⟨q', h2, h3⟩)
  have HW := Lib.hid (down1_walks cs HC.out.1 (fun q hq => by
    obtain ⟨m, hm⟩ := List.getElem?_of_mem hq
    obtain ⟨q', h1, h2⟩ := hat.out m q hm
    have h3 := HF.out.kids q' (List.mem_of_getElem? h1)
    have h4 := HF.out.nums q' (List.mem_of_getElem? h1)
    rw [h2] at h3 h4
    omega) (by have := C6.out.1; have h := HF.out.nodes; have h : nodes.length ≤ 320 := h; have h' := HK.out; have h' : k < nodes.length := h'; omega) k (by have := C6.out.1; omega) bi bn (some ⟨g6, 0, none⟩) (k + 1))
  have hz56 : w5.heap.size ≤ w6.heap.size := C6.out.2.2.2.2.2.2.2.2.size
  have hz5' : w.heap.size + 1 < w5.heap.size := M5.out.lt
  have hmw : w1.heap.size < w6.heap.size := hlt6
  clear m0 mf hfn hw7 hmm
  refine wpIn_rangeFunc_T rfl rfl (gf := 36) (lb := #[.pointer (some ⟨bi, 0, none⟩), .pointer (some ⟨bn, 0, none⟩)]) rfl trivial (enters_of Try.func36 (by kernel_rfl) rfl)
    (N := (walkL cs (k : Int)).length) (enc := encW cs k) (Rd := RdW cs k) (fun b => b = w6.heap.size) (fun b => b = w6.heap.size) (fun b h => by omega) (fun b h => h) (fun b h => by omega)
    (fun V hV => HW.out V (fun b => b = w6.heap.size) (fun b h => by have := hV.size; omega) (fun V' hV' => C6.out.2.2.2.2.2.2.2.1 (fun b => b = w.heap.size + 1 ∨ b = w6.heap.size) V' (fun b h => by omega) (((T67 _ (.inl rfl)).next hV).trans (hV'.mono (fun b h => .inr h)))))
    (fun _ _ => rfl)
    (fun j V => j ≤ mm ∧ Turn (fun b => b = w6.heap.size) w7 V ∧ Bk 3 V w6.heap.size [.int .i64 (j : Int)])
    (fun c V => c = .exit 0 ∧ mm < (walkL cs (k : Int)).length ∧ Turn (fun b => b = w6.heap.size) w7 V ∧ Bk 3 V w6.heap.size [.int .i64 (mm : Int)])
    (fun j => (stab_pure _ _).and ((stab_turn (Nat.le_refl _)).and (stab_bk (by omega))))
    (fun c => (stab_pure _ _).and ((stab_pure _ _).and ((stab_turn (Nat.le_refl _)).and (stab_bk (by omega)))))
    ⟨Nat.zero_le _, Turn.refl _ _, J7.out⟩
    (AxW cs k (fun t11 t12 t43 t44 => { tmps := #[.agg #[.string nm, .slice da dims.length dc, .slice na nodes.length nc, .slice fa defs.length fc, .int .i64 rt], .int .i64 (k : Int), .int .u64 most, .pointer (some ⟨w.heap.size, 0, none⟩), undef, .pointer (some ⟨w.heap.size + 1, 0, none⟩), .pointer (some ⟨w.heap.size + 1 + 1, 0, none⟩), .pointer (some ⟨w1.heap.size, 0, none⟩), .int .i64 (hgt nodes (k : Int) : Int), .func (.func 36) #[] #[.pointer (some ⟨bi, 0, none⟩), .pointer (some ⟨bn, 0, none⟩)], .pointer (some ⟨w6.heap.size, 0, none⟩), t11, t12, .agg #[.string nm, .slice da dims.length dc, .slice na nodes.length nc, .slice fa defs.length fc, .int .i64 rt], .bool false, undef, .agg #[.string nm, .slice da dims.length dc, .slice na nodes.length nc, .slice fa defs.length fc, .int .i64 rt], .bool true, .bool true, .int .i64 (k : Int), .bool true, .bool true, .bool true, .int .i64 (k : Int), .pointer (some ⟨w.heap.size, 2, none⟩), .slice na nodes.length nc, .int .i64 (nodes.length : Int), .bool true, .bool true, .agg #[.string nm, .slice da dims.length dc, .slice na nodes.length nc, .slice fa defs.length fc, .int .i64 rt], .int .i64 (k : Int), .slice B3 (walkL nodes (k : Int)).length c3, .agg #[.string nm, .slice da dims.length dc, .slice na nodes.length nc, .slice fa defs.length fc, .int .i64 rt], .int .i64 (k : Int), .int .i64 (hgt nodes (k : Int) : Int), .agg #[.string nm, .slice da dims.length dc, .slice na nodes.length nc, .slice fa defs.length fc, .int .i64 rt], .int .i64 (k : Int), .func (.func 36) #[] #[.pointer (some ⟨bi, 0, none⟩), .pointer (some ⟨bn, 0, none⟩)], .func (.func 36) #[] #[.pointer (some ⟨bi, 0, none⟩), .pointer (some ⟨bn, 0, none⟩)], .bool false, .int .u64 most, .int .u64 (most % 400), .func (.func 36) #[] #[.pointer (some ⟨bi, 0, none⟩), .pointer (some ⟨bn, 0, none⟩)], t43, t44, undef, undef, undef, undef, undef, undef, undef, undef, undef, undef, undef, undef, undef, undef, undef, undef, undef, undef, undef, undef, undef, undef, undef, undef, undef, undef, undef, undef, undef, undef, undef, undef, undef, undef, undef, undef, undef, undef, undef, undef, undef, undef, undef, undef, undef], defers := [] }))
    axW_loop ?assign ?body ?done ?stop
  case assign =>
    rintro l2 m2 j v V K ⟨_, hTV, hBV⟩ hj ⟨p, q2, ka2, kc2, na2, nc2, hp, hq2, rfl, hin2⟩ hK
    have hK' := Lib.hid hK
    rw [show encW cs k j (nodeV ⟨q2.n, ka2, kc2, na2, nc2⟩) = #[.int .i64 (p : Int), nodeV ⟨q2.n, ka2, kc2, na2, nc2⟩] by unfold encW; rw [List.getD_eq_getElem?_getD, hp]; rfl]
    clear hK hTV hBV
    unfold nodeV
    gi_wp2
    exact hK'.out _ _ (below_new V _) ⟨p, q2, ka2, kc2, na2, nc2, V.heap.size, hp, hq2, hin2.next (below_new V _), Bk.new _ V _, rfl⟩
  case body =>
    rintro l2 m2 j v a' V hl ⟨hjm, hTV, hBV⟩ hj ⟨p, q2, ka2, kc2, na2, nc2, g, hp, hq2, hin2, hbk, rfl⟩
    have HTV := Lib.hid hTV
    have HBV := Lib.hid hBV
    have n0 := hBV.c 0
    have nf := hBV.f 0
    have m0 := (M7.out.turn hTV (by omega)).c 0
    simp only [List.getElem?_cons_zero] at n0 m0
    have hc : IntKind.u64.wrap (j : Int) = (j : Int) := IntWalk.u64_in _ (by omega)
    clear hBV hTV
    by_cases hjj : j < mm
    · obtain ⟨q3, hq3, hn3⟩ := hat.out p q2 hq2
      obtain ⟨bN, oN, eN, hbN, ⟨d0, d1, d2, d3, d4, d5⟩, hin3⟩ := HP.out.2.1.at_ hq3
      have eN : na = some ⟨bN, oN, none⟩ := eN
      subst eN
      have LV := Lib.hid (L7.out.trans (HTV.out.below (B := w.heap.size) (by have := L7.out.size; omega) (fun b h => by omega)))
      have O7 := own_turn O6.out (T67 (fun b => b = w.heap.size + 1) rfl) (fun b hb e => by have := own_base O6.out b hb; have := N2.out.lt; omega)
      have OV := own_turn O7 HTV.out (fun b hb e => by have := own_lt O6.out b hb; omega)
      obtain ⟨bW, oW, eW, hbW, hcW⟩ := mine_int (l := walkL nodes (k : Int)) OV (by rw [← hwn]; omega)
      subst eW
      have hcj := hcW j (by rw [← hwn]; exact hj)
      rw [show (walkL nodes (k : Int)).getD j 0 = (p : Int) by rw [List.getD_eq_getElem?_getD, ← hwn, hp]; rfl] at hcj
      have n0' : V.cell? ⟨w6.heap.size, 0, none⟩ = some (.int .i64 (j : Int)) := n0
      have w0' := (N7.out.turn HTV.out (by omega)).c 0
      have p0' := (P7.out.turn HTV.out (by omega)).c 2
      have x0 := hbk.c 0
      have x1 := hbk.c 1
      have x2 := hbk.c 2
      have x3 := hbk.c 3
      have x4 := hbk.c 4
      have x5 := hbk.c 5
      unfold cqN at x0 x1 x2 x3 x4 x5
      simp only [List.getElem?_cons_zero, List.getElem?_cons_succ] at x0 x1 x2 x3 x4 x5 w0' p0'
      obtain ⟨S, hS⟩ : ∃ S : World → Prop, S = fun w' => w'.cell? ⟨w6.heap.size, 0, none⟩ = some (.int .i64 (j : Int)) ∧ w'.cell? ⟨w1.heap.size, 0, none⟩ = some (.slice (some ⟨bW, oW, none⟩) (walkL nodes (k : Int)).length c3) ∧ w'.cell? ⟨bW, oW + j, none⟩ = some (.int .i64 (p : Int)) ∧
          w'.cell? ⟨g, 0, none⟩ = some (.int .i64 q2.n.kind) ∧ w'.cell? ⟨g, 1, none⟩ = some (.int .i64 q2.n.pos) ∧ w'.cell? ⟨g, 2, none⟩ = some (.int .i64 q2.n.code) ∧ w'.cell? ⟨g, 3, none⟩ = some (.slice ka2 q2.n.kids.length kc2) ∧ w'.cell? ⟨g, 4, none⟩ = some (.slice na2 q2.n.nums.length nc2) ∧ w'.cell? ⟨g, 5, none⟩ = some (.string q2.n.name) ∧
          w'.cell? ⟨w.heap.size, 2, none⟩ = some (.slice (some ⟨bN, oN, none⟩) nodes.length nc) ∧
          w'.cell? ⟨bN, oN + p * 6, none⟩ = some (.int .i64 q3.n.kind) ∧ w'.cell? ⟨bN, oN + p * 6 + 1, none⟩ = some (.int .i64 q3.n.pos) ∧ w'.cell? ⟨bN, oN + p * 6 + 2, none⟩ = some (.int .i64 q3.n.code) ∧ w'.cell? ⟨bN, oN + p * 6 + 3, none⟩ = some (.slice q3.ka q3.n.kids.length q3.kc) ∧ w'.cell? ⟨bN, oN + p * 6 + 4, none⟩ = some (.slice q3.na q3.n.nums.length q3.nc) ∧ w'.cell? ⟨bN, oN + p * 6 + 5, none⟩ = some (.string q3.n.name) := ⟨_, rfl⟩
      have hSV : Hid (S V.drew) := Lib.hid (by
        rw [hS]
        exact ⟨n0', w0', hcj, x0, x1, x2, x3, x4, x5, p0', (LV.out.cell (p := ⟨bN, _, none⟩) hbN).trans d0, (LV.out.cell (p := ⟨bN, _, none⟩) hbN).trans d1, (LV.out.cell (p := ⟨bN, _, none⟩) hbN).trans d2, (LV.out.cell (p := ⟨bN, _, none⟩) hbN).trans d3, (LV.out.cell (p := ⟨bN, _, none⟩) hbN).trans d4, (LV.out.cell (p := ⟨bN, _, none⟩) hbN).trans d5⟩)
      have HAL := Lib.hid (fun W (hW : Below V.heap.size V W) => alike_b ⟨q2.n, ka2, kc2, na2, nc2⟩ q3 true W (hin2.next hW) ((hin3.next LV.out).next hW) (by rw [hn3]; simp [alikeB]))
      have t0 : decide ((mm : Int) ≤ (j : Int)) = false := decide_eq_false (by omega)
      have t0' : decide (mm ≤ j) = false := decide_eq_false (by omega)
      have hjN : j < (walkL nodes (k : Int)).length := by rw [← hwn]; exact hj
      have t1 : decide (((walkL nodes (k : Int)).length : Int) ≤ (j : Int)) = false := decide_eq_false (by omega)
      have t1' : decide ((walkL nodes (k : Int)).length ≤ j) = false := decide_eq_false (by omega)
      have i0 : (0 : Int) ≤ (j : Int) := by omega
      have i1 : (j : Int) < ((walkL nodes (k : Int)).length : Int) := by omega
      have i2 : (0 : Int) ≤ (p : Int) := by omega
      have i3 : (p : Int) < (nodes.length : Int) := by have := (List.getElem?_eq_some_iff.1 hq3).1; omega
      have HSM := Lib.hid (wrap_k j (by omega))
      have HN0 := Lib.hid n0
      clear n0' w0' p0' x0 x1 x2 x3 x4 x5 d0 d1 d2 d3 d4 d5 hcW hcj O7 OV hbk hin2 hin3 hp hn3
      gi_wp2
      refine only_normal ?_
      refine Go.Proofs.Ytffccemipkhjnaa.Tw.wpIn_region_held (S := S) (by kernel_rfl) (fun j o ho c => noDefer_of (by kernel_rfl) j o c ho) ?noout hSV.out (fun hHeld => ?_)
      case noout =>
        rintro ⟨aq, wq, hQ⟩
        exact hQ
      refine take_yes (i := 0) (some 49) (.int .i64 (j : Int)) rfl rfl (by kernel_rfl) (by kernel_rfl) (by kernel_rfl) (fun _ _ _ h => h) (by rfl) hHeld ?_ ?_
      · intro wq hSw; rw [hS] at hSw; obtain ⟨s0, s1, s2, s3, s4, s5, s6, s7, s8, s9, s10, s11, s12, s13, s14, s15⟩ := hSw; go_simp
      simp only [Act.put, List.setIfInBounds_toArray, List.set_cons_zero, List.set_cons_succ]
      refine take_yes (i := 1) (some 50) (.slice (some ⟨bW, oW, none⟩) (walkL nodes (k : Int)).length c3) rfl rfl (by kernel_rfl) (by kernel_rfl) (by kernel_rfl) (fun _ _ _ h => h) (by rfl) hHeld ?_ ?_
      · intro wq hSw; rw [hS] at hSw; obtain ⟨s0, s1, s2, s3, s4, s5, s6, s7, s8, s9, s10, s11, s12, s13, s14, s15⟩ := hSw; go_simp
      simp only [Act.put, List.setIfInBounds_toArray, List.set_cons_zero, List.set_cons_succ]
      refine take_yes (i := 2) (some 51) (.int .i64 ((walkL nodes (k : Int)).length : Int)) rfl rfl (by kernel_rfl) (by kernel_rfl) (by kernel_rfl) (fun _ _ _ h => h) (by rfl) hHeld ?_ ?_
      · intro wq hSw; rw [hS] at hSw; obtain ⟨s0, s1, s2, s3, s4, s5, s6, s7, s8, s9, s10, s11, s12, s13, s14, s15⟩ := hSw; go_simp
      simp only [Act.put, List.setIfInBounds_toArray, List.set_cons_zero, List.set_cons_succ]
      refine take_yes (i := 3) (some 52) (.bool false) rfl rfl (by kernel_rfl) (by kernel_rfl) (by kernel_rfl) (fun _ _ _ h => h) (by rfl) hHeld ?_ ?_
      · intro wq hSw; rw [hS] at hSw; obtain ⟨s0, s1, s2, s3, s4, s5, s6, s7, s8, s9, s10, s11, s12, s13, s14, s15⟩ := hSw; go_simp
      simp only [Act.put, List.setIfInBounds_toArray, List.set_cons_zero, List.set_cons_succ]
      refine take_yes (i := 4) (some 53) (.bool false) rfl rfl (by kernel_rfl) (by kernel_rfl) (by kernel_rfl) (fun _ _ _ h => h) (by rfl) hHeld ?_ ?_
      · intro wq hSw; rw [hS] at hSw; obtain ⟨s0, s1, s2, s3, s4, s5, s6, s7, s8, s9, s10, s11, s12, s13, s14, s15⟩ := hSw; go_simp
      simp only [Act.put, List.setIfInBounds_toArray, List.set_cons_zero, List.set_cons_succ]
      refine take_yes (i := 5) (some 54) (.int .i64 (p : Int)) rfl rfl (by kernel_rfl) (by kernel_rfl) (by kernel_rfl) (fun _ _ _ h => h) (by rfl) hHeld ?_ ?_
      · intro wq hSw; rw [hS] at hSw; obtain ⟨s0, s1, s2, s3, s4, s5, s6, s7, s8, s9, s10, s11, s12, s13, s14, s15⟩ := hSw; go_simp
      simp only [Act.put, List.setIfInBounds_toArray, List.set_cons_zero, List.set_cons_succ]
      refine take_yes (i := 6) (some 55) (.slice (some ⟨bW, oW, none⟩) (walkL nodes (k : Int)).length c3) rfl rfl (by kernel_rfl) (by kernel_rfl) (by kernel_rfl) (fun _ _ _ h => h) (by rfl) hHeld ?_ ?_
      · intro wq hSw; rw [hS] at hSw; obtain ⟨s0, s1, s2, s3, s4, s5, s6, s7, s8, s9, s10, s11, s12, s13, s14, s15⟩ := hSw; go_simp
      simp only [Act.put, List.setIfInBounds_toArray, List.set_cons_zero, List.set_cons_succ]
      refine take_yes (i := 7) (some 56) (.int .i64 (j : Int)) rfl rfl (by kernel_rfl) (by kernel_rfl) (by kernel_rfl) (fun _ _ _ h => h) (by rfl) hHeld ?_ ?_
      · intro wq hSw; rw [hS] at hSw; obtain ⟨s0, s1, s2, s3, s4, s5, s6, s7, s8, s9, s10, s11, s12, s13, s14, s15⟩ := hSw; go_simp
      simp only [Act.put, List.setIfInBounds_toArray, List.set_cons_zero, List.set_cons_succ]
      refine take_yes (i := 8) (some 57) (.pointer (some ⟨bW, oW + j, none⟩)) rfl rfl (by kernel_rfl) (by kernel_rfl) (by kernel_rfl) (fun _ _ _ h => h) (by rfl) hHeld ?_ ?_
      · intro wq hSw; rw [hS] at hSw; obtain ⟨s0, s1, s2, s3, s4, s5, s6, s7, s8, s9, s10, s11, s12, s13, s14, s15⟩ := hSw; go_simp
      simp only [Act.put, List.setIfInBounds_toArray, List.set_cons_zero, List.set_cons_succ]
      refine take_yes (i := 9) (some 58) (.int .i64 (p : Int)) rfl rfl (by kernel_rfl) (by kernel_rfl) (by kernel_rfl) (fun _ _ _ h => h) (by rfl) hHeld ?_ ?_
      · intro wq hSw; rw [hS] at hSw; obtain ⟨s0, s1, s2, s3, s4, s5, s6, s7, s8, s9, s10, s11, s12, s13, s14, s15⟩ := hSw; go_simp
      simp only [Act.put, List.setIfInBounds_toArray, List.set_cons_zero, List.set_cons_succ]
      refine take_yes (i := 10) (some 59) (.bool false) rfl rfl (by kernel_rfl) (by kernel_rfl) (by kernel_rfl) (fun _ _ _ h => h) (by rfl) hHeld ?_ ?_
      · intro wq hSw; rw [hS] at hSw; obtain ⟨s0, s1, s2, s3, s4, s5, s6, s7, s8, s9, s10, s11, s12, s13, s14, s15⟩ := hSw; go_simp
      simp only [Act.put, List.setIfInBounds_toArray, List.set_cons_zero, List.set_cons_succ]
      refine take_yes (i := 11) (some 60) (.bool false) rfl rfl (by kernel_rfl) (by kernel_rfl) (by kernel_rfl) (fun _ _ _ h => h) (by rfl) hHeld ?_ ?_
      · intro wq hSw; rw [hS] at hSw; obtain ⟨s0, s1, s2, s3, s4, s5, s6, s7, s8, s9, s10, s11, s12, s13, s14, s15⟩ := hSw; go_simp
      simp only [Act.put, List.setIfInBounds_toArray, List.set_cons_zero, List.set_cons_succ]
      refine take_yes (i := 12) (some 61) (.bool false) rfl rfl (by kernel_rfl) (by kernel_rfl) (by kernel_rfl) (fun _ _ _ h => h) (by rfl) hHeld ?_ ?_
      · intro wq hSw; rw [hS] at hSw; obtain ⟨s0, s1, s2, s3, s4, s5, s6, s7, s8, s9, s10, s11, s12, s13, s14, s15⟩ := hSw; go_simp
      simp only [Act.put, List.setIfInBounds_toArray, List.set_cons_zero, List.set_cons_succ]
      refine take_yes (i := 13) (some 62) (nodeV ⟨q2.n, ka2, kc2, na2, nc2⟩) rfl rfl (by kernel_rfl) (by kernel_rfl) (by kernel_rfl) (fun _ _ _ h => h) (by rfl) hHeld ?_ ?_
      · intro wq hSw; rw [hS] at hSw; obtain ⟨s0, s1, s2, s3, s4, s5, s6, s7, s8, s9, s10, s11, s12, s13, s14, s15⟩ := hSw; unfold nodeV; go_simp
      simp only [Act.put, List.setIfInBounds_toArray, List.set_cons_zero, List.set_cons_succ]
      refine take_yes (i := 14) (some 63) (.pointer (some ⟨w.heap.size, 2, none⟩)) rfl rfl (by kernel_rfl) (by kernel_rfl) (by kernel_rfl) (fun _ _ _ h => h) (by rfl) hHeld ?_ ?_
      · intro wq hSw; rw [hS] at hSw; obtain ⟨s0, s1, s2, s3, s4, s5, s6, s7, s8, s9, s10, s11, s12, s13, s14, s15⟩ := hSw; go_simp
      simp only [Act.put, List.setIfInBounds_toArray, List.set_cons_zero, List.set_cons_succ]
      refine take_yes (i := 15) (some 64) (.slice (some ⟨bN, oN, none⟩) nodes.length nc) rfl rfl (by kernel_rfl) (by kernel_rfl) (by kernel_rfl) (fun _ _ _ h => h) (by rfl) hHeld ?_ ?_
      · intro wq hSw; rw [hS] at hSw; obtain ⟨s0, s1, s2, s3, s4, s5, s6, s7, s8, s9, s10, s11, s12, s13, s14, s15⟩ := hSw; go_simp
      simp only [Act.put, List.setIfInBounds_toArray, List.set_cons_zero, List.set_cons_succ]
      refine take_yes (i := 16) (some 65) (.int .i64 (p : Int)) rfl rfl (by kernel_rfl) (by kernel_rfl) (by kernel_rfl) (fun _ _ _ h => h) (by rfl) hHeld ?_ ?_
      · intro wq hSw; rw [hS] at hSw; obtain ⟨s0, s1, s2, s3, s4, s5, s6, s7, s8, s9, s10, s11, s12, s13, s14, s15⟩ := hSw; go_simp
      simp only [Act.put, List.setIfInBounds_toArray, List.set_cons_zero, List.set_cons_succ]
      refine take_yes (i := 17) (some 66) (.pointer (some ⟨bN, oN + p * 6, none⟩)) rfl rfl (by kernel_rfl) (by kernel_rfl) (by kernel_rfl) (fun _ _ _ h => h) (by rfl) hHeld ?_ ?_
      · intro wq hSw; rw [hS] at hSw; obtain ⟨s0, s1, s2, s3, s4, s5, s6, s7, s8, s9, s10, s11, s12, s13, s14, s15⟩ := hSw; go_simp
      simp only [Act.put, List.setIfInBounds_toArray, List.set_cons_zero, List.set_cons_succ]
      refine take_yes (i := 18) (some 67) (nodeV q3) rfl rfl (by kernel_rfl) (by kernel_rfl) (by kernel_rfl) (fun _ _ _ h => h) (by rfl) hHeld ?_ ?_
      · intro wq hSw; rw [hS] at hSw; obtain ⟨s0, s1, s2, s3, s4, s5, s6, s7, s8, s9, s10, s11, s12, s13, s14, s15⟩ := hSw; unfold nodeV; go_simp
      simp only [Act.put, List.setIfInBounds_toArray, List.set_cons_zero, List.set_cons_succ]
      refine wpAnyH_ready (rs := [19]) (by kernel_rfl) (by simp) ?_
      refine AllReadyH.cons rfl (fun K hK => ?_) AllReadyH.nil
      go_simp
      go_at_call 11
      refine (HAL.out _ (Below.refl _ V).drew).mono ?_
      rintro e w9 ⟨rfl, hb9⟩
      have L9 := Lib.hid (show Below V.heap.size V w9 from Gl.below_next (Below.refl _ V).drew hb9)
      have hHeld2 : S w9 := by
        have hs := hSV.out
        rw [hS] at hs ⊢
        obtain ⟨s0, s1, s2, s3, s4, s5, s6, s7, s8, s9, s10, s11, s12, s13, s14, s15⟩ := hs
        have kp : ∀ {p : Addr} {u : Value}, V.cell? p = some u → w9.cell? p = some u := fun {p u} h => (L9.out.cell (World.block_lt_of_cell? V p h)).trans h
        exact ⟨kp s0, kp s1, kp s2, kp s3, kp s4, kp s5, kp s6, kp s7, kp s8, kp s9, kp s10, kp s11, kp s12, kp s13, kp s14, kp s15⟩
      simp only
      refine hK.out _ _ hHeld2 (fun hHeld3 => ?_)
      clear hK K
      refine take_yes (i := 20) (some 69) (.bool false) rfl rfl (by kernel_rfl) (by kernel_rfl) (by kernel_rfl) (fun _ _ _ h => h) (by rfl) hHeld2 ?_ ?_
      · intro wq hSw; go_simp
      simp only [Act.put, List.setIfInBounds_toArray, List.set_cons_zero, List.set_cons_succ]
      refine take_yes (i := 21) (some 70) (.bool false) rfl rfl (by kernel_rfl) (by kernel_rfl) (by kernel_rfl) (fun _ _ _ h => h) (by rfl) hHeld2 ?_ ?_
      · intro wq hSw; go_simp
      simp only [Act.put, List.setIfInBounds_toArray, List.set_cons_zero, List.set_cons_succ]
      refine wpAnyH_done (by kernel_rfl) ?_ _
      have m9 := HBV.out.next L9.out
      have n9 := m9.c 0
      have f9 := m9.f 0
      have T9 := Lib.hid (HTV.out.next L9.out)
      have hsm := HSM.out
      simp only [List.getElem?_cons_zero] at n9
      gi_wp2
      have T10 : Turn (fun b => b = w6.heap.size) V (w9.setCell ⟨w6.heap.size, 0, none⟩ (.int .i64 ((j : Int) + 1))) := Turn.setCell (T := fun b => b = w6.heap.size) (p := ⟨w6.heap.size, 0, none⟩) (Turn.of_below (fun b => b = w6.heap.size) L9.out) (.inl rfl) _
      refine ⟨T10, by omega, HTV.out.trans T10, ?_⟩
      rw [show ((j + 1 : Nat) : Int) = (j : Int) + 1 by omega]
      exact m9.set_ 0 _
    · have t0 : decide ((mm : Int) ≤ (j : Int)) = true := decide_eq_true (by omega)
      have t0' : decide (mm ≤ j) = true := decide_eq_true (by omega)
      gi_wp2
      have hjm2 : j = mm := by omega
      subst hjm2
      exact ⟨Turn.refl _ _, rfl, hj, HTV.out, HBV.out⟩
  case done =>
    rintro D V hD ⟨hjm, hTV, hBV⟩ - hK
    have HTV := Lib.hid hTV
    have P8 := Lib.hid (P7.out.turn hTV (by omega))
    have M8 := Lib.hid (M7.out.turn hTV (by omega))
    have R8 := Lib.hid (R7.out.turn hTV (by omega))
    have N8 := Lib.hid (N7.out.turn hTV (by omega))
    have L8 := Lib.hid (L7.out.trans (hTV.below (B := w.heap.size) (by have := L7.out.size; omega) (fun b h => by omega)))
    have n0 := hBV.c 0
    have w0 := N8.out.c 0
    have m0 := M8.out.c 0
    have x0 := P8.out.c 0
    have x1 := P8.out.c 1
    have x2 := P8.out.c 2
    have x3 := P8.out.c 3
    have x4 := P8.out.c 4
    simp only [List.getElem?_cons_zero, List.getElem?_cons_succ] at n0 w0 m0 x0 x1 x2 x3 x4
    have hc : IntKind.i64.wrap (mm : Int) = (mm : Int) := IntWalk.i64_in _ (by omega)
    have HMK := Lib.hid hK
    have HMN := Lib.hid (show min ((walkL nodes (k : Int)).length : Int) (mm : Int) = ((walkL nodes (k : Int)).length : Int) by rw [← hwn]; omega)
    have hmn := HMN.out
    have HDD := Lib.hid hD
    clear hTV hBV hK
    gi_wp2_with fail
    clear n0 w0 m0 x0 x1 x2 x3 x4
    refine ⟨trivial, ?_⟩
    refine (HTH.out _ L8.out).mono ?_
    rintro e w9 ⟨rfl, hb9⟩
    rw [HHN.out]
    have R9 := Lib.hid (R8.out.next hb9)
    have L9 := Lib.hid (Gl.below_next L8.out hb9)
    have K9 := Lib.hid ((hb9.block D (Array.getElem?_eq_some_iff.1 HMK.out).1).trans HMK.out)
    clear hb9
    gi_wp2_with fail
    refine ⟨trivial, ?_⟩
    refine (HLV.out _).mono ?_
    rintro e w10 ⟨rfl, hb10⟩
    have R10 := Lib.hid (R9.out.next hb10)
    have L10 := Lib.hid (Gl.below_next L9.out hb10)
    have K10 := Lib.hid ((hb10.block D (Array.getElem?_eq_some_iff.1 K9.out).1).trans K9.out)
    clear hb10
    have r0 := R10.out.c 0
    have rf := R10.out.f 0
    simp only [List.getElem?_cons_zero] at r0
    gi_wp2
    have R11 := Lib.hid (R10.out.set_ 0 (.bool true))
    have L11 := Lib.hid (L10.out.setCell (p := ⟨w.heap.size + 1 + 1, 0, none⟩) (by show w.heap.size ≤ w.heap.size + 1 + 1; omega) (.bool true))
    refine leaves_marks (Marks.cons (B := w7.heap.size) HDD.out ((Below.heap_setCell w10 ⟨w.heap.size + 1 + 1, 0, none⟩ (.bool true) D (by show D ≠ w.heap.size + 1 + 1; have := HDD.out; omega)).trans K10.out) (fun e he => absurd he (by simp)) .nil) (fun V' hb' => ?_)
    have r11 := Bk.c (t := 4) (w := V') (g := w.heap.size + 1 + 1) (xs := [Value.bool true]) ((hb'.block (w.heap.size + 1 + 1) (by omega)).trans R11.out) 0
    exact ⟨_, res_bool rfl _ rfl r11, rfl, L11.out.trans (hb'.mono (by omega))⟩
  case stop =>
    rintro D c V hD ⟨rfl, hlt, hTV, hBV⟩ - hK
    have HTV := Lib.hid hTV
    have P8 := Lib.hid (P7.out.turn hTV (by omega))
    have M8 := Lib.hid (M7.out.turn hTV (by omega))
    have R8 := Lib.hid (R7.out.turn hTV (by omega))
    have N8 := Lib.hid (N7.out.turn hTV (by omega))
    have L8 := Lib.hid (L7.out.trans (hTV.below (B := w.heap.size) (by have := L7.out.size; omega) (fun b h => by omega)))
    have n0 := hBV.c 0
    have w0 := N8.out.c 0
    have m0 := M8.out.c 0
    have x0 := P8.out.c 0
    have x1 := P8.out.c 1
    have x2 := P8.out.c 2
    have x3 := P8.out.c 3
    have x4 := P8.out.c 4
    simp only [List.getElem?_cons_zero, List.getElem?_cons_succ] at n0 w0 m0 x0 x1 x2 x3 x4
    have hc : IntKind.i64.wrap (mm : Int) = (mm : Int) := IntWalk.i64_in _ (by omega)
    have HMK := Lib.hid hK
    have HMN := Lib.hid (show min ((walkL nodes (k : Int)).length : Int) (mm : Int) = (mm : Int) by rw [← hwn]; omega)
    have hmn := HMN.out
    have HDD := Lib.hid hD
    clear hTV hBV hK
    gi_wp2_with fail
    clear n0 w0 m0 x0 x1 x2 x3 x4
    refine ⟨trivial, ?_⟩
    refine (HTH.out _ L8.out).mono ?_
    rintro e w9 ⟨rfl, hb9⟩
    rw [HHN.out]
    have R9 := Lib.hid (R8.out.next hb9)
    have L9 := Lib.hid (Gl.below_next L8.out hb9)
    have K9 := Lib.hid ((hb9.block D (Array.getElem?_eq_some_iff.1 HMK.out).1).trans HMK.out)
    clear hb9
    gi_wp2_with fail
    refine ⟨trivial, ?_⟩
    refine (HLV.out _).mono ?_
    rintro e w10 ⟨rfl, hb10⟩
    have R10 := Lib.hid (R9.out.next hb10)
    have L10 := Lib.hid (Gl.below_next L9.out hb10)
    have K10 := Lib.hid ((hb10.block D (Array.getElem?_eq_some_iff.1 K9.out).1).trans K9.out)
    clear hb10
    have r0 := R10.out.c 0
    have rf := R10.out.f 0
    simp only [List.getElem?_cons_zero] at r0
    gi_wp2
    have R11 := Lib.hid (R10.out.set_ 0 (.bool true))
    have L11 := Lib.hid (L10.out.setCell (p := ⟨w.heap.size + 1 + 1, 0, none⟩) (by show w.heap.size ≤ w.heap.size + 1 + 1; omega) (.bool true))
    refine leaves_marks (Marks.cons (B := w7.heap.size) HDD.out ((Below.heap_setCell w10 ⟨w.heap.size + 1 + 1, 0, none⟩ (.bool true) D (by show D ≠ w.heap.size + 1 + 1; have := HDD.out; omega)).trans K10.out) (fun e he => absurd he (by simp)) .nil) (fun V' hb' => ?_)
    have r11 := Bk.c (t := 4) (w := V') (g := w.heap.size + 1 + 1) (xs := [Value.bool true]) ((hb'.block (w.heap.size + 1 + 1) (by omega)).trans R11.out) 0
    exact ⟨_, res_bool rfl _ rfl r11, rfl, L11.out.trans (hb'.mono (by omega))⟩
set_option maxRecDepth 100000 in
set_option maxHeartbeats 16000000 in
theorem walks_no (nm : ByteArray) (da : Option Addr) (dims : List Int) (dc : Nat) (na : Option Addr) (nc : Nat) (nodes : List Nq) (fa : Option Addr) (defs : List Df) (fc : Nat) (rt : Int) (i : Int) (most : Int) (w : World) (hp : ProgIn w ⟨nm, da, dc, dims, na, nc, nodes, fa, fc, defs, rt⟩) (hf : FitP ⟨nm, da, dc, dims, na, nc, nodes, fa, fc, defs, rt⟩) (hm0 : 0 ≤ most) (hno : ¬ (thereB nodes.length i = true ∧ rightT ⟨nm, da, dc, dims, na, nc, nodes, fa, fc, defs, rt⟩ = true)) : Calls Try.prog 3 #[progV ⟨nm, da, dc, dims, na, nc, nodes, fa, fc, defs, rt⟩, .int .i64 i, .int .u64 most] w (RetBl true w) := by
  have HLV := Lib.hid (fun W => callsIn_wide (n := 3 - 1).2 (lives_any W))
  have HG1 := Lib.hid (fun W (hw : Below w.heap.size w W) => callsIn_wide (n := 3 - 1).2 (great_any ⟨nm, da, dc, dims, na, nc, nodes, fa, fc, defs, rt⟩ W (hp.next hw)))
  obtain ⟨rb, hrb⟩ : ∃ rb, rightT ⟨nm, da, dc, dims, na, nc, nodes, fa, fc, defs, rt⟩ = rb := ⟨_, rfl⟩
  have HRR := Lib.hid (fun W (hw : Below w.heap.size w W) => callsIn_wide (n := 3 - 1).2 (rright_b ⟨nm, da, dc, dims, na, nc, nodes, fa, fc, defs, rt⟩ rb W (hp.next hw) hf (by rw [← right_same]; exact hrb)))
  have HTW := Lib.hid (fun W (hw : Below w.heap.size w W) => callsIn_wide (n := 3 - 1).2 (walk_none ⟨nm, da, dc, dims, na, nc, nodes, fa, fc, defs, rt⟩ i W (hp.next hw) hf hno))
  have HTH := Lib.hid (fun W (hw : Below w.heap.size w W) => callsIn_wide (n := 3 - 1).2 (high_any ⟨nm, da, dc, dims, na, nc, nodes, fa, fc, defs, rt⟩ i W (hp.next hw) hf))
  have HHN : Hid (highN ⟨nm, da, dc, dims, na, nc, nodes, fa, fc, defs, rt⟩ i = 0) := Lib.hid (by unfold highN; rw [if_neg hno])
  have HNO : Hid (rb = true → ¬ (0 ≤ i ∧ i < (nodes.length : Int))) := Lib.hid (fun e h => hno ⟨by unfold thereB; simp only [Bool.and_eq_true, decide_eq_true_eq]; exact h, hrb.trans e⟩)
  unfold progV at HG1 HRR HTW HTH ⊢
  clear hp hf hno hrb
  refine (callsIn_wide (n := 3)).1 ?_
  refine callsIn_of_wp_marks Try.func3 rfl trivial ?_
  simp only [Try.ntmps3, List.size_toArray, List.length_cons, List.length_nil, Nat.reduceAdd, Nat.reduceSub, Array.replicate_succ, Array.replicate_zero, List.push_toArray, List.append_toArray, List.nil_append, List.cons_append]
  gi_wp2_with fail
  obtain ⟨W0, hW0⟩ : ∃ W0, ((w.alloc (.cells #[.string nm, .slice da dims.length dc, .slice na nodes.length nc, .slice fa defs.length fc, .int .i64 rt] 26)).alloc (.cells #[.int .u64 most] 27)).alloc (.cells #[.bool false] 4) = W0 := ⟨_, rfl⟩
  have P0 := Lib.hid (show Bk 26 W0 w.heap.size [.string nm, .slice da dims.length dc, .slice na nodes.length nc, .slice fa defs.length fc, .int .i64 rt] by rw [← hW0]; exact ((Bk.new _ w _).alloc _).alloc _)
  have M0 := Lib.hid (show Bk 27 W0 (w.heap.size + 1) [.int .u64 most] by rw [← hW0]; have := (Bk.new 27 (w.alloc (.cells #[.string nm, .slice da dims.length dc, .slice na nodes.length nc, .slice fa defs.length fc, .int .i64 rt] 26)) [.int .u64 most]).alloc (.cells #[.bool false] 4); rwa [World.size_alloc] at this)
  have R0 := Lib.hid (show Bk 4 W0 (w.heap.size + 1 + 1) [.bool false] by rw [← hW0]; have := Bk.new 4 ((w.alloc (.cells #[.string nm, .slice da dims.length dc, .slice na nodes.length nc, .slice fa defs.length fc, .int .i64 rt] 26)).alloc (.cells #[.int .u64 most] 27)) [.bool false]; rwa [World.size_alloc, World.size_alloc] at this)
  have L0 := Lib.hid (show Below w.heap.size w W0 by rw [← hW0]; exact below_next (below_next (below_new w _) (below_new _ _)) (below_new _ _))
  rw [hW0]
  clear hW0
  refine ⟨trivial, ?_⟩
  refine (HG1.out _ L0.out).mono ?_
  rintro e w1 ⟨b1, rfl, -, hb1⟩
  have P1 := Lib.hid (P0.out.next hb1)
  have M1 := Lib.hid (M0.out.next hb1)
  have R1 := Lib.hid (R0.out.next hb1)
  have L1 := Lib.hid (Gl.below_next L0.out hb1)
  clear hb1
  cases b1 with
  | true =>
    gi_wp2_with fail
    refine ⟨trivial, ?_⟩
    refine (HLV.out _).mono ?_
    rintro e w2 ⟨rfl, hb2⟩
    have R2 := Lib.hid (R1.out.next hb2)
    have L2 := Lib.hid (Gl.below_next L1.out hb2)
    have r0 := R2.out.c 0
    have rf := R2.out.f 0
    have r1 := (R2.out.set_ 0 (.bool true)).c 0
    simp only [List.getElem?_cons_zero, List.getElem?_cons_succ, List.set_cons_zero] at r0 r1
    gi_wp2
    refine ⟨_, res_bool rfl _ rfl r1, rfl, L2.out.setCell (p := ⟨w.heap.size + 1 + 1, 0, none⟩) (by show w.heap.size ≤ w.heap.size + 1 + 1; omega) _⟩
  | false =>
  obtain ⟨W1, hW1⟩ : ∃ W1, w1.alloc (.cells #[.slice none 0 0] 22) = W1 := ⟨_, rfl⟩
  have N1 := Lib.hid (show Bk 22 W1 w1.heap.size [.slice none 0 0] by rw [← hW1]; exact Bk.new _ w1 _)
  have hz1 := Lib.hid (show w.heap.size + 1 + 1 < w1.heap.size from R1.out.lt)
  replace P1 := Lib.hid (show Bk 26 W1 w.heap.size _ by rw [← hW1]; exact P1.out.alloc _)
  replace M1 := Lib.hid (show Bk 27 W1 (w.heap.size + 1) _ by rw [← hW1]; exact M1.out.alloc _)
  replace R1 := Lib.hid (show Bk 4 W1 (w.heap.size + 1 + 1) _ by rw [← hW1]; exact R1.out.alloc _)
  replace L1 := Lib.hid (show Below w.heap.size w W1 by rw [← hW1]; exact below_next L1.out (below_new _ _))
  have x0 := P1.out.c 0
  have x1 := P1.out.c 1
  have x2 := P1.out.c 2
  have x3 := P1.out.c 3
  have x4 := P1.out.c 4
  simp only [List.getElem?_cons_zero, List.getElem?_cons_succ] at x0 x1 x2 x3 x4
  gi_wp2_with fail
  clear x0 x1 x2 x3 x4
  refine ⟨trivial, ?_⟩
  refine (HRR.out _ L1.out).mono ?_
  rintro e w2 ⟨rfl, hb2⟩
  have P2 := Lib.hid (P1.out.next hb2)
  have M2 := Lib.hid (M1.out.next hb2)
  have R2 := Lib.hid (R1.out.next hb2)
  have N2 := Lib.hid (N1.out.next hb2)
  have L2 := Lib.hid (Gl.below_next L1.out hb2)
  clear hb2 hW1
  have x0 := P2.out.c 0
  have x1 := P2.out.c 1
  have x2 := P2.out.c 2
  have x3 := P2.out.c 3
  have x4 := P2.out.c 4
  simp only [List.getElem?_cons_zero, List.getElem?_cons_succ] at x0 x1 x2 x3 x4
  cases rb with
  | false =>
    gi_wp2_with fail
    clear x0 x1 x2 x3 x4
    refine ⟨trivial, ?_⟩
    refine (HTW.out _ L2.out).mono ?_
    rintro e w6 ⟨rfl, hb6⟩
    have P6 := Lib.hid (P2.out.next hb6)
    have M6 := Lib.hid (M2.out.next hb6)
    have R6 := Lib.hid (R2.out.next hb6)
    have N6 := Lib.hid (N2.out.next hb6)
    have L6 := Lib.hid (Gl.below_next L2.out hb6)
    clear hb6
    have m0 := M6.out.c 0
    have mf := M6.out.f 0
    simp only [List.getElem?_cons_zero] at m0
    have hfn := fun W => func_nil 21 #[] W
    gi_wp2_with fail
    obtain ⟨mm, hmm⟩ : ∃ mm : Nat, most % 400 = (mm : Int) := ⟨(most % 400).toNat, by omega⟩
    have hmm4 : mm < 400 := by omega
    obtain ⟨w7, hw7⟩ : ∃ w7, (w6.setCell ⟨w.heap.size + 1, 0, none⟩ (.int .u64 (most % 400))).alloc (.cells #[.int .i64 0] 3) = w7 := ⟨_, rfl⟩
    rw [hw7]
    have hz7 : w7.heap.size = w6.heap.size + 1 := by rw [← hw7]; simp [World.setCell]
    have hlt6 : w1.heap.size < w6.heap.size := N6.out.lt
    have hz1' := hz1.out
    have P7 := Lib.hid (show Bk 26 w7 w.heap.size _ by rw [← hw7]; exact (P6.out.far (p := ⟨w.heap.size + 1, 0, none⟩) (by show w.heap.size ≠ w.heap.size + 1; omega) _).alloc _)
    have M7 := Lib.hid (show Bk 27 w7 (w.heap.size + 1) [.int .u64 (mm : Int)] by rw [← hw7, hmm]; exact (M6.out.set_ 0 _).alloc _)
    have R7 := Lib.hid (show Bk 4 w7 (w.heap.size + 1 + 1) _ by rw [← hw7]; exact (R6.out.far (p := ⟨w.heap.size + 1, 0, none⟩) (by show w.heap.size + 1 + 1 ≠ w.heap.size + 1; omega) _).alloc _)
    have N7 := Lib.hid (show Bk 22 w7 w1.heap.size _ by rw [← hw7]; exact (N6.out.far (p := ⟨w.heap.size + 1, 0, none⟩) (by show w1.heap.size ≠ w.heap.size + 1; omega) _).alloc _)
    have L7 := Lib.hid (show Below w.heap.size w w7 by rw [← hw7]; exact (L6.out.setCell (p := ⟨w.heap.size + 1, 0, none⟩) (by show w.heap.size ≤ w.heap.size + 1; omega) _).alloc (by have := (L6.out.setCell (p := ⟨w.heap.size + 1, 0, none⟩) (by show w.heap.size ≤ w.heap.size + 1; omega) (.int .u64 (most % 400))).size; exact this) _)
    have J7 := Lib.hid (show Bk 3 w7 w6.heap.size [.int .i64 0] by rw [← hw7]; have := Bk.new 3 (w6.setCell ⟨w.heap.size + 1, 0, none⟩ (.int .u64 (most % 400))) [.int .i64 0]; rwa [show (w6.setCell ⟨w.heap.size + 1, 0, none⟩ (.int .u64 (most % 400))).heap.size = w6.heap.size by simp [World.setCell]] at this)
    clear m0 mf hfn hw7 hmm
    refine wpIn_rangeFunc_T rfl rfl (gf := 21) (lb := #[]) rfl trivial (enters_of Try.func21 (by kernel_rfl) rfl)
      (N := 0) (enc := fun _ _ => #[undef, undef]) (Rd := fun _ _ _ => True) (fun _ => False) (fun _ => False) (fun b h => h.elim) (fun b h => h) (fun b h => h.elim)
      (fun V hV => none_walks _ _ _ V rfl) (fun _ _ => rfl)
      (fun j V => Turn (fun _ => False) w7 V ∧ Bk 3 V w6.heap.size [.int .i64 0])
      (fun c V => False)
      (fun j => (stab_turn (Nat.le_refl _)).and (stab_bk (by omega)))
      (fun c => stab_pure _ _)
      ⟨Turn.refl _ _, J7.out⟩ (fun _ _ _ _ => False) (fun _ _ _ _ _ _ _ h _ => h.elim) (fun _ _ _ _ _ _ _ hj _ _ => absurd hj (by omega)) (fun _ _ _ _ _ _ _ _ hj _ => absurd hj (by omega)) ?done (fun _ _ _ _ h => h.elim)
    case done =>
      rintro D V hD ⟨hTV, hBV⟩ - hK
      have HTV := Lib.hid hTV
      have P8 := Lib.hid (P7.out.turn hTV (by simp))
      have M8 := Lib.hid (M7.out.turn hTV (by simp))
      have R8 := Lib.hid (R7.out.turn hTV (by simp))
      have N8 := Lib.hid (N7.out.turn hTV (by simp))
      have L8 := Lib.hid (L7.out.trans (hTV.below (B := w.heap.size) (by have := L7.out.size; omega) (fun b h => h.elim)))
      have n0 := hBV.c 0
      have w0 := N8.out.c 0
      have m0 := M8.out.c 0
      have x0 := P8.out.c 0
      have x1 := P8.out.c 1
      have x2 := P8.out.c 2
      have x3 := P8.out.c 3
      have x4 := P8.out.c 4
      simp only [List.getElem?_cons_zero, List.getElem?_cons_succ] at n0 w0 m0 x0 x1 x2 x3 x4
      have hc : IntKind.i64.wrap (mm : Int) = (mm : Int) := IntWalk.i64_in _ (by omega)
      have HMK := Lib.hid hK
      have hmn : min (0 : Int) (mm : Int) = 0 := by omega
      have HDD := Lib.hid hD
      clear hTV hBV hK
      gi_wp2_with fail
      clear n0 w0 m0 x0 x1 x2 x3 x4
      refine ⟨trivial, ?_⟩
      refine (HTH.out _ L8.out).mono ?_
      rintro e w9 ⟨rfl, hb9⟩
      rw [HHN.out]
      have R9 := Lib.hid (R8.out.next hb9)
      have L9 := Lib.hid (Gl.below_next L8.out hb9)
      have K9 := Lib.hid ((hb9.block D (Array.getElem?_eq_some_iff.1 HMK.out).1).trans HMK.out)
      clear hb9
      gi_wp2_with fail
      refine ⟨trivial, ?_⟩
      refine (HLV.out _).mono ?_
      rintro e w10 ⟨rfl, hb10⟩
      have R10 := Lib.hid (R9.out.next hb10)
      have L10 := Lib.hid (Gl.below_next L9.out hb10)
      have K10 := Lib.hid ((hb10.block D (Array.getElem?_eq_some_iff.1 K9.out).1).trans K9.out)
      clear hb10
      have r0 := R10.out.c 0
      have rf := R10.out.f 0
      simp only [List.getElem?_cons_zero] at r0
      gi_wp2
      have R11 := Lib.hid (R10.out.set_ 0 (.bool true))
      have L11 := Lib.hid (L10.out.setCell (p := ⟨w.heap.size + 1 + 1, 0, none⟩) (by show w.heap.size ≤ w.heap.size + 1 + 1; omega) (.bool true))
      refine leaves_marks (Marks.cons (B := w7.heap.size) HDD.out ((Below.heap_setCell w10 ⟨w.heap.size + 1 + 1, 0, none⟩ (.bool true) D (by show D ≠ w.heap.size + 1 + 1; have := HDD.out; omega)).trans K10.out) (fun e he => absurd he (by simp)) .nil) (fun V' hb' => ?_)
      have r11 := Bk.c (t := 4) (w := V') (g := w.heap.size + 1 + 1) (xs := [Value.bool true]) ((hb'.block (w.heap.size + 1 + 1) (by omega)).trans R11.out) 0
      exact ⟨_, res_bool rfl _ rfl r11, rfl, L11.out.trans (hb'.mono (by omega))⟩
  | true =>
    by_cases hi : i < 0
    · have t1 : decide (0 ≤ i) = false := decide_eq_false (by omega)
      gi_wp2_with fail
      clear x0 x1 x2 x3 x4
      refine ⟨trivial, ?_⟩
      refine (HTW.out _ L2.out).mono ?_
      rintro e w6 ⟨rfl, hb6⟩
      have P6 := Lib.hid (P2.out.next hb6)
      have M6 := Lib.hid (M2.out.next hb6)
      have R6 := Lib.hid (R2.out.next hb6)
      have N6 := Lib.hid (N2.out.next hb6)
      have L6 := Lib.hid (Gl.below_next L2.out hb6)
      clear hb6
      have m0 := M6.out.c 0
      have mf := M6.out.f 0
      simp only [List.getElem?_cons_zero] at m0
      have hfn := fun W => func_nil 21 #[] W
      gi_wp2_with fail
      obtain ⟨mm, hmm⟩ : ∃ mm : Nat, most % 400 = (mm : Int) := ⟨(most % 400).toNat, by omega⟩
      have hmm4 : mm < 400 := by omega
      obtain ⟨w7, hw7⟩ : ∃ w7, (w6.setCell ⟨w.heap.size + 1, 0, none⟩ (.int .u64 (most % 400))).alloc (.cells #[.int .i64 0] 3) = w7 := ⟨_, rfl⟩
      rw [hw7]
      have hz7 : w7.heap.size = w6.heap.size + 1 := by rw [← hw7]; simp [World.setCell]
      have hlt6 : w1.heap.size < w6.heap.size := N6.out.lt
      have hz1' := hz1.out
      have P7 := Lib.hid (show Bk 26 w7 w.heap.size _ by rw [← hw7]; exact (P6.out.far (p := ⟨w.heap.size + 1, 0, none⟩) (by show w.heap.size ≠ w.heap.size + 1; omega) _).alloc _)
      have M7 := Lib.hid (show Bk 27 w7 (w.heap.size + 1) [.int .u64 (mm : Int)] by rw [← hw7, hmm]; exact (M6.out.set_ 0 _).alloc _)
      have R7 := Lib.hid (show Bk 4 w7 (w.heap.size + 1 + 1) _ by rw [← hw7]; exact (R6.out.far (p := ⟨w.heap.size + 1, 0, none⟩) (by show w.heap.size + 1 + 1 ≠ w.heap.size + 1; omega) _).alloc _)
      have N7 := Lib.hid (show Bk 22 w7 w1.heap.size _ by rw [← hw7]; exact (N6.out.far (p := ⟨w.heap.size + 1, 0, none⟩) (by show w1.heap.size ≠ w.heap.size + 1; omega) _).alloc _)
      have L7 := Lib.hid (show Below w.heap.size w w7 by rw [← hw7]; exact (L6.out.setCell (p := ⟨w.heap.size + 1, 0, none⟩) (by show w.heap.size ≤ w.heap.size + 1; omega) _).alloc (by have := (L6.out.setCell (p := ⟨w.heap.size + 1, 0, none⟩) (by show w.heap.size ≤ w.heap.size + 1; omega) (.int .u64 (most % 400))).size; exact this) _)
      have J7 := Lib.hid (show Bk 3 w7 w6.heap.size [.int .i64 0] by rw [← hw7]; have := Bk.new 3 (w6.setCell ⟨w.heap.size + 1, 0, none⟩ (.int .u64 (most % 400))) [.int .i64 0]; rwa [show (w6.setCell ⟨w.heap.size + 1, 0, none⟩ (.int .u64 (most % 400))).heap.size = w6.heap.size by simp [World.setCell]] at this)
      clear m0 mf hfn hw7 hmm
      refine wpIn_rangeFunc_T rfl rfl (gf := 21) (lb := #[]) rfl trivial (enters_of Try.func21 (by kernel_rfl) rfl)
        (N := 0) (enc := fun _ _ => #[undef, undef]) (Rd := fun _ _ _ => True) (fun _ => False) (fun _ => False) (fun b h => h.elim) (fun b h => h) (fun b h => h.elim)
        (fun V hV => none_walks _ _ _ V rfl) (fun _ _ => rfl)
        (fun j V => Turn (fun _ => False) w7 V ∧ Bk 3 V w6.heap.size [.int .i64 0])
        (fun c V => False)
        (fun j => (stab_turn (Nat.le_refl _)).and (stab_bk (by omega)))
        (fun c => stab_pure _ _)
        ⟨Turn.refl _ _, J7.out⟩ (fun _ _ _ _ => False) (fun _ _ _ _ _ _ _ h _ => h.elim) (fun _ _ _ _ _ _ _ hj _ _ => absurd hj (by omega)) (fun _ _ _ _ _ _ _ _ hj _ => absurd hj (by omega)) ?done (fun _ _ _ _ h => h.elim)
      case done =>
        rintro D V hD ⟨hTV, hBV⟩ - hK
        have HTV := Lib.hid hTV
        have P8 := Lib.hid (P7.out.turn hTV (by simp))
        have M8 := Lib.hid (M7.out.turn hTV (by simp))
        have R8 := Lib.hid (R7.out.turn hTV (by simp))
        have N8 := Lib.hid (N7.out.turn hTV (by simp))
        have L8 := Lib.hid (L7.out.trans (hTV.below (B := w.heap.size) (by have := L7.out.size; omega) (fun b h => h.elim)))
        have n0 := hBV.c 0
        have w0 := N8.out.c 0
        have m0 := M8.out.c 0
        have x0 := P8.out.c 0
        have x1 := P8.out.c 1
        have x2 := P8.out.c 2
        have x3 := P8.out.c 3
        have x4 := P8.out.c 4
        simp only [List.getElem?_cons_zero, List.getElem?_cons_succ] at n0 w0 m0 x0 x1 x2 x3 x4
        have hc : IntKind.i64.wrap (mm : Int) = (mm : Int) := IntWalk.i64_in _ (by omega)
        have HMK := Lib.hid hK
        have hmn : min (0 : Int) (mm : Int) = 0 := by omega
        have HDD := Lib.hid hD
        clear hTV hBV hK
        gi_wp2_with fail
        clear n0 w0 m0 x0 x1 x2 x3 x4
        refine ⟨trivial, ?_⟩
        refine (HTH.out _ L8.out).mono ?_
        rintro e w9 ⟨rfl, hb9⟩
        rw [HHN.out]
        have R9 := Lib.hid (R8.out.next hb9)
        have L9 := Lib.hid (Gl.below_next L8.out hb9)
        have K9 := Lib.hid ((hb9.block D (Array.getElem?_eq_some_iff.1 HMK.out).1).trans HMK.out)
        clear hb9
        gi_wp2_with fail
        refine ⟨trivial, ?_⟩
        refine (HLV.out _).mono ?_
        rintro e w10 ⟨rfl, hb10⟩
        have R10 := Lib.hid (R9.out.next hb10)
        have L10 := Lib.hid (Gl.below_next L9.out hb10)
        have K10 := Lib.hid ((hb10.block D (Array.getElem?_eq_some_iff.1 K9.out).1).trans K9.out)
        clear hb10
        have r0 := R10.out.c 0
        have rf := R10.out.f 0
        simp only [List.getElem?_cons_zero] at r0
        gi_wp2
        have R11 := Lib.hid (R10.out.set_ 0 (.bool true))
        have L11 := Lib.hid (L10.out.setCell (p := ⟨w.heap.size + 1 + 1, 0, none⟩) (by show w.heap.size ≤ w.heap.size + 1 + 1; omega) (.bool true))
        refine leaves_marks (Marks.cons (B := w7.heap.size) HDD.out ((Below.heap_setCell w10 ⟨w.heap.size + 1 + 1, 0, none⟩ (.bool true) D (by show D ≠ w.heap.size + 1 + 1; have := HDD.out; omega)).trans K10.out) (fun e he => absurd he (by simp)) .nil) (fun V' hb' => ?_)
        have r11 := Bk.c (t := 4) (w := V') (g := w.heap.size + 1 + 1) (xs := [Value.bool true]) ((hb'.block (w.heap.size + 1 + 1) (by omega)).trans R11.out) 0
        exact ⟨_, res_bool rfl _ rfl r11, rfl, L11.out.trans (hb'.mono (by omega))⟩
    · have t1 : decide (0 ≤ i) = true := decide_eq_true (by omega)
      have t2 : decide (i < (nodes.length : Int)) = false := decide_eq_false (fun h => HNO.out rfl ⟨by omega, h⟩)
      gi_wp2_with fail
      clear x0 x1 x2 x3 x4
      refine ⟨trivial, ?_⟩
      refine (HTW.out _ L2.out).mono ?_
      rintro e w6 ⟨rfl, hb6⟩
      have P6 := Lib.hid (P2.out.next hb6)
      have M6 := Lib.hid (M2.out.next hb6)
      have R6 := Lib.hid (R2.out.next hb6)
      have N6 := Lib.hid (N2.out.next hb6)
      have L6 := Lib.hid (Gl.below_next L2.out hb6)
      clear hb6
      have m0 := M6.out.c 0
      have mf := M6.out.f 0
      simp only [List.getElem?_cons_zero] at m0
      have hfn := fun W => func_nil 21 #[] W
      gi_wp2_with fail
      obtain ⟨mm, hmm⟩ : ∃ mm : Nat, most % 400 = (mm : Int) := ⟨(most % 400).toNat, by omega⟩
      have hmm4 : mm < 400 := by omega
      obtain ⟨w7, hw7⟩ : ∃ w7, (w6.setCell ⟨w.heap.size + 1, 0, none⟩ (.int .u64 (most % 400))).alloc (.cells #[.int .i64 0] 3) = w7 := ⟨_, rfl⟩
      rw [hw7]
      have hz7 : w7.heap.size = w6.heap.size + 1 := by rw [← hw7]; simp [World.setCell]
      have hlt6 : w1.heap.size < w6.heap.size := N6.out.lt
      have hz1' := hz1.out
      have P7 := Lib.hid (show Bk 26 w7 w.heap.size _ by rw [← hw7]; exact (P6.out.far (p := ⟨w.heap.size + 1, 0, none⟩) (by show w.heap.size ≠ w.heap.size + 1; omega) _).alloc _)
      have M7 := Lib.hid (show Bk 27 w7 (w.heap.size + 1) [.int .u64 (mm : Int)] by rw [← hw7, hmm]; exact (M6.out.set_ 0 _).alloc _)
      have R7 := Lib.hid (show Bk 4 w7 (w.heap.size + 1 + 1) _ by rw [← hw7]; exact (R6.out.far (p := ⟨w.heap.size + 1, 0, none⟩) (by show w.heap.size + 1 + 1 ≠ w.heap.size + 1; omega) _).alloc _)
      have N7 := Lib.hid (show Bk 22 w7 w1.heap.size _ by rw [← hw7]; exact (N6.out.far (p := ⟨w.heap.size + 1, 0, none⟩) (by show w1.heap.size ≠ w.heap.size + 1; omega) _).alloc _)
      have L7 := Lib.hid (show Below w.heap.size w w7 by rw [← hw7]; exact (L6.out.setCell (p := ⟨w.heap.size + 1, 0, none⟩) (by show w.heap.size ≤ w.heap.size + 1; omega) _).alloc (by have := (L6.out.setCell (p := ⟨w.heap.size + 1, 0, none⟩) (by show w.heap.size ≤ w.heap.size + 1; omega) (.int .u64 (most % 400))).size; exact this) _)
      have J7 := Lib.hid (show Bk 3 w7 w6.heap.size [.int .i64 0] by rw [← hw7]; have := Bk.new 3 (w6.setCell ⟨w.heap.size + 1, 0, none⟩ (.int .u64 (most % 400))) [.int .i64 0]; rwa [show (w6.setCell ⟨w.heap.size + 1, 0, none⟩ (.int .u64 (most % 400))).heap.size = w6.heap.size by simp [World.setCell]] at this)
      clear m0 mf hfn hw7 hmm
      refine wpIn_rangeFunc_T rfl rfl (gf := 21) (lb := #[]) rfl trivial (enters_of Try.func21 (by kernel_rfl) rfl)
        (N := 0) (enc := fun _ _ => #[undef, undef]) (Rd := fun _ _ _ => True) (fun _ => False) (fun _ => False) (fun b h => h.elim) (fun b h => h) (fun b h => h.elim)
        (fun V hV => none_walks _ _ _ V rfl) (fun _ _ => rfl)
        (fun j V => Turn (fun _ => False) w7 V ∧ Bk 3 V w6.heap.size [.int .i64 0])
        (fun c V => False)
        (fun j => (stab_turn (Nat.le_refl _)).and (stab_bk (by omega)))
        (fun c => stab_pure _ _)
        ⟨Turn.refl _ _, J7.out⟩ (fun _ _ _ _ => False) (fun _ _ _ _ _ _ _ h _ => h.elim) (fun _ _ _ _ _ _ _ hj _ _ => absurd hj (by omega)) (fun _ _ _ _ _ _ _ _ hj _ => absurd hj (by omega)) ?done (fun _ _ _ _ h => h.elim)
      case done =>
        rintro D V hD ⟨hTV, hBV⟩ - hK
        have HTV := Lib.hid hTV
        have P8 := Lib.hid (P7.out.turn hTV (by simp))
        have M8 := Lib.hid (M7.out.turn hTV (by simp))
        have R8 := Lib.hid (R7.out.turn hTV (by simp))
        have N8 := Lib.hid (N7.out.turn hTV (by simp))
        have L8 := Lib.hid (L7.out.trans (hTV.below (B := w.heap.size) (by have := L7.out.size; omega) (fun b h => h.elim)))
        have n0 := hBV.c 0
        have w0 := N8.out.c 0
        have m0 := M8.out.c 0
        have x0 := P8.out.c 0
        have x1 := P8.out.c 1
        have x2 := P8.out.c 2
        have x3 := P8.out.c 3
        have x4 := P8.out.c 4
        simp only [List.getElem?_cons_zero, List.getElem?_cons_succ] at n0 w0 m0 x0 x1 x2 x3 x4
        have hc : IntKind.i64.wrap (mm : Int) = (mm : Int) := IntWalk.i64_in _ (by omega)
        have HMK := Lib.hid hK
        have hmn : min (0 : Int) (mm : Int) = 0 := by omega
        have HDD := Lib.hid hD
        clear hTV hBV hK
        gi_wp2_with fail
        clear n0 w0 m0 x0 x1 x2 x3 x4
        refine ⟨trivial, ?_⟩
        refine (HTH.out _ L8.out).mono ?_
        rintro e w9 ⟨rfl, hb9⟩
        rw [HHN.out]
        have R9 := Lib.hid (R8.out.next hb9)
        have L9 := Lib.hid (Gl.below_next L8.out hb9)
        have K9 := Lib.hid ((hb9.block D (Array.getElem?_eq_some_iff.1 HMK.out).1).trans HMK.out)
        clear hb9
        gi_wp2_with fail
        refine ⟨trivial, ?_⟩
        refine (HLV.out _).mono ?_
        rintro e w10 ⟨rfl, hb10⟩
        have R10 := Lib.hid (R9.out.next hb10)
        have L10 := Lib.hid (Gl.below_next L9.out hb10)
        have K10 := Lib.hid ((hb10.block D (Array.getElem?_eq_some_iff.1 K9.out).1).trans K9.out)
        clear hb10
        have r0 := R10.out.c 0
        have rf := R10.out.f 0
        simp only [List.getElem?_cons_zero] at r0
        gi_wp2
        have R11 := Lib.hid (R10.out.set_ 0 (.bool true))
        have L11 := Lib.hid (L10.out.setCell (p := ⟨w.heap.size + 1 + 1, 0, none⟩) (by show w.heap.size ≤ w.heap.size + 1 + 1; omega) (.bool true))
        refine leaves_marks (Marks.cons (B := w7.heap.size) HDD.out ((Below.heap_setCell w10 ⟨w.heap.size + 1 + 1, 0, none⟩ (.bool true) D (by show D ≠ w.heap.size + 1 + 1; have := HDD.out; omega)).trans K10.out) (fun e he => absurd he (by simp)) .nil) (fun V' hb' => ?_)
        have r11 := Bk.c (t := 4) (w := V') (g := w.heap.size + 1 + 1) (xs := [Value.bool true]) ((hb'.block (w.heap.size + 1 + 1) (by omega)).trans R11.out) 0
        exact ⟨_, res_bool rfl _ rfl r11, rfl, L11.out.trans (hb'.mono (by omega))⟩
set_option maxRecDepth 100000 in
set_option maxHeartbeats 16000000 in
theorem walks_great (nm : ByteArray) (da : Option Addr) (dims : List Int) (dc : Nat) (na : Option Addr) (nc : Nat) (nodes : List Nq) (fa : Option Addr) (defs : List Df) (fc : Nat) (rt : Int) (i : Int) (most : Int) (w : World) (hp : ProgIn w ⟨nm, da, dc, dims, na, nc, nodes, fa, fc, defs, rt⟩) (hf : ¬ FitP ⟨nm, da, dc, dims, na, nc, nodes, fa, fc, defs, rt⟩) : Calls Try.prog 3 #[progV ⟨nm, da, dc, dims, na, nc, nodes, fa, fc, defs, rt⟩, .int .i64 i, .int .u64 most] w (RetBl true w) := by
  have HLV := Lib.hid (fun W => callsIn_wide (n := 3 - 1).2 (lives_any W))
  have HG1 := Lib.hid (fun W (hw : Below w.heap.size w W) => callsIn_wide (n := 3 - 1).2 (great_any ⟨nm, da, dc, dims, na, nc, nodes, fa, fc, defs, rt⟩ W (hp.next hw)))
  have HNF := Lib.hid hf
  unfold progV at HG1 ⊢
  clear hp hf
  refine (callsIn_wide (n := 3)).1 ?_
  refine callsIn_of_wp_marks Try.func3 rfl trivial ?_
  simp only [Try.ntmps3, List.size_toArray, List.length_cons, List.length_nil, Nat.reduceAdd, Nat.reduceSub, Array.replicate_succ, Array.replicate_zero, List.push_toArray, List.append_toArray, List.nil_append, List.cons_append]
  gi_wp2_with fail
  obtain ⟨W0, hW0⟩ : ∃ W0, ((w.alloc (.cells #[.string nm, .slice da dims.length dc, .slice na nodes.length nc, .slice fa defs.length fc, .int .i64 rt] 26)).alloc (.cells #[.int .u64 most] 27)).alloc (.cells #[.bool false] 4) = W0 := ⟨_, rfl⟩
  have P0 := Lib.hid (show Bk 26 W0 w.heap.size [.string nm, .slice da dims.length dc, .slice na nodes.length nc, .slice fa defs.length fc, .int .i64 rt] by rw [← hW0]; exact ((Bk.new _ w _).alloc _).alloc _)
  have M0 := Lib.hid (show Bk 27 W0 (w.heap.size + 1) [.int .u64 most] by rw [← hW0]; have := (Bk.new 27 (w.alloc (.cells #[.string nm, .slice da dims.length dc, .slice na nodes.length nc, .slice fa defs.length fc, .int .i64 rt] 26)) [.int .u64 most]).alloc (.cells #[.bool false] 4); rwa [World.size_alloc] at this)
  have R0 := Lib.hid (show Bk 4 W0 (w.heap.size + 1 + 1) [.bool false] by rw [← hW0]; have := Bk.new 4 ((w.alloc (.cells #[.string nm, .slice da dims.length dc, .slice na nodes.length nc, .slice fa defs.length fc, .int .i64 rt] 26)).alloc (.cells #[.int .u64 most] 27)) [.bool false]; rwa [World.size_alloc, World.size_alloc] at this)
  have L0 := Lib.hid (show Below w.heap.size w W0 by rw [← hW0]; exact below_next (below_next (below_new w _) (below_new _ _)) (below_new _ _))
  rw [hW0]
  clear hW0
  refine ⟨trivial, ?_⟩
  refine (HG1.out _ L0.out).mono ?_
  rintro e w1 ⟨b1, rfl, hf1, hb1⟩
  have P1 := Lib.hid (P0.out.next hb1)
  have M1 := Lib.hid (M0.out.next hb1)
  have R1 := Lib.hid (R0.out.next hb1)
  have L1 := Lib.hid (Gl.below_next L0.out hb1)
  have HF1 := Lib.hid hf1
  clear hb1 hf1
  cases b1 with
  | true =>
    gi_wp2_with fail
    refine ⟨trivial, ?_⟩
    refine (HLV.out _).mono ?_
    rintro e w2 ⟨rfl, hb2⟩
    have R2 := Lib.hid (R1.out.next hb2)
    have L2 := Lib.hid (Gl.below_next L1.out hb2)
    have r0 := R2.out.c 0
    have rf := R2.out.f 0
    have r1 := (R2.out.set_ 0 (.bool true)).c 0
    simp only [List.getElem?_cons_zero, List.getElem?_cons_succ, List.set_cons_zero] at r0 r1
    gi_wp2
    refine ⟨_, res_bool rfl _ rfl r1, rfl, L2.out.setCell (p := ⟨w.heap.size + 1 + 1, 0, none⟩) (by show w.heap.size ≤ w.heap.size + 1 + 1; omega) _⟩
  | false => exact absurd (HF1.out rfl) HNF.out
theorem walks_any (p : Pq) (i : Int) (most : Int) (w : World) (hp : ProgIn w p) (hm0 : 0 ≤ most) : Calls Try.prog 3 #[progV p, .int .i64 i, .int .u64 most] w (RetBl true w) := by
  by_cases hf : FitP p
  · by_cases h : thereB p.nodes.length i = true ∧ rightT p = true
    · have h1 := h.1
      unfold thereB at h1
      simp only [Bool.and_eq_true, decide_eq_true_eq] at h1
      obtain ⟨k, rfl⟩ : ∃ k : Nat, i = (k : Int) := ⟨i.toNat, by omega⟩
      exact walks_yes p k most w hp hf hm0 h.2 (by omega)
    · exact walks_no p.name p.da p.dims p.dc p.na p.nc p.nodes p.fa p.defs p.fc p.root i most w hp hf hm0 h
  · exact walks_great p.name p.da p.dims p.dc p.na p.nc p.nodes p.fa p.defs p.fc p.root i most w hp hf
end Go.Proofs.Ytffccemipkhjnaa.Tr
