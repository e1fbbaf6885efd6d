/-
  Layer 18, tree: rifflelaw18.TreeCounts. No condition but that the program lies in memory.
-/
import Derived.Test.YtffccemipkhjnaaTrWalks
set_option maxRecDepth 100000
namespace Go.Proofs.Ytffccemipkhjnaa.Tr
open Go.Proofs.Ytffccemipkhjnaa.Sh Go.Proofs.Ytffccemipkhjnaa.St
open Go.RowKit
set_option linter.unusedVariables false
set_option linter.unusedSimpArgs false
attribute [local go_sem] Oper.semAt_some

theorem cut_then {F : Fence} {n : Nat} {P : Program} {c : Code} {K : Act → World → Prop} {Q : Exit → Act → World → Prop} {a : Act} {w : World} (R : Act → World → Prop) (h1 : c.wpIn F n P (Exit.then R (fun _ _ _ => False)) a w) (h2 : ∀ a' w', R a' w' → K a' w') : c.wpIn F n P (Exit.then K Q) a w :=
  wpIn_mono h1 (fun e a w hh => by cases e <;> first | exact h2 _ _ hh | exact hh.elim)
/-- The least of what came. -/
def leastL (i : Int) (l : List Int) : Int := l.foldl min i
theorem least_snoc (i : Int) (l : List Int) (x : Int) : leastL i (l ++ [x]) = min (leastL i l) x := by simp [leastL]
theorem least_of : ∀ (l : List Int) (i a : Int), a < i → (∀ x ∈ l, a < x) → ((a + 1) ∈ l ∨ i = a + 1) → leastL i l = a + 1
  | [], i, a, h, _, hm => by
    rcases hm with hm | hm
    · simp at hm
    · exact hm
  | x :: r, i, a, h, hl, hm => by
    have hx := hl x List.mem_cons_self
    show leastL (min i x) r = a + 1
    refine least_of r (min i x) a (by omega) (fun y hy => hl y (List.mem_cons_of_mem _ hy)) ?_
    rcases hm with hm | hm
    · rcases List.mem_cons.1 hm with hm | hm
      · right; omega
      · exact .inl hm
    · right; omega
theorem span_least {l : List Int} {a i : Int} (h : Span l a i) (hai : a < i) : leastL i l = a + 1 :=
  least_of l i a hai (fun x hx => ((h.mem x).1 hx).1) (.inl ((h.mem (a + 1)).2 ⟨by omega, by omega⟩))
set_option maxRecDepth 100000 in
set_option maxHeartbeats 16000000 in
theorem counts_great (nm : ByteArray) (da : Option Addr) (dims : List Int) (dc : Nat) (na : Option Addr) (nc : Nat) (nodes : List Nq) (fa : Option Addr) (defs : List Df) (fc : Nat) (rt : Int) (at_ : Int) (w : World) (hp : ProgIn w ⟨nm, da, dc, dims, na, nc, nodes, fa, fc, defs, rt⟩) (hf : ¬ FitP ⟨nm, da, dc, dims, na, nc, nodes, fa, fc, defs, rt⟩) : Calls Try.prog 4 #[progV ⟨nm, da, dc, dims, na, nc, nodes, fa, fc, defs, rt⟩, .int .u64 at_] w (RetBl true w) := by
  have HLV := Lib.hid (fun W => callsIn_wide (n := 3 - 1).2 (lives_any W))
  have HG1 := Lib.hid (fun W (hw : Below w.heap.size w W) => callsIn_wide (n := 3 - 1).2 (great_any ⟨nm, da, dc, dims, na, nc, nodes, fa, fc, defs, rt⟩ W (hp.next hw)))
  have HNF := Lib.hid hf
  unfold progV at HG1 ⊢
  clear hp hf
  refine (callsIn_wide (n := 3)).1 ?_
  refine callsIn_of_wp_marks Try.func4 rfl trivial ?_
  simp only [Try.ntmps4, List.size_toArray, List.length_cons, List.length_nil, Nat.reduceAdd, Nat.reduceSub, Array.replicate_succ, Array.replicate_zero, List.push_toArray, List.append_toArray, List.nil_append, List.cons_append]
  gi_wp2_with fail
  obtain ⟨W0, hW0⟩ : ∃ W0, (w.alloc (.cells #[.string nm, .slice da dims.length dc, .slice na nodes.length nc, .slice fa defs.length fc, .int .i64 rt] 26)).alloc (.cells #[.bool false] 4) = W0 := ⟨_, rfl⟩
  have P0 := Lib.hid (show Bk 26 W0 w.heap.size [.string nm, .slice da dims.length dc, .slice na nodes.length nc, .slice fa defs.length fc, .int .i64 rt] by rw [← hW0]; exact (Bk.new _ w _).alloc _)
  have R0 := Lib.hid (show Bk 4 W0 (w.heap.size + 1) [.bool false] by rw [← hW0]; have := Bk.new 4 (w.alloc (.cells #[.string nm, .slice da dims.length dc, .slice na nodes.length nc, .slice fa defs.length fc, .int .i64 rt] 26)) [.bool false]; rwa [World.size_alloc] at this)
  have L0 := Lib.hid (show Below w.heap.size w W0 by rw [← hW0]; exact below_next (below_new w _) (below_new _ _))
  rw [hW0]
  clear hW0
  refine ⟨trivial, ?_⟩
  refine (HG1.out _ L0.out).mono ?_
  rintro e w1 ⟨b1, rfl, hf1, hb1⟩
  have P1 := Lib.hid (P0.out.next hb1)
  have R1 := Lib.hid (R0.out.next hb1)
  have L1 := Lib.hid (Gl.below_next L0.out hb1)
  have HF1 := Lib.hid hf1
  clear hb1 hf1
  cases b1 with
  | true =>
    gi_wp2_with fail
    refine ⟨trivial, ?_⟩
    gi_wp2_with fail
    refine ⟨trivial, ?_⟩
    refine (HLV.out _).mono ?_
    rintro e wz ⟨rfl, hbz⟩
    have RZ := Lib.hid (R1.out.next hbz)
    have LZ := Lib.hid (Gl.below_next L1.out hbz)
    have r0 := RZ.out.c 0
    have rf := RZ.out.f 0
    have r1 := (RZ.out.set_ 0 (.bool true)).c 0
    simp only [List.getElem?_cons_zero, List.getElem?_cons_succ, List.set_cons_zero] at r0 r1
    gi_wp2
    refine ⟨_, res_bool rfl _ rfl r1, rfl, LZ.out.setCell (p := ⟨w.heap.size + 1, 0, none⟩) (by show w.heap.size ≤ w.heap.size + 1; omega) _⟩
  | false => exact absurd (HF1.out rfl) HNF.out
set_option maxRecDepth 100000 in
set_option maxHeartbeats 16000000 in
theorem counts_no (nm : ByteArray) (da : Option Addr) (dims : List Int) (dc : Nat) (na : Option Addr) (nc : Nat) (nodes : List Nq) (fa : Option Addr) (defs : List Df) (fc : Nat) (rt : Int) (at_ : Int) (w : World) (hp : ProgIn w ⟨nm, da, dc, dims, na, nc, nodes, fa, fc, defs, rt⟩) (hf : FitP ⟨nm, da, dc, dims, na, nc, nodes, fa, fc, defs, rt⟩) (hr : rightT ⟨nm, da, dc, dims, na, nc, nodes, fa, fc, defs, rt⟩ = false) : Calls Try.prog 4 #[progV ⟨nm, da, dc, dims, na, nc, nodes, fa, fc, defs, rt⟩, .int .u64 at_] w (RetBl true w) := by
  have HLV := Lib.hid (fun W => callsIn_wide (n := 3 - 1).2 (lives_any W))
  have HG1 := Lib.hid (fun W (hw : Below w.heap.size w W) => callsIn_wide (n := 3 - 1).2 (great_any ⟨nm, da, dc, dims, na, nc, nodes, fa, fc, defs, rt⟩ W (hp.next hw)))
  have HRT := Lib.hid (fun W (hw : Below w.heap.size w W) => callsIn_wide (n := 3 - 1).2 (right_b ⟨nm, da, dc, dims, na, nc, nodes, fa, fc, defs, rt⟩ false W (hp.next hw) hf hr))
  unfold progV at HG1 HRT ⊢
  clear hp hf hr
  refine (callsIn_wide (n := 3)).1 ?_
  refine callsIn_of_wp_marks Try.func4 rfl trivial ?_
  simp only [Try.ntmps4, List.size_toArray, List.length_cons, List.length_nil, Nat.reduceAdd, Nat.reduceSub, Array.replicate_succ, Array.replicate_zero, List.push_toArray, List.append_toArray, List.nil_append, List.cons_append]
  gi_wp2_with fail
  obtain ⟨W0, hW0⟩ : ∃ W0, (w.alloc (.cells #[.string nm, .slice da dims.length dc, .slice na nodes.length nc, .slice fa defs.length fc, .int .i64 rt] 26)).alloc (.cells #[.bool false] 4) = W0 := ⟨_, rfl⟩
  have P0 := Lib.hid (show Bk 26 W0 w.heap.size [.string nm, .slice da dims.length dc, .slice na nodes.length nc, .slice fa defs.length fc, .int .i64 rt] by rw [← hW0]; exact (Bk.new _ w _).alloc _)
  have R0 := Lib.hid (show Bk 4 W0 (w.heap.size + 1) [.bool false] by rw [← hW0]; have := Bk.new 4 (w.alloc (.cells #[.string nm, .slice da dims.length dc, .slice na nodes.length nc, .slice fa defs.length fc, .int .i64 rt] 26)) [.bool false]; rwa [World.size_alloc] at this)
  have L0 := Lib.hid (show Below w.heap.size w W0 by rw [← hW0]; exact below_next (below_new w _) (below_new _ _))
  rw [hW0]
  clear hW0
  refine ⟨trivial, ?_⟩
  refine (HG1.out _ L0.out).mono ?_
  rintro e w1 ⟨b1, rfl, hf1, hb1⟩
  have P1 := Lib.hid (P0.out.next hb1)
  have R1 := Lib.hid (R0.out.next hb1)
  have L1 := Lib.hid (Gl.below_next L0.out hb1)
  have HF1 := Lib.hid hf1
  clear hb1 hf1
  cases b1 with
  | true =>
    gi_wp2_with fail
    refine ⟨trivial, ?_⟩
    gi_wp2_with fail
    refine ⟨trivial, ?_⟩
    refine (HLV.out _).mono ?_
    rintro e wz ⟨rfl, hbz⟩
    have RZ := Lib.hid (R1.out.next hbz)
    have LZ := Lib.hid (Gl.below_next L1.out hbz)
    have r0 := RZ.out.c 0
    have rf := RZ.out.f 0
    have r1 := (RZ.out.set_ 0 (.bool true)).c 0
    simp only [List.getElem?_cons_zero, List.getElem?_cons_succ, List.set_cons_zero] at r0 r1
    gi_wp2
    refine ⟨_, res_bool rfl _ rfl r1, rfl, LZ.out.setCell (p := ⟨w.heap.size + 1, 0, none⟩) (by show w.heap.size ≤ w.heap.size + 1; omega) _⟩
  | false =>
  have x0 := P1.out.c 0
  have x1 := P1.out.c 1
  have x2 := P1.out.c 2
  have x3 := P1.out.c 3
  have x4 := P1.out.c 4
  simp only [List.getElem?_cons_zero, List.getElem?_cons_succ] at x0 x1 x2 x3 x4
  gi_wp2_with fail
  clear x0 x1 x2 x3 x4
  refine ⟨trivial, ?_⟩
  refine (HRT.out _ L1.out).mono ?_
  rintro e w2 ⟨rfl, hb2⟩
  have P2 := Lib.hid (P1.out.next hb2)
  have R2 := Lib.hid (R1.out.next hb2)
  have L2 := Lib.hid (Gl.below_next L1.out hb2)
  clear hb2
  gi_wp2_with fail
  refine ⟨trivial, ?_⟩
  refine (HLV.out _).mono ?_
  rintro e wz ⟨rfl, hbz⟩
  have RZ := Lib.hid (R2.out.next hbz)
  have LZ := Lib.hid (Gl.below_next L2.out hbz)
  have r0 := RZ.out.c 0
  have rf := RZ.out.f 0
  have r1 := (RZ.out.set_ 0 (.bool true)).c 0
  simp only [List.getElem?_cons_zero, List.getElem?_cons_succ, List.set_cons_zero] at r0 r1
  gi_wp2
  refine ⟨_, res_bool rfl _ rfl r1, rfl, LZ.out.setCell (p := ⟨w.heap.size + 1, 0, none⟩) (by show w.heap.size ≤ w.heap.size + 1; omega) _⟩
set_option maxRecDepth 100000 in
set_option maxHeartbeats 16000000 in
theorem counts_yes (nm : ByteArray) (da : Option Addr) (dims : List Int) (dc : Nat) (na : Option Addr) (nc : Nat) (nodes : List Nq) (fa : Option Addr) (defs : List Df) (fc : Nat) (rt : Int) (at_ : Int) (w : World) (hp : ProgIn w ⟨nm, da, dc, dims, na, nc, nodes, fa, fc, defs, rt⟩) (hf : FitP ⟨nm, da, dc, dims, na, nc, nodes, fa, fc, defs, rt⟩) (hr : rightT ⟨nm, da, dc, dims, na, nc, nodes, fa, fc, defs, rt⟩ = true) (k : Nat) (hk : k < nodes.length) (h0 : 0 ≤ at_ ∧ at_ < 18446744073709551616) (hat : at_ % (nodes.length : Int) = (k : Int)) : Calls Try.prog 4 #[progV ⟨nm, da, dc, dims, na, nc, nodes, fa, fc, defs, rt⟩, .int .u64 at_] w (RetBl true w) := by
  have HLV := Lib.hid (fun W => callsIn_wide (n := 3 - 1).2 (lives_any W))
  have HG1 := Lib.hid (fun W (hw : Below w.heap.size w W) => callsIn_wide (n := 3 - 1).2 (great_any ⟨nm, da, dc, dims, na, nc, nodes, fa, fc, defs, rt⟩ W (hp.next hw)))
  have HRT := Lib.hid (fun W (hw : Below w.heap.size w W) => callsIn_wide (n := 3 - 1).2 (right_b ⟨nm, da, dc, dims, na, nc, nodes, fa, fc, defs, rt⟩ true W (hp.next hw) hf hr))
  have HTW := Lib.hid (fun W (hw : Below w.heap.size w W) => callsIn_wide (n := 3 - 1).2 (walk_right nm da dims dc na nc nodes fa defs fc rt k W (hp.next hw) hf hr hk))
  have HTH := Lib.hid (fun W (i : Int) (hw : Below w.heap.size w W) => callsIn_wide (n := 3 - 1).2 (high_any ⟨nm, da, dc, dims, na, nc, nodes, fa, fc, defs, rt⟩ i W (hp.next hw) hf))
  have HR := Lib.hid hr
  have HP := Lib.hid hp
  have HF := Lib.hid hf
  have HK := Lib.hid hk
  have HA := Lib.hid (ahead_right hr)
  have h320 : nodes.length ≤ 320 := hf.nodes
  have hAT := Lib.hid hat
  have H0 := Lib.hid h0
  unfold progV at HG1 HRT HTW HTH ⊢
  clear hp hf hr hat
  refine (callsIn_wide (n := 3)).1 ?_
  refine callsIn_of_wp_marks Try.func4 rfl trivial ?_
  simp only [Try.ntmps4, List.size_toArray, List.length_cons, List.length_nil, Nat.reduceAdd, Nat.reduceSub, Array.replicate_succ, Array.replicate_zero, List.push_toArray, List.append_toArray, List.nil_append, List.cons_append]
  gi_wp2_with fail
  obtain ⟨W0, hW0⟩ : ∃ W0, (w.alloc (.cells #[.string nm, .slice da dims.length dc, .slice na nodes.length nc, .slice fa defs.length fc, .int .i64 rt] 26)).alloc (.cells #[.bool false] 4) = W0 := ⟨_, rfl⟩
  have P0 := Lib.hid (show Bk 26 W0 w.heap.size [.string nm, .slice da dims.length dc, .slice na nodes.length nc, .slice fa defs.length fc, .int .i64 rt] by rw [← hW0]; exact (Bk.new _ w _).alloc _)
  have R0 := Lib.hid (show Bk 4 W0 (w.heap.size + 1) [.bool false] by rw [← hW0]; have := Bk.new 4 (w.alloc (.cells #[.string nm, .slice da dims.length dc, .slice na nodes.length nc, .slice fa defs.length fc, .int .i64 rt] 26)) [.bool false]; rwa [World.size_alloc] at this)
  have L0 := Lib.hid (show Below w.heap.size w W0 by rw [← hW0]; exact below_next (below_new w _) (below_new _ _))
  rw [hW0]
  clear hW0
  refine ⟨trivial, ?_⟩
  refine (HG1.out _ L0.out).mono ?_
  rintro e w1 ⟨b1, rfl, hf1, hb1⟩
  have P1 := Lib.hid (P0.out.next hb1)
  have R1 := Lib.hid (R0.out.next hb1)
  have L1 := Lib.hid (Gl.below_next L0.out hb1)
  have HF1 := Lib.hid hf1
  clear hb1 hf1
  cases b1 with
  | true =>
    gi_wp2_with fail
    refine ⟨trivial, ?_⟩
    gi_wp2_with fail
    refine ⟨trivial, ?_⟩
    refine (HLV.out _).mono ?_
    rintro e wz ⟨rfl, hbz⟩
    have RZ := Lib.hid (R1.out.next hbz)
    have LZ := Lib.hid (Gl.below_next L1.out hbz)
    have r0 := RZ.out.c 0
    have rf := RZ.out.f 0
    have r1 := (RZ.out.set_ 0 (.bool true)).c 0
    simp only [List.getElem?_cons_zero, List.getElem?_cons_succ, List.set_cons_zero] at r0 r1
    gi_wp2
    refine ⟨_, res_bool rfl _ rfl r1, rfl, LZ.out.setCell (p := ⟨w.heap.size + 1, 0, none⟩) (by show w.heap.size ≤ w.heap.size + 1; omega) _⟩
  | false =>
  have x0 := P1.out.c 0
  have x1 := P1.out.c 1
  have x2 := P1.out.c 2
  have x3 := P1.out.c 3
  have x4 := P1.out.c 4
  simp only [List.getElem?_cons_zero, List.getElem?_cons_succ] at x0 x1 x2 x3 x4
  gi_wp2_with fail
  clear x0 x1 x2 x3 x4
  refine ⟨trivial, ?_⟩
  refine (HRT.out _ L1.out).mono ?_
  rintro e w2 ⟨rfl, hb2⟩
  have P2 := Lib.hid (P1.out.next hb2)
  have R2 := Lib.hid (R1.out.next hb2)
  have L2 := Lib.hid (Gl.below_next L1.out hb2)
  clear hb2
  have x0 := P2.out.c 0
  have x1 := P2.out.c 1
  have x2 := P2.out.c 2
  have x3 := P2.out.c 3
  have x4 := P2.out.c 4
  simp only [List.getElem?_cons_zero, List.getElem?_cons_succ] at x0 x1 x2 x3 x4
  have z0 : decide (nodes.length = 0) = false := decide_eq_false (by omega)
  have z1 : decide ((nodes.length : Int) = 0) = false := decide_eq_false (by omega)
  have z2 : ((nodes.length : Int) == 0) = false := by rw [beq_eq_false_iff_ne]; omega
  have c1 : IntKind.u64.wrap (nodes.length : Int) = (nodes.length : Int) := IntWalk.u64_in _ (by omega)
  have hat := hAT.out
  have c2 : IntKind.i64.wrap (k : Int) = (k : Int) := IntWalk.i64_in _ (by omega)
  have y2 := (P2.out.alloc (.cells #[.int .i64 (k : Int)] 3)).c 2
  simp only [List.getElem?_cons_zero, List.getElem?_cons_succ] at y2
  have hmk := fun W => run_make_row' (P := Try.prog) 40 4 (.bool false) 1 Try.underlying40 infoBool rfl .i64 .i64 nodes.length (by omega) (by omega) W
  gi_wp2_with fail
  obtain ⟨W3, hW3⟩ : ∃ W3, ((w2.alloc (.cells #[.int .i64 (k : Int)] 3)).alloc (.cells (madeCells #[.bool false] nodes.length) 4)).alloc (.cells #[.slice (some ⟨w2.heap.size + 1, 0, none⟩) nodes.length nodes.length] 40) = W3 := ⟨_, rfl⟩
  rw [hW3]
  have hz3 : W3.heap.size = w2.heap.size + 1 + 1 + 1 := by rw [← hW3]; simp
  have e1 : (w2.alloc (.cells #[.int .i64 (k : Int)] 3)).heap.size = w2.heap.size + 1 := by simp
  have hz2 : w.heap.size + 1 < w2.heap.size := R2.out.lt
  have P3 := Lib.hid (show Bk 26 W3 w.heap.size _ by rw [← hW3]; exact ((P2.out.alloc _).alloc _).alloc _)
  have R3 := Lib.hid (show Bk 4 W3 (w.heap.size + 1) _ by rw [← hW3]; exact ((R2.out.alloc _).alloc _).alloc _)
  have K3 := Lib.hid (show Bk 3 W3 w2.heap.size [.int .i64 (k : Int)] by rw [← hW3]; exact ((Bk.new _ w2 _).alloc _).alloc _)
  have B3 := Lib.hid (show OwnB W3 (w2.heap.size + 1) nodes.length (fun _ => false) by rw [← hW3]; have h := OwnB.made (w2.alloc (.cells #[.int .i64 (k : Int)] 3)) nodes.length; rw [e1] at h; exact (Below.heap_alloc _ _ _ (by simp)).trans h)
  have H3 := Lib.hid (show Bk 40 W3 (w2.heap.size + 1 + 1) [.slice (some ⟨w2.heap.size + 1, 0, none⟩) nodes.length nodes.length] by rw [← hW3]; have h := Bk.new 40 ((w2.alloc (.cells #[.int .i64 (k : Int)] 3)).alloc (.cells (madeCells #[.bool false] nodes.length) 4)) [.slice (some ⟨w2.heap.size + 1, 0, none⟩) nodes.length nodes.length]; rwa [World.size_alloc, World.size_alloc] at h)
  have L3 := Lib.hid (show Below w.heap.size w W3 by rw [← hW3]; exact below_next (below_next (below_next L2.out (below_new _ _)) (below_new _ _)) (below_new _ _))
  have k0 := K3.out.c 0
  simp only [List.getElem?_cons_zero] at k0
  have HZ3 := Lib.hid hz3
  clear hz3 hat hW3 e1 y2 x0 x1 x2 x3 x4 hmk
  refine cut_then (fun a' w' => ∃ g7 g8 : Nat, a' = { tmps := #[.agg #[.string nm, .slice da dims.length dc, .slice na nodes.length nc, .slice fa defs.length fc, .int .i64 rt], .int .u64 at_, .pointer (some ⟨w.heap.size, 0, none⟩), undef, .pointer (some ⟨w.heap.size + 1, 0, none⟩), .pointer (some ⟨w2.heap.size, 0, none⟩), .pointer (some ⟨w2.heap.size + 1 + 1, 0, none⟩), .pointer (some ⟨g7, 0, none⟩), .pointer (some ⟨g8, 0, none⟩), undef, undef, undef, undef, .agg #[.string nm, .slice da dims.length dc, .slice na nodes.length nc, .slice fa defs.length fc, .int .i64 rt], .bool false, .bool false, .agg #[.string nm, .slice da dims.length dc, .slice na nodes.length nc, .slice fa defs.length fc, .int .i64 rt], .bool true, .bool false, .bool false, .bool false, .pointer (some ⟨w.heap.size, 2, none⟩), .slice na nodes.length nc, .int .i64 (nodes.length : Int), .bool false, .bool false, undef, .int .u64 at_, .pointer (some ⟨w.heap.size, 2, none⟩), .slice na nodes.length nc, .int .i64 (nodes.length : Int), .int .u64 (nodes.length : Int), .int .u64 (at_ % (nodes.length : Int)), .int .i64 (k : Int), .pointer (some ⟨w.heap.size, 2, none⟩), .slice na nodes.length nc, .int .i64 (nodes.length : Int), .slice (some ⟨w2.heap.size + 1, 0, none⟩) nodes.length nodes.length, .int .i64 (k : Int), undef, undef, undef, undef, undef, undef, undef, undef, undef, undef, undef, undef, undef, undef, undef, undef, undef, undef, undef, undef, undef, undef, undef, undef, undef, undef, undef, undef, undef, undef, undef, undef, undef, undef, undef, undef, undef, undef, undef, undef, undef, undef, undef, undef, undef, undef, undef, undef, undef, undef, undef, undef, undef, undef, undef, undef, undef, undef, undef, undef], defers := [] } ∧ g7 ≠ g8 ∧ W3.heap.size ≤ g7 ∧ W3.heap.size ≤ g8 ∧ Bk 3 w' g7 [.int .i64 0] ∧ Bk 3 w' g8 [.int .i64 (k : Int)] ∧ Below W3.heap.size W3 w') ?_ ?_
  · refine wpIn_wide.2 ?_
    have A1 := Lib.hid (show Bk 3 ((W3.alloc (.cells #[.int .i64 0] 3)).alloc (.cells #[.int .i64 (k : Int)] 3)).drew W3.heap.size [.int .i64 0] from (Bk.new _ W3 _).alloc _)
    have A2 := Lib.hid (show Bk 3 ((W3.alloc (.cells #[.int .i64 0] 3)).alloc (.cells #[.int .i64 (k : Int)] 3)).drew (W3.heap.size + 1) [.int .i64 (k : Int)] by have := Bk.new 3 (W3.alloc (.cells #[.int .i64 0] 3)) [.int .i64 (k : Int)]; rw [World.size_alloc] at this; exact this)
    have A3 := Lib.hid (show Below W3.heap.size W3 ((W3.alloc (.cells #[.int .i64 0] 3)).alloc (.cells #[.int .i64 (k : Int)] 3)).drew from (below_next (below_new W3 _) (below_new _ _)).drew)
    have B1 := Lib.hid (show Bk 3 ((W3.alloc (.cells #[.int .i64 (k : Int)] 3)).alloc (.cells #[.int .i64 0] 3)).drew W3.heap.size [.int .i64 (k : Int)] from (Bk.new _ W3 _).alloc _)
    have B2 := Lib.hid (show Bk 3 ((W3.alloc (.cells #[.int .i64 (k : Int)] 3)).alloc (.cells #[.int .i64 0] 3)).drew (W3.heap.size + 1) [.int .i64 0] by have := Bk.new 3 (W3.alloc (.cells #[.int .i64 (k : Int)] 3)) [.int .i64 0]; rw [World.size_alloc] at this; exact this)
    have BB := Lib.hid (show Below W3.heap.size W3 ((W3.alloc (.cells #[.int .i64 (k : Int)] 3)).alloc (.cells #[.int .i64 0] 3)).drew from (below_next (below_new W3 _) (below_new _ _)).drew)
    have q1 : ∀ o, (W3.alloc o).cell? ⟨w2.heap.size, 0, none⟩ = some (.int .i64 (k : Int)) := fun o => (K3.out.alloc o).c 0
    have q2 : ∀ o o', ((W3.alloc o).alloc o').cell? ⟨w2.heap.size, 0, none⟩ = some (.int .i64 (k : Int)) := fun o o' => ((K3.out.alloc o).alloc o').c 0
    go_region
    · exact ⟨W3.heap.size, W3.heap.size + 1, rfl, by omega, Nat.le_refl _, by omega, A1.out, A2.out, A3.out⟩
    · exact ⟨W3.heap.size + 1, W3.heap.size, rfl, by omega, by omega, Nat.le_refl _, B2.out, B1.out, BB.out⟩
  rintro a' W4 ⟨g7, g8, rfl, hg78, hg7, hg8, hb7, hb8, hb4⟩
  have hz3 := HZ3.out
  have P4 := Lib.hid (P3.out.next hb4)
  have R4 := Lib.hid (R3.out.next hb4)
  have K4 := Lib.hid (K3.out.next hb4)
  have B4 := Lib.hid (show OwnB W4 (w2.heap.size + 1) nodes.length (fun _ => false) from (hb4.block (w2.heap.size + 1) (by omega)).trans B3.out)
  have H4 := Lib.hid (H3.out.next hb4)
  have L4 := Lib.hid (Gl.below_next L3.out hb4)
  have N4 := Lib.hid hb7
  have S4 := Lib.hid hb8
  have hz4 := hb4.size
  have k4 := K4.out.c 0
  have x0 := P4.out.c 0
  have x1 := P4.out.c 1
  have x2 := P4.out.c 2
  have x3 := P4.out.c 3
  have x4 := P4.out.c 4
  simp only [List.getElem?_cons_zero, List.getElem?_cons_succ] at x0 x1 x2 x3 x4
  simp only [List.getElem?_cons_zero] at k4
  clear hb7 hb8 hb4 k0
  gi_wp2_with fail
  refine ⟨trivial, ?_⟩
  refine (HTW.out _ L4.out).mono ?_
  rintro e w6 ⟨g6, bi, bn, cs, rfl, hcl, hcs, hb6, hg6, hbi, hbn, hbi2, hbn2, hli⟩
  have P6 := Lib.hid (P4.out.next hb6)
  have R6 := Lib.hid (R4.out.next hb6)
  have K6 := Lib.hid (K4.out.next hb6)
  have B6 := Lib.hid (show OwnB w6 (w2.heap.size + 1) nodes.length (fun _ => false) from (hb6.block (w2.heap.size + 1) (by omega)).trans B4.out)
  have H6 := Lib.hid (H4.out.next hb6)
  have N6 := Lib.hid (N4.out.next hb6)
  have S6 := Lib.hid (S4.out.next hb6)
  have L6 := Lib.hid (Gl.below_next L4.out hb6)
  have C6 := Lib.hid (⟨hcl, hcs, hg6, hbi, hbn, hbi2, hbn2, hli, hb6⟩ : _ ∧ _ ∧ _ ∧ _ ∧ _ ∧ _ ∧ _ ∧ _ ∧ _)
  clear hcl hcs hg6 hbi hbn hbi2 hbn2 hli hb6 x0 x1 x2 x3 x4 k4
  unfold downV
  gi_wp2_with fail
  have HC := Lib.hid (walk_copies HA.out C6.out.1 (by show k + 1 ≤ nodes.length; omega) C6.out.2.1)
  have hwn : walkL cs (k : Int) = walkL nodes (k : Int) := HC.out.2 k (by omega)
  obtain ⟨sa, hsa, hsp⟩ := walk_span HR.out k hk
  have hsp : Span (walkL nodes (k : Int)) sa (k : Int) := hsp
  have HSP := Lib.hid hsp
  have HSA := Lib.hid (show -1 ≤ sa by
    rcases Int.lt_or_le sa (-1) with h' | h'
    · have := (walk_mem HA.out k hk _ ((hsp.mem (-1)).2 ⟨h', by omega⟩)).1
      omega
    · exact h')
  have hatN : Hid (∀ (m : Nat) (q : Nq), cs[m]? = some q → ∃ q', nodes[m]? = some q' ∧ q'.n = q.n) := Lib.hid (fun m q hq => by
    have hk : m < k + 1 := by have := (List.getElem?_eq_some_iff.1 hq).1; have := C6.out.1; omega
    have h1 : (cs.map (·.n))[m]? = some q.n := by rw [List.getElem?_map, hq]; rfl
    rw [C6.out.2.1, List.getElem?_map, List.getElem?_take_of_lt hk] at h1
    obtain ⟨q', h2, h3⟩ := Option.map_eq_some_iff.1 h1
    exact ⟨q', h2, h3⟩)
  have HW := Lib.hid (down1_walks cs HC.out.1 (fun q hq => by
    obtain ⟨m, hm⟩ := List.getElem?_of_mem hq
    obtain ⟨q', h1, h2⟩ := hatN.out m q hm
    have h3 := HF.out.kids q' (List.mem_of_getElem? h1)
    have h4 := HF.out.nums q' (List.mem_of_getElem? h1)
    rw [h2] at h3 h4
    omega) (by have := C6.out.1; omega) k (by have := C6.out.1; omega) bi bn (some ⟨g6, 0, none⟩) (k + 1))
  have hz46 : W4.heap.size ≤ w6.heap.size := C6.out.2.2.2.2.2.2.2.2.size
  have h7lt : g7 < w6.heap.size := N6.out.lt
  have h8lt : g8 < w6.heap.size := S6.out.lt
  have h74 : g7 < W4.heap.size := N4.out.lt
  have h84 : g8 < W4.heap.size := S4.out.lt
  refine wpIn_rangeFunc_T rfl rfl (gf := 36) (lb := #[.pointer (some ⟨bi, 0, none⟩), .pointer (some ⟨bn, 0, none⟩)]) rfl trivial (enters_of Try.func36 (by kernel_rfl) rfl)
    (N := (walkL cs (k : Int)).length) (enc := encW cs k) (Rd := RdW cs k) (fun b => b = g7 ∨ b = g8 ∨ b = w2.heap.size + 1) (fun b => b = g7 ∨ b = g8 ∨ b = w2.heap.size + 1) (fun b h => by omega) (fun b h => h) (fun b h => by omega)
    (fun V hV => HW.out V (fun b => b = g7 ∨ b = g8 ∨ b = w2.heap.size + 1) (fun b h => by have := hV.size; omega) (fun V' hV' => C6.out.2.2.2.2.2.2.2.1 (fun b => b = g7 ∨ b = g8 ∨ b = w2.heap.size + 1) V' (fun b h => by omega) ((Turn.of_below _ hV).trans hV')))
    (fun _ _ => rfl)
    (fun j V => Turn (fun b => b = g7 ∨ b = g8 ∨ b = w2.heap.size + 1) w6 V ∧ Bk 3 V g7 [.int .i64 (j : Int)] ∧ Bk 3 V g8 [.int .i64 (leastL (k : Int) ((walkL nodes (k : Int)).take j))] ∧ OwnB V (w2.heap.size + 1) nodes.length (fun m => decide ((m : Int) ∈ (walkL nodes (k : Int)).take j)))
    (fun c V => False)
    (fun j => (stab_turn (Nat.le_refl _)).and ((stab_bk h7lt).and ((stab_bk h8lt).and (fun A C ha hb => (hb.block _ (by omega)).trans ha))))
    (fun c => stab_pure _ _)
    ⟨Turn.refl _ _, N6.out, by rw [List.take_zero]; exact S6.out, by simp only [List.take_zero]; exact B6.out.congr (fun j _ => by simp)⟩
    (fun j v a' V => ∃ (p : Nat) (t42 : Value) (v' : Value), (walkL nodes (k : Int))[j]? = some (p : Int) ∧ a' = (fun t9 t42 t43 => ({ tmps := #[.agg #[.string nm, .slice da dims.length dc, .slice na nodes.length nc, .slice fa defs.length fc, .int .i64 rt], .int .u64 at_, .pointer (some ⟨w.heap.size, 0, none⟩), undef, .pointer (some ⟨w.heap.size + 1, 0, none⟩), .pointer (some ⟨w2.heap.size, 0, none⟩), .pointer (some ⟨w2.heap.size + 1 + 1, 0, none⟩), .pointer (some ⟨g7, 0, none⟩), .pointer (some ⟨g8, 0, none⟩), t9, undef, undef, undef, .agg #[.string nm, .slice da dims.length dc, .slice na nodes.length nc, .slice fa defs.length fc, .int .i64 rt], .bool false, .bool false, .agg #[.string nm, .slice da dims.length dc, .slice na nodes.length nc, .slice fa defs.length fc, .int .i64 rt], .bool true, .bool false, .bool false, .bool false, .pointer (some ⟨w.heap.size, 2, none⟩), .slice na nodes.length nc, .int .i64 (nodes.length : Int), .bool false, .bool false, undef, .int .u64 at_, .pointer (some ⟨w.heap.size, 2, none⟩), .slice na nodes.length nc, .int .i64 (nodes.length : Int), .int .u64 (nodes.length : Int), .int .u64 (at_ % (nodes.length : Int)), .int .i64 (k : Int), .pointer (some ⟨w.heap.size, 2, none⟩), .slice na nodes.length nc, .int .i64 (nodes.length : Int), .slice (some ⟨w2.heap.size + 1, 0, none⟩) nodes.length nodes.length, .int .i64 (k : Int), .agg #[.string nm, .slice da dims.length dc, .slice na nodes.length nc, .slice fa defs.length fc, .int .i64 rt], .int .i64 (k : Int), .func (.func 36) #[] #[.pointer (some ⟨bi, 0, none⟩), .pointer (some ⟨bn, 0, none⟩)], t42, t43, undef, undef, undef, undef, undef, undef, undef, undef, undef, undef, undef, undef, undef, undef, undef, undef, undef, undef, undef, undef, undef, undef, undef, undef, undef, undef, undef, undef, undef, undef, undef, undef, undef, undef, undef, undef, undef, undef, undef, undef, undef, undef, undef, undef, undef, undef, undef, undef, undef, undef, undef, undef, undef, undef, undef], defers := [] } : Act)) (.int .i64 (p : Int)) t42 v')
    (fun j v a' V l r o' h hl => h) ?assign ?body ?done (fun _ _ _ _ h => h.elim)
  case assign =>
    rintro l2 m2 j v V K - hj ⟨p, q2, ka2, kc2, na2, nc2, hp, hq2, rfl, hin2⟩ hK
    have hK' := Lib.hid hK
    rw [show encW cs k j (nodeV ⟨q2.n, ka2, kc2, na2, nc2⟩) = #[.int .i64 (p : Int), nodeV ⟨q2.n, ka2, kc2, na2, nc2⟩] by unfold encW; rw [List.getD_eq_getElem?_getD, hp]; rfl]
    clear hK
    gi_wp2
    exact hK'.out _ _ (Below.refl _ _) ⟨p, .int .i64 (p : Int), nodeV ⟨q2.n, ka2, kc2, na2, nc2⟩, by rw [← hwn]; exact hp, rfl⟩
  case body =>
    rintro l2 m2 j v a' V hl ⟨hTV, hNV, hSV, hBV⟩ hj ⟨p, t42, v', hp, rfl⟩
    have hzw := C6.out.2.2.2.2.2.2.2.2.size
    have hpm := walk_mem HA.out k hk (p : Int) (List.mem_of_getElem? hp)
    have hpk : p ≤ k := by omega
    have hpl : p < nodes.length := by omega
    have hnew : ¬ ((p : Int) ∈ (walkL nodes (k : Int)).take j) := fun hm => by
      obtain ⟨i, hi⟩ := List.getElem?_of_mem hm
      have hij : i < j := by
        have := (List.getElem?_eq_some_iff.1 hi).1
        rw [List.length_take] at this
        omega
      rw [List.getElem?_take_of_lt hij] at hi
      have h1 := (List.getElem?_eq_some_iff.1 hi)
      have h2 := (List.getElem?_eq_some_iff.1 hp)
      have := (List.getElem_inj HSP.out.nodup).1 (h1.2.trans h2.2.symm)
      omega
    have HTV := Lib.hid hTV
    have HPP := Lib.hid hp
    have HBV := Lib.hid hBV
    obtain ⟨lv, hlv⟩ : ∃ lv, leastL (k : Int) ((walkL nodes (k : Int)).take j) = lv := ⟨_, rfl⟩
    rw [hlv] at hSV
    have HLV2 := Lib.hid hlv
    have i0 : (0 : Int) ≤ (p : Int) := by omega
    have i1 : (p : Int) < (nodes.length : Int) := by omega
    have t0 : decide ((p : Int) < 0) = false := decide_eq_false (by omega)
    have t1 : decide ((k : Int) < (p : Int)) = false := decide_eq_false (by omega)
    have t1' : decide (k < p) = false := decide_eq_false (by omega)
    have e0 := (K6.out.turn hTV (by omega)).c 0
    have e1 := (H6.out.turn hTV (by omega)).c 0
    have e2 : V.cell? ⟨w2.heap.size + 1, p, none⟩ = some (.bool false) := by rw [hBV.cell hpl, decide_eq_false hnew]
    have e3 := hBV.frozen p
    have U1 := Lib.hid (Turn.setCell (T := fun b => b = g7 ∨ b = g8 ∨ b = w2.heap.size + 1) (p := ⟨w2.heap.size + 1, p, none⟩) (Turn.refl _ V) (.inl (.inr (.inr rfl))) (.bool true))
    have N1 := Lib.hid (hNV.far (p := ⟨w2.heap.size + 1, p, none⟩) (by show g7 ≠ w2.heap.size + 1; omega) (.bool true))
    have S1 := Lib.hid (hSV.far (p := ⟨w2.heap.size + 1, p, none⟩) (by show g8 ≠ w2.heap.size + 1; omega) (.bool true))
    have O1 := Lib.hid (hBV.set_ p true)
    have e4 := S1.out.c 0
    have e5 := S1.out.f 0
    have N2 := Lib.hid (N1.out.far (p := ⟨g8, 0, none⟩) hg78 (.int .i64 (min lv (p : Int))))
    have S2 := Lib.hid (S1.out.set_ 0 (.int .i64 (min lv (p : Int))))
    have O2 := Lib.hid (show OwnB (((V.setCell ⟨w2.heap.size + 1, p, none⟩ (.bool true)).setCell ⟨g8, 0, none⟩ (.int .i64 (min lv (p : Int))))) (w2.heap.size + 1) nodes.length _ from (Below.heap_setCell _ ⟨g8, 0, none⟩ _ _ (by show w2.heap.size + 1 ≠ g8; omega)).trans O1.out)
    have U2 := Lib.hid (Turn.setCell (p := ⟨g8, 0, none⟩) U1.out (.inl (.inr (.inl rfl))) (.int .i64 (min lv (p : Int))))
    have e6 := N2.out.c 0
    have e7 := N2.out.f 0
    have hsm := wrap_k j (by have := HSP.out.len; rw [hwn] at hj; have := HSA.out; omega)
    simp only [List.getElem?_cons_zero] at e0 e1 e4 e6
    clear hTV hNV hSV hBV hp hnew hlv
    gi_wp2
    have N3 := Lib.hid (N2.out.set_ 0 (.int .i64 ((j : Int) + 1)))
    have S3 := Lib.hid (S2.out.far (p := ⟨g7, 0, none⟩) (fun e => hg78 e.symm) (.int .i64 ((j : Int) + 1)))
    have O3 := Lib.hid ((Below.heap_setCell ((V.setCell ⟨w2.heap.size + 1, p, none⟩ (.bool true)).setCell ⟨g8, 0, none⟩ (.int .i64 (min lv (p : Int)))) ⟨g7, 0, none⟩ (.int .i64 ((j : Int) + 1)) (w2.heap.size + 1) (by show w2.heap.size + 1 ≠ g7; omega)).trans O2.out)
    have U3 := Lib.hid (Turn.setCell (p := ⟨g7, 0, none⟩) U2.out (.inl (.inl rfl)) (.int .i64 ((j : Int) + 1)))
    have htk : (walkL nodes (k : Int)).take (j + 1) = (walkL nodes (k : Int)).take j ++ [(p : Int)] := by rw [List.take_add_one, HPP.out]; rfl
    refine ⟨U3.out, HTV.out.trans U3.out, ?_, ?_, ?_⟩
    · rw [show ((j + 1 : Nat) : Int) = (j : Int) + 1 by omega]
      exact N3.out
    · rw [htk, least_snoc, HLV2.out]
      exact S3.out
    · refine OwnB.congr (show OwnB _ (w2.heap.size + 1) nodes.length _ from O3.out) (fun m hm => ?_)
      rw [htk]
      by_cases e : p = m
      · subst e
        simp
      · rw [if_neg e]
        simp only [List.mem_append, List.mem_singleton]
        congr 1
        exact propext ⟨.inl, fun h => h.elim id (fun h => absurd h (by omega))⟩
  case done =>
    rintro D V hD ⟨hTV, hNV, hSV, hBV⟩ - hK
    obtain ⟨q, hq⟩ : ∃ q, nodes[k]? = some q := ⟨_, List.getElem?_eq_getElem hk⟩
    have hlen := HSP.out.len
    have hsa1 := HSA.out
    rw [hwn] at hNV hSV
    rw [List.take_of_length_le (Nat.le_refl _), span_least HSP.out hsa] at hSV
    have LV := Lib.hid (L6.out.trans (hTV.below (B := w.heap.size) (by have := L6.out.size; omega) (fun b h => by omega)))
    obtain ⟨bN, oN, eN, hbN, ⟨d0, d1, d2, d3, d4, d5⟩, hin⟩ := HP.out.2.1.at_ hq
    have eN : na = some ⟨bN, oN, none⟩ := eN
    subst eN
    obtain ⟨KA, hKA⟩ : ∃ KA, q.ka = KA := ⟨_, rfl⟩
    rw [hKA] at d3
    have HKI := Lib.hid (show Ints w KA q.n.kids by rw [← hKA]; exact hin.1)
    have d3' := (LV.out.cell (p := ⟨bN, _, none⟩) hbN).trans d3
    have HPV := Lib.hid (P6.out.turn hTV (by omega))
    have HRV := Lib.hid (R6.out.turn hTV (by omega))
    have HKV := Lib.hid (K6.out.turn hTV (by omega))
    have HNV := Lib.hid hNV
    have HSV := Lib.hid hSV
    have x2 := HPV.out.c 2
    have k0 := HKV.out.c 0
    simp only [List.getElem?_cons_zero, List.getElem?_cons_succ] at x2 k0
    have HEQ := Lib.hid (hgt_eq HA.out hq)
    have HLE := Lib.hid (hgt_le HA.out k hk)
    have HAH := Lib.hid (HA.out k q hq)
    have H20 := Lib.hid (HF.out.kids q (List.mem_of_getElem? hq))
    have HMK := Lib.hid hK
    have HHH : Hid (∀ (m : Nat), m < nodes.length → highN ⟨nm, da, dc, dims, some ⟨bN, oN, none⟩, nc, nodes, fa, fc, defs, rt⟩ (m : Int) = hgt nodes (m : Int)) := Lib.hid (fun m hm => by unfold highN; rw [if_pos ⟨by unfold thereB; simp; omega, HR.out⟩])
    have j0 : (0 : Int) ≤ (k : Int) := by omega
    have j1 : (k : Int) < (nodes.length : Int) := by omega
    clear hTV hNV hSV hBV hK hKA d0 d1 d2 d3 d4 d5 hin hq
    gi_wp2_with fail
    gi_loopw [10, 72] (fun bv iv wr => ∃ j : Nat, j ≤ q.n.kids.length ∧ bv = .int .i64 (((q.n.kids.map (hgt nodes)).take j).foldl max 0 : Nat) ∧ iv = .int .i64 (j : Int) ∧ Hid (Below V.heap.size V wr)) (fun _ iv _ => q.n.kids.length - (intOf iv).toNat)
    case atStart => exact ⟨0, Nat.zero_le _, rfl, rfl, Lib.hid (Below.refl _ _)⟩
    case round =>
      obtain ⟨j, hj, rfl, rfl, HWR⟩ := hrel
      have LR := Lib.hid (Gl.below_next LV.out HWR.out)
      have HPR := Lib.hid (HPV.out.next HWR.out)
      clear x2 k0 d3'
      by_cases hlt : j < q.n.kids.length
      · obtain ⟨x, hx⟩ : ∃ x, q.n.kids[j]? = some x := ⟨_, List.getElem?_eq_getElem hlt⟩
        have hxa := HAH.out x (List.mem_of_getElem? hx)
        obtain ⟨m, hm⟩ : ∃ m : Nat, x = (m : Int) := ⟨x.toNat, by omega⟩
        subst hm
        obtain ⟨bK, oK, rfl, hbK, hcK⟩ := (HKI.out.below LR.out) (by omega)
        have hcx := hcK j hlt
        rw [show q.n.kids.getD j 0 = (m : Int) by rw [List.getD_eq_getElem?_getD, hx]; rfl] at hcx
        have HHR := Lib.hid (HTH.out wr (m : Int) LR.out)
        have HHM := Lib.hid (HHH.out m (by omega))
        have HST : Hid (((q.n.kids.map (hgt nodes)).take (j + 1)).foldl max 0 = max (((q.n.kids.map (hgt nodes)).take j).foldl max 0) (hgt nodes (m : Int))) := Lib.hid (by
          rw [List.take_add_one, List.getElem?_map, hx]
          simp [List.foldl_append])
        have i2 : (0 : Int) ≤ (j : Int) := by omega
        have i3 : (j : Int) < (q.n.kids.length : Int) := by omega
        have t9 : decide (j < q.n.kids.length) = true := by simpa using hlt
        have hsum := wrap_k j (by have := H20.out; omega)
        obtain ⟨fo, hfo⟩ : ∃ fo, ((q.n.kids.map (hgt nodes)).take j).foldl max 0 = fo := ⟨_, rfl⟩
        obtain ⟨hm', hhm⟩ : ∃ hm', hgt nodes (m : Int) = hm' := ⟨_, rfl⟩
        rw [hfo, hhm] at HST
        rw [hhm] at HHM
        rw [hfo]
        clear hx hxa hcK hbK hfo hhm
        have hmx : max (fo : Int) (hm' : Int) = ((max fo hm' : Nat) : Int) := by omega
        have HMX := Lib.hid hmx
        clear hmx
        have x0 := HPR.out.c 0
        have x1 := HPR.out.c 1
        have x2 := HPR.out.c 2
        have x3 := HPR.out.c 3
        have x4 := HPR.out.c 4
        simp only [List.getElem?_cons_zero, List.getElem?_cons_succ] at x0 x1 x2 x3 x4
        gi_wp2_with fail
        refine ⟨trivial, ?_⟩
        refine (HHR.out).mono ?_
        rintro e w11 ⟨rfl, hb11⟩
        rw [HHM.out]
        have HW5 := Lib.hid (Gl.below_next HWR.out hb11)
        clear hb11
        gi_wp2
        go_roundw
        case rel => exact ⟨j + 1, by omega, by rw [HST.out, ← HMX.out], by go_num, HW5⟩
        case measure => simp [intOf]; omega
      · have hje : j = q.n.kids.length := by omega
        have HFO : Hid (hgt nodes (k : Int) = ((q.n.kids.map (hgt nodes)).take j).foldl max 0 + 1) := Lib.hid (by rw [HEQ.out, List.take_of_length_le (by rw [List.length_map]; omega)])
        obtain ⟨fo, hfo⟩ : ∃ fo, ((q.n.kids.map (hgt nodes)).take j).foldl max 0 = fo := ⟨_, rfl⟩
        rw [hfo] at HFO ⊢
        have hsum := IntWalk.i64_in ((fo : Int) + 1) (by have := HLE.out; have := HFO.out; have := HK.out; omega)
        have hjn : decide (j < q.n.kids.length) = false := by simp; omega
        clear hfo
        subst hje
        have HHK := Lib.hid ((HHH.out k hk).trans HFO.out)
        have HRR := Lib.hid (HRV.out.next HWR.out)
        have n0 := (HNV.out.next HWR.out).c 0
        have s0 := (HSV.out.next HWR.out).c 0
        have k0 := (HKV.out.next HWR.out).c 0
        have HMR := Lib.hid ((HWR.out.block D (Array.getElem?_eq_some_iff.1 HMK.out).1).trans HMK.out)
        simp only [List.getElem?_cons_zero] at n0 s0 k0
        obtain ⟨nl, hnl⟩ : ∃ nl : Nat, (walkL nodes (k : Int)).length = nl := ⟨_, rfl⟩
        rw [hnl] at n0
        have u1 : IntKind.i64.wrap ((k : Int) - (sa + 1)) = (k : Int) - (sa + 1) := IntWalk.i64_in _ (by omega)
        have u2 : IntKind.i64.wrap ((k : Int) - (sa + 1) + 1) = (nl : Int) := by rw [IntWalk.i64_in _ (by omega)]; omega
        have HHR := Lib.hid (HTH.out wr (k : Int) LR.out)
        have HDD := Lib.hid hD
        clear hnl
        have x0 := HPR.out.c 0
        have x1 := HPR.out.c 1
        have x2 := HPR.out.c 2
        have x3 := HPR.out.c 3
        have x4 := HPR.out.c 4
        simp only [List.getElem?_cons_zero, List.getElem?_cons_succ] at x0 x1 x2 x3 x4
        gi_wp2_with fail
        clear n0 s0 k0 x0 x1 x2 x3 x4
        refine ⟨trivial, ?_⟩
        refine (HHR.out).mono ?_
        rintro e w9 ⟨rfl, hb9⟩
        rw [HHK.out]
        have R9 := Lib.hid (HRR.out.next hb9)
        have L9 := Lib.hid (Gl.below_next LR.out hb9)
        have K9 := Lib.hid ((hb9.block D (Array.getElem?_eq_some_iff.1 HMR.out).1).trans HMR.out)
        have hcst : ((fo + 1 : Nat) : Int) = (fo : Int) + 1 := by omega
        rw [hcst]
        clear hb9 hcst
        gi_wp2_with fail
        refine ⟨trivial, ?_⟩
        refine (HLV.out _).mono ?_
        rintro e w10 ⟨rfl, hb10⟩
        have R10 := Lib.hid (R9.out.next hb10)
        have L10 := Lib.hid (Gl.below_next L9.out hb10)
        have K10 := Lib.hid ((hb10.block D (Array.getElem?_eq_some_iff.1 K9.out).1).trans K9.out)
        clear hb10
        have r0 := R10.out.c 0
        have rf := R10.out.f 0
        simp only [List.getElem?_cons_zero] at r0
        gi_wp2
        have R11 := Lib.hid (R10.out.set_ 0 (.bool true))
        have L11 := Lib.hid (L10.out.setCell (p := ⟨w.heap.size + 1, 0, none⟩) (by show w.heap.size ≤ w.heap.size + 1; omega) (.bool true))
        refine leaves_marks (Marks.cons (B := w6.heap.size) HDD.out ((Below.heap_setCell w10 ⟨w.heap.size + 1, 0, none⟩ (.bool true) D (by show D ≠ w.heap.size + 1; have := HDD.out; omega)).trans K10.out) (fun e he => absurd he (by simp)) .nil) (fun V' hb' => ?_)
        have r11 := Bk.c (t := 4) (w := V') (g := w.heap.size + 1) (xs := [Value.bool true]) ((hb'.block (w.heap.size + 1) (by omega)).trans R11.out) 0
        exact ⟨_, res_bool rfl _ rfl r11, rfl, L11.out.trans (hb'.mono (by omega))⟩
theorem counts_any (p : Pq) (at_ : Int) (w : World) (hp : ProgIn w p) (h0 : 0 ≤ at_ ∧ at_ < 18446744073709551616) : Calls Try.prog 4 #[progV p, .int .u64 at_] w (RetBl true w) := by
  by_cases hf : FitP p
  · cases hr : rightT p with
    | true =>
      have hpos : 0 < p.nodes.length := by
        have h := hr
        unfold rightT at h
        simp only [Bool.and_eq_true, decide_eq_true_eq] at h
        exact h.2.2.1
      have h1 := Int.emod_nonneg at_ (show (p.nodes.length : Int) ≠ 0 by omega)
      have h2 := Int.emod_lt_of_pos at_ (show (0 : Int) < (p.nodes.length : Int) by omega)
      exact counts_yes p.name p.da p.dims p.dc p.na p.nc p.nodes p.fa p.defs p.fc p.root at_ w hp hf hr (at_ % (p.nodes.length : Int)).toNat (by omega) h0 (by omega)
    | false => exact counts_no p.name p.da p.dims p.dc p.na p.nc p.nodes p.fa p.defs p.fc p.root at_ w hp hf hr
  · exact counts_great p.name p.da p.dims p.dc p.na p.nc p.nodes p.fa p.defs p.fc p.root at_ w hp hf
end Go.Proofs.Ytffccemipkhjnaa.Tr
