/-
  Layer 18, tree: Walk of a program that may be: the nodes are copied, and the function that goes them is handed back. Conditions: as told.
-/
import Derived.Test.YtffccemipkhjnaaTrMade
set_option maxRecDepth 100000
namespace Go.Proofs.Ytffccemipkhjnaa.Tr
open Go.Proofs.Ytffccemipkhjnaa.Sh Go.Proofs.Ytffccemipkhjnaa.St
open Go.RowKit
set_option linter.unusedVariables false

/-- The function that goes the nodes from i down, and what it goes. -/
def Lies (bi bn : Nat) (i : Int) (A : Option Addr) (c : Nat) (cs : List Nq) (W : World) : Prop := Bk 3 W bi [.int .i64 i] ∧ Bk 23 W bn [.slice A cs.length c] ∧ Nodes W A cs
def RetWk (qs : List Nq) (k : Nat) (w : World) (e : Ending) (w' : World) : Prop := ∃ g bi bn cs, e = .returned (downV bi bn) ∧ cs.length = k + 1 ∧ cs.map (·.n) = (qs.take (k + 1)).map (·.n) ∧ Below w.heap.size w w' ∧ w.heap.size ≤ g ∧ w.heap.size ≤ bi ∧ w.heap.size ≤ bn ∧ bi < w'.heap.size ∧ bn < w'.heap.size ∧
  ∀ (T : Nat → Prop) (W' : World), (∀ b, T b → b < w.heap.size ∨ w'.heap.size ≤ b) → Turn T w' W' → Lies bi bn (k : Int) (some ⟨g, 0, none⟩) (k + 1) cs W'
theorem keep6 {wr : World} {g : Nat} {o0 o1 o2 o3 o4 o5 : Nat} {v0 v1 v2 v3 v4 v5 : Value} {e : TypeId} {size n : Nat} {v : Value} {xs : List Value} (h : wr.ownsRow (g + 1) e size v n xs) :
    ((((((wr.setCell ⟨g, o0, none⟩ v0).setCell ⟨g, o1, none⟩ v1).setCell ⟨g, o2, none⟩ v2).setCell ⟨g, o3, none⟩ v3).setCell ⟨g, o4, none⟩ v4).setCell ⟨g, o5, none⟩ v5).ownsRow (g + 1) e size v n xs :=
  have h6 : g < g + 1 := Nat.lt_succ_self g
  ownsRow_setCell_below (a := ⟨g, o5, none⟩) (ownsRow_setCell_below (a := ⟨g, o4, none⟩) (ownsRow_setCell_below (a := ⟨g, o3, none⟩) (ownsRow_setCell_below (a := ⟨g, o2, none⟩) (ownsRow_setCell_below (a := ⟨g, o1, none⟩) (ownsRow_setCell_below (a := ⟨g, o0, none⟩) h h6 v0) h6 v1) h6 v2) h6 v3) h6 v4) h6 v5
theorem md_nodes {w0 : World} {b g N : Nat} {src : List Nq} {j : Nat} {wr w7 W : World} {cs : List Nq} {xs : List Value} {T : Nat → Prop} (h : MdSt w0 b g N src j wr cs xs) (h7 : Below wr.heap.size wr w7) (ht : Turn T w7 W) (hT : ∀ b, T b → b < g ∨ w7.heap.size ≤ b) (hb : ∀ q ∈ src, q.n.kids.length ≤ maxLen ∧ q.n.nums.length ≤ maxLen ∧ q.n.name.size ≤ maxLen) : Nodes W (some ⟨g, 0, none⟩) cs := by
  have h7z := h7.size
  have hlt := h.bk.lt
  have bk := (h.bk.next h7).turn ht (fun e => by rcases hT g e with h | h <;> omega)
  have own : ∀ {e : TypeId} {v : Value} {n : Nat} {ys : List Value}, wr.ownsRow (g + 1) e 1 v n ys → W.ownsRow (g + 1) e 1 v n ys := fun ho =>
    own_turn (own_below ho h7) ht (fun r hr e => by
      have := own_base ho r hr
      have := own_lt (own_below ho h7) r hr
      rcases hT r e with h | h <;> omega)
  refine ⟨fun hp => ⟨g, 0, rfl, bk.lt, fun m q hq => ?_⟩, fun q hq => ?_⟩
  · have ha := h.at_ m q hq
    rw [Nat.zero_add]
    exact ⟨(bk.c _).trans (ha 0 (by omega)), (bk.c _).trans (ha 1 (by omega)), (bk.c _).trans (ha 2 (by omega)), (bk.c _).trans (ha 3 (by omega)), (bk.c _).trans (ha 4 (by omega)), (bk.c _).trans (ha 5 (by omega))⟩
  · obtain ⟨s, hs, he⟩ := List.mem_map.1 (h.same ▸ List.mem_map_of_mem hq : q.n ∈ (src.take j).map (·.n))
    have h1 := hb s (List.mem_of_mem_take hs)
    have he : s.n = q.n := he
    rw [he] at h1
    exact ⟨mine_int (own (h.kids q hq)), MineT.ints' (own (h.nums q hq)), h1⟩
theorem md_next {w0 w5 : World} {b g N : Nat} {src : List Nq} {j : Nat} {wr : World} {cs : List Nq} {ys : List Value} {q : Nq} {ka na : Option Addr} {kc nc : Nat} (h : MdSt w0 b g N src j wr cs ys) (hj : j < N) (hbg : b ≤ g) (hq : src[j]? = some q) (hb5 : Below wr.heap.size wr w5) (hm : MineT 3 w5 wr.heap.size (.slice ka q.n.kids.length kc) q.n.kids) (hn : MineT 2 w5 wr.heap.size (.slice na q.n.nums.length nc) q.n.nums) :
    MdSt w0 b g N src (j + 1) ((((((w5.setCell ⟨g, j * 6, none⟩ (.int .i64 q.n.kind)).setCell ⟨g, j * 6 + 1, none⟩ (.int .i64 q.n.pos)).setCell ⟨g, j * 6 + 2, none⟩ (.int .i64 q.n.code)).setCell ⟨g, j * 6 + 3, none⟩ (.slice ka q.n.kids.length kc)).setCell ⟨g, j * 6 + 4, none⟩ (.slice na q.n.nums.length nc)).setCell ⟨g, j * 6 + 5, none⟩ (.string q.n.name)) (cs ++ [⟨q.n, ka, kc, na, nc⟩]) (set6 ys j ⟨q.n, ka, kc, na, nc⟩) := by
  have hlt := h.bk.lt
  refine ⟨?_, ?_, ?_, ?_, ?_, ?_, ?_, ?_⟩
  · have hb : Below b w0 w5 := h.bel.trans (hb5.mono (Nat.le_trans hbg (Nat.le_of_lt hlt)))
    exact (((((hb.setCell (p := ⟨g, j * 6, none⟩) hbg _).setCell (p := ⟨g, j * 6 + 1, none⟩) hbg _).setCell (p := ⟨g, j * 6 + 2, none⟩) hbg _).setCell (p := ⟨g, j * 6 + 3, none⟩) hbg _).setCell (p := ⟨g, j * 6 + 4, none⟩) hbg _).setCell (p := ⟨g, j * 6 + 5, none⟩) hbg _
  · exact ((((((h.bk.next hb5).set_ (j * 6) _).set_ (j * 6 + 1) _).set_ (j * 6 + 2) _).set_ (j * 6 + 3) _).set_ (j * 6 + 4) _).set_ (j * 6 + 5) _
  · rw [set6_length, h.room]
  · rw [List.length_append, h.len]; rfl
  · rw [List.map_append, h.same, List.take_add_one, hq, List.map_append]; rfl
  · intro m u hu t ht
    rcases Nat.lt_or_ge m j with hm' | hm'
    · rw [List.getElem?_append_left (by rw [h.len]; exact hm')] at hu
      rw [set6_old (by omega)]
      exact h.at_ m u hu t ht
    · have he : m = j := by
        have := (List.getElem?_eq_some_iff.1 hu).1
        rw [List.length_append, h.len] at this
        simp at this
        omega
      subst he
      rw [List.getElem?_append_right (by rw [h.len]; exact Nat.le_refl _), h.len, Nat.sub_self] at hu
      injection hu with hu
      subst hu
      exact set6_new h.room hj t ht
  · intro u hu
    rcases List.mem_append.1 hu with hu | hu
    · exact keep6 (own_below (h.kids u hu) hb5)
    · simp at hu
      subst hu
      exact keep6 (own_weakT hm hlt)
  · intro u hu
    rcases List.mem_append.1 hu with hu | hu
    · exact keep6 (own_below (h.nums u hu) hb5)
    · simp at hu
      subst hu
      exact keep6 (own_weakT hn hlt)
theorem make_nodesI (k : Nat) (hk : k ≤ 900) (w : World) : (Instr.makeSlice 23 (.int .i64 ((k : Int) + 1)) (.int .i64 ((k : Int) + 1))).run Try.prog w = .ok (.slice (some ⟨w.heap.size, 0, none⟩) (k + 1) (k + 1)) (w.alloc (.cells (madeCells #[.int .i64 0, .int .i64 0, .int .i64 0, .slice none 0 0, .slice none 0 0, .string ⟨#[]⟩] ((k + 1) * 6)) 37)) := by
  have h := make_nodes (k + 1) (by omega) w
  rw [Int.natCast_add] at h
  exact h
set_option maxRecDepth 100000 in
set_option maxHeartbeats 16000000 in
theorem walk_right (nm : ByteArray) (da : Option Addr) (dims : List Int) (dc : Nat) (A : Option Addr) (nc : Nat) (nodes : List Nq) (fa : Option Addr) (defs : List Df) (fc : Nat) (rt : Int) (k : Nat) (w : World) (hp : ProgIn w ⟨nm, da, dc, dims, A, nc, nodes, fa, fc, defs, rt⟩) (hf : FitP ⟨nm, da, dc, dims, A, nc, nodes, fa, fc, defs, rt⟩) (hr : rightT ⟨nm, da, dc, dims, A, nc, nodes, fa, fc, defs, rt⟩ = true) (hk : k < nodes.length) : Calls Try.prog 10 #[.agg #[.string nm, .slice da dims.length dc, .slice A nodes.length nc, .slice fa defs.length fc, .int .i64 rt], .int .i64 (k : Int)] w (RetWk nodes k w) := by
  have HT := Lib.hid (fun W => there_b ⟨nm, da, dc, dims, A, nc, nodes, fa, fc, defs, rt⟩ (k : Int) true W (by unfold thereB; simp; omega))
  have HR := Lib.hid (fun W (hw : Below w.heap.size w W) => right_b ⟨nm, da, dc, dims, A, nc, nodes, fa, fc, defs, rt⟩ true W (hp.next hw) hf hr)
  have HNO := Lib.hid hp.2.1
  obtain ⟨b0, o0, rfl, hb0, hcells⟩ := hp.2.1.1 (by show 0 < nodes.length; omega)
  unfold progV at HT HR
  have HF := Lib.hid hf
  have HK := Lib.hid hk
  have H300 : Hid (nodes.length ≤ 320) := Lib.hid hf.nodes
  have BX := Lib.hid (Bk.new 26 w [.string nm, .slice da dims.length dc, .slice (some ⟨b0, o0, none⟩) nodes.length nc, .slice fa defs.length fc, .int .i64 rt])
  have LX := Lib.hid (below_new w (.cells #[.string nm, .slice da dims.length dc, .slice (some ⟨b0, o0, none⟩) nodes.length nc, .slice fa defs.length fc, .int .i64 rt] 26))
  have hmk := fun W => make_nodesI k (by have := hf.nodes; have : nodes.length ≤ 320 := this; omega) W
  have hsum := wrap_k k (by have := hf.nodes; have : nodes.length ≤ 320 := this; omega)
  have i0 : (0 : Int) ≤ (k : Int) := by omega
  clear hp hf hr hcells
  go_enter Try.func10, Try.ntmps10
  go_wp2_with fail
  refine (HT.out _).mono ?_
  rintro e w1 ⟨rfl, hb1⟩
  have L1 := Lib.hid (Gl.below_next LX.out hb1)
  have B1 := Lib.hid (BX.out.next hb1)
  have x0 := (BX.out.next hb1).c 0
  have x1 := (BX.out.next hb1).c 1
  have x2 := (BX.out.next hb1).c 2
  have x3 := (BX.out.next hb1).c 3
  have x4 := (BX.out.next hb1).c 4
  simp only [List.getElem?_cons_zero, List.getElem?_cons_succ] at x0 x1 x2 x3 x4
  have HR1 := Lib.hid (HR.out w1 L1.out)
  clear hb1
  go_wp2_with fail
  refine (HR1.out).mono ?_
  rintro e w2 ⟨rfl, hb2⟩
  have L2 := Lib.hid (Gl.below_next L1.out hb2)
  have B2 := Lib.hid (B1.out.next hb2)
  clear hb2 x0 x1 x2 x3 x4
  have MX : Hid (∃ xs : List Value, (madeCells #[.int .i64 0, .int .i64 0, .int .i64 0, .slice none 0 0, .slice none 0 0, .string ⟨#[]⟩] ((k + 1) * 6)) = xs.toArray ∧ xs.length = (k + 1) * 6) := Lib.hid ⟨(madeCells #[.int .i64 0, .int .i64 0, .int .i64 0, .slice none 0 0, .slice none 0 0, .string ⟨#[]⟩] ((k + 1) * 6)).toList, by simp, by simp [size_madeCells]⟩
  obtain ⟨xs, hxs, hxl⟩ := MX.out
  rw [hxs] at hmk
  have HXL := Lib.hid hxl
  clear hxs hxl MX
  have BG := Lib.hid (Bk.new 37 w2 xs)
  have LG := Lib.hid (show Below (w2.heap.size) w2 (w2.alloc (.cells xs.toArray 37)) from (Below.refl _ _).alloc (Nat.le_refl _) _)
  go_wp2_with fail
  go_loopw [21] (fun iv wr => ∃ (j : Nat) (cs : List Nq) (ys : List Value), j ≤ k + 1 ∧ iv = .int .i64 (j : Int) ∧ Hid (MdSt w2 w2.heap.size w2.heap.size (k + 1) nodes j wr cs ys)) (fun iv _ => k + 1 - (intOf iv).toNat)
  case atStart => exact ⟨0, [], xs, Nat.zero_le _, rfl, Lib.hid ⟨LG.out, BG.out, HXL.out, rfl, rfl, fun m q h => by simp at h, fun q h => by simp at h, fun q h => by simp at h⟩⟩
  case round =>
    obtain ⟨j, cs, ys, hj, rfl, HS⟩ := hrel
    have LR := Lib.hid (Gl.below_next L2.out HS.out.bel)
    have BR := Lib.hid (B2.out.next HS.out.bel)
    by_cases hlt : j < k + 1
    · have hjn : j < nodes.length := by have := HK.out; omega
      obtain ⟨q, hq⟩ : ∃ q, nodes[j]? = some q := ⟨_, List.getElem?_eq_getElem hjn⟩
      obtain ⟨bA, oA, eA, hbA, ⟨c0, c1, c2, c3, c4, c5⟩, hin⟩ := (HNO.out.next LR.out).at_ hq
      obtain ⟨rfl, rfl⟩ : b0 = bA ∧ o0 = oA := by injection eA with eA; injection eA with e1 e2 e3; exact ⟨e1, e2⟩
      have HQ := Lib.hid hq
      have HCP := Lib.hid (copied_any q wr hin (by have := HF.out.kids q (List.mem_of_getElem? hq); omega) (by have := HF.out.nums q (List.mem_of_getElem? hq); omega))
      unfold nodeV at HCP
      have x2 := BR.out.c 2
      simp only [List.getElem?_cons_zero, List.getElem?_cons_succ] at x2
      have t0 : decide (j < k + 1) = true := by simpa using hlt
      have i1 : (0 : Int) ≤ (j : Int) := by omega
      have i2 : (j : Int) < (nodes.length : Int) := by omega
      have i3 : (j : Int) < ((k + 1 : Nat) : Int) := by omega
      have i4 : (j : Int) < (k : Int) + 1 := by omega
      have hsum2 := wrap_k j (by have := H300.out; omega)
      clear hq hin eA hbA
      go_wp2_with fail
      refine (HCP.out).mono ?_
      rintro e w5 ⟨ka, kc, na, nc', rfl, hin5, hb5, hm5, hn5⟩
      have HB5 := Lib.hid hb5
      have HM5 := Lib.hid hm5
      have HN5 := Lib.hid hn5
      have BK5 := Lib.hid (HS.out.bk.next hb5)
      unfold nodeV
      have room := HS.out.room
      have f0 := BK5.out.f (j * 6)
      have f1 := BK5.out.f (j * 6 + 1)
      have f2 := BK5.out.f (j * 6 + 2)
      have f3 := BK5.out.f (j * 6 + 3)
      have f4 := BK5.out.f (j * 6 + 4)
      have f5 := BK5.out.f (j * 6 + 5)
      have g0 := (BK5.out.c (j * 6)).trans (List.getElem?_eq_getElem (show j * 6 < ys.length by omega))
      have g1 := (BK5.out.c (j * 6 + 1)).trans (List.getElem?_eq_getElem (show j * 6 + 1 < ys.length by omega))
      have g2 := (BK5.out.c (j * 6 + 2)).trans (List.getElem?_eq_getElem (show j * 6 + 2 < ys.length by omega))
      have g3 := (BK5.out.c (j * 6 + 3)).trans (List.getElem?_eq_getElem (show j * 6 + 3 < ys.length by omega))
      have g4 := (BK5.out.c (j * 6 + 4)).trans (List.getElem?_eq_getElem (show j * 6 + 4 < ys.length by omega))
      have g5 := (BK5.out.c (j * 6 + 5)).trans (List.getElem?_eq_getElem (show j * 6 + 5 < ys.length by omega))
      generalize ys[j * 6] = v0 at g0
      generalize ys[j * 6 + 1] = v1 at g1
      generalize ys[j * 6 + 2] = v2 at g2
      generalize ys[j * 6 + 3] = v3 at g3
      generalize ys[j * 6 + 4] = v4 at g4
      generalize ys[j * 6 + 5] = v5 at g5
      clear hin5 hb5 hm5 hn5 c0 c1 c2 c3 c4 c5 x2 room
      go_wp2_with fail
      refine ⟨⟨j + 1, cs ++ [⟨q.n, ka, kc, na, nc'⟩], set6 ys j ⟨q.n, ka, kc, na, nc'⟩, by omega, by go_num, Lib.hid ?_⟩, by simp [intOf]; omega⟩
      exact md_next HS.out hlt (Nat.le_refl _) HQ.out HB5.out HM5.out HN5.out
    · have hje : j = k + 1 := by omega
      have t0 : decide (j < k + 1) = false := by simpa using hlt
      have HD := Lib.hid (fun W => down_any (some ⟨w2.heap.size, 0, none⟩) (k + 1) (k + 1) (k : Int) W)
      have NN := Lib.hid (fun (w7 W : World) (T : Nat → Prop) (h7 : Below wr.heap.size wr w7) (ht : Turn T w7 W) (hT : ∀ b, T b → b < w2.heap.size ∨ w7.heap.size ≤ b) => md_nodes HS.out h7 ht hT (fun q hq => (HNO.out.2 q hq).2.2))
      go_wp2_with fail
      refine (HD.out _).mono ?_
      rintro e w7 ⟨bi, bn, rfl, hbi, hbn, hB1, hB2, hb7⟩
      have HB7 := Lib.hid (⟨hbi, hbn, hB1, hB2, hb7⟩ : wr.heap.size ≤ bi ∧ wr.heap.size ≤ bn ∧ _ ∧ _ ∧ Below wr.heap.size wr w7)
      clear hbi hbn hB1 hB2 hb7
      unfold downV
      go_wp2
      go_ret
      have hle : w.heap.size ≤ wr.heap.size := LR.out.size
      have hL2 := L2.out.size
      refine ⟨w2.heap.size, bi, bn, cs, rfl, by rw [HS.out.len, hje], by rw [HS.out.same, hje], Gl.below_next LR.out HB7.out.2.2.2.2, hL2, Nat.le_trans hle HB7.out.1, Nat.le_trans hle HB7.out.2.1, HB7.out.2.2.1.lt, HB7.out.2.2.2.1.lt, fun T W' hT ht => ?_⟩
      have hbi := HB7.out.1
      have hbn := HB7.out.2.1
      have li := HB7.out.2.2.1.lt
      have ln := HB7.out.2.2.2.1.lt
      refine ⟨HB7.out.2.2.1.turn ht (fun h => by rcases hT _ h with h | h <;> omega), ?_, NN.out w7 W' T HB7.out.2.2.2.2 ht (fun b h => by rcases hT b h with h | h <;> omega)⟩
      rw [HS.out.len, hje]
      exact HB7.out.2.2.2.1.turn ht (fun h => by rcases hT _ h with h | h <;> omega)
end Go.Proofs.Ytffccemipkhjnaa.Tr
