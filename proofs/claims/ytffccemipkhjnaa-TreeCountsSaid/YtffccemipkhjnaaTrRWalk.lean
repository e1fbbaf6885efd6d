/-
  Layer 18, tree: riffleref18.Walk: the nodes below one. Conditions: the parts of a node stand ahead of it; at most 1000 nodes below each.
-/
import Derived.Test.YtffccemipkhjnaaTrWalkL
import Derived.Test.YtffccemipkhjnaaTrNode
set_option maxRecDepth 100000
namespace Go.Proofs.Ytffccemipkhjnaa.Tr
open Go.Proofs.Ytffccemipkhjnaa.Sh Go.Proofs.Ytffccemipkhjnaa.St
open Go.RowKit
set_option linter.unusedVariables false

theorem step_appS {t e : TypeId} {z : Value} {size bytes : Nat} (hinf : (Try.prog.info? e).map (fun i => (i.zero, i.size, i.bytes)) = some (some z, size, bytes)) (hzs : z.cells.size = size) (hsz : 0 < size) (hby : bytes ≤ 64) (ht : Try.prog.underlying t = some (.slice e)) {w : World} {ops : Array Oper} {o : Oper} {a : Act} {K : Act → World → Prop} {Q : Exit → Act → World → Prop} {E : Prop} (hgd : o.guard = none) (s x : Operand)
    (ho : o.op = .call { callee := .builtin .append, args := #[s, x], argTypes := #[t, t] })
    (base : Nat) (v : Value) (n : Nat) (xs : List Value) (hs : a.eval s = v) (hown : w.ownsRow base e size v n xs) (S : Nat → Prop) (A : Option Addr) (m c : Nat) (news : List Value) (hx : a.eval x = .slice A m c) (hm : news.length = m * size) (hi : Seq S w A news)
    (h1 : ∀ u ∈ news, u.oneCell' = true) (hlen : n + m ≤ 100000) (hbase : base ≤ w.heap.size)
    (h : ∀ v' w', w'.ownsRow base e size v' (n + m) (xs ++ news) → w.grownBy w' v.ownBlock → (v'.ownBlock = v.ownBlock ∨ v'.ownBlock = some w.heap.size) → K (a.put o.dst v') w') :
    if Region.wanted o (yielded ops a.tmps) = true then Oper.wp Try.prog o a w K Q else E := by
  have hw : Region.wanted o (yielded ops a.tmps) = true := by simp [Region.wanted, hgd]
  rw [if_pos hw]
  exact wp_appS hinf hzs hsz hby ht s x ho base v n xs hs hown S A m c news hx hm hi h1 hlen hbase h
def RetMi (l : List Int) (w : World) (e : Ending) (w' : World) : Prop := ∃ B c, e = .returned (.slice B l.length c) ∧ MineT 3 w' w.heap.size (.slice B l.length c) l ∧ Below w.heap.size w w'
/-- The round of Walk's loop: what is there, behind the box of the program. -/
structure WkSt (w0 : World) (b : Nat) (wr : World) (B : Option Addr) (n c : Nat) (l : List Int) : Prop where
  len : n = l.length
  own : MineT 3 wr b (.slice B n c) l
  bel : Below b w0 wr
theorem int_ones (l : List Int) : ∀ u ∈ l.map (Value.int .i64), u.oneCell' = true := fun u hu => by obtain ⟨y, _, rfl⟩ := List.mem_map.1 hu; rfl
theorem fm_take {f : Int → List Int} {l : List Int} {j : Nat} {x : Int} (hx : l[j]? = some x) : (l.take (j + 1)).flatMap f = (l.take j).flatMap f ++ f x := by
  rw [List.take_add_one, hx]
  simp
theorem fm_le (f : Int → List Int) (l : List Int) (j : Nat) : ((l.take j).flatMap f).length ≤ (l.flatMap f).length := by
  conv => rhs; rw [← List.take_append_drop j l]
  rw [List.flatMap_append, List.length_append]
  omega
set_option maxRecDepth 100000 in
set_option maxHeartbeats 8000000 in
theorem rwalk_k (nm : ByteArray) (da : Option Addr) (dl dc : Nat) (A : Option Addr) (c : Nat) (qs : List Nq) (fa : Option Addr) (fl fc : Nat) (rt : Int) (h3 : qs.length ≤ 1000) (h20 : ∀ q ∈ qs, q.n.kids.length ≤ 1000) (hA : Ahead qs) (hL : ∀ (m : Nat), m < qs.length → (walkL qs (m : Int)).length ≤ 1000) : ∀ (k : Nat) (w : World), Nodes w A qs → k < qs.length → Calls Try.prog 8 #[.agg #[.string nm, .slice da dl dc, .slice A qs.length c, .slice fa fl fc, .int .i64 rt], .int .i64 (k : Int)] w (RetMi (walkL qs (k : Int)) w) := by
  intro k
  induction k using Nat.strongRecOn with
  | ind k ih =>
  intro w hn hk
  obtain ⟨q, hq⟩ : ∃ q, qs[k]? = some q := ⟨_, List.getElem?_eq_getElem hk⟩
  obtain ⟨b0, o0, rfl, hb0, ⟨c0, c1, c2, c3, c4, c5⟩, hin⟩ := hn.at_ hq
  have HEQ := Lib.hid (walkL_eq hA hq)
  have HLE : Hid ((q.n.kids.flatMap (walkL qs)).length ≤ 1000) := Lib.hid (by have h := hL k hk; rw [HEQ.out, List.length_cons] at h; omega)
  have HAH := Lib.hid (hA k q hq)
  have HLL := Lib.hid hL
  have HIH := Lib.hid ih
  have HNO := Lib.hid hn
  have BX := Lib.hid (Bk.new 26 w [.string nm, .slice da dl dc, .slice (some ⟨b0, o0, none⟩) qs.length c, .slice fa fl fc, .int .i64 rt])
  have LX := Lib.hid (below_new w (.cells #[.string nm, .slice da dl dc, .slice (some ⟨b0, o0, none⟩) qs.length c, .slice fa fl fc, .int .i64 rt] 26))
  have M0 : Hid (MineT 3 ((w.alloc (.cells #[.string nm, .slice da dl dc, .slice (some ⟨b0, o0, none⟩) qs.length c, .slice fa fl fc, .int .i64 rt] 26)).alloc (.cells #[.int .i64 (k : Int)] 3)) (w.heap.size + 1) (.slice (some ⟨w.heap.size + 1, 0, none⟩) 1 1) [(k : Int)]) := Lib.hid (by
    have h := MineT.new 3 (w.alloc (.cells #[.string nm, .slice da dl dc, .slice (some ⟨b0, o0, none⟩) qs.length c, .slice fa fl fc, .int .i64 rt] 26)) [(k : Int)] (w.heap.size + 1) (by simp) (by unfold maxLen; simp)
    rw [show ((w.alloc (.cells #[.string nm, .slice da dl dc, .slice (some ⟨b0, o0, none⟩) qs.length c, .slice fa fl fc, .int .i64 rt] 26))).heap.size = w.heap.size + 1 by simp] at h
    exact h)
  have L0 := Lib.hid (show Below (w.heap.size + 1) (w.alloc (.cells #[.string nm, .slice da dl dc, .slice (some ⟨b0, o0, none⟩) qs.length c, .slice fa fl fc, .int .i64 rt] 26)) ((w.alloc (.cells #[.string nm, .slice da dl dc, .slice (some ⟨b0, o0, none⟩) qs.length c, .slice fa fl fc, .int .i64 rt] 26)).alloc (.cells #[.int .i64 (k : Int)] 3)) from (Below.refl _ _).alloc (by simp) _)
  obtain ⟨KA, hKA⟩ : ∃ KA, q.ka = KA := ⟨_, rfl⟩
  rw [hKA] at c3
  have HKI := Lib.hid (show Ints w KA q.n.kids by rw [← hKA]; exact hin.1)
  have HC3 : Hid (∀ W, Below w.heap.size w W → W.cell? ⟨b0, o0 + k * 6 + 3, none⟩ = some (.slice KA q.n.kids.length q.kc)) := Lib.hid (fun W hW => (hW.cell (p := ⟨b0, _, none⟩) hb0).trans c3)
  clear hKA
  have H20 := Lib.hid (h20 q (List.mem_of_getElem? hq))
  have HK := Lib.hid hk
  have i0 : (0 : Int) ≤ (k : Int) := by omega
  have i1 : (k : Int) < (qs.length : Int) := by omega
  clear ih hn hin hq c0 c1 c2 c3 c4 c5 hL
  go_enter Try.func8, Try.ntmps8
  go_wp2_with fail
  go_loopw [5, 6] (fun ov iv wr => ∃ (j : Nat) (B : Option Addr) (n cB : Nat), j ≤ q.n.kids.length ∧ ov = .slice B n cB ∧ iv = .int .i64 (j : Int) ∧ Hid (WkSt (w.alloc (.cells #[.string nm, .slice da dl dc, .slice (some ⟨b0, o0, none⟩) qs.length c, .slice fa fl fc, .int .i64 rt] 26)) (w.heap.size + 1) wr B n cB ((k : Int) :: (q.n.kids.take j).flatMap (walkL qs)))) (fun _ iv _ => q.n.kids.length - (intOf iv).toNat)
  case atStart => exact ⟨0, _, _, _, Nat.zero_le _, rfl, rfl, Lib.hid ⟨rfl, M0.out, L0.out⟩⟩
  case round =>
    obtain ⟨j, B, n, cB, hj, rfl, rfl, HS⟩ := hrel
    have LR := Lib.hid (Gl.below_next LX.out (HS.out.bel.mono (by simp)))
    have BR := Lib.hid (BX.out.next (HS.out.bel.mono (by simp)))
    have x0 := BR.out.c 0
    have x1 := BR.out.c 1
    have x2 := BR.out.c 2
    have x3 := BR.out.c 3
    have x4 := BR.out.c 4
    simp only [List.getElem?_cons_zero, List.getElem?_cons_succ] at x0 x1 x2 x3 x4
    have c3 := HC3.out wr LR.out
    by_cases hlt : j < q.n.kids.length
    · obtain ⟨x, hx⟩ : ∃ x, q.n.kids[j]? = some x := ⟨_, List.getElem?_eq_getElem hlt⟩
      have hxa := HAH.out x (List.mem_of_getElem? hx)
      obtain ⟨m, hm⟩ : ∃ m : Nat, x = (m : Int) := ⟨x.toNat, by omega⟩
      subst hm
      obtain ⟨bK, oK, rfl, hbK, hcK⟩ := HKI.out (by omega)
      have hcx := hcK j hlt
      rw [show q.n.kids.getD j 0 = (m : Int) by rw [List.getD_eq_getElem?_getD, hx]; rfl] at hcx
      have HCK : Hid (∀ W, Below w.heap.size w W → W.cell? ⟨bK, oK + j, none⟩ = some (.int .i64 (m : Int))) := Lib.hid (fun W hW => (hW.cell (p := ⟨bK, _, none⟩) hbK).trans hcx)
      clear hcx
      have hcx := HCK.out wr LR.out
      have HST := Lib.hid (fm_take (f := walkL qs) hx)
      have LEN : Hid ((walkL qs (m : Int)).length ≤ 1000) := Lib.hid (HLL.out m (by have := HK.out; omega))
      have LTK := Lib.hid (fm_le (walkL qs) q.n.kids j)
      have i2 : (0 : Int) ≤ (j : Int) := by omega
      have i3 : (j : Int) < (q.n.kids.length : Int) := by omega
      have hsum := wrap_k j (by have := H20.out; omega)
      have hjn : decide (j < q.n.kids.length) = true := by simpa using hlt
      have HRD := Lib.hid (HIH.out m (by omega) wr.drew (HNO.out.next LR.out.drew) (by have := HK.out; omega))
      obtain ⟨wl, hwl⟩ : ∃ wl, walkL qs (m : Int) = wl := ⟨_, rfl⟩
      rw [hwl] at HST HRD LEN
      clear hx hxa hcK hbK hwl
      have K0 := Lib.hid (show wr.drew.cell? ⟨w.heap.size, 0, none⟩ = some (.string nm) ∧ wr.drew.cell? ⟨w.heap.size, 1, none⟩ = some (.slice da dl dc) ∧ wr.drew.cell? ⟨w.heap.size, 2, none⟩ = some (.slice (some ⟨b0, o0, none⟩) qs.length c) ∧ wr.drew.cell? ⟨w.heap.size, 3, none⟩ = some (.slice fa fl fc) ∧ wr.drew.cell? ⟨w.heap.size, 4, none⟩ = some (.int .i64 rt) ∧ wr.drew.cell? ⟨b0, o0 + k * 6 + 3, none⟩ = some (.slice (some ⟨bK, oK, none⟩) q.n.kids.length q.kc) ∧ wr.drew.cell? ⟨bK, oK + j, none⟩ = some (.int .i64 (m : Int)) from ⟨x0, x1, x2, x3, x4, c3, hcx⟩)
      have LD := Lib.hid (LR.out.drew)
      have HWD := Lib.hid (HS.out.bel.drew)
      have SZ : Hid (w.heap.size + 1 ≤ wr.drew.heap.size) := Lib.hid (by have := HS.out.bel.size; simp at this ⊢; omega)
      have OD : Hid (wr.drew.ownsRow (w.heap.size + 1) 3 1 (.slice B n cB) n (((k : Int) :: (q.n.kids.take j).flatMap (walkL qs)).map (Value.int .i64))) := Lib.hid (by
        have h := HS.out.own.drew
        unfold MineT at h
        rw [← HS.out.len] at h
        exact h)
      have TL : Hid (n + wl.length ≤ 100000) := Lib.hid (by have := HS.out.len; rw [List.length_cons] at this; have := LEN.out; have := LTK.out; have := HLE.out; omega)
      clear x0 x1 x3 x4 hcx
      go_upto_region 4 with fail
      go_region_held3 (fun w' => w'.cell? ⟨w.heap.size, 0, none⟩ = some (.string nm) ∧ w'.cell? ⟨w.heap.size, 1, none⟩ = some (.slice da dl dc) ∧ w'.cell? ⟨w.heap.size, 2, none⟩ = some (.slice (some ⟨b0, o0, none⟩) qs.length c) ∧ w'.cell? ⟨w.heap.size, 3, none⟩ = some (.slice fa fl fc) ∧ w'.cell? ⟨w.heap.size, 4, none⟩ = some (.int .i64 rt) ∧ w'.cell? ⟨b0, o0 + k * 6 + 3, none⟩ = some (.slice (some ⟨bK, oK, none⟩) q.n.kids.length q.kc) ∧ w'.cell? ⟨bK, oK + j, none⟩ = some (.int .i64 (m : Int)))
        (first
          | with_reducible exact K0.out
          | with_reducible exact K7.out
          | with_reducible exact K8.out
          | go_keep)
        (first
          | (go_at_call 8; (with_reducible refine (HRD.out).mono ?_); rintro r w7 ⟨B7, c7, rfl, hm7, hb7⟩; have K7 := Lib.hid (show w7.cell? ⟨w.heap.size, 0, none⟩ = some (.string nm) ∧ w7.cell? ⟨w.heap.size, 1, none⟩ = some (.slice da dl dc) ∧ w7.cell? ⟨w.heap.size, 2, none⟩ = some (.slice (some ⟨b0, o0, none⟩) qs.length c) ∧ w7.cell? ⟨w.heap.size, 3, none⟩ = some (.slice fa fl fc) ∧ w7.cell? ⟨w.heap.size, 4, none⟩ = some (.int .i64 rt) ∧ w7.cell? ⟨b0, o0 + k * 6 + 3, none⟩ = some (.slice (some ⟨bK, oK, none⟩) q.n.kids.length q.kc) ∧ w7.cell? ⟨bK, oK + j, none⟩ = some (.int .i64 (m : Int)) from ⟨(BR.out.drew.next hb7).c 0, (BR.out.drew.next hb7).c 1, (BR.out.drew.next hb7).c 2, (BR.out.drew.next hb7).c 3, (BR.out.drew.next hb7).c 4, HC3.out w7 (Gl.below_next LD.out hb7), HCK.out w7 (Gl.below_next LD.out hb7)⟩); have HB7 := Lib.hid hb7; have O7 := Lib.hid (own_below OD.out hb7); have hsq := own_seq hm7 (by decide); obtain ⟨A7, d7, e7, -, -, hs7⟩ := hsq; (injection e7 with e7 _ f7); (subst e7); (subst f7); have SQ7 := Lib.hid hs7; have S7 : Hid (w.heap.size + 1 ≤ w7.heap.size) := Lib.hid (Nat.le_trans SZ.out hb7.size); clear hb7 hm7 hs7)
          | ((with_reducible refine step_appS infoInt rfl (by decide) (by decide) Try.underlying22 rfl (.tmp 20) (.tmp 31) rfl (w.heap.size + 1) (.slice B n cB) n (((k : Int) :: (q.n.kids.take j).flatMap (walkL qs)).map (Value.int .i64)) (by simp [Act.eval]) O7.out (fun b => wr.drew.heap.size ≤ b) B7 wl.length c7 (wl.map (Value.int .i64)) (by simp [Act.eval]) (by simp) SQ7.out (int_ones wl) TL.out S7.out ?_); intro v8 w8 hv8 hg8 ha8; obtain ⟨A8, c8, rfl, -⟩ := own_seq hv8 (by decide); have HV8 := Lib.hid hv8; have HG8 := Lib.hid hg8; clear hv8 hg8 ha8; have L78 := Lib.hid ((Below.refl (w.heap.size + 1) w7).grown HG8.out S7.out (own_base O7.out)); have L8 := Lib.hid ((Gl.below_next LD.out HB7.out).trans (L78.out.mono (by omega))); have K8 := Lib.hid (show w8.cell? ⟨w.heap.size, 0, none⟩ = some (.string nm) ∧ w8.cell? ⟨w.heap.size, 1, none⟩ = some (.slice da dl dc) ∧ w8.cell? ⟨w.heap.size, 2, none⟩ = some (.slice (some ⟨b0, o0, none⟩) qs.length c) ∧ w8.cell? ⟨w.heap.size, 3, none⟩ = some (.slice fa fl fc) ∧ w8.cell? ⟨w.heap.size, 4, none⟩ = some (.int .i64 rt) ∧ w8.cell? ⟨b0, o0 + k * 6 + 3, none⟩ = some (.slice (some ⟨bK, oK, none⟩) q.n.kids.length q.kc) ∧ w8.cell? ⟨bK, oK + j, none⟩ = some (.int .i64 (m : Int)) from ⟨(L78.out.cell (p := ⟨w.heap.size, _, none⟩) (by show w.heap.size < w.heap.size + 1; omega)).trans K7.out.1, (L78.out.cell (p := ⟨w.heap.size, _, none⟩) (by show w.heap.size < w.heap.size + 1; omega)).trans K7.out.2.1, (L78.out.cell (p := ⟨w.heap.size, _, none⟩) (by show w.heap.size < w.heap.size + 1; omega)).trans K7.out.2.2.1, (L78.out.cell (p := ⟨w.heap.size, _, none⟩) (by show w.heap.size < w.heap.size + 1; omega)).trans K7.out.2.2.2.1, (L78.out.cell (p := ⟨w.heap.size, _, none⟩) (by show w.heap.size < w.heap.size + 1; omega)).trans K7.out.2.2.2.2.1, HC3.out w8 L8.out, HCK.out w8 L8.out⟩)))
      have HW8 : Hid (Below (w.heap.size + 1) (w.alloc (.cells #[.string nm, .slice da dl dc, .slice (some ⟨b0, o0, none⟩) qs.length c, .slice fa fl fc, .int .i64 rt] 26)) w8) := Lib.hid ((HWD.out.trans (HB7.out.mono SZ.out)).trans L78.out)
      go_wp2
      go_round
      case rel =>
        refine ⟨j + 1, A8, n + wl.length, c8, by omega, rfl, by go_num, Lib.hid ⟨?_, ?_, HW8.out⟩⟩
        · have h := HS.out.len
          rw [HST.out]
          rw [List.length_cons] at h ⊢
          rw [List.length_append]
          omega
        · have h := HS.out.len
          unfold MineT
          rw [HST.out, ← List.cons_append, List.map_append, List.length_append, ← h]
          exact HV8.out
      case measure => simp [intOf]; omega
    · have hje : j = q.n.kids.length := by omega
      have hjn : decide (j < q.n.kids.length) = false := by simp; omega
      have HFO : Hid (walkL qs (k : Int) = (k : Int) :: (q.n.kids.take j).flatMap (walkL qs)) := Lib.hid (by rw [HEQ.out, List.take_of_length_le (by omega)])
      subst hje
      go_wp2
      go_ret
      have h := HS.out.len
      rw [HFO.out]
      refine ⟨B, cB, by rw [← h]; rfl, ?_, LR.out⟩
      rw [← h]
      have ho := HS.out.own
      unfold MineT at ho ⊢
      exact own_weakT ho (by omega)
end Go.Proofs.Ytffccemipkhjnaa.Tr
