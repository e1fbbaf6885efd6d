/-
  Layer 18, tree: riffleref18.High. Condition: the parts of a node stand ahead of it.
-/
import Derived.Test.YtffccemipkhjnaaTrLives
set_option maxRecDepth 100000
namespace Go.Proofs.Ytffccemipkhjnaa.Tr
open Go.Proofs.Ytffccemipkhjnaa.Sh Go.Proofs.Ytffccemipkhjnaa.St
open Go.RowKit
set_option linter.unusedVariables false

set_option maxRecDepth 100000 in
set_option maxHeartbeats 8000000 in
theorem rhigh_k (nm : ByteArray) (da : Option Addr) (dl dc : Nat) (A : Option Addr) (c : Nat) (qs : List Nq) (fa : Option Addr) (fl fc : Nat) (rt : Int) (h3 : qs.length ≤ 1000) (h20 : ∀ q ∈ qs, q.n.kids.length ≤ 1000) (hA : Ahead qs) : ∀ (k : Nat) (w : World), Nodes w A qs → k < qs.length → Calls Try.prog 9 #[.agg #[.string nm, .slice da dl dc, .slice A qs.length c, .slice fa fl fc, .int .i64 rt], .int .i64 (k : Int)] w (RetI (hgt qs (k : Int)) w) := by
  intro k
  induction k using Nat.strongRecOn with
  | ind k ih =>
  intro w hn hk
  obtain ⟨q, hq⟩ : ∃ q, qs[k]? = some q := ⟨_, List.getElem?_eq_getElem hk⟩
  obtain ⟨b0, o0, rfl, hb0, ⟨c0, c1, c2, c3, c4, c5⟩, hin⟩ := hn.at_ hq
  have HEQ := Lib.hid (hgt_eq hA hq)
  have HLE := Lib.hid (hgt_le hA k hk)
  have HAH := Lib.hid (hA k q hq)
  have HLES := Lib.hid (fun m hm => hgt_le hA m hm)
  have HIH := Lib.hid ih
  have HNO := Lib.hid hn
  have BX := Lib.hid (Bk.new 26 w [.string nm, .slice da dl dc, .slice (some ⟨b0, o0, none⟩) qs.length c, .slice fa fl fc, .int .i64 rt])
  have LX := Lib.hid (below_new w (.cells #[.string nm, .slice da dl dc, .slice (some ⟨b0, o0, none⟩) qs.length c, .slice fa fl fc, .int .i64 rt] 26))
  obtain ⟨KA, hKA⟩ : ∃ KA, q.ka = KA := ⟨_, rfl⟩
  rw [hKA] at c3
  have HKI := Lib.hid (show Ints w KA q.n.kids by rw [← hKA]; exact hin.1)
  have HC3 : Hid (∀ W, Below w.heap.size w W → W.cell? ⟨b0, o0 + k * 6 + 3, none⟩ = some (.slice KA q.n.kids.length q.kc)) := Lib.hid (fun W hW => (hW.cell (p := ⟨b0, _, none⟩) hb0).trans c3)
  clear hKA
  have H20 := Lib.hid (h20 q (List.mem_of_getElem? hq))
  have HK := Lib.hid hk
  have i0 : (0 : Int) ≤ (k : Int) := by omega
  have i1 : (k : Int) < (qs.length : Int) := by omega
  clear ih hn hin hq c0 c1 c2 c3 c4 c5
  go_enter Try.func9, Try.ntmps9
  go_wp2_with fail
  go_loopw [5, 6] (fun bv iv wr => ∃ j : Nat, j ≤ q.n.kids.length ∧ bv = .int .i64 (((q.n.kids.map (hgt qs)).take j).foldl max 0 : Nat) ∧ iv = .int .i64 (j : Int) ∧ Hid (Below (w.heap.size + 1) (w.alloc (.cells #[.string nm, .slice da dl dc, .slice (some ⟨b0, o0, none⟩) qs.length c, .slice fa fl fc, .int .i64 rt] 26)) wr)) (fun _ iv _ => q.n.kids.length - (intOf iv).toNat)
  case atStart => exact ⟨0, Nat.zero_le _, rfl, rfl, Lib.hid (Below.refl _ _)⟩
  case round =>
    obtain ⟨j, hj, rfl, rfl, HW⟩ := hrel
    have LR := Lib.hid (Gl.below_next LX.out (HW.out.mono (by simp)))
    have BR := Lib.hid (BX.out.next (HW.out.mono (by simp)))
    have x0 := BR.out.c 0
    have x1 := BR.out.c 1
    have x2 := BR.out.c 2
    have x3 := BR.out.c 3
    have x4 := BR.out.c 4
    simp only [List.getElem?_cons_zero, List.getElem?_cons_succ] at x0 x1 x2 x3 x4
    have c3 := HC3.out wr LR.out
    by_cases hlt : j < q.n.kids.length
    · obtain ⟨x, hx⟩ : ∃ x, q.n.kids[j]? = some x := ⟨_, List.getElem?_eq_getElem hlt⟩
      have hxa := HAH.out x (List.mem_of_getElem? hx)
      obtain ⟨m, hm⟩ : ∃ m : Nat, x = (m : Int) := ⟨x.toNat, by omega⟩
      subst hm
      obtain ⟨bK, oK, rfl, hbK, hcK⟩ := (HKI.out.below LR.out) (by omega)
      have hcx := hcK j hlt
      rw [show q.n.kids.getD j 0 = (m : Int) by rw [List.getD_eq_getElem?_getD, hx]; rfl] at hcx
      have HR := Lib.hid (fun W (hW : Below wr.heap.size wr W) => HIH.out m (by omega) W (HNO.out.next (Gl.below_next LR.out hW)) (by have := HK.out; omega))
      have HST : Hid (((q.n.kids.map (hgt qs)).take (j + 1)).foldl max 0 = max (((q.n.kids.map (hgt qs)).take j).foldl max 0) (hgt qs (m : Int))) := Lib.hid (by
        rw [List.take_add_one, List.getElem?_map, hx]
        simp [List.foldl_append])
      have i2 : (0 : Int) ≤ (j : Int) := by omega
      have i3 : (j : Int) < (q.n.kids.length : Int) := by omega
      have hsum := wrap_k j (by have := H20.out; omega)
      have hjn : decide (j < q.n.kids.length) = true := by simpa using hlt
      obtain ⟨fo, hfo⟩ : ∃ fo, ((q.n.kids.map (hgt qs)).take j).foldl max 0 = fo := ⟨_, rfl⟩
      obtain ⟨hm', hhm⟩ : ∃ hm', hgt qs (m : Int) = hm' := ⟨_, rfl⟩
      rw [hfo, hhm] at HST
      rw [hhm] at HR
      rw [hfo]
      have HBK : Hid (bK < wr.drew.heap.size) := Lib.hid (by simpa using hbK)
      clear hx hxa hcK hbK hfo hhm
      have K0 := Lib.hid (show wr.drew.cell? ⟨w.heap.size, 0, none⟩ = some (.string nm) ∧ wr.drew.cell? ⟨w.heap.size, 1, none⟩ = some (.slice da dl dc) ∧ wr.drew.cell? ⟨w.heap.size, 2, none⟩ = some (.slice (some ⟨b0, o0, none⟩) qs.length c) ∧ wr.drew.cell? ⟨w.heap.size, 3, none⟩ = some (.slice fa fl fc) ∧ wr.drew.cell? ⟨w.heap.size, 4, none⟩ = some (.int .i64 rt) ∧ wr.drew.cell? ⟨b0, o0 + k * 6 + 3, none⟩ = some (.slice (some ⟨bK, oK, none⟩) q.n.kids.length q.kc) ∧ wr.drew.cell? ⟨bK, oK + j, none⟩ = some (.int .i64 (m : Int)) from ⟨x0, x1, x2, x3, x4, c3, hcx⟩)
      have HRD := Lib.hid (HR.out wr.drew (Below.refl _ _).drew)
      have LD := Lib.hid (LR.out.drew)
      have HWD := Lib.hid (HW.out.drew)
      clear x0 x1 x2 x3 x4 c3 hcx HR
      have x2 := BR.out.c 2
      simp only [List.getElem?_cons_zero, List.getElem?_cons_succ] at x2
      have c3 := HC3.out wr LR.out
      go_upto_region 5 with fail
      go_region_held3 (fun w' => w'.cell? ⟨w.heap.size, 0, none⟩ = some (.string nm) ∧ w'.cell? ⟨w.heap.size, 1, none⟩ = some (.slice da dl dc) ∧ w'.cell? ⟨w.heap.size, 2, none⟩ = some (.slice (some ⟨b0, o0, none⟩) qs.length c) ∧ w'.cell? ⟨w.heap.size, 3, none⟩ = some (.slice fa fl fc) ∧ w'.cell? ⟨w.heap.size, 4, none⟩ = some (.int .i64 rt) ∧ w'.cell? ⟨b0, o0 + k * 6 + 3, none⟩ = some (.slice (some ⟨bK, oK, none⟩) q.n.kids.length q.kc) ∧ w'.cell? ⟨bK, oK + j, none⟩ = some (.int .i64 (m : Int)))
        (first
          | with_reducible exact K0.out
          | with_reducible exact K7.out
          | go_keep)
        (first
          | (go_at_call 9; (with_reducible refine (HRD.out).mono ?_); rintro r w7 ⟨rfl, hb7⟩; have K7 := Lib.hid (show w7.cell? ⟨w.heap.size, 0, none⟩ = some (.string nm) ∧ w7.cell? ⟨w.heap.size, 1, none⟩ = some (.slice da dl dc) ∧ w7.cell? ⟨w.heap.size, 2, none⟩ = some (.slice (some ⟨b0, o0, none⟩) qs.length c) ∧ w7.cell? ⟨w.heap.size, 3, none⟩ = some (.slice fa fl fc) ∧ w7.cell? ⟨w.heap.size, 4, none⟩ = some (.int .i64 rt) ∧ w7.cell? ⟨b0, o0 + k * 6 + 3, none⟩ = some (.slice (some ⟨bK, oK, none⟩) q.n.kids.length q.kc) ∧ w7.cell? ⟨bK, oK + j, none⟩ = some (.int .i64 (m : Int)) from ⟨(BR.out.drew.next hb7).c 0, (BR.out.drew.next hb7).c 1, (BR.out.drew.next hb7).c 2, (BR.out.drew.next hb7).c 3, (BR.out.drew.next hb7).c 4, HC3.out w7 (Gl.below_next LD.out hb7), (hb7.cell (p := ⟨bK, _, none⟩) HBK.out).trans K0.out.2.2.2.2.2.2⟩); have HB7 := Lib.hid hb7; clear hb7))
      have HW7 := Lib.hid ((HWD.out).trans (HB7.out.mono (by have := HW.out.size; simp at this ⊢; omega)))
      by_cases hgt' : fo < hm'
      · have hmx : max fo hm' = hm' := by omega
        have hd : decide (fo < hm') = true := by simpa using hgt'
        have HMX := Lib.hid hmx
        clear hmx hgt'
        go_wp2
        go_round
        case rel => exact ⟨j + 1, by omega, by rw [HST.out, HMX.out], by go_num, HW7⟩
        case measure => simp [intOf]; omega
      · have hmx : max fo hm' = fo := by omega
        have hd : decide (fo < hm') = false := by simpa using hgt'
        have HMX := Lib.hid hmx
        clear hmx hgt'
        go_wp2
        go_round
        case rel => exact ⟨j + 1, by omega, by rw [HST.out, HMX.out], by go_num, HW7⟩
        case measure => simp [intOf]; omega
    · have hje : j = q.n.kids.length := by omega
      have HFO : Hid (hgt qs (k : Int) = ((q.n.kids.map (hgt qs)).take j).foldl max 0 + 1) := Lib.hid (by rw [HEQ.out, List.take_of_length_le (by rw [List.length_map]; omega)])
      obtain ⟨fo, hfo⟩ : ∃ fo, ((q.n.kids.map (hgt qs)).take j).foldl max 0 = fo := ⟨_, rfl⟩
      rw [hfo] at HFO ⊢
      have hsum := IntWalk.i64_in ((fo : Int) + 1) (by have := HLE.out; have := HFO.out; have := HK.out; omega)
      have hjn : decide (j < q.n.kids.length) = false := by simp; omega
      clear hfo
      subst hje
      go_wp2
      go_ret
      exact ⟨by rw [HFO.out, Int.natCast_add]; rfl, LR.out⟩
end Go.Proofs.Ytffccemipkhjnaa.Tr
