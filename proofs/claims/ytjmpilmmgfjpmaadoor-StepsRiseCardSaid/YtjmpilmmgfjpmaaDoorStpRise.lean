/-
  Layer 22, steps: rifflelaw22.StepsRise. Condition: the table of scalar functions.
-/
import Derived.Test.YtjmpilmmgfjpmaaDoorPkQc
set_option maxRecDepth 100000
namespace Go.Proofs.YtjmpilmmgfjpmaaDoor.Stp
open Go.Proofs.YtjmpilmmgfjpmaaDoor.Sh Go.Proofs.YtjmpilmmgfjpmaaDoor.St Go.Proofs.YtjmpilmmgfjpmaaDoor.Tr Go.Proofs.YtjmpilmmgfjpmaaDoor.Big
open Go.RowKit
set_option linter.unusedVariables false
set_option linter.unusedSimpArgs false

theorem of_facts {p : Pq} {L : List Sx} {fe fp : Int} (h : ofM p = (L, fe, fp)) : (fe ≠ 0 ∧ L = []) ∨ (fe = 0 ∧ L[0]? = some zeroS ∧ Rise [zeroS] L ∧ L.length ≤ p.nodes.length + 1 ∧ 0 < L.length) := by
  unfold ofM at h
  by_cases hb : flatB p = true
  · rw [if_pos hb] at h
    obtain ⟨hr, hK, hd⟩ := flat_nokn hb
    have hF := fl_right hr
    obtain ⟨m, q, hm, hq, hv, h300⟩ := root_val hr
    obtain ⟨a, ha, hsp⟩ := walk_span hr m (List.getElem?_eq_some_iff.1 hq).1
    have hml := (List.getElem?_eq_some_iff.1 hq).1
    have hwl : wl p.nodes (m : Int) ≤ p.nodes.length := by
      have h1 := hsp.len
      have h3 : a + 1 ≤ (m : Int) := by omega
      unfold wl
      have hpos : -1 ≤ a := by
        rcases Int.lt_or_le a (-1) with hl | hl
        · exfalso
          have h5 := (hsp.mem (a + 1)).2 ⟨by omega, h3⟩
          have h6 := walk_nonneg hF.ahead m (a + 1) h5
          omega
        · exact hl
      omega
    have g := va_grow hF hK m q hq hv ⟨[zeroS], 0, 0⟩ (by simp)
    rw [hm] at h
    obtain ⟨r, hrr⟩ : ∃ r, vaV p.nodes (m : Int) ⟨[zeroS], 0, 0⟩ = r := ⟨_, rfl⟩
    rw [hrr] at g h
    have gl := g.1.len
    have l1 : ([zeroS] : List Sx).length = 1 := rfl
    by_cases h0 : r.1.fe = 0
    · rw [if_pos h0] at h
      injection h with h1 h2
      injection h2 with h2 h3
      subst h1
      refine .inr ⟨h2.symm, ?_, (g.2 (by simp)).1, by simp only at gl; omega, by simp only at gl; omega⟩
      obtain ⟨N, hN, -⟩ := g.1
      rw [hN]
      rfl
    · rw [if_neg h0] at h
      injection h with h1 h2
      injection h2 with h2 h3
      exact .inl ⟨by rw [← h2]; exact h0, h1.symm⟩
  · rw [if_neg hb] at h
    injection h with h1 h2
    injection h2 with h2 h3
    exact .inl ⟨by rw [← h2]; decide, h1.symm⟩
set_option maxHeartbeats 16000000 in
theorem rise_any (p : Pq) (w : World) (hp : ProgIn w p) (hT : Sc.Tab w) : Calls Tryd.prog 5 #[progV p] w (RetBl true w) := by
  have L1 := Lib.hid (below_new w (.cells #[.string p.name, .slice p.da p.dims.length p.dc, .slice p.na p.nodes.length p.nc, .slice p.fa p.defs.length p.fc, .int .i64 p.root] 26))
  have BP := Lib.hid (show Bk 26 (w.alloc (.cells #[.string p.name, .slice p.da p.dims.length p.dc, .slice p.na p.nodes.length p.nc, .slice p.fa p.defs.length p.fc, .int .i64 p.root] 26)) w.heap.size [.string p.name, .slice p.da p.dims.length p.dc, .slice p.na p.nodes.length p.nc, .slice p.fa p.defs.length p.fc, .int .i64 p.root] from Bk.new _ w _)
  have HG := Lib.hid (great_any p _ (hp.next L1.out))
  have HLV := Lib.hid (fun W (hW : Below w.heap.size w W) => lives_any W (hT.below hW))
  have HOF := Lib.hid (fun W (hW : Below w.heap.size w W) (hf : FitP p) => of_any p W (hp.next hW) hf (hT.below hW))
  have HN := Lib.hid (fun hf : FitP p => hf.nodes)
  unfold progV at HG HOF ⊢
  clear hp hT
  go_enter Tryd.func5, Tryd.ntmps5
  go_wp2_with fail
  refine (HG.out).mono ?_
  generalize (w.alloc (.cells #[.string p.name, .slice p.da p.dims.length p.dc, .slice p.na p.nodes.length p.nc, .slice p.fa p.defs.length p.fc, .int .i64 p.root] 26)) = w1 at *
  rintro e w2 ⟨b, rfl, hf, hb2⟩
  have L2 := Lib.hid (Gl.below_next L1.out hb2)
  have BP2 := Lib.hid (BP.out.next hb2)
  have HF := Lib.hid hf
  clear hb2 hf
  cases b with
  | true =>
    go_wp2_with fail
    refine (HLV.out w2 L2.out).mono ?_
    rintro e w3 ⟨rfl, hb3⟩
    have L3 := Lib.hid (Gl.below_next L2.out hb3)
    clear hb3
    go_wp2
    go_ret
    exact ⟨rfl, L3.out⟩
  | false =>
    have HFT := Lib.hid (HF.out rfl)
    have HNL := Lib.hid (HN.out HFT.out)
    have x0 := BP2.out.c 0
    have x1 := BP2.out.c 1
    have x2 := BP2.out.c 2
    have x3 := BP2.out.c 3
    have x4 := BP2.out.c 4
    simp only [List.getElem?_cons_zero, List.getElem?_cons_succ] at x0 x1 x2 x3 x4
    go_wp2_with fail
    refine (HOF.out w2 L2.out HFT.out).mono ?_
    rintro e w3 ⟨A, c, ls, fe, fp, hof, rfl, hs, hn, hl, hb3⟩
    have L3 := Lib.hid (Gl.below_next L2.out hb3)
    have BP3 := Lib.hid (BP2.out.next hb3)
    have FA := Lib.hid (of_facts hof)
    have HS := Lib.hid hs
    have HL := Lib.hid hl
    have L4 := Lib.hid (L3.out.trans ((below_new w3 (.cells #[.int .i64 fe, .int .i64 fp] 32)).mono L3.out.size))
    have N4 := Lib.hid (below_new w3 (.cells #[.int .i64 fe, .int .i64 fp] 32))
    have BP4 := Lib.hid (BP3.out.alloc (.cells #[.int .i64 fe, .int .i64 fp] 32))
    clear hof hs hn hl hb3 x0 x1 x2 x3 x4
    by_cases h0 : fe = 0
    · have F2 : Hid ((ls.map Prod.fst)[0]? = some zeroS ∧ Rise [zeroS] (ls.map Prod.fst) ∧ (ls.map Prod.fst).length ≤ p.nodes.length + 1 ∧ 0 < (ls.map Prod.fst).length) := Lib.hid (by
        rcases FA.out with h | h
        · exact absurd h0 h.1
        · exact h.2)
      have F3 := Lib.hid (show ls.length ≤ p.nodes.length + 1 ∧ 0 < ls.length by have := F2.out.2.2; rw [List.length_map] at this; exact this)
      subst h0
      clear FA
      obtain ⟨bS, oS, rfl, hbS, hcS⟩ := seq_at HS.out (by rw [flat10_len]; have := F3.out; omega)
      have HC := Lib.hid hcS
      have HBS := Lib.hid hbS
      clear hcS hbS
      go_wp2_with fail
      generalize (w3.alloc (.cells #[.int .i64 0, .int .i64 fp] 32)) = w4 at *
      go_loopw [26] (fun iv wr => ∃ j : Nat, j ≤ ls.length ∧ iv = .int .i64 (j : Int) ∧ Hid (Below w4.heap.size w4 wr)) (fun iv _ => ls.length - (intOf iv).toNat)
      case atStart => exact ⟨0, Nat.zero_le _, rfl, Lib.hid (Below.refl _ _)⟩
      case round =>
        obtain ⟨j, hj, rfl, HW⟩ := hrel
        by_cases hlt : j < ls.length
        · obtain ⟨q, hq⟩ : ∃ q, ls[j]? = some q := ⟨_, List.getElem?_eq_getElem hlt⟩
          have HX := Lib.hid (fun i (hi : i < 10) => (HW.out.cell (p := ⟨bS, oS + (j * 10 + i), none⟩) (Nat.lt_of_lt_of_le HBS.out N4.out.size)).trans ((N4.out.cell (p := ⟨bS, oS + (j * 10 + i), none⟩) HBS.out).trans (HC.out (j * 10 + i) _ ((flat10_at ls j q hq i hi).trans (by rw [List.getElem?_eq_getElem (show i < (cq q).length by rw [cq_len]; exact hi)])))))
          have HRI := Lib.hid (show (j = 0 ∧ q.1 = zeroS) ∨ (0 < j ∧ 1 ≤ q.1.kind ∧ q.1.kind ≤ 13 ∧ 0 ≤ q.1.a ∧ q.1.a < (j : Int) ∧ 0 ≤ q.1.b ∧ q.1.b < (j : Int)) by
            rcases Nat.eq_zero_or_pos j with h | h
            · subst h
              left
              have := F2.out.1
              rw [List.getElem?_map, hq] at this
              exact ⟨rfl, by simpa using this⟩
            · exact .inr ⟨h, F2.out.2.1 j q.1 (by rw [List.getElem?_map, hq]; rfl) h⟩)
          obtain ⟨⟨kd, fc, fs, gc, gs, cd, sa, sb, nums, ps⟩, na, nc⟩ := q
          have c0 := HX.out 0 (by omega)
          have c1 := HX.out 1 (by omega)
          have c2 := HX.out 2 (by omega)
          have c3 := HX.out 3 (by omega)
          have c4 := HX.out 4 (by omega)
          have c5 := HX.out 5 (by omega)
          have c6 := HX.out 6 (by omega)
          have c7 := HX.out 7 (by omega)
          have c8 := HX.out 8 (by omega)
          have c9 := HX.out 9 (by omega)
          simp only [cq, vq, List.getElem_cons_zero, List.getElem_cons_succ] at c0 c1 c2 c3 c4 c5 c6 c7 c8 c9
          simp only [← Nat.add_assoc, Nat.add_zero] at c0 c1 c2 c3 c4 c5 c6 c7 c8 c9
          have i2 : (0 : Int) ≤ (j : Int) := by omega
          have i3 : (j : Int) < (ls.length : Int) := by omega
          have hsum := wrap_k j (by have := HL.out; omega)
          have LA := Lib.hid (show Below w4.heap.size w4 (wr.alloc (.cells #[.int .i64 kd, .int .i64 fc, .bool fs, .int .i64 gc, .bool gs, .int .i64 cd, .int .i64 sa, .int .i64 sb, .slice na nums.length nc, .int .i64 ps] 49)) from HW.out.trans ((below_new wr _).mono HW.out.size))
          clear hq
          rcases HRI.out with ⟨hj0, hz⟩ | ⟨hj0, hk1, hk2, ha1, ha2, hb1, hb2⟩
          · subst hj0
            injection hz with z1 z2 z3 z4 z5 z6 z7 z8 z9 z10
            subst z1
            simp only [Nat.zero_mul, Nat.add_zero] at c0 c1 c2 c3 c4 c5 c6 c7 c8 c9
            clear HRI HX
            go_wp2
            go_round
            case rel => exact ⟨1, by omega, by go_num, Lib.hid (HW.out.trans ((below_new wr _).mono HW.out.size))⟩
            case measure => simp [intOf]; omega
          · simp only at hk1 hk2 ha1 ha2 hb1 hb2
            have t1 : (kd == 0) = false := by simp; omega
            have t1' : decide (kd = 0) = false := by simp; omega
            have t2 : ((j : Int) == 0) = false := by simp; omega
            have t2' : decide ((j : Int) = 0) = false := by simp; omega
            have t2n : decide (j = 0) = false := by simp; omega
            have t3 : decide ((0 : Int) < (j : Int)) = true := by simp; omega
            have t3' : decide (0 < j) = true := by simp; omega
            have t4 : decide (sa < 0) = false := by simp; omega
            have t5 : decide ((j : Int) ≤ sa) = false := by simp; omega
            have t6 : decide (sb < 0) = false := by simp; omega
            have t7 : decide ((j : Int) ≤ sb) = false := by simp; omega
            have t8 : decide (kd < 0) = false := by simp; omega
            have t9 : decide (13 < kd) = false := by simp; omega
            clear HRI HX hj0 hk1 hk2 ha1 ha2 hb1 hb2
            go_wp2
            go_round
            case rel => exact ⟨j + 1, by omega, by go_num, LA⟩
            case measure => simp [intOf]; omega
        · have hje : j = ls.length := by omega
          have LW := Lib.hid (show Below w.heap.size w wr from Gl.below_next L4.out HW.out)
          have BPW := Lib.hid (BP4.out.next HW.out)
          have x2 := BPW.out.c 2
          simp only [List.getElem?_cons_zero, List.getElem?_cons_succ] at x2
          have g1 : decide ((0 : Int) < (ls.length : Int)) = true := by have := F3.out.2; simp; omega
          have g1' : decide (0 < ls.length) = true := by have := F3.out.2; simp; omega
          have hs2 : IntKind.i64.wrap ((p.nodes.length : Int) + 1) = (p.nodes.length : Int) + 1 := IntWalk.i64_in _ (by have := HNL.out; omega)
          have g2 : decide ((ls.length : Int) ≤ (p.nodes.length : Int) + 1) = true := by have := F3.out.1; simp; omega
          have g2' : decide (ls.length ≤ p.nodes.length + 1) = true := by have := F3.out.1; simp; omega
          have hjn : decide (j < ls.length) = false := by simp; omega
          go_wp2_with fail
          refine (HLV.out wr LW.out).mono ?_
          rintro e w5 ⟨rfl, hb5⟩
          have L5 := Lib.hid (Gl.below_next LW.out hb5)
          clear hb5
          go_wp2
          go_ret
          exact ⟨rfl, L5.out⟩
    · have HNIL := Lib.hid (show ls = [] by
        rcases FA.out with h | h
        · exact List.map_eq_nil_iff.1 h.2
        · exact absurd h.1 h0)
      have u0 : (fe != 0) = true := by simp [h0]
      have u0' : decide (fe = 0) = false := by simp [h0]
      have e0 := HNIL.out
      subst e0
      clear FA h0
      go_wp2_with fail
      refine (HLV.out _ L4.out).mono ?_
      rintro e w5 ⟨rfl, hb5⟩
      have L5 := Lib.hid (Gl.below_next L4.out hb5)
      clear hb5
      go_wp2
      go_ret
      exact ⟨rfl, L5.out⟩
end Go.Proofs.YtjmpilmmgfjpmaaDoor.Stp
