/-
  Layer 18, tree: meant. Conditions: the places are those of nodes, and there is one at least.
-/
import Derived.Test.YtjmpilmmgfjpmaaDoorTrOrd
set_option maxRecDepth 100000
namespace Go.Proofs.YtjmpilmmgfjpmaaDoor.Tr
open Go.Proofs.YtjmpilmmgfjpmaaDoor.Sh Go.Proofs.YtjmpilmmgfjpmaaDoor.St
open Go.RowKit
set_option linter.unusedVariables false

def defB (qs : List Nq) (x : Df × Int) : Bool := decide (x.1.node = x.2) && fitsB x.1.name.data.toList (kindAt qs x.1.node)
def meantB (p : Pq) (tops : List Int) : Bool := decide (p.defs.length + 1 = tops.length) && (decide (p.root = tops.getD (tops.length - 1) 0) && (valI (kindAt p.nodes p.root) && (p.defs.zip tops).all (defB p.nodes)))
set_option maxHeartbeats 8000000 in
theorem meant_b (p : Pq) (T : Option Addr) (cT : Nat) (tops : List Int) (b : Bool) (w : World) (hp : ProgIn w p) (hT : Ints w T tops) (hin : ∀ x ∈ tops, InR p.nodes.length x) (hne : 0 < tops.length) (h4 : tops.length ≤ 1000) (hdl : p.defs.length ≤ 1000) (hb : meantB p tops = b) :
    Calls Tryd.prog 47 #[progV p, .slice T tops.length cT] w (RetBl b w) := by
  obtain ⟨name, da, dc, dims, na, nc, nodes, fa, fc, defs, root⟩ := p
  unfold progV
  simp only at hin hdl ⊢
  obtain ⟨P1, P2, P3, P4, P5, P6, P7⟩ := hp
  simp only at P1 P2 P3 P4 P5 P6 P7
  obtain ⟨l, hl⟩ : ∃ l, tops.length = l + 1 := ⟨tops.length - 1, by omega⟩
  have BX := Lib.hid (Bk.new 26 w [.string name, .slice da dims.length dc, .slice na nodes.length nc, .slice fa defs.length fc, .int .i64 root])
  have LX := Lib.hid (below_new w (.cells #[.string name, .slice da dims.length dc, .slice na nodes.length nc, .slice fa defs.length fc, .int .i64 root] 26))
  have hlast : ∃ x, tops[l]? = some x := ⟨_, List.getElem?_eq_getElem (by omega)⟩
  obtain ⟨x, hx⟩ := hlast
  have hgd : tops.getD (tops.length - 1) 0 = x := by rw [hl, Nat.add_sub_cancel, List.getD_eq_getElem?_getD, hx]; rfl
  have hxin := hin x (List.mem_of_getElem? hx)
  have hb' : (decide (defs.length = l) && (decide (root = x) && (valI (kindAt nodes root) && (defs.zip tops).all (defB nodes)))) = b := by
    rw [← hb]; unfold meantB; simp only; rw [hgd, hl]; congr 1; exact decide_eq_decide.2 ⟨fun h => by omega, fun h => by omega⟩
  obtain ⟨bT, oT, rfl, hbT, hcT⟩ := hT hne
  have hcl := hcT l (by omega)
  have hxe : tops.getD l 0 = x := by rw [List.getD_eq_getElem?_getD, hx]; rfl
  rw [hxe] at hcl
  have hcl2 := (LX.out.cell (p := ⟨bT, oT + l, none⟩) hbT).trans hcl
  have hsub : IntKind.i64.wrap ((l : Int) + 1 - 1) = (l : Int) := by rw [Int.add_sub_cancel]; exact IntWalk.i64_in _ (by omega)
  have hsub2 : IntKind.i64.wrap (((l + 1 : Nat) : Int) - 1) = (l : Int) := by rw [Int.natCast_add]; exact hsub
  have hsub3 : IntKind.i64.wrap (l : Int) = (l : Int) := IntWalk.i64_in _ (by omega)
  have HTC := Lib.hid hcT
  have HIN := Lib.hid hin
  have HL := Lib.hid hl
  have HP2 := Lib.hid P2
  have HP3 := Lib.hid P3
  have hbT' := hbT
  rw [hl]
  by_cases hd : defs.length = l
  · have hd1 : ((defs.length : Int) != (l : Int)) = false := by simp [hd]
    have HD := Lib.hid hd
    have hb2 : (decide (root = x) && (valI (kindAt nodes root) && (defs.zip tops).all (defB nodes))) = b := by rw [← hb', decide_eq_true hd, Bool.true_and]
    by_cases hr : root = x
    · subst hr
      obtain ⟨r, hrn⟩ : ∃ r : Nat, root = (r : Int) := ⟨root.toNat, by have := hxin.1; omega⟩
      subst hrn
      have hrlt : r < nodes.length := by have := hxin.2; omega
      obtain ⟨q, hq⟩ : ∃ q, nodes[r]? = some q := ⟨_, List.getElem?_eq_getElem hrlt⟩
      have hkd : kindAt nodes (r : Int) = q.n.kind := by unfold kindAt; rw [show ((r : Int)).toNat = r by simp, hq]
      obtain ⟨b0, o0, rfl, hb0, ⟨c0, -, -, -, -, -⟩, -⟩ := P2.at_ hq
      have hc0 := (LX.out.cell (p := ⟨b0, o0 + r * 6, none⟩) hb0).trans c0
      have hrr : ((r : Int) != (r : Int)) = false := by simp
      have ir0 : (0 : Int) ≤ (r : Int) := by omega
      have il0 : (0 : Int) ≤ (l : Int) := by omega
      have il1 : (l : Int) < (l : Int) + 1 := by omega
      have il2 : (l : Int) < ((l + 1 : Nat) : Int) := by omega
      have ir1 : (r : Int) < (nodes.length : Int) := by omega
      obtain ⟨vb, hvb⟩ : ∃ vb, valI q.n.kind = vb := ⟨_, rfl⟩
      have HV := Lib.hid (fun W => value_b q.n.kind vb W hvb)
      have hb3 : (vb && (defs.zip tops).all (defB nodes)) = b := by rw [← hb2, decide_eq_true rfl, Bool.true_and, hkd, hvb]
      have HBB := Lib.hid hb3
      have KX := Lib.hid (show (w.alloc (.cells #[.string name, .slice da dims.length dc, .slice (some ⟨b0, o0, none⟩) nodes.length nc, .slice fa defs.length fc, .int .i64 (r : Int)] 26)).drew.cell? ⟨w.heap.size, 3, none⟩ = some (.slice fa defs.length fc) ∧ (w.alloc (.cells #[.string name, .slice da dims.length dc, .slice (some ⟨b0, o0, none⟩) nodes.length nc, .slice fa defs.length fc, .int .i64 (r : Int)] 26)).drew.cell? ⟨w.heap.size, 4, none⟩ = some (.int .i64 (r : Int)) ∧ (w.alloc (.cells #[.string name, .slice da dims.length dc, .slice (some ⟨b0, o0, none⟩) nodes.length nc, .slice fa defs.length fc, .int .i64 (r : Int)] 26)).drew.cell? ⟨w.heap.size, 2, none⟩ = some (.slice (some ⟨b0, o0, none⟩) nodes.length nc) ∧ (w.alloc (.cells #[.string name, .slice da dims.length dc, .slice (some ⟨b0, o0, none⟩) nodes.length nc, .slice fa defs.length fc, .int .i64 (r : Int)] 26)).drew.cell? ⟨bT, oT + l, none⟩ = some (.int .i64 (r : Int)) ∧ (w.alloc (.cells #[.string name, .slice da dims.length dc, .slice (some ⟨b0, o0, none⟩) nodes.length nc, .slice fa defs.length fc, .int .i64 (r : Int)] 26)).drew.cell? ⟨b0, o0 + r * 6, none⟩ = some (.int .i64 q.n.kind) from ⟨BX.out.c 3, BX.out.c 4, BX.out.c 2, hcl2, hc0⟩)
      have HBT := Lib.hid hbT
      have H4 := Lib.hid h4
      clear hb hb' hb2 hb3 hd hcT hin hl P1 P2 P3 P4 P5 P6 P7 hcl hcl2 hx hgd hxin hxe hdl h4 hne hbT hbT' c0 hc0 hvb hkd hq hb0 hrlt
      cases vb with
      | false =>
        have HS := Lib.hid (show b = false by rw [← HBB.out]; rfl)
        go_enter Tryd.func47, Tryd.ntmps47
        go_upto_region 2 with fail
        go_region_held3 (fun w' => w'.cell? ⟨w.heap.size, 3, none⟩ = some (.slice fa defs.length fc) ∧ w'.cell? ⟨w.heap.size, 4, none⟩ = some (.int .i64 (r : Int)) ∧ w'.cell? ⟨w.heap.size, 2, none⟩ = some (.slice (some ⟨b0, o0, none⟩) nodes.length nc) ∧ w'.cell? ⟨bT, oT + l, none⟩ = some (.int .i64 (r : Int)) ∧ w'.cell? ⟨b0, o0 + r * 6, none⟩ = some (.int .i64 q.n.kind))
          (first
            | with_reducible exact KX.out
            | go_keep)
          (first
            | (go_at_call 66; (with_reducible refine (HV.out _).mono ?_); rintro r2 w7 ⟨rfl, rfl⟩))
        go_wp2
        go_ret
        exact ⟨by rw [HS.out]; rfl, LX.out.drew⟩
      | true =>
        go_enter Tryd.func47, Tryd.ntmps47
        go_upto_region 2 with fail
        go_region_held3 (fun w' => w'.cell? ⟨w.heap.size, 3, none⟩ = some (.slice fa defs.length fc) ∧ w'.cell? ⟨w.heap.size, 4, none⟩ = some (.int .i64 (r : Int)) ∧ w'.cell? ⟨w.heap.size, 2, none⟩ = some (.slice (some ⟨b0, o0, none⟩) nodes.length nc) ∧ w'.cell? ⟨bT, oT + l, none⟩ = some (.int .i64 (r : Int)) ∧ w'.cell? ⟨b0, o0 + r * 6, none⟩ = some (.int .i64 q.n.kind))
          (first
            | with_reducible exact KX.out
            | go_keep)
          (first
            | (go_at_call 66; (with_reducible refine (HV.out _).mono ?_); rintro r2 w7 ⟨rfl, rfl⟩))
        have X0 := Lib.hid (show Bk 26 (w.alloc (.cells #[.string name, .slice da dims.length dc, .slice (some ⟨b0, o0, none⟩) nodes.length nc, .slice fa defs.length fc, .int .i64 (r : Int)] 26)).drew w.heap.size [.string name, .slice da dims.length dc, .slice (some ⟨b0, o0, none⟩) nodes.length nc, .slice fa defs.length fc, .int .i64 (r : Int)] from BX.out)
        have LD := Lib.hid (show Below w.heap.size w (w.alloc (.cells #[.string name, .slice da dims.length dc, .slice (some ⟨b0, o0, none⟩) nodes.length nc, .slice fa defs.length fc, .int .i64 (r : Int)] 26)).drew from LX.out.drew)
        clear KX BX
        generalize hW0 : (w.alloc (.cells #[.string name, .slice da dims.length dc, .slice (some ⟨b0, o0, none⟩) nodes.length nc, .slice fa defs.length fc, .int .i64 (r : Int)] 26)).drew = W0 at *
        clear hW0
        have HDS := Lib.hid (HP3.out.next LD.out)
        have HNS := Lib.hid (HP2.out.next LD.out)
        have p3 := X0.out.c 3
        simp only [List.getElem?_cons_zero, List.getElem?_cons_succ] at p3
        go_wp2_with fail
        go_loopw [39] (fun i wr => ∃ k : Nat, k ≤ defs.length ∧ i = .int .i64 (k : Int) ∧ ((defs.zip tops).take k).all (defB nodes) = true ∧ Hid (Below W0.heap.size W0 wr)) (fun i _ => defs.length - (intOf i).toNat)
        case atStart => exact ⟨0, Nat.zero_le _, rfl, by simp, Lib.hid (Below.refl _ _)⟩
        case round =>
          obtain ⟨k, hk, rfl, hal, HW⟩ := hrel
          have HA := Lib.hid hal
          have LW := Lib.hid (Gl.below_next LD.out HW.out)
          clear hal
          by_cases hlt : k < defs.length
          · obtain ⟨d, hd⟩ : ∃ d, defs[k]? = some d := ⟨_, List.getElem?_eq_getElem hlt⟩
            obtain ⟨t, ht⟩ : ∃ t, tops[k]? = some t := ⟨_, List.getElem?_eq_getElem (by have := HL.out; have := HD.out; omega)⟩
            have hz : (defs.zip tops)[k]? = some (d, t) := by rw [List.getElem?_zip_eq_some]; exact ⟨hd, ht⟩
            obtain ⟨bD, oD, rfl, hbD, ⟨d0, d1, d2⟩, hdn⟩ := (HDS.out.next HW.out).at_ hd
            have hct := HTC.out k (by have := HL.out; have := HD.out; omega)
            rw [show tops.getD k 0 = t by rw [List.getD_eq_getElem?_getD, ht]; rfl] at hct
            have hct2 := (LW.out.cell (p := ⟨bT, oT + k, none⟩) HBT.out).trans hct
            have i0 : (0 : Int) ≤ (k : Int) := by omega
            have i1 : (k : Int) < (defs.length : Int) := by omega
            have i2 : (k : Int) < (l : Int) + 1 := by have := HD.out; omega
            have i3 : (k : Int) < ((l + 1 : Nat) : Int) := by have := HD.out; omega
            have hk1 := wrap_k k (by have := H4.out; have := HL.out; have := HD.out; omega)
            have DB := Lib.hid (Bk.new 79 wr [.string d.name, .int .i64 d.pos, .int .i64 d.node])
            have LB := Lib.hid (below_new wr (.cells #[.string d.name, .int .i64 d.pos, .int .i64 d.node] 79))
            have L8 := Lib.hid (Gl.below_next LW.out LB.out)
            have LZ := Lib.hid (Gl.below_next HW.out LB.out)
            have TI := Lib.hid (HIN.out t (List.mem_of_getElem? ht))
            have HZZ := Lib.hid hz
            have q1 := (LB.out.cell (p := ⟨bT, oT + k, none⟩) (Nat.lt_of_lt_of_le HBT.out LW.out.size)).trans hct2
            have XR := Lib.hid ((X0.out.next HW.out).next LB.out)
            by_cases he : d.node = t
            · obtain ⟨r2, hr2⟩ : ∃ r2 : Nat, t = (r2 : Int) := ⟨t.toNat, by have := TI.out.1; omega⟩
              have hne : (d.node != t) = false := by simp [he]
              rw [hr2] at he hne q1
              rw [he] at DB LB L8 LZ XR d2 hne q1
              obtain ⟨q2, hq2⟩ : ∃ q, nodes[r2]? = some q := ⟨_, List.getElem?_eq_getElem (by have := TI.out.2; omega)⟩
              have hkd2 : kindAt nodes d.node = q2.n.kind := by rw [he]; unfold kindAt; rw [show ((r2 : Int)).toNat = r2 by simp, hq2]
              obtain ⟨b9, o9, e9, hb9, ⟨n0, -, -, -, -, -⟩, -⟩ := (HNS.out.next LZ.out).at_ hq2
              injection e9 with e9
              injection e9 with e9 e10 e11
              subst e9 e10
              have ir2 : (0 : Int) ≤ (r2 : Int) := by omega
              have ir3 : (r2 : Int) < (nodes.length : Int) := by have := TI.out.2; omega
              obtain ⟨fb, hfb⟩ : ∃ fb, fitsB d.name.data.toList q2.n.kind = fb := ⟨_, rfl⟩
              have HF := Lib.hid (fun W => fits_b d.name q2.n.kind fb W hdn hfb)
              have HDF : Hid (defB nodes (d, t) = fb) := Lib.hid (by unfold defB; simp only; rw [hkd2, hfb, he, hr2]; simp)
              have KY := Lib.hid (show (wr.alloc (.cells #[.string d.name, .int .i64 d.pos, .int .i64 (r2 : Int)] 79)).drew.cell? ⟨wr.heap.size, 2, none⟩ = some (.int .i64 (r2 : Int)) ∧ (wr.alloc (.cells #[.string d.name, .int .i64 d.pos, .int .i64 (r2 : Int)] 79)).drew.cell? ⟨bT, oT + k, none⟩ = some (.int .i64 (r2 : Int)) ∧ (wr.alloc (.cells #[.string d.name, .int .i64 d.pos, .int .i64 (r2 : Int)] 79)).drew.cell? ⟨wr.heap.size, 0, none⟩ = some (.string d.name) ∧ (wr.alloc (.cells #[.string d.name, .int .i64 d.pos, .int .i64 (r2 : Int)] 79)).drew.cell? ⟨w.heap.size, 2, none⟩ = some (.slice (some ⟨b0, o0, none⟩) nodes.length nc) ∧ (wr.alloc (.cells #[.string d.name, .int .i64 d.pos, .int .i64 (r2 : Int)] 79)).drew.cell? ⟨b0, o0 + r2 * 6, none⟩ = some (.int .i64 q2.n.kind) from ⟨DB.out.c 2, q1, DB.out.c 0, XR.out.c 2, n0⟩)
              have L9 := Lib.hid (show Below w.heap.size w (wr.alloc (.cells #[.string d.name, .int .i64 d.pos, .int .i64 (r2 : Int)] 79)).drew from L8.out.drew)
              have LZ9 := Lib.hid (show Below W0.heap.size W0 (wr.alloc (.cells #[.string d.name, .int .i64 d.pos, .int .i64 (r2 : Int)] 79)).drew from LZ.out.drew)
              clear hd ht hz hdn hct hct2 hkd2 hq2 hfb he hr2
              cases fb with
              | true =>
                go_upto_region 7 with fail
                go_region_held3 (fun w' => w'.cell? ⟨wr.heap.size, 2, none⟩ = some (.int .i64 (r2 : Int)) ∧ w'.cell? ⟨bT, oT + k, none⟩ = some (.int .i64 (r2 : Int)) ∧ w'.cell? ⟨wr.heap.size, 0, none⟩ = some (.string d.name) ∧ w'.cell? ⟨w.heap.size, 2, none⟩ = some (.slice (some ⟨b0, o0, none⟩) nodes.length nc) ∧ w'.cell? ⟨b0, o0 + r2 * 6, none⟩ = some (.int .i64 q2.n.kind))
                  (first
                    | with_reducible exact KY.out
                    | go_keep)
                  (first
                    | (go_at_call 67; (with_reducible refine (HF.out _).mono ?_); rintro r5 w7 ⟨rfl, rfl⟩))
                go_wp2
                go_round
                case rel => exact ⟨k + 1, by omega, by go_num, all_snocP HA.out HZZ.out HDF.out, LZ9⟩
                case measure => simp [intOf]; omega
              | false =>
                have HS := Lib.hid (show b = false by rw [← HBB.out, Bool.true_and]; exact all_badP HZZ.out HDF.out)
                go_upto_region 7 with fail
                go_region_held3 (fun w' => w'.cell? ⟨wr.heap.size, 2, none⟩ = some (.int .i64 (r2 : Int)) ∧ w'.cell? ⟨bT, oT + k, none⟩ = some (.int .i64 (r2 : Int)) ∧ w'.cell? ⟨wr.heap.size, 0, none⟩ = some (.string d.name) ∧ w'.cell? ⟨w.heap.size, 2, none⟩ = some (.slice (some ⟨b0, o0, none⟩) nodes.length nc) ∧ w'.cell? ⟨b0, o0 + r2 * 6, none⟩ = some (.int .i64 q2.n.kind))
                  (first
                    | with_reducible exact KY.out
                    | go_keep)
                  (first
                    | (go_at_call 67; (with_reducible refine (HF.out _).mono ?_); rintro r5 w7 ⟨rfl, rfl⟩))
                go_wp2
                go_ret
                exact ⟨by rw [HS.out]; rfl, L9.out⟩
            · have hne : (d.node != t) = true := by simpa using he
              have HS := Lib.hid (show b = false by rw [← HBB.out]; rw [Bool.true_and]; exact all_badP HZZ.out (by unfold defB; simp [he]))
              clear hd ht hz he hdn hct hct2
              go_upto_region 7 with fail
              go_quiet (go_wp2)
              go_wp2
              go_ret
              exact ⟨by rw [HS.out]; rfl, Gl.below_drewN L8.out _⟩
          · have hke : k = defs.length := by omega
            have HS := Lib.hid (show b = true by
              rw [← HBB.out, Bool.true_and]
              have h := HA.out
              rwa [List.take_of_length_le (by rw [List.length_zip]; omega)] at h)
            have hkn : decide (k < defs.length) = false := by simp; omega
            subst hke
            go_wp2
            go_ret
            exact ⟨by rw [HS.out]; rfl, LW.out⟩
    · have hr1 : (root != x) = true := by simpa using hr
      have HS := Lib.hid (show b = false by rw [← hb2, decide_eq_false hr]; rfl)
      clear hb hb' hb2 hd hcT hin hl P1 P2 P3 P4 P5 P6 P7 hcl hx hgd hxin hxe hdl h4 hne hbT hbT' hr
      go_enter Tryd.func47, Tryd.ntmps47
      go_upto_region 2 with fail
      go_quiet (go_wp2)
      go_wp2
      go_ret
      exact ⟨by rw [HS.out]; rfl, Gl.below_drewN LX.out _⟩
  · have hd1 : ((defs.length : Int) != (l : Int)) = true := by simp; omega
    have HS := Lib.hid (show b = false by rw [← hb', decide_eq_false hd]; rfl)
    clear hb hb' hd hcT hin hl P1 P2 P3 P4 P5 P6 P7 hcl hcl2 hx hgd hxin hxe hdl h4 hne hbT hbT'
    go_enter Tryd.func47, Tryd.ntmps47
    go_upto_region 2 with fail
    go_quiet (go_wp2)
    go_wp2
    go_ret
    exact ⟨by rw [HS.out]; rfl, Gl.below_drewN LX.out _⟩
end Go.Proofs.YtjmpilmmgfjpmaaDoor.Tr
