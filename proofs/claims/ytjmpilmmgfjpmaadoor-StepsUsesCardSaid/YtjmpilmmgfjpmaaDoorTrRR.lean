/-
  Layer 18, tree: riffleref18.Right. Condition: the program is no greater than what is gone through.
-/
import Derived.Test.YtjmpilmmgfjpmaaDoorTrDownW
import Derived.Test.YtjmpilmmgfjpmaaDoorTrEq2
set_option maxRecDepth 100000
namespace Go.Proofs.YtjmpilmmgfjpmaaDoor.Tr
open Go.Proofs.YtjmpilmmgfjpmaaDoor.Sh Go.Proofs.YtjmpilmmgfjpmaaDoor.St
open Go.RowKit
set_option linter.unusedVariables false
set_option linter.unusedSimpArgs false

theorem named_three (l : List UInt8) : Tk.namedN l = 0 ∨ Tk.namedN l = 2 ∨ Tk.namedN l = 3 := by
  unfold Tk.namedN
  split
  · exact .inl rfl
  · split
    · exact .inl rfl
    · repeat' split
      all_goals simp
theorem defs_skip {qs : List Nq} {l : List Df} {c : Nat} {d : Df} (h : l[c]? = some d) (a : Int) : defsDown qs (l.take (c + 1)).reverse (some a) = if d.node = a ∧ 0 ≤ a ∧ fitsB d.name.data.toList (kindAt qs a) = true then defsDown qs (l.take c).reverse (down qs a) else false := by
  rw [List.take_add_one, h]
  simp only [Option.toList_some, List.reverse_append, List.reverse_cons, List.reverse_nil, List.nil_append, List.singleton_append]
  rw [defsDown]
theorem defs_none (qs : List Nq) (l : List Df) : defsDown qs l none = false := by cases l <;> rfl
/-- What a loop over the definitions has come to. -/
def atOk (o : Option Int) (a : Int) (ok : Bool) : Prop := match o with
  | some x => a = x ∧ ok = true
  | none => ok = false
theorem retDn_two {i : Int} {o : Option Int} {w w' : World} {e : Ending} (h : RetDn i o w e w') : ∃ a ok, e = .returned (.tuple #[.int .i64 a, .bool ok]) ∧ atOk o a ok ∧ Below w.heap.size w w' := by
  cases o with
  | none => exact ⟨i, false, h.1, rfl, h.2⟩
  | some a => exact ⟨a, true, h.1, ⟨rfl, rfl⟩, h.2⟩
set_option maxRecDepth 100000 in
set_option maxHeartbeats 16000000 in
theorem rright_b (p : Pq) (b : Bool) (w : World) (hp : ProgIn w p) (hf : FitP p) (hb : rightR p = b) : Calls Tryd.prog 26 #[progV p] w (RetBl b w) := by
  have HPI := Lib.hid hp
  have HF := Lib.hid hf
  have BX := Lib.hid (Bk.new 26 w [.string p.name, .slice p.da p.dims.length p.dc, .slice p.na p.nodes.length p.nc, .slice p.fa p.defs.length p.fc, .int .i64 p.root])
  have LX := Lib.hid (below_new w (.cells #[.string p.name, .slice p.da p.dims.length p.dc, .slice p.na p.nodes.length p.nc, .slice p.fa p.defs.length p.fc, .int .i64 p.root] 26))
  obtain ⟨v, hv⟩ : ∃ v, Tk.namedN p.name.data.toList = v := ⟨_, rfl⟩
  have HNM := Lib.hid (fun W => Tk.rnamed_any p.name W hp.2.2.2.1)
  rw [hv] at HNM
  obtain ⟨rb, hrb⟩ : ∃ rb, rightB p.dims = rb := ⟨_, rfl⟩
  have HRB := Lib.hid (fun W hw => refRight_any p.da p.dc p.dims W hp.2.2.2.2.1 (hp.1.below (w' := W) hw))
  rw [hrb] at HRB
  unfold rightR at hb
  rw [hv, hrb] at hb
  obtain ⟨n, hnn⟩ : ∃ n, p.nodes.length = n := ⟨_, rfl⟩
  obtain ⟨nd, hnd⟩ : ∃ nd, p.defs.length = nd := ⟨_, rfl⟩
  rw [hnn, hnd] at BX LX
  rw [hnn, hnd] at hb
  have HNL := Lib.hid hnn
  have HDL := Lib.hid hnd
  have hn3 := hf.nodes
  have hd3 := hf.defs
  rw [hnn] at hn3
  rw [hnd] at hd3
  unfold progV
  rw [hnn, hnd]
  have hsub : IntKind.i64.wrap ((n : Int) - 1) = (n : Int) - 1 := IntWalk.i64_in _ (by omega)
  have hsubd : IntKind.i64.wrap ((nd : Int) - 1) = (nd : Int) - 1 := IntWalk.i64_in _ (by omega)
  have HRW := Lib.hid (HRB.out _ LX.out)
  clear hv hrb hnn hnd hp hf HRB
  by_cases z0 : v = 2
  · have D0 := Lib.hid z0
    have y0_0 : ((v : Int) != 2) = false := by simp [z0]
    clear z0
    by_cases z1 : rb = true
    · have D1 := Lib.hid z1
      subst z1
      by_cases z2 : 0 < n
      · have D2 := Lib.hid z2
        have y2_0 : decide ((n : Int) < 1) = false := by simp; omega
        by_cases z3 : n ≤ 300
        · have D3 := Lib.hid z3
          have y3_0 : decide ((300 : Int) < (n : Int)) = false := by simp; omega
          clear z3
          by_cases z4 : nd ≤ 300
          · have D4 := Lib.hid z4
            have y4_0 : decide ((300 : Int) < (nd : Int)) = false := by simp; omega
            clear z4
            by_cases z5 : p.root = (n : Int) - 1
            · have D5 := Lib.hid z5
              have y5_0 : (p.root != (n : Int) - 1) = false := by simp [z5]
              clear z5
              obtain ⟨r, hr⟩ : ∃ r : Nat, n = r + 1 := ⟨n - 1, by have := D2.out; omega⟩
              subst hr
              have hroot : p.root = (r : Int) := by have := D5.out; omega
              obtain ⟨q, hq⟩ : ∃ q, p.nodes[r]? = some q := ⟨_, List.getElem?_eq_getElem (by rw [HNL.out]; omega)⟩
              have hkd : kindAt p.nodes (r : Int) = q.n.kind := by unfold kindAt; rw [show ((r : Int)).toNat = r by simp, hq]
              obtain ⟨b0, o0, hA0, hb0, ⟨c0, -, -, -, -, -⟩, -⟩ := HPI.out.2.1.at_ hq
              have hc0 := (LX.out.cell (p := ⟨b0, o0 + r * 6, none⟩) hb0).trans c0
              obtain ⟨vb, hvb⟩ : ∃ vb, valI q.n.kind = vb := ⟨_, rfl⟩
              have HV := Lib.hid (fun W => rvalue_b q.n.kind vb W hvb)
              have hb2 : (vb && defsDown p.nodes p.defs.reverse (down p.nodes (r : Int))) = b := by
                rw [← hb]
                simp [D0.out, D1.out, D2.out, D3.out, D4.out, D5.out, hroot, hkd, hvb]
              have HBB := Lib.hid hb2
              have HNI := Lib.hid HPI.out.2.1
              have HDI := Lib.hid HPI.out.2.2.1
              have HDK := Lib.hid (fun (k : Nat) W (hw : Below w.heap.size w W) (hk : k < r + 1) => rdown_k p.na p.nc p.nodes (by have := HF.out.nodes; omega) (fun q hq => by have := HF.out.kids q hq; omega) k W (HPI.out.2.1.next hw) (by rw [HNL.out]; exact hk))
              simp only [HNL.out] at HDK
              rw [hA0, hroot] at BX LX hc0 HRW
              rw [hA0] at HDK HNI
              rw [hA0, hroot]
              have ir0 : (0 : Int) ≤ (r : Int) := by omega
              have ir1 : (r : Int) < ((r + 1 : Nat) : Int) := by omega
              have ir2 : (r : Int) < (r : Int) + 1 := by omega
              have hsub9 : IntKind.i64.wrap (r : Int) = (r : Int) := IntWalk.i64_in _ (by omega)
              have e9 : ((r : Int) != (r : Int)) = false := by simp
              have yy2 : decide ((r : Int) + 1 < 1) = false := by simp; omega
              have yy3 : decide ((300 : Int) < (r : Int) + 1) = false := by have := D3.out; simp; omega
              clear hb hb2 hvb hkd hq hroot hA0 hb0 c0
              cases vb with
              | false =>
                have HS := Lib.hid (show b = false by rw [← HBB.out]; rfl)
                go_enter Tryd.func26, Tryd.ntmps26
                go_wp2_with fail
                refine (HNM.out _).mono ?_
                rintro e w1 ⟨rfl, rfl⟩
                go_wp2_with fail
                refine (HRW.out).mono ?_
                rintro e w1 ⟨rfl, rfl⟩
                go_wp2_with fail
                refine (HV.out _).mono ?_
                rintro e w1 ⟨rfl, rfl⟩
                go_wp2
                go_ret
                exact ⟨by rw [HS.out]; rfl, LX.out⟩
              | true =>
                go_enter Tryd.func26, Tryd.ntmps26
                go_wp2_with fail
                refine (HNM.out _).mono ?_
                rintro e w1 ⟨rfl, rfl⟩
                go_wp2_with fail
                refine (HRW.out).mono ?_
                rintro e w1 ⟨rfl, rfl⟩
                go_wp2_with fail
                refine (HV.out _).mono ?_
                rintro e w1 ⟨rfl, rfl⟩
                go_wp2_with fail
                refine (HDK.out r _ LX.out (by omega)).mono ?_
                intro e w2 hr2
                obtain ⟨a0, ok0, rfl, hat0, hb2⟩ := retDn_two hr2
                have L2 := Lib.hid (Gl.below_next LX.out hb2)
                have B2 := Lib.hid (BX.out.next hb2)
                have x3 := B2.out.c 3
                simp only [List.getElem?_cons_zero, List.getElem?_cons_succ] at x3
                have HAT0 := Lib.hid hat0
                clear hr2 hat0 hb2 hc0 hsub hsub9
                go_wp2_with fail
                go_loopw [3, 4, 5] (fun av okv iv wr => ∃ (c' : Nat) (a : Int) (ok : Bool) (o : Option Int), c' ≤ nd ∧ av = .int .i64 a ∧ okv = .bool ok ∧ iv = .int .i64 ((c' : Int) - 1) ∧ Hid (atOk o a ok) ∧ Hid (∀ x, o = some x → x < (r : Int) + 1) ∧ Hid (defsDown p.nodes p.defs.reverse (down p.nodes (r : Int)) = defsDown p.nodes (p.defs.take c').reverse o) ∧ Hid (Below w2.heap.size w2 wr)) (fun _ _ iv _ => (intOf iv + 1).toNat)
                case atStart => exact ⟨nd, a0, ok0, down p.nodes (r : Int), Nat.le_refl _, rfl, rfl, rfl, HAT0, Lib.hid (fun x hx => by have := down_lt hx; omega), Lib.hid (by rw [List.take_of_length_le (by rw [HDL.out]; exact Nat.le_refl _)]), Lib.hid (Below.refl _ _)⟩
                case round =>
                  obtain ⟨c', a, ok, o, hc', rfl, rfl, rfl, HAT, HLT, HINV, HW⟩ := hrel
                  have LR := Lib.hid (Gl.below_next L2.out HW.out)
                  cases o with
                  | none =>
                    obtain rfl : ok = false := HAT.out
                    have HS := Lib.hid (show b = false by rw [← HBB.out, HINV.out, defs_none]; rfl)
                    cases c' with
                    | zero =>
                      rw [show ((0 : Nat) : Int) - 1 = -1 by rfl]
                      go_wp2
                      go_ret
                      exact ⟨by rw [HS.out]; rfl, LR.out⟩
                    | succ c2 =>
                      rw [show ((c2 + 1 : Nat) : Int) - 1 = (c2 : Int) by omega]
                      have tc : decide ((0 : Int) ≤ (c2 : Int)) = true := by simp
                      go_wp2
                      go_ret
                      exact ⟨by rw [HS.out]; rfl, LR.out⟩
                  | some y =>
                    obtain ⟨rfl, rfl⟩ : a = y ∧ ok = true := HAT.out
                    cases c' with
                    | zero =>
                      rw [show ((0 : Nat) : Int) - 1 = -1 by rfl]
                      have HS := Lib.hid (show b = decide (a = -1) by rw [← HBB.out, HINV.out]; rfl)
                      obtain ⟨t, ht⟩ : ∃ t, (a == -1) = t := ⟨_, rfl⟩
                      have HT : Hid (b = t) := Lib.hid (by rw [HS.out, ← ht]; by_cases h : a = -1 <;> simp [h])
                      go_wp2
                      go_ret
                      exact ⟨by rw [HT.out]; rfl, LR.out⟩
                    | succ c2 =>
                      rw [show ((c2 + 1 : Nat) : Int) - 1 = (c2 : Int) by omega]
                      have tc : decide ((0 : Int) ≤ (c2 : Int)) = true := by simp
                      have hsubc : IntKind.i64.wrap ((c2 : Int) - 1) = (c2 : Int) - 1 := IntWalk.i64_in _ (by omega)
                      obtain ⟨d, hd⟩ : ∃ d, p.defs[c2]? = some d := ⟨_, List.getElem?_eq_getElem (by rw [HDL.out]; omega)⟩
                      have HZ := Lib.hid hd
                      have BR := Lib.hid (B2.out.next HW.out)
                      have z3 := BR.out.c 3
                      simp only [List.getElem?_cons_zero, List.getElem?_cons_succ] at z3
                      obtain ⟨bD, oD, hDA, hbD, ⟨d0, d1, d2⟩, hdn⟩ := (HDI.out.next LR.out).at_ hd
                      rw [hDA] at z3
                      have ic0 : (0 : Int) ≤ (c2 : Int) := by omega
                      have ic1 : (c2 : Int) < (nd : Int) := by omega
                      have DB := Lib.hid (Bk.new 79 wr [.string d.name, .int .i64 d.pos, .int .i64 d.node])
                      have LB := Lib.hid (below_new wr (.cells #[.string d.name, .int .i64 d.pos, .int .i64 d.node] 79))
                      have L5 := Lib.hid (Gl.below_next LR.out LB.out)
                      have HW5 := Lib.hid (Gl.below_next HW.out LB.out)
                      have B5 := Lib.hid (BR.out.next LB.out)
                      have HDN := Lib.hid hdn
                      clear hd hDA hbD hdn
                      by_cases hda : d.node = a ∧ 0 ≤ a
                      · obtain ⟨hd1, ha0⟩ := hda
                        obtain ⟨a', ha'⟩ : ∃ a' : Nat, a = (a' : Int) := ⟨a.toNat, by omega⟩
                        subst ha'
                        have HD1 := Lib.hid hd1
                        have e1 : (d.node != (a' : Int)) = false := by rw [hd1]; simp
                        have t2 : decide ((a' : Int) < 0) = false := by simp
                        have HAR := Lib.hid (show a' < r + 1 by have := HLT.out _ rfl; omega)
                        obtain ⟨q2, hq2⟩ : ∃ q, p.nodes[a']? = some q := ⟨_, List.getElem?_eq_getElem (by rw [HNL.out]; exact HAR.out)⟩
                        have hkd2 : kindAt p.nodes (a' : Int) = q2.n.kind := by unfold kindAt; rw [show ((a' : Int)).toNat = a' by simp, hq2]
                        obtain ⟨b9, o9, e9, hb9, ⟨n0, -, -, -, -, -⟩, -⟩ := (HNI.out.next L5.out).at_ hq2
                        injection e9 with e9
                        injection e9 with e9 e10 e11
                        subst e9 e10
                        have x2 := B5.out.c 2
                        simp only [List.getElem?_cons_zero, List.getElem?_cons_succ] at x2
                        have ia0 : (0 : Int) ≤ (a' : Int) := by omega
                        have ia1 : (a' : Int) < ((r + 1 : Nat) : Int) := by have := HAR.out; omega
                        have ia2 : (a' : Int) < (r : Int) + 1 := by have := HAR.out; omega
                        obtain ⟨nv, hnv⟩ : ∃ nv, Tk.namedN d.name.data.toList = nv := ⟨_, rfl⟩
                        have HNV := Lib.hid (fun W => Tk.rnamed_any d.name W HDN.out)
                        rw [hnv] at HNV
                        have hn3' := named_three d.name.data.toList
                        rw [hnv] at hn3'
                        have hfit : fitsB d.name.data.toList (kindAt p.nodes (a' : Int)) = if nv = 2 then valI q2.n.kind else if nv = 3 then funI q2.n.kind else false := by unfold fitsB; rw [hnv, hkd2]
                        have HFIT := Lib.hid hfit
                        clear hd1 ha0 hq2 hb9 hnv hkd2 hfit
                        rcases hn3' with rfl | rfl | rfl
                        · have HS := Lib.hid (show b = false by rw [← HBB.out, HINV.out, defs_skip HZ.out, if_neg (fun h => by rw [HFIT.out] at h; exact absurd h.2.2 (by simp))]; rfl)
                          go_wp2_with fail
                          refine (HNV.out _).mono ?_
                          rintro e w8 ⟨rfl, rfl⟩
                          go_wp2
                          go_ret
                          exact ⟨by rw [HS.out]; rfl, L5.out⟩
                        · obtain ⟨vb, hvb⟩ : ∃ vb, valI q2.n.kind = vb := ⟨_, rfl⟩
                          have HV2 := Lib.hid (fun W => rvalue_b q2.n.kind vb W hvb)
                          have HF2 : Hid (fitsB d.name.data.toList (kindAt p.nodes (a' : Int)) = vb) := Lib.hid (by rw [HFIT.out, if_pos rfl, hvb])
                          clear hvb
                          cases vb with
                          | false =>
                            have HS := Lib.hid (show b = false by rw [← HBB.out, HINV.out, defs_skip HZ.out, if_neg (fun h => by rw [HF2.out] at h; exact absurd h.2.2 (by simp))]; rfl)
                            go_wp2_with fail
                            refine (HNV.out _).mono ?_
                            rintro e w8 ⟨rfl, rfl⟩
                            go_wp2_with fail
                            refine (HV2.out _).mono ?_
                            rintro e w8 ⟨rfl, rfl⟩
                            go_wp2
                            go_ret
                            exact ⟨by rw [HS.out]; rfl, L5.out⟩
                          | true =>
                            have HDA := Lib.hid (HDK.out a' _ L5.out HAR.out)
                            go_wp2_with fail
                            refine (HNV.out _).mono ?_
                            rintro e w8 ⟨rfl, rfl⟩
                            go_wp2_with fail
                            refine (HV2.out _).mono ?_
                            rintro e w8 ⟨rfl, rfl⟩
                            go_wp2_with fail
                            refine (HDA.out).mono ?_
                            intro e w9 hr9
                            obtain ⟨a9, ok9, rfl, hat9, hb9⟩ := retDn_two hr9
                            have HAT9 := Lib.hid hat9
                            have HW9 := Lib.hid (Gl.below_next HW5.out hb9)
                            clear hr9 hat9 hb9
                            go_wp2
                            go_round
                            case rel => exact ⟨c2, a9, ok9, down p.nodes (a' : Int), by omega, rfl, rfl, rfl, HAT9, Lib.hid (fun x hx => by have := down_lt hx; have := HAR.out; omega), Lib.hid (by have h := HINV.out; rw [defs_skip HZ.out, if_pos ⟨HD1.out, by omega, HF2.out⟩] at h; exact h), HW9⟩
                            case measure => first | (simp [intOf]; done) | (simp [intOf]; omega)
                        · obtain ⟨vb, hvb⟩ : ∃ vb, funI q2.n.kind = vb := ⟨_, rfl⟩
                          have HV2 := Lib.hid (fun W => rfunction_b q2.n.kind vb W hvb)
                          have HF2 : Hid (fitsB d.name.data.toList (kindAt p.nodes (a' : Int)) = vb) := Lib.hid (by rw [HFIT.out, if_neg (by decide), if_pos rfl, hvb])
                          clear hvb
                          cases vb with
                          | false =>
                            have HS := Lib.hid (show b = false by rw [← HBB.out, HINV.out, defs_skip HZ.out, if_neg (fun h => by rw [HF2.out] at h; exact absurd h.2.2 (by simp))]; rfl)
                            go_wp2_with fail
                            refine (HNV.out _).mono ?_
                            rintro e w8 ⟨rfl, rfl⟩
                            go_wp2_with fail
                            refine (HV2.out _).mono ?_
                            rintro e w8 ⟨rfl, rfl⟩
                            go_wp2
                            go_ret
                            exact ⟨by rw [HS.out]; rfl, L5.out⟩
                          | true =>
                            have HDA := Lib.hid (HDK.out a' _ L5.out HAR.out)
                            go_wp2_with fail
                            refine (HNV.out _).mono ?_
                            rintro e w8 ⟨rfl, rfl⟩
                            go_wp2_with fail
                            refine (HV2.out _).mono ?_
                            rintro e w8 ⟨rfl, rfl⟩
                            go_wp2_with fail
                            refine (HDA.out).mono ?_
                            intro e w9 hr9
                            obtain ⟨a9, ok9, rfl, hat9, hb9⟩ := retDn_two hr9
                            have HAT9 := Lib.hid hat9
                            have HW9 := Lib.hid (Gl.below_next HW5.out hb9)
                            clear hr9 hat9 hb9
                            go_wp2
                            go_round
                            case rel => exact ⟨c2, a9, ok9, down p.nodes (a' : Int), by omega, rfl, rfl, rfl, HAT9, Lib.hid (fun x hx => by have := down_lt hx; have := HAR.out; omega), Lib.hid (by have h := HINV.out; rw [defs_skip HZ.out, if_pos ⟨HD1.out, by omega, HF2.out⟩] at h; exact h), HW9⟩
                            case measure => first | (simp [intOf]; done) | (simp [intOf]; omega)
                      · have HS := Lib.hid (show b = false by rw [← HBB.out, HINV.out, defs_skip HZ.out, if_neg (fun h => hda ⟨h.1, h.2.1⟩)]; rfl)
                        by_cases hd1 : d.node = a
                        · have e1 : (d.node != a) = false := by simp [hd1]
                          have t2 : decide (a < 0) = true := by simp; omega
                          clear hda hd1
                          go_wp2
                          go_ret
                          exact ⟨by rw [HS.out]; rfl, L5.out⟩
                        · have e1 : (d.node != a) = true := by simpa using hd1
                          clear hda hd1
                          go_wp2
                          go_ret
                          exact ⟨by rw [HS.out]; rfl, L5.out⟩
            · have D5 := Lib.hid z5
              have HS := Lib.hid (show b = false by rw [← hb]; simp [D0.out, D1.out, D2.out, D3.out, D4.out, D5.out])
              have y5_0 : (p.root != (n : Int) - 1) = true := by simpa using z5
              clear z5
              clear hb
              go_enter Tryd.func26, Tryd.ntmps26
              go_wp2_with fail
              refine (HNM.out _).mono ?_
              rintro e w1 ⟨rfl, rfl⟩
              go_wp2_with fail
              refine (HRW.out).mono ?_
              rintro e w1 ⟨rfl, rfl⟩
              go_wp2
              go_ret
              exact ⟨by rw [HS.out]; rfl, LX.out⟩
          · have D4 := Lib.hid z4
            have HS := Lib.hid (show b = false by rw [← hb]; simp [D0.out, D1.out, D2.out, D3.out, D4.out])
            have y4_0 : decide ((300 : Int) < (nd : Int)) = true := by simp; omega
            clear z4
            clear hb
            go_enter Tryd.func26, Tryd.ntmps26
            go_wp2_with fail
            refine (HNM.out _).mono ?_
            rintro e w1 ⟨rfl, rfl⟩
            go_wp2_with fail
            refine (HRW.out).mono ?_
            rintro e w1 ⟨rfl, rfl⟩
            go_wp2
            go_ret
            exact ⟨by rw [HS.out]; rfl, LX.out⟩
        · have D3 := Lib.hid z3
          have HS := Lib.hid (show b = false by rw [← hb]; simp [D0.out, D1.out, D2.out, D3.out])
          have y3_0 : decide ((300 : Int) < (n : Int)) = true := by simp; omega
          clear z3
          clear hb
          go_enter Tryd.func26, Tryd.ntmps26
          go_wp2_with fail
          refine (HNM.out _).mono ?_
          rintro e w1 ⟨rfl, rfl⟩
          go_wp2_with fail
          refine (HRW.out).mono ?_
          rintro e w1 ⟨rfl, rfl⟩
          go_wp2
          go_ret
          exact ⟨by rw [HS.out]; rfl, LX.out⟩
      · have D2 := Lib.hid z2
        have HS := Lib.hid (show b = false by rw [← hb]; simp [D0.out, D1.out, D2.out])
        have y2_0 : decide ((n : Int) < 1) = true := by simp; omega
        clear z2
        clear hb
        go_enter Tryd.func26, Tryd.ntmps26
        go_wp2_with fail
        refine (HNM.out _).mono ?_
        rintro e w1 ⟨rfl, rfl⟩
        go_wp2_with fail
        refine (HRW.out).mono ?_
        rintro e w1 ⟨rfl, rfl⟩
        go_wp2
        go_ret
        exact ⟨by rw [HS.out]; rfl, LX.out⟩
    · have D1 := Lib.hid z1
      have HS := Lib.hid (show b = false by rw [← hb]; simp [D0.out, D1.out])
      obtain rfl : rb = false := by simpa using z1
      clear z1
      clear hb
      go_enter Tryd.func26, Tryd.ntmps26
      go_wp2_with fail
      refine (HNM.out _).mono ?_
      rintro e w1 ⟨rfl, rfl⟩
      go_wp2_with fail
      refine (HRW.out).mono ?_
      rintro e w1 ⟨rfl, rfl⟩
      go_wp2
      go_ret
      exact ⟨by rw [HS.out]; rfl, LX.out⟩
  · have D0 := Lib.hid z0
    have HS := Lib.hid (show b = false by rw [← hb]; simp [D0.out])
    have y0_0 : ((v : Int) != 2) = true := by simp; omega
    clear z0
    clear hb
    go_enter Tryd.func26, Tryd.ntmps26
    go_wp2_with fail
    refine (HNM.out _).mono ?_
    rintro e w1 ⟨rfl, rfl⟩
    go_wp2
    go_ret
    exact ⟨by rw [HS.out]; rfl, LX.out⟩
end Go.Proofs.YtjmpilmmgfjpmaaDoor.Tr
