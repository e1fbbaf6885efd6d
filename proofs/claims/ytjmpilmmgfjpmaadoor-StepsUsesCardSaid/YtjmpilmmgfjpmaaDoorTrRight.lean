/-
  Layer 18, tree: Right. Condition: the program is no greater than what is gone through.
-/
import Derived.Test.YtjmpilmmgfjpmaaDoorTrMeant
set_option maxRecDepth 100000
namespace Go.Proofs.YtjmpilmmgfjpmaaDoor.Tr
open Go.Proofs.YtjmpilmmgfjpmaaDoor.Sh Go.Proofs.YtjmpilmmgfjpmaaDoor.St
open Go.RowKit
set_option linter.unusedVariables false

theorem ordTo_in {qs : List Nq} : ∀ (k : Nat) (tops : List Int), ordTo qs k = some tops → (∀ x ∈ tops, InR k x) ∧ tops.length ≤ k ∧ (0 < k → 0 < tops.length)
  | 0, tops, h => by
    injection h with h
    subst h
    exact ⟨fun x hx => by simp at hx, by simp, fun h => by omega⟩
  | k + 1, tops, h => by
    unfold ordTo at h
    split at h
    · rename_i t q ht hq
      obtain ⟨h1, h2, h3⟩ := ordTo_in k t ht
      refine ⟨ord_in h1 h, ord_len h2 h, fun _ => ?_⟩
      unfold ordStep at h
      repeat' split at h
      all_goals first
        | cases h
        | skip
      simp
    · cases h
/-- Is a program no greater than what is gone through? -/
structure FitP (p : Pq) : Prop where
  nodes : p.nodes.length ≤ 320
  defs : p.defs.length ≤ 320
  dims : p.dims.length ≤ 20
  kids : ∀ q ∈ p.nodes, q.n.kids.length ≤ 20
  nums : ∀ q ∈ p.nodes, q.n.nums.length ≤ 100
/-- May a program be, as tree.Right tells it? -/
def rightT (p : Pq) : Bool := decide (Tk.namedN p.name.data.toList = 2) && (rightB p.dims && (decide (0 < p.nodes.length) && (decide (p.nodes.length ≤ 300) && match ordTo p.nodes p.nodes.length with
  | some tops => meantB p tops
  | none => false)))
set_option maxHeartbeats 8000000 in
theorem right_b (p : Pq) (b : Bool) (w : World) (hp : ProgIn w p) (hf : FitP p) (hb : rightT p = b) : Calls Tryd.prog 28 #[progV p] w (RetBl b w) := by
  have HPI := Lib.hid hp
  have HF := Lib.hid hf
  have BX := Lib.hid (Bk.new 26 w [.string p.name, .slice p.da p.dims.length p.dc, .slice p.na p.nodes.length p.nc, .slice p.fa p.defs.length p.fc, .int .i64 p.root])
  have LX := Lib.hid (below_new w (.cells #[.string p.name, .slice p.da p.dims.length p.dc, .slice p.na p.nodes.length p.nc, .slice p.fa p.defs.length p.fc, .int .i64 p.root] 26))
  obtain ⟨v, hv⟩ : ∃ v, Tk.namedN p.name.data.toList = v := ⟨_, rfl⟩
  have HNM := Lib.hid (fun W => Tk.named_n p.name v W hp.2.2.2.1 hv)
  have HMB := Lib.hid (fun (T : Option Addr) cT tops b W (hw : Below w.heap.size w W) hT h1 h2 h3 hb => meant_b p T cT tops b W (hp.next hw) hT h1 h2 h3 (by have := hf.defs; omega) hb)
  unfold rightT at hb
  rw [hv] at hb
  unfold progV at HMB ⊢
  by_cases h2 : v = 2
  · have q1 : ((v : Int) != 2) = false := by simp [h2]
    obtain ⟨rb, hrb⟩ : ∃ rb, rightB p.dims = rb := ⟨_, rfl⟩
    have HRB := Lib.hid ((right_any p.da p.dc p.dims _ hp.2.2.2.2.1 (hp.1.below LX.out)).mono (fun e0 w0 hr => (by rw [hrb] at hr; exact hr)))
    rw [decide_eq_true h2, hrb] at hb
    cases rb with
    | false =>
      have HS := Lib.hid (show b = false by rw [← hb]; rfl)
      clear hb hp hf hv h2 hrb
      go_enter Tryd.func28, Tryd.ntmps28
      go_wp2_with fail
      refine (HNM.out _).mono ?_
      rintro e w1 ⟨rfl, rfl⟩
      go_wp2_with fail
      refine (HRB.out).mono ?_
      rintro e w2 ⟨rfl, hb2⟩
      have L2 := Lib.hid (Gl.below_next LX.out hb2)
      have B2 := Lib.hid (BX.out.next hb2)
      have x2 := B2.out.c 2
      simp only [List.getElem?_cons_zero, List.getElem?_cons_succ] at x2
      clear hb2
      go_wp2
      go_ret
      exact ⟨by rw [HS.out]; rfl, L2.out⟩
    | true =>
      rw [Bool.true_and, Bool.true_and] at hb
      obtain ⟨n, hnn⟩ : ∃ n, p.nodes.length = n := ⟨_, rfl⟩
      have HNL := Lib.hid hnn
      by_cases h0 : n = 0
      · have e0 : ((p.nodes.length : Int) == 0) = true := by rw [hnn, h0]; rfl
        have HS := Lib.hid (show b = false by rw [← hb, hnn, decide_eq_false (show ¬ 0 < n by omega)]; rfl)
        clear hb hp hf hv h2 hrb h0 hnn
        go_enter Tryd.func28, Tryd.ntmps28
        go_wp2_with fail
        refine (HNM.out _).mono ?_
        rintro e w1 ⟨rfl, rfl⟩
        go_wp2_with fail
        refine (HRB.out).mono ?_
        rintro e w2 ⟨rfl, hb2⟩
        have L2 := Lib.hid (Gl.below_next LX.out hb2)
        have B2 := Lib.hid (BX.out.next hb2)
        have x2 := B2.out.c 2
        simp only [List.getElem?_cons_zero, List.getElem?_cons_succ] at x2
        clear hb2
        go_wp2
        go_ret
        exact ⟨by rw [HS.out]; rfl, L2.out⟩
      · have e0 : ((p.nodes.length : Int) == 0) = false := by rw [hnn]; simp; omega
        by_cases h3 : n ≤ 300
        · have e3 : decide ((300 : Int) < (p.nodes.length : Int)) = false := by simp; omega
          rw [hnn, decide_eq_true (show 0 < n by omega), decide_eq_true h3, Bool.true_and, Bool.true_and, ← hnn] at hb
          have HOR := Lib.hid (fun W hw => ordered_any p.na p.nc p.nodes W (hp.2.1.next hw) (by have := hf.nodes; omega) (fun q hq => by have := hf.kids q hq; omega))
          obtain ⟨o, ho⟩ : ∃ o, ordTo p.nodes p.nodes.length = o := ⟨_, rfl⟩
          rw [ho] at HOR hb
          cases o with
          | none =>
            have HS := Lib.hid (show b = false from hb.symm)
            clear hb hp hf hv h2 hrb h0 h3 hnn ho
            go_enter Tryd.func28, Tryd.ntmps28
            go_wp2_with fail
            refine (HNM.out _).mono ?_
            rintro e w1 ⟨rfl, rfl⟩
            go_wp2_with fail
            refine (HRB.out).mono ?_
            rintro e w2 ⟨rfl, hb2⟩
            have L2 := Lib.hid (Gl.below_next LX.out hb2)
            have B2 := Lib.hid (BX.out.next hb2)
            have x2 := B2.out.c 2
            simp only [List.getElem?_cons_zero, List.getElem?_cons_succ] at x2
            clear hb2
            have HO2 := Lib.hid (HOR.out w2 L2.out)
            go_wp2_with fail
            refine (HO2.out).mono ?_
            rintro e w3 ⟨rfl, hb3⟩
            have L3 := Lib.hid (Gl.below_next L2.out hb3)
            clear hb3 x2
            go_wp2
            go_ret
            exact ⟨by rw [HS.out]; rfl, L3.out⟩
          | some tops =>
            obtain ⟨o1, o2, o3⟩ := ordTo_in _ _ ho
            have O1 := Lib.hid o1
            have O2 := Lib.hid (show tops.length ≤ 1000 by omega)
            have O3 := Lib.hid (o3 (by omega))
            have HB := Lib.hid (show meantB p tops = b from hb)
            clear hb hp hf hv h2 hrb h0 h3 hnn ho o1 o2 o3
            go_enter Tryd.func28, Tryd.ntmps28
            go_wp2_with fail
            refine (HNM.out _).mono ?_
            rintro e w1 ⟨rfl, rfl⟩
            go_wp2_with fail
            refine (HRB.out).mono ?_
            rintro e w2 ⟨rfl, hb2⟩
            have L2 := Lib.hid (Gl.below_next LX.out hb2)
            have B2 := Lib.hid (BX.out.next hb2)
            have x2 := B2.out.c 2
            simp only [List.getElem?_cons_zero, List.getElem?_cons_succ] at x2
            clear hb2
            have HO2 := Lib.hid (HOR.out w2 L2.out)
            go_wp2_with fail
            refine (HO2.out).mono ?_
            rintro e w3 ⟨T, cT, rfl, hm3, hb3, -⟩
            have L3 := Lib.hid (Gl.below_next L2.out hb3)
            have B3 := Lib.hid (B2.out.next hb3)
            have hti : Ints w3 T tops := by
              obtain ⟨A2, c2, e2, hi2⟩ := MineT.ints hm3
              injection e2 with e2
              rw [e2]; exact hi2
            have HME := Lib.hid (HMB.out T cT tops b w3 L3.out hti O1.out O3.out O2.out HB.out)
            have z0 := B3.out.c 0
            have z1 := B3.out.c 1
            have z2 := B3.out.c 2
            have z3 := B3.out.c 3
            have z4 := B3.out.c 4
            simp only [List.getElem?_cons_zero, List.getElem?_cons_succ] at z0 z1 z2 z3 z4
            clear hb3 x2 hm3 hti
            go_wp2_with fail
            refine (HME.out).mono ?_
            rintro e w4 ⟨rfl, hb4⟩
            have L4 := Lib.hid (Gl.below_next L3.out hb4)
            clear hb4 z0 z1 z2 z3 z4
            go_wp2
            go_ret
            exact ⟨rfl, L4.out⟩
        · have e3 : decide ((300 : Int) < (p.nodes.length : Int)) = true := by simp; omega
          have HS := Lib.hid (show b = false by rw [← hb, hnn, decide_eq_false h3, Bool.false_and, Bool.and_false])
          clear hb hp hf hv h2 hrb h0 h3 hnn
          go_enter Tryd.func28, Tryd.ntmps28
          go_wp2_with fail
          refine (HNM.out _).mono ?_
          rintro e w1 ⟨rfl, rfl⟩
          go_wp2_with fail
          refine (HRB.out).mono ?_
          rintro e w2 ⟨rfl, hb2⟩
          have L2 := Lib.hid (Gl.below_next LX.out hb2)
          have B2 := Lib.hid (BX.out.next hb2)
          have x2 := B2.out.c 2
          simp only [List.getElem?_cons_zero, List.getElem?_cons_succ] at x2
          clear hb2
          go_wp2
          go_ret
          exact ⟨by rw [HS.out]; rfl, L2.out⟩
  · have q1 : ((v : Int) != 2) = true := by simp; omega
    have HS := Lib.hid (show b = false by rw [← hb, decide_eq_false h2]; rfl)
    clear hb hp hf hv h2
    go_enter Tryd.func28, Tryd.ntmps28
    go_wp2_with fail
    refine (HNM.out _).mono ?_
    rintro e w1 ⟨rfl, rfl⟩
    go_wp2
    go_ret
    exact ⟨by rw [HS.out]; rfl, LX.out⟩
end Go.Proofs.YtjmpilmmgfjpmaaDoor.Tr
