/-
  Layer 22, steps: which scalar function a node is, and which uses it has. No condition. Layer 22, steps: nodes.scalar and nodes.scalars. Conditions: as told. Layer 22, steps: the uses of a sign, and of two together. Conditions: as told. Layer 22, steps: the uses of a node. Conditions: as told. Layer 22, steps: flat programs; Scalar and Uses. Conditions: as told.
-/
import Derived.Test.YtjmpilmmgfjpmaaDoorTrLives
import Derived.Test.YtjmpilmmgfjpmaaDoorPkX
import Derived.Deep.QuietTactic
import Derived.Deep.RegionHeld3
import Derived.Test.YtjmpilmmgfjpmaaDoorTrRR
import Derived.Test.YtjmpilmmgfjpmaaDoorTrEq2
import Derived.Test.YtjmpilmmgfjpmaaDoorTrNode

import Derived.BigQuiet
-- StpMath
set_option maxRecDepth 100000
namespace Go.Proofs.YtjmpilmmgfjpmaaDoor.Stp
open Go.Proofs.YtjmpilmmgfjpmaaDoor.Sh Go.Proofs.YtjmpilmmgfjpmaaDoor.St Go.Proofs.YtjmpilmmgfjpmaaDoor.Tr
open Go.RowKit
set_option linter.unusedVariables false

def kid (n : Nd) (j : Nat) : Int := n.kids.getD j (-1)
/-- Nodes as a program that may be has them. -/
structure Fl (qs : List Nq) : Prop where
  ahead : Ahead qs
  len : qs.length ≤ 1000
  ok : ∀ (k : Nat) (q : Nq), qs[k]? = some q → partedB qs (partsL q.n.kind) q.n.kids = true ∧ fieldedB q.n = true
section
variable {qs : List Nq}
theorem Fl.nk (h : Fl qs) {k : Nat} {q : Nq} (hq : qs[k]? = some q) : q.n.kids.length = (partsL q.n.kind).length := by
  have := (h.ok k q hq).1
  unfold partedB at this
  simp only [Bool.and_eq_true, decide_eq_true_eq] at this
  exact this.1.symm
theorem Fl.kid (h : Fl qs) {k : Nat} {q : Nq} (hq : qs[k]? = some q) (j : Nat) (hj : j < (partsL q.n.kind).length) : ∃ (m : Nat) (q' : Nq), q.n.kids[j]? = some (m : Int) ∧ Stp.kid q.n j = (m : Int) ∧ m < k ∧ qs[m]? = some q' ∧ kindAt qs (m : Int) = q'.n.kind ∧ mayB ((partsL q.n.kind).getD j 0) q'.n.kind = true := by
  have hn := h.nk hq
  obtain ⟨x, hx⟩ : ∃ x, q.n.kids[j]? = some x := ⟨_, List.getElem?_eq_getElem (by omega)⟩
  have ha := h.ahead k q hq x (List.mem_of_getElem? hx)
  obtain ⟨m, rfl⟩ : ∃ m : Nat, x = (m : Int) := ⟨x.toNat, by omega⟩
  have hkl := (List.getElem?_eq_some_iff.1 hq).1
  obtain ⟨q', hq'⟩ : ∃ q', qs[m]? = some q' := ⟨_, List.getElem?_eq_getElem (by omega)⟩
  have hkd : kindAt qs (m : Int) = q'.n.kind := by unfold kindAt; rw [show ((m : Int)).toNat = m by simp, hq']
  refine ⟨m, q', hx, ?_, by omega, hq', hkd, ?_⟩
  · unfold Stp.kid
    rw [List.getD_eq_getElem?_getD, hx]
    rfl
  · have := (h.ok k q hq).1
    unfold partedB at this
    simp only [Bool.and_eq_true, decide_eq_true_eq, List.all_eq_true] at this
    have hz : ((partsL q.n.kind).zip q.n.kids)[j]? = some ((partsL q.n.kind).getD j 0, (m : Int)) := by
      rw [List.getElem?_zip_eq_some]
      exact ⟨by rw [List.getD_eq_getElem?_getD, List.getElem?_eq_getElem hj]; rfl, hx⟩
    have h2 := this.2 _ (List.mem_of_getElem? hz)
    rw [hkd] at h2
    exact h2
end
/-- The scalar function that a node is: its sign, and whether it is swapped. -/
def scF (qs : List Nq) : Nat → Int → Option (Int × Bool)
  | 0, _ => none
  | f + 1, i => if i < 0 then none else match qs[i.toNat]? with
    | some q => if q.n.kind = 5 then (if Sc.hasB q.n.code 2 = true then some (q.n.code, false) else none)
      else if q.n.kind = 7 ∧ q.n.code = 38 then (scF qs f (kid q.n 0)).map fun r => (r.1, !r.2) else none
    | none => none
def scV (qs : List Nq) (i : Int) : Option (Int × Bool) := scF qs (i.toNat + 1) i
theorem kid_lt {qs : List Nq} (hA : Ahead qs) {k : Nat} {q : Nq} (hq : qs[k]? = some q) (j : Nat) : kid q.n j < (k : Int) := by
  unfold kid
  rw [List.getD_eq_getElem?_getD]
  cases h : q.n.kids[j]? with
  | none => show (-1 : Int) < _; omega
  | some x => exact (hA k q hq x (List.mem_of_getElem? h)).2
theorem scF_low {qs : List Nq} {f : Nat} {i : Int} (h : i < 0) : scF qs f i = none := by
  cases f with
  | zero => rfl
  | succ f => unfold scF; rw [if_pos h]
theorem scF_enough {qs : List Nq} (hA : Ahead qs) : ∀ (f g : Nat) (i : Int), i < (f : Int) → i < (g : Int) → scF qs f i = scF qs g i
  | 0, g, i, h, h' => by rw [scF_low (by omega), scF_low (by omega)]
  | f + 1, 0, i, h, h' => by rw [scF_low (by omega), scF_low (by omega)]
  | f + 1, g + 1, i, h, h' => by
    by_cases hi : i < 0
    · rw [scF_low hi, scF_low hi]
    · unfold scF
      rw [if_neg hi, if_neg hi]
      split
      · rename_i q hq
        have h1 := kid_lt hA hq 0
        rw [scF_enough hA f g _ (by omega) (by omega)]
      · rfl
def scN (n : Nd) (s : Int → Option (Int × Bool)) : Option (Int × Bool) :=
  if n.kind = 5 then (if Sc.hasB n.code 2 = true then some (n.code, false) else none)
  else if n.kind = 7 ∧ n.code = 38 then (s (kid n 0)).map fun r => (r.1, !r.2) else none
theorem scV_eq {qs : List Nq} (hA : Ahead qs) {k : Nat} {q : Nq} (hq : qs[k]? = some q) : scV qs (k : Int) = scN q.n (scV qs) := by
  unfold scV scN
  rw [show ((k : Int)).toNat = k by simp]
  rw [scF, if_neg (by omega), show ((k : Int)).toNat = k by simp, hq]
  have h1 := kid_lt hA hq 0
  simp only
  rw [scF_enough hA k ((kid q.n 0).toNat + 1) _ (by omega) (by omega)]
def allS (qs : List Nq) (l : List Int) : Bool := l.all fun x => (scV qs x).isSome
/-- The uses of a sign. -/
def prU (c : Int) : Bool × Bool := if c = 20 ∨ c = 21 ∨ c = 22 ∨ c = 23 ∨ c = 24 ∨ c = 29 ∨ c = 30 then (true, true) else if c = 27 ∨ c = 28 then (true, false) else if c = 25 ∨ c = 26 ∨ c = 31 ∨ c = 32 then (false, true) else (Sc.hasB c 1, Sc.hasB c 2)
def bothU (a b : Bool × Bool) : Bool × Bool := (a.1 && b.1, a.2 && b.2)
def givU (a : Bool × Bool) (b : Bool) : Bool × Bool := bothU a (b, b)
def opU (qs : List Nq) (n : Nd) (u : Int → Bool × Bool) : Bool × Bool := if n.code = 38 then ((u (kid n 0)).2, (u (kid n 0)).2) else if n.code = 32 then (allS qs n.kids, allS qs n.kids) else (allS qs n.kids, false)
def fkU (qs : List Nq) (n : Nd) (u : Int → Bool × Bool) : Bool × Bool := if kindAt qs (kid n 0) = 1 then givU (u (kid n 2)) (u (kid n 1)).2 else bothU (givU (u (kid n 2)) (u (kid n 1)).2) (u (kid n 0))
def usN (qs : List Nq) (n : Nd) (u : Int → Bool × Bool) : Bool × Bool :=
  if n.kind = 5 then prU n.code else if n.kind = 7 then opU qs n u else if n.kind = 8 then (allS qs n.kids, false)
  else if n.kind = 9 ∨ n.kind = 10 then (false, allS qs n.kids) else if n.kind = 11 then fkU qs n u
  else if n.kind = 12 then givU (u (kid n 1)) (u (kid n 0)).1 else (false, false)
def usF (qs : List Nq) : Nat → Int → Bool × Bool
  | 0, _ => (false, false)
  | f + 1, i => if i < 0 then (false, false) else match qs[i.toNat]? with
    | some q => usN qs q.n (usF qs f)
    | none => (false, false)
def usV (qs : List Nq) (i : Int) : Bool × Bool := usF qs (i.toNat + 1) i
theorem usN_congr {qs : List Nq} {n : Nd} {u v : Int → Bool × Bool} (h : ∀ j, u (kid n j) = v (kid n j)) : usN qs n u = usN qs n v := by
  simp only [usN, opU, fkU, h]
theorem usF_low {qs : List Nq} {f : Nat} {i : Int} (h : i < 0) : usF qs f i = (false, false) := by
  cases f with
  | zero => rfl
  | succ f => unfold usF; rw [if_pos h]
theorem usF_enough {qs : List Nq} (hA : Ahead qs) : ∀ (f g : Nat) (i : Int), i < (f : Int) → i < (g : Int) → usF qs f i = usF qs g i
  | 0, g, i, h, h' => by rw [usF_low (by omega), usF_low (by omega)]
  | f + 1, 0, i, h, h' => by rw [usF_low (by omega), usF_low (by omega)]
  | f + 1, g + 1, i, h, h' => by
    by_cases hi : i < 0
    · rw [usF_low hi, usF_low hi]
    · unfold usF
      rw [if_neg hi, if_neg hi]
      split
      · rename_i q hq
        apply usN_congr
        intro j
        have h1 := kid_lt hA hq j
        exact usF_enough hA f g _ (by omega) (by omega)
      · rfl
theorem usV_eq {qs : List Nq} (hA : Ahead qs) {k : Nat} {q : Nq} (hq : qs[k]? = some q) : usV qs (k : Int) = usN qs q.n (usV qs) := by
  unfold usV
  rw [show ((k : Int)).toNat = k by simp]
  rw [usF, if_neg (by omega), show ((k : Int)).toNat = k by simp, hq]
  apply usN_congr
  intro j
  have h1 := kid_lt hA hq j
  exact usF_enough hA _ _ _ (by omega) (by omega)
end Go.Proofs.YtjmpilmmgfjpmaaDoor.Stp
-- StpScal
set_option maxRecDepth 100000
namespace Go.Proofs.YtjmpilmmgfjpmaaDoor.Stp
open Go.Proofs.YtjmpilmmgfjpmaaDoor.Sh Go.Proofs.YtjmpilmmgfjpmaaDoor.St Go.Proofs.YtjmpilmmgfjpmaaDoor.Tr
open Go.RowKit
set_option linter.unusedVariables false

theorem res_two {fn : Func} {W : World} {g i : Nat} {v0 v1 : Value} (h : fn.results = #[.cell i 37, .tmp (i + 1)]) (tmps : Array Value) (h0 : tmps.getD i undef = .pointer (some ⟨g, 0, none⟩))
    (b : Bk 37 W g [v0, v1]) : (results fn tmps).run Tryd.prog W = .ok (.tuple #[.agg #[v0, v1], tmps.getD (i + 1) undef]) W := by
  have a0 : W.cell? ⟨g, 0, none⟩ = some v0 := b.c 0
  have a1 : W.cell? ⟨g, 1, none⟩ = some v1 := b.c 1
  rw [Array.getD_eq_getD_getElem?] at h0
  simp [results, h, h0, go_sem, a0, a1]
def fnV (o : Option (Int × Bool)) : Value := match o with
  | some r => .agg #[.int .i64 r.1, .bool r.2]
  | none => .agg #[.int .i64 0, .bool false]
def RetSc (o : Option (Int × Bool)) (w : World) (e : Ending) (w' : World) : Prop := ∃ (c : Int) (s : Bool), o.getD (0, false) = (c, s) ∧ e = .returned (.tuple #[.agg #[.int .i64 c, .bool s], .bool o.isSome]) ∧ Below w.heap.size w w'
set_option maxHeartbeats 8000000 in
theorem scal_k (A : Option Addr) (c : Nat) (qs : List Nq) (hF : Fl qs) : ∀ (k : Nat) (w : World), Sc.Tab w → Nodes w A qs → k < qs.length → Calls Tryd.prog 24 #[.slice A qs.length c, .int .i64 (k : Int)] w (RetSc (scV qs (k : Int)) w) := by
  intro k
  induction k using Nat.strongRecOn with
  | ind k ih =>
  intro w hT hn hk
  obtain ⟨q, hq⟩ : ∃ q, qs[k]? = some q := ⟨_, List.getElem?_eq_getElem hk⟩
  have HEQ := Lib.hid (scV_eq hF.ahead hq)
  have hkid := fun h => hF.kid hq 0 h
  obtain ⟨⟨kk, pp, cc, kids, nums, name⟩, ka, kc, na, nc⟩ := q
  obtain ⟨b0, o0, rfl, hb0, ⟨c0, c1, c2, c3, c4, c5⟩, hin⟩ := hn.at_ hq
  simp only at c0 c1 c2 c3 c4 c5 hkid HEQ
  have L1 := Lib.hid (below_new w (.cells #[.int .i64 0, .bool false] 37))
  have k0 := (L1.out.cell (p := ⟨b0, _, none⟩) hb0).trans c0
  have k1 := (L1.out.cell (p := ⟨b0, _, none⟩) hb0).trans c1
  have k2 := (L1.out.cell (p := ⟨b0, _, none⟩) hb0).trans c2
  have k3 := (L1.out.cell (p := ⟨b0, _, none⟩) hb0).trans c3
  have k4 := (L1.out.cell (p := ⟨b0, _, none⟩) hb0).trans c4
  have k5 := (L1.out.cell (p := ⟨b0, _, none⟩) hb0).trans c5
  have i0 : (0 : Int) ≤ (k : Int) := by omega
  have i1 : (k : Int) < (qs.length : Int) := by omega
  have LE := Lib.hid (show Below w.heap.size w ((w.alloc (.cells #[.int .i64 0, .bool false] 37)).alloc (.cells #[.int .i64 kk, .int .i64 pp, .int .i64 cc, .slice ka kids.length kc, .slice na nums.length nc, .string name] 45)) from below_next (below_new w _) (below_new _ _))
  have e1 : (w.alloc (.cells #[.int .i64 0, .bool false] 37)).heap.size = w.heap.size + 1 := by simp
  have BF := Lib.hid (show Bk 37 ((w.alloc (.cells #[.int .i64 0, .bool false] 37)).alloc (.cells #[.int .i64 kk, .int .i64 pp, .int .i64 cc, .slice ka kids.length kc, .slice na nums.length nc, .string name] 45)) w.heap.size [.int .i64 0, .bool false] from (Bk.new _ w _).alloc _)
  have BN := Lib.hid (show Bk 45 ((w.alloc (.cells #[.int .i64 0, .bool false] 37)).alloc (.cells #[.int .i64 kk, .int .i64 pp, .int .i64 cc, .slice ka kids.length kc, .slice na nums.length nc, .string name] 45)) (w.heap.size + 1) [.int .i64 kk, .int .i64 pp, .int .i64 cc, .slice ka kids.length kc, .slice na nums.length nc, .string name] by have := Bk.new 45 (w.alloc (.cells #[.int .i64 0, .bool false] 37)) [.int .i64 kk, .int .i64 pp, .int .i64 cc, .slice ka kids.length kc, .slice na nums.length nc, .string name]; rwa [e1] at this)
  have HIH := Lib.hid ih
  have HNO := Lib.hid hn
  have HK := Lib.hid hk
  have HT := Lib.hid hT
  have HKID := Lib.hid hkid
  have HIN := Lib.hid hin
  clear ih hn hin hkid hT c0 c1 c2 c3 c4 c5
  by_cases h5 : kk = 5
  · subst h5
    obtain ⟨b, hb⟩ : ∃ b, Sc.hasB cc 2 = b := ⟨_, rfl⟩
    have HEV : Hid (scV qs (k : Int) = if b = true then some (cc, false) else none) := Lib.hid (by rw [HEQ.out, ← hb]; rfl)
    have HHA := Lib.hid (fun W (hW : Sc.Tab W) => (Sc.has_any cc 2 W hW).mono (fun e0 w0 hr => (by rw [hb] at hr; exact hr)))
    clear hb HEQ
    go_enter Tryd.func24, Tryd.ntmps24
    go_wp2_with fail
    clear k0 k1 k2 k3 k4 k5
    generalize ((w.alloc (.cells #[.int .i64 0, .bool false] 37)).alloc (.cells #[.int .i64 5, .int .i64 pp, .int .i64 cc, .slice ka kids.length kc, .slice na nums.length nc, .string name] 45)) = wE at *
    refine (HHA.out _ (HT.out.below LE.out)).mono ?_
    rintro e w2 ⟨rfl, hb2⟩
    have L2 := Lib.hid (Gl.below_next LE.out hb2)
    have BF2 := Lib.hid (BF.out.next hb2)
    have BN2 := Lib.hid (BN.out.next hb2)
    clear hb2
    have y0 := BN2.out.c 0
    have y2 := BN2.out.c 2
    have z0 := BF2.out.c 0
    have z1 := BF2.out.c 1
    have f0 := BF2.out.f 0
    have f1 := BF2.out.f 1
    simp only [List.getElem?_cons_zero, List.getElem?_cons_succ] at y0 y2 z0 z1
    cases b with
    | true =>
      go_wp2
      refine bodyPost_ret (res_two (i := 4) Tryd.results24 _ rfl ((BF2.out.set_ 0 _).set_ 1 _)) rfl ?_
      exact ⟨cc, false, by rw [HEV.out]; rfl, by rw [HEV.out]; rfl, (L2.out.setCell (p := ⟨w.heap.size, 0, none⟩) (Nat.le_refl _) _).setCell (p := ⟨w.heap.size, 1, none⟩) (Nat.le_refl _) _⟩
    | false =>
      go_wp2
      refine bodyPost_ret (res_two (i := 4) Tryd.results24 _ rfl ((BF2.out.set_ 0 _).set_ 1 _)) rfl ?_
      exact ⟨0, false, by rw [HEV.out]; rfl, by rw [HEV.out]; rfl, (L2.out.setCell (p := ⟨w.heap.size, 0, none⟩) (Nat.le_refl _) _).setCell (p := ⟨w.heap.size, 1, none⟩) (Nat.le_refl _) _⟩
  · have t5 : decide (kk = 5) = false := by simp [h5]
    have u5 : (kk == 5) = false := by simp [h5]
    by_cases h7 : kk = 7 ∧ cc = 38
    · obtain ⟨rfl, rfl⟩ := h7
      obtain ⟨m, q', hx, hkm, hmk, hqm, -, -⟩ := HKID.out (by decide)
      have HEV : Hid (scV qs (k : Int) = (scV qs (m : Int)).map fun r => (r.1, !r.2)) := Lib.hid (by
        rw [HEQ.out, ← hkm]; rfl)
      have hl0 := (List.getElem?_eq_some_iff.1 hx).1
      obtain ⟨bK, oK, rfl, hbK, hcK⟩ := HIN.out.1 (by show 0 < kids.length; omega)
      simp only at hx hl0 hcK
      have hx0 := hcK 0 hl0
      rw [show kids.getD 0 0 = (m : Int) by rw [List.getD_eq_getElem?_getD, hx]; rfl] at hx0
      have HX0 := Lib.hid hx0
      have j0 : (0 : Int) < (kids.length : Int) := by omega
      have HR := Lib.hid (fun W (hW : Below w.heap.size w W) => HIH.out m hmk W (HT.out.below hW) (HNO.out.next hW) (by have := HK.out; omega))
      clear hx hcK HEQ hkm hx0 HKID hqm h5 t5 u5
      go_enter Tryd.func24, Tryd.ntmps24
      go_upto_region 5 with fail
      clear k0 k1 k2 k3 k4 k5
      generalize ((w.alloc (.cells #[.int .i64 0, .bool false] 37)).alloc (.cells #[.int .i64 7, .int .i64 pp, .int .i64 38, .slice (some ⟨bK, oK, none⟩) kids.length kc, .slice na nums.length nc, .string name] 45)) = wE at *
      have y3 := BN.out.c 3
      simp only [List.getElem?_cons_zero, List.getElem?_cons_succ] at y3
      have z0 := (LE.out.cell (p := ⟨bK, oK, none⟩) hbK).trans HX0.out
      go_wp2_with fail
      refine (HR.out _ LE.out).mono ?_
      rintro e w2 ⟨c1, s1, hcs, rfl, hb2⟩
      have L2 := Lib.hid (Gl.below_next LE.out hb2)
      have BF2 := Lib.hid (BF.out.next hb2)
      have HCS := Lib.hid hcs
      obtain ⟨ok, hok⟩ : ∃ ok, (scV qs (m : Int)).isSome = ok := ⟨_, rfl⟩
      rw [hok]
      have HOK := Lib.hid hok
      clear hb2 hcs hok y3 z0
      have LG := Lib.hid (show Below w.heap.size w (w2.alloc (.cells #[.int .i64 c1, .bool s1] 37)) from L2.out.trans ((below_new w2 _).mono L2.out.size))
      have BG := Lib.hid (BF2.out.alloc (.cells #[.int .i64 c1, .bool s1] 37))
      have z0 := BG.out.c 0
      have z1 := BG.out.c 1
      have f0 := BG.out.f 0
      have f1 := BG.out.f 1
      simp only [List.getElem?_cons_zero, List.getElem?_cons_succ] at z0 z1
      cases ok with
      | true =>
        obtain ⟨r, hr⟩ := Option.isSome_iff_exists.1 HOK.out
        go_wp2
        refine bodyPost_ret (res_two (i := 4) Tryd.results24 _ rfl ((BG.out.set_ 0 _).set_ 1 _)) rfl ?_
        have hcs := HCS.out
        rw [hr] at hcs
        have hcs' : r = (c1, s1) := hcs
        refine ⟨c1, !s1, by rw [HEV.out, hr, hcs']; rfl, by rw [HEV.out, hr]; rfl, (LG.out.setCell (p := ⟨w.heap.size, 0, none⟩) (Nat.le_refl _) _).setCell (p := ⟨w.heap.size, 1, none⟩) (Nat.le_refl _) _⟩
      | false =>
        have hr : scV qs (m : Int) = none := by
          cases h : scV qs (m : Int) with
          | none => rfl
          | some r => have := HOK.out; rw [h] at this; cases this
        have hcs := HCS.out
        rw [hr] at hcs
        obtain ⟨rfl, rfl⟩ : (0 : Int) = c1 ∧ false = s1 := by injection hcs with h1 h2; exact ⟨h1, h2⟩
        clear hcs
        go_wp2
        refine bodyPost_ret (res_two (i := 4) Tryd.results24 _ rfl ((BG.out.set_ 0 _).set_ 1 _)) rfl ?_
        refine ⟨0, false, by rw [HEV.out, hr]; rfl, by rw [HEV.out, hr]; rfl, (LG.out.setCell (p := ⟨w.heap.size, 0, none⟩) (Nat.le_refl _) _).setCell (p := ⟨w.heap.size, 1, none⟩) (Nat.le_refl _) _⟩
    · have HEV : Hid (scV qs (k : Int) = none) := Lib.hid (by
        rw [HEQ.out]; unfold scN; simp only; rw [if_neg h5, if_neg h7])
      clear HEQ h5
      have z0 := BF.out.c 0
      have z1 := BF.out.c 1
      have f0 := BF.out.f 0
      have f1 := BF.out.f 1
      have y0 := BN.out.c 0
      have y2 := BN.out.c 2
      simp only [List.getElem?_cons_zero, List.getElem?_cons_succ] at y0 y2 z0 z1
      by_cases h77 : kk = 7
      · have u38 : (cc == 38) = false := by simp; exact fun h => h7 ⟨h77, h⟩
        subst h77
        clear h7 t5 u5
        go_enter Tryd.func24, Tryd.ntmps24
        go_wp2
        refine bodyPost_ret (res_two (i := 4) Tryd.results24 _ rfl BF.out) rfl ?_
        refine ⟨0, false, by rw [HEV.out]; rfl, by rw [HEV.out]; rfl, LE.out⟩
      · have t7 : decide (kk = 7) = false := by simp [h77]
        have u7 : (kk == 7) = false := by simp [h77]
        clear h7 h77
        go_enter Tryd.func24, Tryd.ntmps24
        go_wp2
        refine bodyPost_ret (res_two (i := 4) Tryd.results24 _ rfl BF.out) rfl ?_
        refine ⟨0, false, by rw [HEV.out]; rfl, by rw [HEV.out]; rfl, LE.out⟩
set_option maxHeartbeats 8000000 in
theorem scals_any (A : Option Addr) (c : Nat) (qs : List Nq) (hF : Fl qs) (K : Option Addr) (kc : Nat) (l : List Int) (w : World) (hT : Sc.Tab w) (hn : Nodes w A qs) (hl : Ints w K l) (h20 : l.length ≤ 1000) (hin : ∀ x ∈ l, InR qs.length x) :
    Calls Tryd.prog 36 #[.slice A qs.length c, .slice K l.length kc] w (RetBl (allS qs l) w) := by
  have HT := Lib.hid hT
  have HNO := Lib.hid hn
  have HL := Lib.hid hl
  have H20 := Lib.hid h20
  have HINR := Lib.hid hin
  have HFL := Lib.hid hF
  have HALL : Hid (allS qs l = l.all fun x => (scV qs x).isSome) := Lib.hid rfl
  clear hT hn hl h20 hin hF
  go_enter Tryd.func36, Tryd.ntmps36
  go_wp2_with fail
  go_loopw [11] (fun iv wr => ∃ j : Nat, j ≤ l.length ∧ iv = .int .i64 (j : Int) ∧ Hid ((l.take j).all fun x => (scV qs x).isSome) ∧ Hid (Below w.heap.size w wr)) (fun iv _ => l.length - (intOf iv).toNat)
  case atStart => exact ⟨0, Nat.zero_le _, rfl, Lib.hid rfl, Lib.hid (Below.refl _ _)⟩
  case round =>
    obtain ⟨j, hj, rfl, HA, HW⟩ := hrel
    by_cases hlt : j < l.length
    · obtain ⟨x, hx⟩ : ∃ x, l[j]? = some x := ⟨_, List.getElem?_eq_getElem hlt⟩
      have hxi := HINR.out x (List.mem_of_getElem? hx)
      obtain ⟨m, rfl⟩ : ∃ m : Nat, x = (m : Int) := ⟨x.toNat, by unfold Tr.InR at hxi; omega⟩
      have hm : m < qs.length := by unfold Tr.InR at hxi; omega
      obtain ⟨bK, oK, rfl, hbK, hcK⟩ := (HL.out.below HW.out) (by omega)
      have hcx := hcK j hlt
      rw [show l.getD j 0 = (m : Int) by rw [List.getD_eq_getElem?_getD, hx]; rfl] at hcx
      have HR := Lib.hid (scal_k A c qs HFL.out m wr (HT.out.below HW.out) (HNO.out.next HW.out) hm)
      have HS : Hid (((l.take (j + 1)).all fun x => (scV qs x).isSome) = ((l.take j).all (fun x => (scV qs x).isSome) && (scV qs (m : Int)).isSome)) := Lib.hid (by
        rw [List.take_add_one, hx]; simp)
      have HB : Hid ((scV qs (m : Int)).isSome = false → allS qs l = false) := Lib.hid (fun h => by rw [HALL.out]; exact all_badP hx h)
      have i2 : (0 : Int) ≤ (j : Int) := by omega
      have i3 : (j : Int) < (l.length : Int) := by omega
      have hsum := wrap_k j (by have := H20.out; omega)
      clear hx hcK hbK hxi hm
      go_wp2_with fail
      refine (HR.out).mono ?_
      rintro e w5 ⟨c1, s1, hcs, rfl, hb5⟩
      have HW5 := Lib.hid ((Gl.below_next HW.out hb5).trans ((below_new w5 (.cells #[.int .i64 c1, .bool s1] 37)).mono (Gl.below_next HW.out hb5).size))
      obtain ⟨ok, hok⟩ : ∃ ok, (scV qs (m : Int)).isSome = ok := ⟨_, rfl⟩
      rw [hok] at HS HB ⊢
      clear hb5 hcs hok
      cases ok with
      | true =>
        go_wp2
        go_round
        case rel => exact ⟨j + 1, by omega, by go_num, Lib.hid (by rw [HS.out, HA.out]; rfl), HW5⟩
        case measure => simp [intOf]; omega
      | false =>
        have HBF := Lib.hid (HB.out rfl)
        go_wp2
        go_ret
        exact ⟨by rw [HBF.out]; rfl, HW5.out⟩
    · have hje : j = l.length := by omega
      subst hje
      have HFO : Hid (allS qs l = true) := Lib.hid (by have := HA.out; rw [List.take_length] at this; rw [HALL.out]; exact this)
      go_wp2
      go_ret
      exact ⟨by rw [HFO.out]; rfl, HW.out⟩
end Go.Proofs.YtjmpilmmgfjpmaaDoor.Stp
-- StpUse
set_option maxRecDepth 100000
namespace Go.Proofs.YtjmpilmmgfjpmaaDoor.Stp
open Go.Proofs.YtjmpilmmgfjpmaaDoor.Sh Go.Proofs.YtjmpilmmgfjpmaaDoor.St Go.Proofs.YtjmpilmmgfjpmaaDoor.Tr
open Go.RowKit
set_option linter.unusedVariables false

theorem res_us {fn : Func} {W : World} {g i : Nat} {v0 v1 : Value} (h : fn.results = #[.cell i 61]) (tmps : Array Value) (h0 : tmps.getD i undef = .pointer (some ⟨g, 0, none⟩))
    (b : Bk 61 W g [v0, v1]) : (results fn tmps).run Tryd.prog W = .ok (.agg #[v0, v1]) W := by
  have a0 : W.cell? ⟨g, 0, none⟩ = some v0 := b.c 0
  have a1 : W.cell? ⟨g, 1, none⟩ = some v1 := b.c 1
  rw [Array.getD_eq_getD_getElem?] at h0
  simp [results, h, h0, go_sem, a0, a1]
theorem new_us3 (w : World) (o1 o2 : Obj) (a b : Bool) : Bk 61 (((w.alloc o1).alloc o2).alloc (.cells #[.bool a, .bool b] 61)) (w.heap.size + 1 + 1) [.bool a, .bool b] := by
  have := Bk.new 61 ((w.alloc o1).alloc o2) [.bool a, .bool b]
  simpa using this
def usA (u : Bool × Bool) : Value := .agg #[.bool u.1, .bool u.2]
def RetU (u : Bool × Bool) (w : World) (e : Ending) (w' : World) : Prop := ∃ a b, u = (a, b) ∧ e = .returned (.agg #[.bool a, .bool b]) ∧ Below w.heap.size w w'
theorem new_us (w : World) (a b : Bool) : Bk 61 (w.alloc (.cells #[.bool a, .bool b] 61)) w.heap.size [.bool a, .bool b] := Bk.new _ w _
set_option maxHeartbeats 8000000 in
theorem prim_any (c : Int) (w : World) (hT : Sc.Tab w) : Calls Tryd.prog 34 #[.int .i64 c] w (RetU (prU c) w) := by
  have L1 := Lib.hid (below_new w (.cells #[.bool false, .bool false] 61))
  have B1 := Lib.hid (new_us w false false)
  rcases (show (c = 20 ∨ c = 21 ∨ c = 22 ∨ c = 23 ∨ c = 24 ∨ c = 29 ∨ c = 30) ∨ (c = 27 ∨ c = 28) ∨ (c = 25 ∨ c = 26 ∨ c = 31 ∨ c = 32) ∨ (c ≠ 20 ∧ c ≠ 21 ∧ c ≠ 22 ∧ c ≠ 23 ∧ c ≠ 24 ∧ c ≠ 25 ∧ c ≠ 26 ∧ c ≠ 27 ∧ c ≠ 28 ∧ c ≠ 29 ∧ c ≠ 30 ∧ c ≠ 31 ∧ c ≠ 32) by omega) with h | h | h | h
  · rcases h with rfl | rfl | rfl | rfl | rfl | rfl | rfl
    all_goals
      clear hT
      go_enter Tryd.func34, Tryd.ntmps34
      go_wp2
      refine bodyPost_ret (res_us (i := 2) Tryd.results34 _ rfl (new_us w true true)) rfl ?_
      exact ⟨true, true, rfl, rfl, below_new w _⟩
  · rcases h with rfl | rfl
    all_goals
      clear hT
      go_enter Tryd.func34, Tryd.ntmps34
      go_wp2
      refine bodyPost_ret (res_us (i := 2) Tryd.results34 _ rfl (new_us w true false)) rfl ?_
      exact ⟨true, false, rfl, rfl, below_new w _⟩
  · rcases h with rfl | rfl | rfl | rfl
    all_goals
      clear hT
      go_enter Tryd.func34, Tryd.ntmps34
      go_wp2
      refine bodyPost_ret (res_us (i := 2) Tryd.results34 _ rfl (new_us w false true)) rfl ?_
      exact ⟨false, true, rfl, rfl, below_new w _⟩
  · obtain ⟨h20, h21, h22, h23, h24, h25, h26, h27, h28, h29, h30, h31, h32⟩ := h
    have HEV : Hid (prU c = (Sc.hasB c 1, Sc.hasB c 2)) := Lib.hid (by unfold prU; rw [if_neg (by omega), if_neg (by omega), if_neg (by omega)])
    have t20 : decide (c = 20) = false := by simp [h20]
    have u20 : (c == 20) = false := by simp [h20]
    have t21 : decide (c = 21) = false := by simp [h21]
    have u21 : (c == 21) = false := by simp [h21]
    have t22 : decide (c = 22) = false := by simp [h22]
    have u22 : (c == 22) = false := by simp [h22]
    have t23 : decide (c = 23) = false := by simp [h23]
    have u23 : (c == 23) = false := by simp [h23]
    have t24 : decide (c = 24) = false := by simp [h24]
    have u24 : (c == 24) = false := by simp [h24]
    have t25 : decide (c = 25) = false := by simp [h25]
    have u25 : (c == 25) = false := by simp [h25]
    have t26 : decide (c = 26) = false := by simp [h26]
    have u26 : (c == 26) = false := by simp [h26]
    have t27 : decide (c = 27) = false := by simp [h27]
    have u27 : (c == 27) = false := by simp [h27]
    have t28 : decide (c = 28) = false := by simp [h28]
    have u28 : (c == 28) = false := by simp [h28]
    have t29 : decide (c = 29) = false := by simp [h29]
    have u29 : (c == 29) = false := by simp [h29]
    have t30 : decide (c = 30) = false := by simp [h30]
    have u30 : (c == 30) = false := by simp [h30]
    have t31 : decide (c = 31) = false := by simp [h31]
    have u31 : (c == 31) = false := by simp [h31]
    have t32 : decide (c = 32) = false := by simp [h32]
    have u32 : (c == 32) = false := by simp [h32]
    obtain ⟨b1, hb1⟩ : ∃ b, Sc.hasB c 1 = b := ⟨_, rfl⟩
    obtain ⟨b2, hb2⟩ : ∃ b, Sc.hasB c 2 = b := ⟨_, rfl⟩
    rw [hb1, hb2] at HEV
    have H1 := Lib.hid (fun W (hW : Sc.Tab W) => (Sc.has_any c 1 W hW).mono (fun e0 w0 hr => (by rw [hb1] at hr; exact hr)))
    have H2 := Lib.hid (fun W (hW : Sc.Tab W) => (Sc.has_any c 2 W hW).mono (fun e0 w0 hr => (by rw [hb2] at hr; exact hr)))
    have HT := Lib.hid hT
    clear h20 h21 h22 h23 h24 h25 h26 h27 h28 h29 h30 h31 h32 hb1 hb2 hT
    go_enter Tryd.func34, Tryd.ntmps34
    go_wp2_with fail
    generalize w.alloc (.cells #[.bool false, .bool false] 61) = w1 at *
    refine (H1.out _ (HT.out.below L1.out)).mono ?_
    rintro e w2 ⟨rfl, hk2⟩
    have L2 := Lib.hid (Gl.below_next L1.out hk2)
    have B2 := Lib.hid (B1.out.next hk2)
    clear hk2
    go_wp2_with fail
    refine (H2.out _ (HT.out.below L2.out)).mono ?_
    rintro e w3 ⟨rfl, hk3⟩
    have L3 := Lib.hid (Gl.below_next L2.out hk3)
    have B3 := Lib.hid (B2.out.next hk3)
    clear hk3
    have f0 := B3.out.f 0
    have f1 := B3.out.f 1
    have z0 := B3.out.c 0
    have z1 := B3.out.c 1
    simp only [List.getElem?_cons_zero, List.getElem?_cons_succ] at z0 z1
    go_wp2
    refine bodyPost_ret (res_us (i := 2) Tryd.results34 _ rfl ((B3.out.set_ 0 _).set_ 1 _)) rfl ?_
    exact ⟨b1, b2, HEV.out, rfl, (L3.out.setCell (p := ⟨w.heap.size, 0, none⟩) (Nat.le_refl _) _).setCell (p := ⟨w.heap.size, 1, none⟩) (Nat.le_refl _) _⟩
set_option maxHeartbeats 8000000 in
theorem both_any (a b c d : Bool) (w : World) : Calls Tryd.prog 55 #[.agg #[.bool a, .bool b], .agg #[.bool c, .bool d]] w (RetU (bothU (a, b) (c, d)) w) := by
  cases a <;> cases b
  all_goals
    go_enter Tryd.func55, Tryd.ntmps55
    go_wp2
    refine bodyPost_ret (res_us (i := 4) Tryd.results55 _ rfl (new_us3 _ _ _ _ _)) rfl ?_
    exact ⟨_, _, rfl, rfl, below_next (below_next (below_new w _) (below_new _ _)) (below_new _ _)⟩
set_option maxHeartbeats 8000000 in
theorem given_any (a b c : Bool) (w : World) : Calls Tryd.prog 38 #[.agg #[.bool a, .bool b], .bool c] w (RetU (givU (a, b) c) w) := by
  have HB := Lib.hid (fun W => both_any a b c c W)
  have L1 := Lib.hid (below_next (below_new w (.cells #[.bool a, .bool b] 61)) (below_new _ (.cells #[.bool false, .bool false] 61)))
  have e1 : (w.alloc (.cells #[.bool a, .bool b] 61)).heap.size = w.heap.size + 1 := by simp
  have B1 := Lib.hid (show Bk 61 ((w.alloc (.cells #[.bool a, .bool b] 61)).alloc (.cells #[.bool false, .bool false] 61)) (w.heap.size + 1) [.bool false, .bool false] by have := Bk.new 61 (w.alloc (.cells #[.bool a, .bool b] 61)) [.bool false, .bool false]; rwa [e1] at this)
  go_enter Tryd.func38, Tryd.ntmps38
  go_wp2_with fail
  generalize ((w.alloc (.cells #[.bool a, .bool b] 61)).alloc (.cells #[.bool false, .bool false] 61)) = w1 at *
  refine (HB.out w1).mono ?_
  rintro e w2 ⟨x, y, hxy, rfl, hb2⟩
  have L2 := Lib.hid (Gl.below_next L1.out hb2)
  have B2 := Lib.hid (B1.out.next hb2)
  have HXY := Lib.hid hxy
  clear hb2 hxy
  have f0 := B2.out.f 0
  have f1 := B2.out.f 1
  have z0 := B2.out.c 0
  have z1 := B2.out.c 1
  simp only [List.getElem?_cons_zero, List.getElem?_cons_succ] at z0 z1
  go_wp2
  refine bodyPost_ret (res_us (i := 4) Tryd.results38 _ rfl ((B2.out.set_ 0 _).set_ 1 _)) rfl ?_
  exact ⟨x, y, HXY.out, rfl, (L2.out.setCell (p := ⟨w.heap.size + 1, 0, none⟩) (Nat.le_succ _) _).setCell (p := ⟨w.heap.size + 1, 1, none⟩) (Nat.le_succ _) _⟩
end Go.Proofs.YtjmpilmmgfjpmaaDoor.Stp
-- StpUse2
set_option maxRecDepth 100000
namespace Go.Proofs.YtjmpilmmgfjpmaaDoor.Stp
open Go.Proofs.YtjmpilmmgfjpmaaDoor.Sh Go.Proofs.YtjmpilmmgfjpmaaDoor.St Go.Proofs.YtjmpilmmgfjpmaaDoor.Tr
open Go.RowKit
set_option linter.unusedVariables false
set_option linter.unusedSimpArgs false

theorem far_cell {w : World} {b g o i : Nat} {u : Value} (h : b ≠ g) : (w.setCell ⟨g, i, none⟩ u).cell? ⟨b, o, none⟩ = w.cell? ⟨b, o, none⟩ := World.cell?_setCell_far w ⟨g, i, none⟩ ⟨b, o, none⟩ u (fun e => h e.symm)
theorem uField0 (a b : Bool) (w : World) : (Instr.field 61 (.agg #[.bool a, .bool b]) 0).run Tryd.prog w = .ok (.bool a) w := by kernel_rfl
theorem uField1 (a b : Bool) (w : World) : (Instr.field 61 (.agg #[.bool a, .bool b]) 1).run Tryd.prog w = .ok (.bool b) w := by kernel_rfl
set_option maxHeartbeats 8000000 in
theorem op_any (A : Option Addr) (c : Nat) (qs : List Nq) (hF : Fl qs) (k : Nat) (pp cc : Int) (kids nums : List Int) (name : ByteArray) (ka : Option Addr) (kc : Nat) (na : Option Addr) (nc : Nat) (hq : qs[k]? = some ⟨⟨(7 : Int), pp, cc, kids, nums, name⟩, ka, kc, na, nc⟩) (w : World) (hT : Sc.Tab w) (hn : Nodes w A qs) (hin : NodeIn w ⟨⟨(7 : Int), pp, cc, kids, nums, name⟩, ka, kc, na, nc⟩) (HU : ∀ m, m < k → ∀ W, Sc.Tab W → Nodes W A qs → Calls Tryd.prog 25 #[.slice A qs.length c, .int .i64 (m : Int)] W (RetU (usV qs (m : Int)) W)) :
    Calls Tryd.prog 35 #[.slice A qs.length c, nodeV ⟨⟨(7 : Int), pp, cc, kids, nums, name⟩, ka, kc, na, nc⟩] w (RetU (opU qs ⟨(7 : Int), pp, cc, kids, nums, name⟩ (usV qs)) w) := by
  have hlen : kids.length = 1 := hF.nk hq
  obtain ⟨bK, oK, eka, hbK, hcK⟩ := hin.1 (by simp only; omega)
  simp only at eka hcK
  subst eka
  obtain ⟨m0, q0, hx0, hkm0, hmk0, hqm0, hka0, hmay0⟩ := hF.kid hq 0 (by show 0 < (partsL 7).length; decide)
  simp only at hx0 hkm0 hmay0
  have hy0 := hcK 0 (by omega)
  rw [show kids.getD 0 0 = (m0 : Int) by rw [List.getD_eq_getElem?_getD, hx0]; rfl] at hy0
  obtain ⟨al, hal⟩ : ∃ al, allS qs kids = al := ⟨_, rfl⟩
  have L1 := Lib.hid (below_next (below_new w (.cells #[.int .i64 (7 : Int), .int .i64 pp, .int .i64 cc, .slice (some ⟨bK, oK, none⟩) kids.length kc, .slice na nums.length nc, .string name] 45)) (below_new _ (.cells #[.bool false, .bool false] 61)))
  have e1 : (w.alloc (.cells #[.int .i64 (7 : Int), .int .i64 pp, .int .i64 cc, .slice (some ⟨bK, oK, none⟩) kids.length kc, .slice na nums.length nc, .string name] 45)).heap.size = w.heap.size + 1 := by simp
  have BN := Lib.hid (show Bk 45 ((w.alloc (.cells #[.int .i64 (7 : Int), .int .i64 pp, .int .i64 cc, .slice (some ⟨bK, oK, none⟩) kids.length kc, .slice na nums.length nc, .string name] 45)).alloc (.cells #[.bool false, .bool false] 61)) w.heap.size [.int .i64 (7 : Int), .int .i64 pp, .int .i64 cc, .slice (some ⟨bK, oK, none⟩) kids.length kc, .slice na nums.length nc, .string name] from (Bk.new _ w _).alloc _)
  have BU := Lib.hid (show Bk 61 ((w.alloc (.cells #[.int .i64 (7 : Int), .int .i64 pp, .int .i64 cc, .slice (some ⟨bK, oK, none⟩) kids.length kc, .slice na nums.length nc, .string name] 45)).alloc (.cells #[.bool false, .bool false] 61)) (w.heap.size + 1) [.bool false, .bool false] by have := Bk.new 61 (w.alloc (.cells #[.int .i64 (7 : Int), .int .i64 pp, .int .i64 cc, .slice (some ⟨bK, oK, none⟩) kids.length kc, .slice na nums.length nc, .string name] 45)) [.bool false, .bool false]; rwa [e1] at this)
  have HS := Lib.hid (fun W (hW : Below w.heap.size w W) => (scals_any A c qs hF (some ⟨bK, oK, none⟩) kc kids W (hT.below hW) (hn.next hW) (hin.1.below hW) (by omega) (fun x hx => by have := hF.ahead k _ hq x hx; have := (List.getElem?_eq_some_iff.1 hq).1; unfold Tr.InR; omega)).mono (fun e0 w0 hr => (by rw [hal] at hr; exact hr)))
  have HR0 := Lib.hid (fun W (hW : Below w.heap.size w W) => HU m0 hmk0 W (hT.below hW) (hn.next hW))
  have HOP : Hid (opU qs ⟨(7 : Int), pp, cc, kids, nums, name⟩ (usV qs) = if cc = 38 then ((usV qs (m0 : Int)).2, (usV qs (m0 : Int)).2) else if cc = 32 then (al, al) else (al, false)) := Lib.hid (by
    unfold opU; rw [hkm0, hal])
  have HY0 := Lib.hid hy0
  have i0 : (0 : Int) < (kids.length : Int) := by omega
  clear HU hT hn hin hq hcK hF hy0 hx0 hkm0 hqm0 hka0 hmay0 hlen hal e1
  have FL0 := fun a b W => uField0 a b W
  have FL1 := fun a b W => uField1 a b W
  unfold nodeV
  go_enter Tryd.func35, Tryd.ntmps35
  go_wp2_with fail
  generalize ((w.alloc (.cells #[.int .i64 (7 : Int), .int .i64 pp, .int .i64 cc, .slice (some ⟨bK, oK, none⟩) kids.length kc, .slice na nums.length nc, .string name] 45)).alloc (.cells #[.bool false, .bool false] 61)) = w1 at *
  refine (HS.out w1 L1.out).mono ?_
  rintro e w2 ⟨rfl, hb2⟩
  have L2 := Lib.hid (Gl.below_next L1.out hb2)
  have BN2 := Lib.hid (BN.out.next hb2)
  have BU2 := Lib.hid (BU.out.next hb2)
  clear hb2
  have y2 := BN2.out.c 2
  have y3 := BN2.out.c 3
  have z0 := BU2.out.c 0
  have z1 := BU2.out.c 1
  have f0 := BU2.out.f 0
  have f1 := BU2.out.f 1
  have yK := (L2.out.cell (p := ⟨bK, oK + 0, none⟩) hbK).trans HY0.out
  simp only [List.getElem?_cons_zero, List.getElem?_cons_succ, Nat.add_zero] at y2 y3 z0 z1 yK
  by_cases h38 : cc = 38
  · have HV := Lib.hid (show opU qs ⟨(7 : Int), pp, cc, kids, nums, name⟩ (usV qs) = ((usV qs (m0 : Int)).2, (usV qs (m0 : Int)).2) by rw [HOP.out, if_pos h38])
    clear HOP
    subst h38
    go_wp2_with fail
    refine (HR0.out w2 L2.out).mono ?_
    rintro e w3 ⟨ua, ub, huv, rfl, hb3⟩
    have L3 := Lib.hid (Gl.below_next L2.out hb3)
    have BU3 := Lib.hid (BU2.out.next hb3)
    have HUV := Lib.hid huv
    clear hb3 y2 y3 z0 z1 f0 f1 yK huv
    have z0 := BU3.out.c 0
    have z1 := BU3.out.c 1
    have f0 := BU3.out.f 0
    have f1 := BU3.out.f 1
    simp only [List.getElem?_cons_zero, List.getElem?_cons_succ] at z0 z1
    go_wp2
    refine bodyPost_ret (res_us (i := 4) Tryd.results35 _ rfl ((BU3.out.set_ 0 _).set_ 1 _)) rfl ?_
    exact ⟨ub, ub, by rw [HV.out, HUV.out], rfl, (L3.out.setCell (p := ⟨w.heap.size + 1, 0, none⟩) (Nat.le_succ _) _).setCell (p := ⟨w.heap.size + 1, 1, none⟩) (Nat.le_succ _) _⟩
  · have t38 : decide (cc = 38) = false := by simp [h38]
    have u38 : (cc == 38) = false := by simp [h38]
    by_cases h32 : cc = 32
    · have HV := Lib.hid (show opU qs ⟨(7 : Int), pp, cc, kids, nums, name⟩ (usV qs) = (al, al) by rw [HOP.out, if_neg h38, if_pos h32])
      subst h32
      clear h38 HOP t38 u38
      go_wp2
      refine bodyPost_ret (res_us (i := 4) Tryd.results35 _ rfl ((BU2.out.set_ 0 _).set_ 1 _)) rfl ?_
      exact ⟨al, al, HV.out, rfl, (L2.out.setCell (p := ⟨w.heap.size + 1, 0, none⟩) (Nat.le_succ _) _).setCell (p := ⟨w.heap.size + 1, 1, none⟩) (Nat.le_succ _) _⟩
    · have HV := Lib.hid (show opU qs ⟨(7 : Int), pp, cc, kids, nums, name⟩ (usV qs) = (al, false) by rw [HOP.out, if_neg h38, if_neg h32])
      have t32 : decide (cc = 32) = false := by simp [h32]
      have u32 : (cc == 32) = false := by simp [h32]
      clear h38 h32 HOP
      go_wp2
      refine bodyPost_ret (res_us (i := 4) Tryd.results35 _ rfl ((BU2.out.set_ 0 _).set_ 1 _)) rfl ?_
      exact ⟨al, false, HV.out, rfl, (L2.out.setCell (p := ⟨w.heap.size + 1, 0, none⟩) (Nat.le_succ _) _).setCell (p := ⟨w.heap.size + 1, 1, none⟩) (Nat.le_succ _) _⟩
/-- The world beside a node's box and a box of uses. -/
structure UC (w W : World) (gN gU : Nat) (N : List Value) : Prop where
  L : Below w.heap.size w W
  bn : Bk 45 W gN N
  bu : Bk 61 W gU [.bool false, .bool false]
section
variable {w W W' : World} {gN gU : Nat} {N : List Value}
theorem UC.next (h : UC w W gN gU N) (hb : Below W.heap.size W W') : UC w W' gN gU N := ⟨Gl.below_next h.L hb, h.bn.next hb, h.bu.next hb⟩
theorem UC.new (h : UC w W gN gU N) (o : Obj) : UC w (W.alloc o) gN gU N := ⟨h.L.trans ((below_new W o).mono h.L.size), h.bn.alloc _, h.bu.alloc _⟩
theorem UC.drew (h : UC w W gN gU N) : UC w W.drew gN gU N := ⟨h.L.drew, h.bn.drew, h.bu.drew⟩
theorem UC.far2 (h : UC w W gN gU N) {g : Nat} (h0 : w.heap.size ≤ g) (h1 : gN ≠ g) (h2 : gU ≠ g) (a b : Value) : UC w ((W.setCell ⟨g, 0, none⟩ a).setCell ⟨g, 1, none⟩ b) gN gU N :=
  ⟨(h.L.setCell (p := ⟨g, 0, none⟩) h0 _).setCell (p := ⟨g, 1, none⟩) h0 _, (h.bn.far (p := ⟨g, 0, none⟩) h1 _).far (p := ⟨g, 1, none⟩) h1 _, (h.bu.far (p := ⟨g, 0, none⟩) h2 _).far (p := ⟨g, 1, none⟩) h2 _⟩
theorem UC.far2G (h : UC w W gN gU N) {T : TypeId} {g : Nat} {xs : List Value} (hG : Bk T W g xs) (a b : Value) (h0 : w.heap.size ≤ g) (h1 : gN ≠ g) (h2 : gU ≠ g) : UC w ((W.setCell ⟨g, 0, none⟩ a).setCell ⟨g, 1, none⟩ b) gN gU N := h.far2 h0 h1 h2 a b
theorem UC.kids {bK oK n kc j1 j2 : Nat} {m1 m2 : Int} {x0 x1 x2 x4 x5 : Value} (h : UC w W gN gU [x0, x1, x2, .slice (some ⟨bK, oK, none⟩) n kc, x4, x5]) (hbK : bK < w.heap.size) (hy1 : w.cell? ⟨bK, oK + j1, none⟩ = some (.int .i64 m1)) (hy2 : w.cell? ⟨bK, oK + j2, none⟩ = some (.int .i64 m2)) :
    W.cell? ⟨gN, 3, none⟩ = some (.slice (some ⟨bK, oK, none⟩) n kc) ∧ W.cell? ⟨bK, oK + j1, none⟩ = some (.int .i64 m1) ∧ W.cell? ⟨bK, oK + j2, none⟩ = some (.int .i64 m2) :=
  ⟨h.bn.c 3, (h.L.cell (p := ⟨bK, oK + j1, none⟩) hbK).trans hy1, (h.L.cell (p := ⟨bK, oK + j2, none⟩) hbK).trans hy2⟩
end
set_option maxHeartbeats 8000000 in
theorem fork_any (A : Option Addr) (c : Nat) (qs : List Nq) (hF : Fl qs) (k : Nat) (pp cc : Int) (kids nums : List Int) (name : ByteArray) (ka : Option Addr) (kc : Nat) (na : Option Addr) (nc : Nat) (hq : qs[k]? = some ⟨⟨(11 : Int), pp, cc, kids, nums, name⟩, ka, kc, na, nc⟩) (w : World) (hT : Sc.Tab w) (hn : Nodes w A qs) (hin : NodeIn w ⟨⟨(11 : Int), pp, cc, kids, nums, name⟩, ka, kc, na, nc⟩) (HU : ∀ m, m < k → ∀ W, Sc.Tab W → Nodes W A qs → Calls Tryd.prog 25 #[.slice A qs.length c, .int .i64 (m : Int)] W (RetU (usV qs (m : Int)) W)) :
    Calls Tryd.prog 37 #[.slice A qs.length c, nodeV ⟨⟨(11 : Int), pp, cc, kids, nums, name⟩, ka, kc, na, nc⟩] w (RetU (fkU qs ⟨(11 : Int), pp, cc, kids, nums, name⟩ (usV qs)) w) := by
  have hlen : kids.length = 3 := hF.nk hq
  obtain ⟨bK, oK, eka, hbK, hcK⟩ := hin.1 (by simp only; omega)
  simp only at eka hcK
  subst eka
  obtain ⟨m0, q0, hx0, hkm0, hmk0, hqm0, hka0, hmay0⟩ := hF.kid hq 0 (by show 0 < (partsL 11).length; decide)
  simp only at hx0 hkm0 hmay0
  have hy0 := hcK 0 (by omega)
  rw [show kids.getD 0 0 = (m0 : Int) by rw [List.getD_eq_getElem?_getD, hx0]; rfl] at hy0
  obtain ⟨m1, q1, hx1, hkm1, hmk1, hqm1, hka1, hmay1⟩ := hF.kid hq 1 (by show 1 < (partsL 11).length; decide)
  simp only at hx1 hkm1 hmay1
  have hy1 := hcK 1 (by omega)
  rw [show kids.getD 1 0 = (m1 : Int) by rw [List.getD_eq_getElem?_getD, hx1]; rfl] at hy1
  obtain ⟨m2, q2, hx2, hkm2, hmk2, hqm2, hka2, hmay2⟩ := hF.kid hq 2 (by show 2 < (partsL 11).length; decide)
  simp only at hx2 hkm2 hmay2
  have hy2 := hcK 2 (by omega)
  rw [show kids.getD 2 0 = (m2 : Int) by rw [List.getD_eq_getElem?_getD, hx2]; rfl] at hy2
  obtain ⟨bN, oN, eA, hbN, cN, -⟩ := hn.at_ hqm0
  have cN0 := cN.1
  have hm0l := (List.getElem?_eq_some_iff.1 hqm0).1
  have e1 : (w.alloc (.cells #[.int .i64 (11 : Int), .int .i64 pp, .int .i64 cc, .slice (some ⟨bK, oK, none⟩) kids.length kc, .slice na nums.length nc, .string name] 45)).heap.size = w.heap.size + 1 := by simp
  have C1 := Lib.hid (show UC w ((w.alloc (.cells #[.int .i64 (11 : Int), .int .i64 pp, .int .i64 cc, .slice (some ⟨bK, oK, none⟩) kids.length kc, .slice na nums.length nc, .string name] 45)).alloc (.cells #[.bool false, .bool false] 61)) w.heap.size (w.heap.size + 1) [.int .i64 (11 : Int), .int .i64 pp, .int .i64 cc, .slice (some ⟨bK, oK, none⟩) kids.length kc, .slice na nums.length nc, .string name] from ⟨below_next (below_new w _) (below_new _ _), (Bk.new _ w _).alloc _, by have := Bk.new 61 (w.alloc (.cells #[.int .i64 (11 : Int), .int .i64 pp, .int .i64 cc, .slice (some ⟨bK, oK, none⟩) kids.length kc, .slice na nums.length nc, .string name] 45)) [.bool false, .bool false]; rwa [e1] at this⟩)
  have HR := Lib.hid (fun m (hm : m < k) W (hW : Below w.heap.size w W) => HU m hm W (hT.below hW) (hn.next hW))
  have HFK : Hid (fkU qs ⟨(11 : Int), pp, cc, kids, nums, name⟩ (usV qs) = if q0.n.kind = 1 then givU (usV qs (m2 : Int)) (usV qs (m1 : Int)).2 else bothU (givU (usV qs (m2 : Int)) (usV qs (m1 : Int)).2) (usV qs (m0 : Int))) := Lib.hid (by
    unfold fkU; rw [hkm0, hkm1, hkm2, hka0])
  have HY0 := Lib.hid hy0
  have HY1 := Lib.hid hy1
  have HY2 := Lib.hid hy2
  have HM0 := Lib.hid hmk0
  have HM1 := Lib.hid hmk1
  have HM2 := Lib.hid hmk2
  have HC0 := Lib.hid cN0
  obtain ⟨k0, hk0⟩ : ∃ k0, q0.n.kind = k0 := ⟨_, rfl⟩
  rw [hk0] at HC0 HFK
  have i0 : (0 : Int) < (kids.length : Int) := by omega
  have i1 : (1 : Int) < (kids.length : Int) := by omega
  have i2 : (2 : Int) < (kids.length : Int) := by omega
  have j0 : 0 < kids.length := by omega
  have j1 : 1 < kids.length := by omega
  have j2 : 2 < kids.length := by omega
  have g0 : (0 : Int) ≤ (m0 : Int) := by omega
  have g1 : (m0 : Int) < (qs.length : Int) := by omega
  subst eA
  clear HU hT hn hin hq hcK hF hy0 hx0 hkm0 hka0 hmay0 hlen hx1 hkm1 hqm1 hka1 hmay1 hx2 hkm2 hqm2 hka2 hmay2 hqm0 cN cN0 hk0 e1 hm0l hmk0 hmk1 hmk2 hy1 hy2
  have FL0 := fun a b W => uField0 a b W
  have FL1 := fun a b W => uField1 a b W
  have HGV := Lib.hid given_any
  unfold nodeV
  go_enter Tryd.func37, Tryd.ntmps37
  go_upto_region 1 with fail
  generalize ((w.alloc (.cells #[.int .i64 (11 : Int), .int .i64 pp, .int .i64 cc, .slice (some ⟨bK, oK, none⟩) kids.length kc, .slice na nums.length nc, .string name] 45)).alloc (.cells #[.bool false, .bool false] 61)) = w1 at *
  have Cd := Lib.hid (C1.out.drew)
  have Kd := Lib.hid (Cd.out.kids hbK HY1.out HY2.out)
  have Ce := Lib.hid ((C1.out.new (.cells #[.bool false, .bool false] 61)).drew)
  have Ke := Lib.hid (Ce.out.kids hbK HY1.out HY2.out)
  have Ge := Lib.hid ((new_us w1 false false).drew)
  have S1 := Lib.hid (show w.heap.size + 1 < w1.heap.size from C1.out.bu.lt)
  go_cut [5] (fun s5 wx => ∃ gA a9 b9, s5 = .pointer (some ⟨gA, 0, none⟩) ∧ w.heap.size + 1 < gA ∧ Hid (givU (usV qs (m2 : Int)) (usV qs (m1 : Int)).2 = (a9, b9)) ∧ Hid (Bk 61 wx gA [.bool a9, .bool b9]) ∧ Hid (UC w wx w.heap.size (w.heap.size + 1) [.int .i64 (11 : Int), .int .i64 pp, .int .i64 cc, .slice (some ⟨bK, oK, none⟩) kids.length kc, .slice na nums.length nc, .string name]))
  case first =>
    go_region_held3 (fun w' => w'.cell? ⟨w.heap.size, 3, none⟩ = some (.slice (some ⟨bK, oK, none⟩) kids.length kc) ∧ w'.cell? ⟨bK, oK + 1, none⟩ = some (.int .i64 (m1 : Int)) ∧ w'.cell? ⟨bK, oK + 2, none⟩ = some (.int .i64 (m2 : Int)))
      (first
        | with_reducible exact Kd.out
        | with_reducible exact Ke.out
        | with_reducible exact K9c.out
        | with_reducible exact K9a.out
        | with_reducible exact K9b.out
        | with_reducible exact K9.out
        | with_reducible exact K8a.out
        | with_reducible exact K8b.out
        | with_reducible exact K8.out
        | with_reducible exact K7a.out
        | with_reducible exact K7b.out
        | with_reducible exact K7.out
        | go_keep)
      (first
        | (go_at_call 25; (with_reducible refine (HR.out m2 HM2.out _ Cd.out.L).mono ?_); rintro r w7 ⟨a7, b7, hu7, rfl, hb7⟩; have C7 := Lib.hid (Cd.out.next hb7); have K7 := Lib.hid (C7.out.kids hbK HY1.out HY2.out); have U7 := Lib.hid hu7; have C7a := Lib.hid (C7.out.new (.cells #[.bool false, .bool false] 61)); have K7a := Lib.hid (C7a.out.kids hbK HY1.out HY2.out); have G7a := Lib.hid (new_us w7 false false); clear hb7 hu7)
        | (go_at_call 25; (with_reducible refine (HR.out m2 HM2.out _ Ce.out.L).mono ?_); rintro r w7 ⟨a7, b7, hu7, rfl, hb7⟩; have C7b := Lib.hid (Ce.out.next hb7); have K7b := Lib.hid (C7b.out.kids hbK HY1.out HY2.out); have U7 := Lib.hid hu7; have G7b := Lib.hid (Ge.out.next hb7); clear hb7 hu7)
        | (go_at_call 25; (with_reducible refine (HR.out m1 HM1.out _ C7.out.L).mono ?_); rintro r w8 ⟨a8, b8, hu8, rfl, hb8⟩; have C8 := Lib.hid (C7.out.next hb8); have K8 := Lib.hid (C8.out.kids hbK HY1.out HY2.out); have U8 := Lib.hid hu8; have C8a := Lib.hid (C8.out.new (.cells #[.bool false, .bool false] 61)); have K8a := Lib.hid (C8a.out.kids hbK HY1.out HY2.out); have G8a := Lib.hid (new_us w8 false false); clear hb8 hu8)
        | (go_at_call 25; (with_reducible refine (HR.out m1 HM1.out _ C7a.out.L).mono ?_); rintro r w8 ⟨a8, b8, hu8, rfl, hb8⟩; have C8b := Lib.hid (C7a.out.next hb8); have K8b := Lib.hid (C8b.out.kids hbK HY1.out HY2.out); have U8 := Lib.hid hu8; have G8b := Lib.hid (G7a.out.next hb8); clear hb8 hu8)
        | (go_at_call 25; (with_reducible refine (HR.out m1 HM1.out _ C7b.out.L).mono ?_); rintro r w8 ⟨a8, b8, hu8, rfl, hb8⟩; have C8b := Lib.hid (C7b.out.next hb8); have K8b := Lib.hid (C8b.out.kids hbK HY1.out HY2.out); have U8 := Lib.hid hu8; have G8b := Lib.hid (G7b.out.next hb8); clear hb8 hu8)
        | (go_at_call 38; (with_reducible refine (HGV.out a7 b7 b8 _).mono ?_); rintro r w9 ⟨a9, b9, hu9, rfl, hb9⟩; have C9 := Lib.hid (C8.out.next hb9); have K9 := Lib.hid (C9.out.kids hbK HY1.out HY2.out); have U9 := Lib.hid hu9; have C9a := Lib.hid (C9.out.new (.cells #[.bool a9, .bool b9] 61)); have K9a := Lib.hid (C9a.out.kids hbK HY1.out HY2.out); have G9a := Lib.hid (new_us w9 a9 b9); clear hb9 hu9)
        | (go_at_call 38; (with_reducible refine (HGV.out a7 b7 b8 _).mono ?_); rintro r w9 ⟨a9, b9, hu9, rfl, hb9⟩; have C9b := Lib.hid (C8a.out.next hb9); have K9b := Lib.hid (C9b.out.kids hbK HY1.out HY2.out); have U9 := Lib.hid hu9; have G9b := Lib.hid (G8a.out.next hb9); have q0 := G9b.out.c 0; have q1 := G9b.out.c 1; have r0 := G9b.out.f 0; have r1 := G9b.out.f 1; (simp only [List.getElem?_cons_zero, List.getElem?_cons_succ] at q0 q1); have D9b := Lib.hid (C9b.out.far2G G9b.out (.bool a9) (.bool b9) (by ((try have t1 := S1.out); (try have t7 := C7.out.L.size); (try have t7a := C7.out.bu.lt); (try have t8 := C8.out.bu.lt); (try have t9 := C9.out.bu.lt); (try simp only [World.size_drew]); omega)) (by ((try have t1 := S1.out); (try have t7 := C7.out.L.size); (try have t7a := C7.out.bu.lt); (try have t8 := C8.out.bu.lt); (try have t9 := C9.out.bu.lt); (try simp only [World.size_drew]); omega)) (by ((try have t1 := S1.out); (try have t7 := C7.out.L.size); (try have t7a := C7.out.bu.lt); (try have t8 := C8.out.bu.lt); (try have t9 := C9.out.bu.lt); (try simp only [World.size_drew]); omega))); have K9c := Lib.hid (D9b.out.kids hbK HY1.out HY2.out); clear hb9 hu9)
        | (go_at_call 38; (with_reducible refine (HGV.out a7 b7 b8 _).mono ?_); rintro r w9 ⟨a9, b9, hu9, rfl, hb9⟩; have C9b := Lib.hid (C8b.out.next hb9); have K9b := Lib.hid (C9b.out.kids hbK HY1.out HY2.out); have U9 := Lib.hid hu9; have G9b := Lib.hid (G8b.out.next hb9); have q0 := G9b.out.c 0; have q1 := G9b.out.c 1; have r0 := G9b.out.f 0; have r1 := G9b.out.f 1; (simp only [List.getElem?_cons_zero, List.getElem?_cons_succ] at q0 q1); have D9b := Lib.hid (C9b.out.far2G G9b.out (.bool a9) (.bool b9) (by ((try have t1 := S1.out); (try have t7 := C7.out.L.size); (try have t7a := C7.out.bu.lt); (try have t8 := C8.out.bu.lt); (try have t9 := C9.out.bu.lt); (try simp only [World.size_drew]); omega)) (by ((try have t1 := S1.out); (try have t7 := C7.out.L.size); (try have t7a := C7.out.bu.lt); (try have t8 := C8.out.bu.lt); (try have t9 := C9.out.bu.lt); (try simp only [World.size_drew]); omega)) (by ((try have t1 := S1.out); (try have t7 := C7.out.L.size); (try have t7a := C7.out.bu.lt); (try have t8 := C8.out.bu.lt); (try have t9 := C9.out.bu.lt); (try simp only [World.size_drew]); omega))); have K9c := Lib.hid (D9b.out.kids hbK HY1.out HY2.out); clear hb9 hu9))
    all_goals (go_wp2_with fail; go_meet; (first | exact ⟨_, a9, b9, rfl, by ((try have t1 := S1.out); (try have t7 := C7.out.L.size); (try have t7a := C7.out.bu.lt); (try have t8 := C8.out.bu.lt); (try have t9 := C9.out.bu.lt); (try simp only [World.size_drew]); omega), by rw [U7.out, U8.out]; exact U9, Lib.hid ((G9b.out.set_ 0 _).set_ 1 _), D9b⟩ | exact ⟨_, a9, b9, rfl, by ((try have t1 := S1.out); (try have t7 := C7.out.L.size); (try have t7a := C7.out.bu.lt); (try have t8 := C8.out.bu.lt); (try have t9 := C9.out.bu.lt); (try simp only [World.size_drew]); omega), by rw [U7.out, U8.out]; exact U9, G9a, C9a⟩))
  case rest =>
  obtain ⟨gA, a9, b9, rfl, hgA, U9, BGA, CA⟩ := hcut
  have SZ := Lib.hid hgA
  clear hgA
  generalize wc = wA at *
  have BUA := Lib.hid CA.out.bu
  have LA := Lib.hid CA.out.L
  have y3 := CA.out.bn.c 3
  have x0 := (LA.out.cell (p := ⟨bK, oK + 0, none⟩) hbK).trans HY0.out
  have x1 := (LA.out.cell (p := ⟨bN, oN + m0 * 6, none⟩) hbN).trans HC0.out
  simp only [List.getElem?_cons_zero, List.getElem?_cons_succ, Nat.add_zero] at y3 x0
  have z0 := BGA.out.c 0
  have z1 := BGA.out.c 1
  have v0 := BUA.out.c 0
  have v1 := BUA.out.c 1
  have f0 := BUA.out.f 0
  have f1 := BUA.out.f 1
  simp only [List.getElem?_cons_zero, List.getElem?_cons_succ] at z0 z1 v0 v1
  by_cases h1 : k0 = 1
  · have HV := Lib.hid (show fkU qs ⟨(11 : Int), pp, cc, kids, nums, name⟩ (usV qs) = (a9, b9) by rw [HFK.out, if_pos h1, U9.out])
    subst h1
    clear HFK
    go_wp2
    refine bodyPost_ret (res_us (i := 4) Tryd.results37 _ rfl ((BUA.out.set_ 0 _).set_ 1 _)) rfl ?_
    exact ⟨a9, b9, HV.out, rfl, (LA.out.setCell (p := ⟨w.heap.size + 1, 0, none⟩) (Nat.le_succ _) _).setCell (p := ⟨w.heap.size + 1, 1, none⟩) (Nat.le_succ _) _⟩
  · have HV := Lib.hid (show fkU qs ⟨(11 : Int), pp, cc, kids, nums, name⟩ (usV qs) = bothU (a9, b9) (usV qs (m0 : Int)) by rw [HFK.out, if_neg h1, U9.out])
    have t1 : (k0 != 1) = true := by simp [h1]
    have t1' : decide (k0 = 1) = false := by simp [h1]
    clear HFK h1
    go_upto_region 4 with fail
    clear y3 x0 x1 z0 z1 v0 v1 f0 f1
    have Cp := Lib.hid (CA.out.drew)
    have BGp := Lib.hid (BGA.out.drew)
    have zp0 : wA.drew.cell? ⟨gA, 0, none⟩ = some (.bool a9) := BGp.out.c 0
    have zp1 : wA.drew.cell? ⟨gA, 1, none⟩ = some (.bool b9) := BGp.out.c 1
    have zo0 : wA.cell? ⟨gA, 0, none⟩ = some (.bool a9) := BGA.out.c 0
    have zo1 : wA.cell? ⟨gA, 1, none⟩ = some (.bool b9) := BGA.out.c 1
    have HBT := Lib.hid both_any
    go_region_with (first
        | (go_at_call 25; (with_reducible refine (HR.out m0 HM0.out _ Cp.out.L).mono ?_); rintro r wq ⟨aq, bq, huq, rfl, hbq⟩; have Cq := Lib.hid (Cp.out.next hbq); have BGq := Lib.hid (BGp.out.next hbq); have zq0 : wq.cell? ⟨gA, 0, none⟩ = some (.bool a9) := BGq.out.c 0; have zq1 : wq.cell? ⟨gA, 1, none⟩ = some (.bool b9) := BGq.out.c 1; have Uq := Lib.hid huq; clear hbq huq)
        | (go_at_call 55; (with_reducible refine (HBT.out a9 b9 aq bq wq).mono ?_); rintro r wr ⟨ar, br, hur, rfl, hbr⟩; have Cr := Lib.hid (Cq.out.next hbr); have BGr := Lib.hid (BGq.out.next hbr); have zr0 : wr.cell? ⟨gA, 0, none⟩ = some (.bool a9) := BGr.out.c 0; have zr1 : wr.cell? ⟨gA, 1, none⟩ = some (.bool b9) := BGr.out.c 1; have Ur := Lib.hid hur; have fr0 := BGr.out.f 0; have fr1 := BGr.out.f 1; have Cx := Lib.hid (Cr.out.far2 (by have := SZ.out; omega) (by have := SZ.out; omega) (by have := SZ.out; omega) (.bool ar) (.bool br) : UC w ((wr.setCell ⟨gA, 0, none⟩ (.bool ar)).setCell ⟨gA, 1, none⟩ (.bool br)) _ _ _); have BGx := Lib.hid ((BGr.out.set_ 0 (.bool ar)).set_ 1 (.bool br)); have vx0 := Cx.out.bu.c 0; have vx1 := Cx.out.bu.c 1; have wx0 := BGx.out.c 0; have wx1 := BGx.out.c 1; have fx0 := Cx.out.bu.f 0; have fx1 := Cx.out.bu.f 1; (simp only [List.getElem?_cons_zero, List.getElem?_cons_succ, List.set_cons_zero, List.set_cons_succ] at vx0 vx1 wx0 wx1); clear hbr hur))
    all_goals
      go_wp2
      refine bodyPost_ret (res_us (i := 4) Tryd.results37 _ rfl ((Cx.out.bu.set_ 0 _).set_ 1 _)) rfl ?_
      exact ⟨ar, br, by rw [HV.out, Uq.out, Ur.out], rfl, (Cx.out.L.setCell (p := ⟨w.heap.size + 1, 0, none⟩) (Nat.le_succ _) _).setCell (p := ⟨w.heap.size + 1, 1, none⟩) (Nat.le_succ _) _⟩
theorem uc_kids2 {w W : World} {gN gU : Nat} {bK oK n kc j1 j2 : Nat} {m1 m2 : Int} {x0 x1 x2 x4 x5 : Value} (h : UC w W gN gU [x0, x1, x2, .slice (some ⟨bK, oK, none⟩) n kc, x4, x5]) (a b : Value) (hbK : bK < w.heap.size) (hy1 : w.cell? ⟨bK, oK + j1, none⟩ = some (.int .i64 m1)) (hy2 : w.cell? ⟨bK, oK + j2, none⟩ = some (.int .i64 m2)) (hne : gN ≠ gU) (hU : w.heap.size ≤ gU) :
    ((W.setCell ⟨gU, 0, none⟩ a).setCell ⟨gU, 1, none⟩ b).cell? ⟨gN, 3, none⟩ = some (.slice (some ⟨bK, oK, none⟩) n kc) ∧ ((W.setCell ⟨gU, 0, none⟩ a).setCell ⟨gU, 1, none⟩ b).cell? ⟨bK, oK + j1, none⟩ = some (.int .i64 m1) ∧ ((W.setCell ⟨gU, 0, none⟩ a).setCell ⟨gU, 1, none⟩ b).cell? ⟨bK, oK + j2, none⟩ = some (.int .i64 m2) := by
  have := h.kids hbK hy1 hy2
  rw [far_cell hne, far_cell hne, far_cell (by omega), far_cell (by omega), far_cell (by omega), far_cell (by omega)]
  exact this
set_option maxHeartbeats 8000000 in
theorem uses_5 (A : Option Addr) (c : Nat) (qs : List Nq) (hF : Fl qs) (k : Nat) (pp cc : Int) (kids nums : List Int) (name : ByteArray) (ka : Option Addr) (kc : Nat) (na : Option Addr) (nc : Nat) (hq : qs[k]? = some ⟨⟨(5 : Int), pp, cc, kids, nums, name⟩, ka, kc, na, nc⟩) (w : World) (hT : Sc.Tab w) (hn : Nodes w A qs)   :
    Calls Tryd.prog 25 #[.slice A qs.length c, .int .i64 (k : Int)] w (RetU (usV qs (k : Int)) w) := by
  have HEQ := Lib.hid (usV_eq hF.ahead hq)
  simp only at HEQ
  obtain ⟨b0, o0, rfl, hb0, ⟨c0, c1, c2, c3, c4, c5⟩, hin⟩ := hn.at_ hq
  simp only at c0 c1 c2 c3 c4 c5
  have hkl := (List.getElem?_eq_some_iff.1 hq).1
  have L1 := Lib.hid (below_new w (.cells #[.bool false, .bool false] 61))
  have k0 := (L1.out.cell (p := ⟨b0, _, none⟩) hb0).trans c0
  have k1 := (L1.out.cell (p := ⟨b0, _, none⟩) hb0).trans c1
  have k2 := (L1.out.cell (p := ⟨b0, _, none⟩) hb0).trans c2
  have k3 := (L1.out.cell (p := ⟨b0, _, none⟩) hb0).trans c3
  have k4 := (L1.out.cell (p := ⟨b0, _, none⟩) hb0).trans c4
  have k5 := (L1.out.cell (p := ⟨b0, _, none⟩) hb0).trans c5
  have i0 : (0 : Int) ≤ (k : Int) := by omega
  have i1 : (k : Int) < (qs.length : Int) := by omega
  have e1 : (w.alloc (.cells #[.bool false, .bool false] 61)).heap.size = w.heap.size + 1 := by simp
  have C1 := Lib.hid (show UC w ((w.alloc (.cells #[.bool false, .bool false] 61)).alloc (.cells #[.int .i64 (5 : Int), .int .i64 pp, .int .i64 cc, .slice ka kids.length kc, .slice na nums.length nc, .string name] 45)) (w.heap.size + 1) w.heap.size [.int .i64 (5 : Int), .int .i64 pp, .int .i64 cc, .slice ka kids.length kc, .slice na nums.length nc, .string name] from ⟨below_next (below_new w _) (below_new _ _), by have := Bk.new 45 (w.alloc (.cells #[.bool false, .bool false] 61)) [.int .i64 (5 : Int), .int .i64 pp, .int .i64 cc, .slice ka kids.length kc, .slice na nums.length nc, .string name]; rwa [e1] at this, (Bk.new _ w _).alloc _⟩)
  have HEV := Lib.hid (show usV qs (k : Int) = prU cc by rw [HEQ.out]; rfl)
  have HP := Lib.hid (fun W (hW : Below w.heap.size w W) => prim_any cc W (hT.below hW))
  clear hT hn hin hq hF c0 c1 c2 c3 c4 c5 hkl e1
  go_enter Tryd.func25, Tryd.ntmps25
  go_wp2_with fail
  clear k0 k1 k2 k3 k4 k5
  generalize ((w.alloc (.cells #[.bool false, .bool false] 61)).alloc (.cells #[.int .i64 (5 : Int), .int .i64 pp, .int .i64 cc, .slice ka kids.length kc, .slice na nums.length nc, .string name] 45)) = w1 at *
  refine (HP.out w1 C1.out.L).mono ?_
  rintro e w2 ⟨ua, ub, huv, rfl, hb2⟩
  have C2 := Lib.hid (C1.out.next hb2)
  have HUV := Lib.hid huv
  clear hb2 huv
  have z0 := C2.out.bu.c 0
  have z1 := C2.out.bu.c 1
  have f0 := C2.out.bu.f 0
  have f1 := C2.out.bu.f 1
  simp only [List.getElem?_cons_zero, List.getElem?_cons_succ] at z0 z1
  go_wp2
  refine bodyPost_ret (res_us (i := 4) Tryd.results25 _ rfl ((C2.out.bu.set_ 0 _).set_ 1 _)) rfl ?_
  exact ⟨ua, ub, by rw [HEV.out, HUV.out], rfl, (C2.out.L.setCell (p := ⟨w.heap.size, 0, none⟩) (Nat.le_refl _) _).setCell (p := ⟨w.heap.size, 1, none⟩) (Nat.le_refl _) _⟩
set_option maxHeartbeats 8000000 in
theorem uses_7 (A : Option Addr) (c : Nat) (qs : List Nq) (hF : Fl qs) (k : Nat) (pp cc : Int) (kids nums : List Int) (name : ByteArray) (ka : Option Addr) (kc : Nat) (na : Option Addr) (nc : Nat) (hq : qs[k]? = some ⟨⟨(7 : Int), pp, cc, kids, nums, name⟩, ka, kc, na, nc⟩) (w : World) (hT : Sc.Tab w) (hn : Nodes w A qs)  (HU : ∀ m, m < k → ∀ W, Sc.Tab W → Nodes W A qs → Calls Tryd.prog 25 #[.slice A qs.length c, .int .i64 (m : Int)] W (RetU (usV qs (m : Int)) W)) :
    Calls Tryd.prog 25 #[.slice A qs.length c, .int .i64 (k : Int)] w (RetU (usV qs (k : Int)) w) := by
  have HEQ := Lib.hid (usV_eq hF.ahead hq)
  simp only at HEQ
  obtain ⟨b0, o0, rfl, hb0, ⟨c0, c1, c2, c3, c4, c5⟩, hin⟩ := hn.at_ hq
  simp only at c0 c1 c2 c3 c4 c5
  have hkl := (List.getElem?_eq_some_iff.1 hq).1
  have L1 := Lib.hid (below_new w (.cells #[.bool false, .bool false] 61))
  have k0 := (L1.out.cell (p := ⟨b0, _, none⟩) hb0).trans c0
  have k1 := (L1.out.cell (p := ⟨b0, _, none⟩) hb0).trans c1
  have k2 := (L1.out.cell (p := ⟨b0, _, none⟩) hb0).trans c2
  have k3 := (L1.out.cell (p := ⟨b0, _, none⟩) hb0).trans c3
  have k4 := (L1.out.cell (p := ⟨b0, _, none⟩) hb0).trans c4
  have k5 := (L1.out.cell (p := ⟨b0, _, none⟩) hb0).trans c5
  have i0 : (0 : Int) ≤ (k : Int) := by omega
  have i1 : (k : Int) < (qs.length : Int) := by omega
  have e1 : (w.alloc (.cells #[.bool false, .bool false] 61)).heap.size = w.heap.size + 1 := by simp
  have C1 := Lib.hid (show UC w ((w.alloc (.cells #[.bool false, .bool false] 61)).alloc (.cells #[.int .i64 (7 : Int), .int .i64 pp, .int .i64 cc, .slice ka kids.length kc, .slice na nums.length nc, .string name] 45)) (w.heap.size + 1) w.heap.size [.int .i64 (7 : Int), .int .i64 pp, .int .i64 cc, .slice ka kids.length kc, .slice na nums.length nc, .string name] from ⟨below_next (below_new w _) (below_new _ _), by have := Bk.new 45 (w.alloc (.cells #[.bool false, .bool false] 61)) [.int .i64 (7 : Int), .int .i64 pp, .int .i64 cc, .slice ka kids.length kc, .slice na nums.length nc, .string name]; rwa [e1] at this, (Bk.new _ w _).alloc _⟩)
  have HEV := Lib.hid (show usV qs (k : Int) = opU qs ⟨(7 : Int), pp, cc, kids, nums, name⟩ (usV qs) by rw [HEQ.out]; rfl)
  have HP := Lib.hid (fun W (hW : Below w.heap.size w W) => op_any (some ⟨b0, o0, none⟩) c qs hF k pp cc kids nums name ka kc na nc hq W (hT.below hW) (hn.next hW) (hin.next hW) HU)
  unfold nodeV at HP
  simp only at HP
  clear HU
  clear hT hn hin hq hF c0 c1 c2 c3 c4 c5 hkl e1
  go_enter Tryd.func25, Tryd.ntmps25
  go_wp2_with fail
  clear k0 k1 k2 k3 k4 k5
  generalize ((w.alloc (.cells #[.bool false, .bool false] 61)).alloc (.cells #[.int .i64 (7 : Int), .int .i64 pp, .int .i64 cc, .slice ka kids.length kc, .slice na nums.length nc, .string name] 45)) = w1 at *
  refine (HP.out w1 C1.out.L).mono ?_
  rintro e w2 ⟨ua, ub, huv, rfl, hb2⟩
  have C2 := Lib.hid (C1.out.next hb2)
  have HUV := Lib.hid huv
  clear hb2 huv
  have z0 := C2.out.bu.c 0
  have z1 := C2.out.bu.c 1
  have f0 := C2.out.bu.f 0
  have f1 := C2.out.bu.f 1
  simp only [List.getElem?_cons_zero, List.getElem?_cons_succ] at z0 z1
  go_wp2
  refine bodyPost_ret (res_us (i := 4) Tryd.results25 _ rfl ((C2.out.bu.set_ 0 _).set_ 1 _)) rfl ?_
  exact ⟨ua, ub, by rw [HEV.out, HUV.out], rfl, (C2.out.L.setCell (p := ⟨w.heap.size, 0, none⟩) (Nat.le_refl _) _).setCell (p := ⟨w.heap.size, 1, none⟩) (Nat.le_refl _) _⟩
set_option maxHeartbeats 8000000 in
theorem uses_11 (A : Option Addr) (c : Nat) (qs : List Nq) (hF : Fl qs) (k : Nat) (pp cc : Int) (kids nums : List Int) (name : ByteArray) (ka : Option Addr) (kc : Nat) (na : Option Addr) (nc : Nat) (hq : qs[k]? = some ⟨⟨(11 : Int), pp, cc, kids, nums, name⟩, ka, kc, na, nc⟩) (w : World) (hT : Sc.Tab w) (hn : Nodes w A qs)  (HU : ∀ m, m < k → ∀ W, Sc.Tab W → Nodes W A qs → Calls Tryd.prog 25 #[.slice A qs.length c, .int .i64 (m : Int)] W (RetU (usV qs (m : Int)) W)) :
    Calls Tryd.prog 25 #[.slice A qs.length c, .int .i64 (k : Int)] w (RetU (usV qs (k : Int)) w) := by
  have HEQ := Lib.hid (usV_eq hF.ahead hq)
  simp only at HEQ
  obtain ⟨b0, o0, rfl, hb0, ⟨c0, c1, c2, c3, c4, c5⟩, hin⟩ := hn.at_ hq
  simp only at c0 c1 c2 c3 c4 c5
  have hkl := (List.getElem?_eq_some_iff.1 hq).1
  have L1 := Lib.hid (below_new w (.cells #[.bool false, .bool false] 61))
  have k0 := (L1.out.cell (p := ⟨b0, _, none⟩) hb0).trans c0
  have k1 := (L1.out.cell (p := ⟨b0, _, none⟩) hb0).trans c1
  have k2 := (L1.out.cell (p := ⟨b0, _, none⟩) hb0).trans c2
  have k3 := (L1.out.cell (p := ⟨b0, _, none⟩) hb0).trans c3
  have k4 := (L1.out.cell (p := ⟨b0, _, none⟩) hb0).trans c4
  have k5 := (L1.out.cell (p := ⟨b0, _, none⟩) hb0).trans c5
  have i0 : (0 : Int) ≤ (k : Int) := by omega
  have i1 : (k : Int) < (qs.length : Int) := by omega
  have e1 : (w.alloc (.cells #[.bool false, .bool false] 61)).heap.size = w.heap.size + 1 := by simp
  have C1 := Lib.hid (show UC w ((w.alloc (.cells #[.bool false, .bool false] 61)).alloc (.cells #[.int .i64 (11 : Int), .int .i64 pp, .int .i64 cc, .slice ka kids.length kc, .slice na nums.length nc, .string name] 45)) (w.heap.size + 1) w.heap.size [.int .i64 (11 : Int), .int .i64 pp, .int .i64 cc, .slice ka kids.length kc, .slice na nums.length nc, .string name] from ⟨below_next (below_new w _) (below_new _ _), by have := Bk.new 45 (w.alloc (.cells #[.bool false, .bool false] 61)) [.int .i64 (11 : Int), .int .i64 pp, .int .i64 cc, .slice ka kids.length kc, .slice na nums.length nc, .string name]; rwa [e1] at this, (Bk.new _ w _).alloc _⟩)
  have HEV := Lib.hid (show usV qs (k : Int) = fkU qs ⟨(11 : Int), pp, cc, kids, nums, name⟩ (usV qs) by rw [HEQ.out]; rfl)
  have HP := Lib.hid (fun W (hW : Below w.heap.size w W) => fork_any (some ⟨b0, o0, none⟩) c qs hF k pp cc kids nums name ka kc na nc hq W (hT.below hW) (hn.next hW) (hin.next hW) HU)
  unfold nodeV at HP
  simp only at HP
  clear HU
  clear hT hn hin hq hF c0 c1 c2 c3 c4 c5 hkl e1
  go_enter Tryd.func25, Tryd.ntmps25
  go_wp2_with fail
  clear k0 k1 k2 k3 k4 k5
  generalize ((w.alloc (.cells #[.bool false, .bool false] 61)).alloc (.cells #[.int .i64 (11 : Int), .int .i64 pp, .int .i64 cc, .slice ka kids.length kc, .slice na nums.length nc, .string name] 45)) = w1 at *
  refine (HP.out w1 C1.out.L).mono ?_
  rintro e w2 ⟨ua, ub, huv, rfl, hb2⟩
  have C2 := Lib.hid (C1.out.next hb2)
  have HUV := Lib.hid huv
  clear hb2 huv
  have z0 := C2.out.bu.c 0
  have z1 := C2.out.bu.c 1
  have f0 := C2.out.bu.f 0
  have f1 := C2.out.bu.f 1
  simp only [List.getElem?_cons_zero, List.getElem?_cons_succ] at z0 z1
  go_wp2
  refine bodyPost_ret (res_us (i := 4) Tryd.results25 _ rfl ((C2.out.bu.set_ 0 _).set_ 1 _)) rfl ?_
  exact ⟨ua, ub, by rw [HEV.out, HUV.out], rfl, (C2.out.L.setCell (p := ⟨w.heap.size, 0, none⟩) (Nat.le_refl _) _).setCell (p := ⟨w.heap.size, 1, none⟩) (Nat.le_refl _) _⟩
set_option maxHeartbeats 8000000 in
theorem uses_8 (A : Option Addr) (c : Nat) (qs : List Nq) (hF : Fl qs) (k : Nat) (pp cc : Int) (kids nums : List Int) (name : ByteArray) (ka : Option Addr) (kc : Nat) (na : Option Addr) (nc : Nat) (hq : qs[k]? = some ⟨⟨(8 : Int), pp, cc, kids, nums, name⟩, ka, kc, na, nc⟩) (w : World) (hT : Sc.Tab w) (hn : Nodes w A qs)   :
    Calls Tryd.prog 25 #[.slice A qs.length c, .int .i64 (k : Int)] w (RetU (usV qs (k : Int)) w) := by
  have HEQ := Lib.hid (usV_eq hF.ahead hq)
  simp only at HEQ
  obtain ⟨b0, o0, rfl, hb0, ⟨c0, c1, c2, c3, c4, c5⟩, hin⟩ := hn.at_ hq
  simp only at c0 c1 c2 c3 c4 c5
  have hkl := (List.getElem?_eq_some_iff.1 hq).1
  have L1 := Lib.hid (below_new w (.cells #[.bool false, .bool false] 61))
  have k0 := (L1.out.cell (p := ⟨b0, _, none⟩) hb0).trans c0
  have k1 := (L1.out.cell (p := ⟨b0, _, none⟩) hb0).trans c1
  have k2 := (L1.out.cell (p := ⟨b0, _, none⟩) hb0).trans c2
  have k3 := (L1.out.cell (p := ⟨b0, _, none⟩) hb0).trans c3
  have k4 := (L1.out.cell (p := ⟨b0, _, none⟩) hb0).trans c4
  have k5 := (L1.out.cell (p := ⟨b0, _, none⟩) hb0).trans c5
  have i0 : (0 : Int) ≤ (k : Int) := by omega
  have i1 : (k : Int) < (qs.length : Int) := by omega
  have e1 : (w.alloc (.cells #[.bool false, .bool false] 61)).heap.size = w.heap.size + 1 := by simp
  have C1 := Lib.hid (show UC w ((w.alloc (.cells #[.bool false, .bool false] 61)).alloc (.cells #[.int .i64 (8 : Int), .int .i64 pp, .int .i64 cc, .slice ka kids.length kc, .slice na nums.length nc, .string name] 45)) (w.heap.size + 1) w.heap.size [.int .i64 (8 : Int), .int .i64 pp, .int .i64 cc, .slice ka kids.length kc, .slice na nums.length nc, .string name] from ⟨below_next (below_new w _) (below_new _ _), by have := Bk.new 45 (w.alloc (.cells #[.bool false, .bool false] 61)) [.int .i64 (8 : Int), .int .i64 pp, .int .i64 cc, .slice ka kids.length kc, .slice na nums.length nc, .string name]; rwa [e1] at this, (Bk.new _ w _).alloc _⟩)
  obtain ⟨al, hal⟩ : ∃ al, allS qs kids = al := ⟨_, rfl⟩
  have HEV := Lib.hid (show usV qs (k : Int) = (al, false) by rw [HEQ.out, ← hal]; rfl)
  have HS := Lib.hid (fun W (hW : Below w.heap.size w W) => (scals_any (some ⟨b0, o0, none⟩) c qs hF ka kc kids W (hT.below hW) (hn.next hW) (hin.1.below hW) (by have : kids.length = 1 := hF.nk hq; omega) (fun x hx => by have := hF.ahead k _ hq x hx; unfold Tr.InR; omega)).mono (fun e0 w0 hr => (by rw [hal] at hr; exact hr)))
  clear hal
  clear hT hn hin hq hF c0 c1 c2 c3 c4 c5 hkl e1
  go_enter Tryd.func25, Tryd.ntmps25
  go_wp2_with fail
  clear k0 k1 k2 k3 k4 k5
  generalize ((w.alloc (.cells #[.bool false, .bool false] 61)).alloc (.cells #[.int .i64 (8 : Int), .int .i64 pp, .int .i64 cc, .slice ka kids.length kc, .slice na nums.length nc, .string name] 45)) = w1 at *
  refine (HS.out w1 C1.out.L).mono ?_
  rintro e w2 ⟨rfl, hb2⟩
  have C2 := Lib.hid (C1.out.next hb2)
  clear hb2
  have z0 := C2.out.bu.c 0
  have z1 := C2.out.bu.c 1
  have f0 := C2.out.bu.f 0
  have f1 := C2.out.bu.f 1
  simp only [List.getElem?_cons_zero, List.getElem?_cons_succ] at z0 z1
  go_wp2
  refine bodyPost_ret (res_us (i := 4) Tryd.results25 _ rfl ((C2.out.bu.set_ 0 _).set_ 1 _)) rfl ?_
  exact ⟨al, false, HEV.out, rfl, (C2.out.L.setCell (p := ⟨w.heap.size, 0, none⟩) (Nat.le_refl _) _).setCell (p := ⟨w.heap.size, 1, none⟩) (Nat.le_refl _) _⟩
set_option maxHeartbeats 8000000 in
theorem uses_9 (A : Option Addr) (c : Nat) (qs : List Nq) (hF : Fl qs) (k : Nat) (pp cc : Int) (kids nums : List Int) (name : ByteArray) (ka : Option Addr) (kc : Nat) (na : Option Addr) (nc : Nat) (hq : qs[k]? = some ⟨⟨(9 : Int), pp, cc, kids, nums, name⟩, ka, kc, na, nc⟩) (w : World) (hT : Sc.Tab w) (hn : Nodes w A qs)   :
    Calls Tryd.prog 25 #[.slice A qs.length c, .int .i64 (k : Int)] w (RetU (usV qs (k : Int)) w) := by
  have HEQ := Lib.hid (usV_eq hF.ahead hq)
  simp only at HEQ
  obtain ⟨b0, o0, rfl, hb0, ⟨c0, c1, c2, c3, c4, c5⟩, hin⟩ := hn.at_ hq
  simp only at c0 c1 c2 c3 c4 c5
  have hkl := (List.getElem?_eq_some_iff.1 hq).1
  have L1 := Lib.hid (below_new w (.cells #[.bool false, .bool false] 61))
  have k0 := (L1.out.cell (p := ⟨b0, _, none⟩) hb0).trans c0
  have k1 := (L1.out.cell (p := ⟨b0, _, none⟩) hb0).trans c1
  have k2 := (L1.out.cell (p := ⟨b0, _, none⟩) hb0).trans c2
  have k3 := (L1.out.cell (p := ⟨b0, _, none⟩) hb0).trans c3
  have k4 := (L1.out.cell (p := ⟨b0, _, none⟩) hb0).trans c4
  have k5 := (L1.out.cell (p := ⟨b0, _, none⟩) hb0).trans c5
  have i0 : (0 : Int) ≤ (k : Int) := by omega
  have i1 : (k : Int) < (qs.length : Int) := by omega
  have e1 : (w.alloc (.cells #[.bool false, .bool false] 61)).heap.size = w.heap.size + 1 := by simp
  have C1 := Lib.hid (show UC w ((w.alloc (.cells #[.bool false, .bool false] 61)).alloc (.cells #[.int .i64 (9 : Int), .int .i64 pp, .int .i64 cc, .slice ka kids.length kc, .slice na nums.length nc, .string name] 45)) (w.heap.size + 1) w.heap.size [.int .i64 (9 : Int), .int .i64 pp, .int .i64 cc, .slice ka kids.length kc, .slice na nums.length nc, .string name] from ⟨below_next (below_new w _) (below_new _ _), by have := Bk.new 45 (w.alloc (.cells #[.bool false, .bool false] 61)) [.int .i64 (9 : Int), .int .i64 pp, .int .i64 cc, .slice ka kids.length kc, .slice na nums.length nc, .string name]; rwa [e1] at this, (Bk.new _ w _).alloc _⟩)
  obtain ⟨al, hal⟩ : ∃ al, allS qs kids = al := ⟨_, rfl⟩
  have HEV := Lib.hid (show usV qs (k : Int) = (false, al) by rw [HEQ.out, ← hal]; rfl)
  have HS := Lib.hid (fun W (hW : Below w.heap.size w W) => (scals_any (some ⟨b0, o0, none⟩) c qs hF ka kc kids W (hT.below hW) (hn.next hW) (hin.1.below hW) (by have : kids.length = 2 := hF.nk hq; omega) (fun x hx => by have := hF.ahead k _ hq x hx; unfold Tr.InR; omega)).mono (fun e0 w0 hr => (by rw [hal] at hr; exact hr)))
  clear hal
  clear hT hn hin hq hF c0 c1 c2 c3 c4 c5 hkl e1
  go_enter Tryd.func25, Tryd.ntmps25
  go_wp2_with fail
  clear k0 k1 k2 k3 k4 k5
  generalize ((w.alloc (.cells #[.bool false, .bool false] 61)).alloc (.cells #[.int .i64 (9 : Int), .int .i64 pp, .int .i64 cc, .slice ka kids.length kc, .slice na nums.length nc, .string name] 45)) = w1 at *
  refine (HS.out w1 C1.out.L).mono ?_
  rintro e w2 ⟨rfl, hb2⟩
  have C2 := Lib.hid (C1.out.next hb2)
  clear hb2
  have z0 := C2.out.bu.c 0
  have z1 := C2.out.bu.c 1
  have f0 := C2.out.bu.f 0
  have f1 := C2.out.bu.f 1
  simp only [List.getElem?_cons_zero, List.getElem?_cons_succ] at z0 z1
  go_wp2
  refine bodyPost_ret (res_us (i := 4) Tryd.results25 _ rfl ((C2.out.bu.set_ 0 _).set_ 1 _)) rfl ?_
  exact ⟨false, al, HEV.out, rfl, (C2.out.L.setCell (p := ⟨w.heap.size, 0, none⟩) (Nat.le_refl _) _).setCell (p := ⟨w.heap.size, 1, none⟩) (Nat.le_refl _) _⟩
set_option maxHeartbeats 8000000 in
theorem uses_10 (A : Option Addr) (c : Nat) (qs : List Nq) (hF : Fl qs) (k : Nat) (pp cc : Int) (kids nums : List Int) (name : ByteArray) (ka : Option Addr) (kc : Nat) (na : Option Addr) (nc : Nat) (hq : qs[k]? = some ⟨⟨(10 : Int), pp, cc, kids, nums, name⟩, ka, kc, na, nc⟩) (w : World) (hT : Sc.Tab w) (hn : Nodes w A qs)   :
    Calls Tryd.prog 25 #[.slice A qs.length c, .int .i64 (k : Int)] w (RetU (usV qs (k : Int)) w) := by
  have HEQ := Lib.hid (usV_eq hF.ahead hq)
  simp only at HEQ
  obtain ⟨b0, o0, rfl, hb0, ⟨c0, c1, c2, c3, c4, c5⟩, hin⟩ := hn.at_ hq
  simp only at c0 c1 c2 c3 c4 c5
  have hkl := (List.getElem?_eq_some_iff.1 hq).1
  have L1 := Lib.hid (below_new w (.cells #[.bool false, .bool false] 61))
  have k0 := (L1.out.cell (p := ⟨b0, _, none⟩) hb0).trans c0
  have k1 := (L1.out.cell (p := ⟨b0, _, none⟩) hb0).trans c1
  have k2 := (L1.out.cell (p := ⟨b0, _, none⟩) hb0).trans c2
  have k3 := (L1.out.cell (p := ⟨b0, _, none⟩) hb0).trans c3
  have k4 := (L1.out.cell (p := ⟨b0, _, none⟩) hb0).trans c4
  have k5 := (L1.out.cell (p := ⟨b0, _, none⟩) hb0).trans c5
  have i0 : (0 : Int) ≤ (k : Int) := by omega
  have i1 : (k : Int) < (qs.length : Int) := by omega
  have e1 : (w.alloc (.cells #[.bool false, .bool false] 61)).heap.size = w.heap.size + 1 := by simp
  have C1 := Lib.hid (show UC w ((w.alloc (.cells #[.bool false, .bool false] 61)).alloc (.cells #[.int .i64 (10 : Int), .int .i64 pp, .int .i64 cc, .slice ka kids.length kc, .slice na nums.length nc, .string name] 45)) (w.heap.size + 1) w.heap.size [.int .i64 (10 : Int), .int .i64 pp, .int .i64 cc, .slice ka kids.length kc, .slice na nums.length nc, .string name] from ⟨below_next (below_new w _) (below_new _ _), by have := Bk.new 45 (w.alloc (.cells #[.bool false, .bool false] 61)) [.int .i64 (10 : Int), .int .i64 pp, .int .i64 cc, .slice ka kids.length kc, .slice na nums.length nc, .string name]; rwa [e1] at this, (Bk.new _ w _).alloc _⟩)
  obtain ⟨al, hal⟩ : ∃ al, allS qs kids = al := ⟨_, rfl⟩
  have HEV := Lib.hid (show usV qs (k : Int) = (false, al) by rw [HEQ.out, ← hal]; rfl)
  have HS := Lib.hid (fun W (hW : Below w.heap.size w W) => (scals_any (some ⟨b0, o0, none⟩) c qs hF ka kc kids W (hT.below hW) (hn.next hW) (hin.1.below hW) (by have : kids.length = 1 := hF.nk hq; omega) (fun x hx => by have := hF.ahead k _ hq x hx; unfold Tr.InR; omega)).mono (fun e0 w0 hr => (by rw [hal] at hr; exact hr)))
  clear hal
  clear hT hn hin hq hF c0 c1 c2 c3 c4 c5 hkl e1
  go_enter Tryd.func25, Tryd.ntmps25
  go_wp2_with fail
  clear k0 k1 k2 k3 k4 k5
  generalize ((w.alloc (.cells #[.bool false, .bool false] 61)).alloc (.cells #[.int .i64 (10 : Int), .int .i64 pp, .int .i64 cc, .slice ka kids.length kc, .slice na nums.length nc, .string name] 45)) = w1 at *
  refine (HS.out w1 C1.out.L).mono ?_
  rintro e w2 ⟨rfl, hb2⟩
  have C2 := Lib.hid (C1.out.next hb2)
  clear hb2
  have z0 := C2.out.bu.c 0
  have z1 := C2.out.bu.c 1
  have f0 := C2.out.bu.f 0
  have f1 := C2.out.bu.f 1
  simp only [List.getElem?_cons_zero, List.getElem?_cons_succ] at z0 z1
  go_wp2
  refine bodyPost_ret (res_us (i := 4) Tryd.results25 _ rfl ((C2.out.bu.set_ 0 _).set_ 1 _)) rfl ?_
  exact ⟨false, al, HEV.out, rfl, (C2.out.L.setCell (p := ⟨w.heap.size, 0, none⟩) (Nat.le_refl _) _).setCell (p := ⟨w.heap.size, 1, none⟩) (Nat.le_refl _) _⟩
set_option maxHeartbeats 8000000 in
theorem uses_else (A : Option Addr) (c : Nat) (qs : List Nq) (hF : Fl qs) (k : Nat) (kk pp cc : Int) (kids nums : List Int) (name : ByteArray) (ka : Option Addr) (kc : Nat) (na : Option Addr) (nc : Nat) (hq : qs[k]? = some ⟨⟨kk, pp, cc, kids, nums, name⟩, ka, kc, na, nc⟩) (w : World) (hT : Sc.Tab w) (hn : Nodes w A qs) (h5 : kk ≠ 5) (h7 : kk ≠ 7) (h8 : kk ≠ 8) (h9 : kk ≠ 9) (h10 : kk ≠ 10) (h11 : kk ≠ 11) (h12 : kk ≠ 12)  :
    Calls Tryd.prog 25 #[.slice A qs.length c, .int .i64 (k : Int)] w (RetU (usV qs (k : Int)) w) := by
  have HEQ := Lib.hid (usV_eq hF.ahead hq)
  simp only at HEQ
  obtain ⟨b0, o0, rfl, hb0, ⟨c0, c1, c2, c3, c4, c5⟩, hin⟩ := hn.at_ hq
  simp only at c0 c1 c2 c3 c4 c5
  have hkl := (List.getElem?_eq_some_iff.1 hq).1
  have L1 := Lib.hid (below_new w (.cells #[.bool false, .bool false] 61))
  have k0 := (L1.out.cell (p := ⟨b0, _, none⟩) hb0).trans c0
  have k1 := (L1.out.cell (p := ⟨b0, _, none⟩) hb0).trans c1
  have k2 := (L1.out.cell (p := ⟨b0, _, none⟩) hb0).trans c2
  have k3 := (L1.out.cell (p := ⟨b0, _, none⟩) hb0).trans c3
  have k4 := (L1.out.cell (p := ⟨b0, _, none⟩) hb0).trans c4
  have k5 := (L1.out.cell (p := ⟨b0, _, none⟩) hb0).trans c5
  have i0 : (0 : Int) ≤ (k : Int) := by omega
  have i1 : (k : Int) < (qs.length : Int) := by omega
  have e1 : (w.alloc (.cells #[.bool false, .bool false] 61)).heap.size = w.heap.size + 1 := by simp
  have C1 := Lib.hid (show UC w ((w.alloc (.cells #[.bool false, .bool false] 61)).alloc (.cells #[.int .i64 kk, .int .i64 pp, .int .i64 cc, .slice ka kids.length kc, .slice na nums.length nc, .string name] 45)) (w.heap.size + 1) w.heap.size [.int .i64 kk, .int .i64 pp, .int .i64 cc, .slice ka kids.length kc, .slice na nums.length nc, .string name] from ⟨below_next (below_new w _) (below_new _ _), by have := Bk.new 45 (w.alloc (.cells #[.bool false, .bool false] 61)) [.int .i64 kk, .int .i64 pp, .int .i64 cc, .slice ka kids.length kc, .slice na nums.length nc, .string name]; rwa [e1] at this, (Bk.new _ w _).alloc _⟩)
  have HEV := Lib.hid (show usV qs (k : Int) = (false, false) by rw [HEQ.out]; unfold usN; simp only; rw [if_neg h5, if_neg h7, if_neg h8, if_neg (by omega), if_neg h11, if_neg h12])
  have t5 : (kk == 5) = false := by simp [h5]
  have t7 : (kk == 7) = false := by simp [h7]
  have t8 : (kk == 8) = false := by simp [h8]
  have t9 : (kk == 9) = false := by simp [h9]
  have t10 : (kk == 10) = false := by simp [h10]
  have t11 : (kk == 11) = false := by simp [h11]
  have t12 : (kk == 12) = false := by simp [h12]
  have v5 : decide (kk = 5) = false := by simp [h5]
  have v7 : decide (kk = 7) = false := by simp [h7]
  have v8 : decide (kk = 8) = false := by simp [h8]
  have v9 : decide (kk = 9) = false := by simp [h9]
  have v10 : decide (kk = 10) = false := by simp [h10]
  have v11 : decide (kk = 11) = false := by simp [h11]
  have v12 : decide (kk = 12) = false := by simp [h12]
  clear h5 h7 h8 h9 h10 h11 h12
  clear hT hn hin hq hF c0 c1 c2 c3 c4 c5 hkl e1
  go_enter Tryd.func25, Tryd.ntmps25
  go_wp2
  refine bodyPost_ret (res_us (i := 4) Tryd.results25 _ rfl C1.out.bu) rfl ?_
  exact ⟨false, false, HEV.out, rfl, C1.out.L⟩
set_option maxHeartbeats 8000000 in
theorem uses_12 (A : Option Addr) (c : Nat) (qs : List Nq) (hF : Fl qs) (k : Nat) (pp cc : Int) (kids nums : List Int) (name : ByteArray) (ka : Option Addr) (kc : Nat) (na : Option Addr) (nc : Nat) (hq : qs[k]? = some ⟨⟨(12 : Int), pp, cc, kids, nums, name⟩, ka, kc, na, nc⟩) (w : World) (hT : Sc.Tab w) (hn : Nodes w A qs)  (HU : ∀ m, m < k → ∀ W, Sc.Tab W → Nodes W A qs → Calls Tryd.prog 25 #[.slice A qs.length c, .int .i64 (m : Int)] W (RetU (usV qs (m : Int)) W)) :
    Calls Tryd.prog 25 #[.slice A qs.length c, .int .i64 (k : Int)] w (RetU (usV qs (k : Int)) w) := by
  have HEQ := Lib.hid (usV_eq hF.ahead hq)
  simp only at HEQ
  obtain ⟨b0, o0, rfl, hb0, ⟨c0, c1, c2, c3, c4, c5⟩, hin⟩ := hn.at_ hq
  simp only at c0 c1 c2 c3 c4 c5
  have hkl := (List.getElem?_eq_some_iff.1 hq).1
  have hlen : kids.length = 2 := hF.nk hq
  obtain ⟨bK, oK, eka, hbK, hcK⟩ := hin.1 (by simp only; omega)
  simp only at eka hcK
  subst eka
  obtain ⟨m0, q0, hx0, hkm0, hmk0, hqm0, hka0, hmay0⟩ := hF.kid hq 0 (by show 0 < (partsL 12).length; decide)
  simp only at hx0 hkm0 hmay0
  have hy0 := hcK 0 (by omega)
  rw [show kids.getD 0 0 = (m0 : Int) by rw [List.getD_eq_getElem?_getD, hx0]; rfl] at hy0
  obtain ⟨m1, q1, hx1, hkm1, hmk1, hqm1, hka1, hmay1⟩ := hF.kid hq 1 (by show 1 < (partsL 12).length; decide)
  simp only at hx1 hkm1 hmay1
  have hy1 := hcK 1 (by omega)
  rw [show kids.getD 1 0 = (m1 : Int) by rw [List.getD_eq_getElem?_getD, hx1]; rfl] at hy1
  have L1 := Lib.hid (below_new w (.cells #[.bool false, .bool false] 61))
  have k0 := (L1.out.cell (p := ⟨b0, _, none⟩) hb0).trans c0
  have k1 := (L1.out.cell (p := ⟨b0, _, none⟩) hb0).trans c1
  have k2 := (L1.out.cell (p := ⟨b0, _, none⟩) hb0).trans c2
  have k3 := (L1.out.cell (p := ⟨b0, _, none⟩) hb0).trans c3
  have k4 := (L1.out.cell (p := ⟨b0, _, none⟩) hb0).trans c4
  have k5 := (L1.out.cell (p := ⟨b0, _, none⟩) hb0).trans c5
  have i0 : (0 : Int) ≤ (k : Int) := by omega
  have i1 : (k : Int) < (qs.length : Int) := by omega
  have e1 : (w.alloc (.cells #[.bool false, .bool false] 61)).heap.size = w.heap.size + 1 := by simp
  have C1 := Lib.hid (show UC w ((w.alloc (.cells #[.bool false, .bool false] 61)).alloc (.cells #[.int .i64 (12 : Int), .int .i64 pp, .int .i64 cc, .slice (some ⟨bK, oK, none⟩) kids.length kc, .slice na nums.length nc, .string name] 45)) (w.heap.size + 1) w.heap.size [.int .i64 (12 : Int), .int .i64 pp, .int .i64 cc, .slice (some ⟨bK, oK, none⟩) kids.length kc, .slice na nums.length nc, .string name] from ⟨below_next (below_new w _) (below_new _ _), by have := Bk.new 45 (w.alloc (.cells #[.bool false, .bool false] 61)) [.int .i64 (12 : Int), .int .i64 pp, .int .i64 cc, .slice (some ⟨bK, oK, none⟩) kids.length kc, .slice na nums.length nc, .string name]; rwa [e1] at this, (Bk.new _ w _).alloc _⟩)
  have HEV := Lib.hid (show usV qs (k : Int) = givU (usV qs (m1 : Int)) (usV qs (m0 : Int)).1 by rw [HEQ.out, ← hkm0, ← hkm1]; rfl)
  have HR := Lib.hid (fun m (hm : m < k) W (hW : Below w.heap.size w W) => HU m hm W (hT.below hW) (hn.next hW))
  have HY1 := Lib.hid hy0
  have HY2 := Lib.hid hy1
  have HM0 := Lib.hid hmk0
  have HM1 := Lib.hid hmk1
  have j0 : (0 : Int) < (kids.length : Int) := by omega
  have j1 : (1 : Int) < (kids.length : Int) := by omega
  have l0 : 0 < kids.length := by omega
  have l1 : 1 < kids.length := by omega
  clear HU hcK hy0 hx0 hkm0 hqm0 hka0 hmay0 hlen hx1 hkm1 hqm1 hka1 hmay1 hmk0 hmk1 hy1
  clear hT hn hin hq hF c0 c1 c2 c3 c4 c5 hkl e1
  have FL0 := fun a b W => uField0 a b W
  have HGV := Lib.hid given_any
  go_enter Tryd.func25, Tryd.ntmps25
  go_upto_region 15 with fail
  clear k0 k1 k2 k3 k4 k5
  generalize ((w.alloc (.cells #[.bool false, .bool false] 61)).alloc (.cells #[.int .i64 (12 : Int), .int .i64 pp, .int .i64 cc, .slice (some ⟨bK, oK, none⟩) kids.length kc, .slice na nums.length nc, .string name] 45)) = w1 at *
  have Cd := Lib.hid (C1.out.drew)
  have Kd := Lib.hid (by have hk := Cd.out.kids (j1 := 0) hbK HY1.out HY2.out; simpa only [Nat.add_zero] using hk)
  go_region_held3 (fun w' => w'.cell? ⟨w.heap.size + 1, 3, none⟩ = some (.slice (some ⟨bK, oK, none⟩) kids.length kc) ∧ w'.cell? ⟨bK, oK, none⟩ = some (.int .i64 (m0 : Int)) ∧ w'.cell? ⟨bK, oK + 1, none⟩ = some (.int .i64 (m1 : Int)))
    (first
      | with_reducible exact Kd.out
      | with_reducible exact Kx.out
      | with_reducible exact K9.out
      | with_reducible exact K8.out
      | with_reducible exact K7.out
      | go_keep)
    (first
      | (go_at_call 25; (with_reducible refine (HR.out m1 HM1.out _ Cd.out.L).mono ?_); rintro r w7 ⟨a7, b7, hu7, rfl, hb7⟩; have C7 := Lib.hid (Cd.out.next hb7); have K7 := Lib.hid (by have hk := C7.out.kids (j1 := 0) hbK HY1.out HY2.out; simpa only [Nat.add_zero] using hk); have U7 := Lib.hid hu7; clear hb7 hu7)
      | (go_at_call 25; (with_reducible refine (HR.out m0 HM0.out _ C7.out.L).mono ?_); rintro r w8 ⟨a8, b8, hu8, rfl, hb8⟩; have C8 := Lib.hid (C7.out.next hb8); have K8 := Lib.hid (by have hk := C8.out.kids (j1 := 0) hbK HY1.out HY2.out; simpa only [Nat.add_zero] using hk); have U8 := Lib.hid hu8; clear hb8 hu8)
      | (go_at_call 38; (with_reducible refine (HGV.out a7 b7 a8 _).mono ?_); rintro r w9 ⟨a9, b9, hu9, rfl, hb9⟩; have C9 := Lib.hid (C8.out.next hb9); have K9 := Lib.hid (by have hk := C9.out.kids (j1 := 0) hbK HY1.out HY2.out; simpa only [Nat.add_zero] using hk); have U9 := Lib.hid hu9; have q0 := C9.out.bu.c 0; have q1 := C9.out.bu.c 1; have r0 := C9.out.bu.f 0; have r1 := C9.out.bu.f 1; (simp only [List.getElem?_cons_zero, List.getElem?_cons_succ] at q0 q1); have Kx := Lib.hid (by have hk := uc_kids2 C9.out (.bool a9) (.bool b9) (j1 := 0) hbK HY1.out HY2.out (by omega) (Nat.le_refl _); simpa only [Nat.add_zero] using hk); clear hb9 hu9))
  go_wp2
  refine bodyPost_ret (res_us (i := 4) Tryd.results25 _ rfl ((C9.out.bu.set_ 0 _).set_ 1 _)) rfl ?_
  exact ⟨a9, b9, by rw [HEV.out, U7.out, U8.out]; exact U9.out, rfl, (C9.out.L.setCell (p := ⟨w.heap.size, 0, none⟩) (Nat.le_refl _) _).setCell (p := ⟨w.heap.size, 1, none⟩) (Nat.le_refl _) _⟩
theorem uses_k (A : Option Addr) (c : Nat) (qs : List Nq) (hF : Fl qs) : ∀ (k : Nat) (w : World), Sc.Tab w → Nodes w A qs → k < qs.length → Calls Tryd.prog 25 #[.slice A qs.length c, .int .i64 (k : Int)] w (RetU (usV qs (k : Int)) w) := by
  intro k
  induction k using Nat.strongRecOn with
  | ind k ih =>
  intro w hT hn hk
  obtain ⟨q, hq⟩ : ∃ q, qs[k]? = some q := ⟨_, List.getElem?_eq_getElem hk⟩
  have HU : ∀ m, m < k → ∀ W, Sc.Tab W → Nodes W A qs → Calls Tryd.prog 25 #[.slice A qs.length c, .int .i64 (m : Int)] W (RetU (usV qs (m : Int)) W) := fun m hm W h1 h2 => ih m hm W h1 h2 (by omega)
  obtain ⟨⟨kk, pp, cc, kids, nums, name⟩, ka, kc, na, nc⟩ := q
  by_cases h5 : kk = 5
  · subst h5; exact uses_5 A c qs hF k pp cc kids nums name ka kc na nc hq w hT hn
  by_cases h7 : kk = 7
  · subst h7; exact uses_7 A c qs hF k pp cc kids nums name ka kc na nc hq w hT hn HU
  by_cases h8 : kk = 8
  · subst h8; exact uses_8 A c qs hF k pp cc kids nums name ka kc na nc hq w hT hn
  by_cases h9 : kk = 9
  · subst h9; exact uses_9 A c qs hF k pp cc kids nums name ka kc na nc hq w hT hn
  by_cases h10 : kk = 10
  · subst h10; exact uses_10 A c qs hF k pp cc kids nums name ka kc na nc hq w hT hn
  by_cases h11 : kk = 11
  · subst h11; exact uses_11 A c qs hF k pp cc kids nums name ka kc na nc hq w hT hn HU
  by_cases h12 : kk = 12
  · subst h12; exact uses_12 A c qs hF k pp cc kids nums name ka kc na nc hq w hT hn HU
  exact uses_else A c qs hF k kk pp cc kids nums name ka kc na nc hq w hT hn h5 h7 h8 h9 h10 h11 h12
end Go.Proofs.YtjmpilmmgfjpmaaDoor.Stp
-- StpFlat
set_option maxRecDepth 100000
namespace Go.Proofs.YtjmpilmmgfjpmaaDoor.Stp
open Go.Proofs.YtjmpilmmgfjpmaaDoor.Sh Go.Proofs.YtjmpilmmgfjpmaaDoor.St Go.Proofs.YtjmpilmmgfjpmaaDoor.Tr
open Go.RowKit
set_option linter.unusedVariables false
set_option linter.unusedSimpArgs false

def nokB (nm : ByteArray) (n : Nd) : Bool := !(decide (n.kind = 6)) && !(decide (n.kind = 2) && !(decide (n.name = nm)))
def flatB (p : Pq) : Bool := decide (p.defs.length = 0) && (rightT p && p.nodes.all fun q => nokB p.name q.n)
theorem ord_fields2 {qs : List Nq} : ∀ (n : Nat) (t : List Int), ordTo qs n = some t → ∀ (k : Nat) (q : Nq), k < n → qs[k]? = some q → partedB qs (partsL q.n.kind) q.n.kids = true ∧ fieldedB q.n = true
  | 0, t, h, k, q, hk, hq => by omega
  | n + 1, t, h, k, q, hk, hq => by
    cases ht : ordTo qs n with
    | none => rw [ordTo_none ht (n + 1) (by omega)] at h; cases h
    | some tops =>
      by_cases hkn : k < n
      · exact ord_fields2 n tops ht k q hkn hq
      · obtain rfl : k = n := by omega
        rw [ordTo_succ ht hq] at h
        unfold ordStep at h
        repeat' split at h
        all_goals first
          | cases h
          | skip
        rename_i h1 h2 h3 h4
        exact ⟨by simpa using h3, by simpa using h4⟩
theorem fl_right {p : Pq} (h : rightT p = true) : Fl p.nodes := by
  refine ⟨ahead_right h, ?_, ?_⟩
  all_goals
    unfold rightT at h
    simp only [Bool.and_eq_true, decide_eq_true_eq] at h
    obtain ⟨h1, h2, h3, h4, h5⟩ := h
  · omega
  · intro k q hq
    split at h5
    · rename_i t ht
      exact ord_fields2 _ _ ht k q (List.getElem?_eq_some_iff.1 hq).1 hq
    · cases h5
theorem bne_ba {a b : ByteArray} {t : Bool} (h : (a.toList == b.toList) = t) : (a.toList != b.toList) = !t := by rw [bne, h]
set_option maxHeartbeats 8000000 in
theorem flat_b (p : Pq) (b : Bool) (w : World) (hp : ProgIn w p) (hf : FitP p) (hb : flatB p = b) : Calls Tryd.prog 19 #[progV p] w (RetBl b w) := by
  have HPI := Lib.hid hp
  have HF := Lib.hid hf
  have BX := Lib.hid (Bk.new 26 w [.string p.name, .slice p.da p.dims.length p.dc, .slice p.na p.nodes.length p.nc, .slice p.fa p.defs.length p.fc, .int .i64 p.root])
  have LX := Lib.hid (below_new w (.cells #[.string p.name, .slice p.da p.dims.length p.dc, .slice p.na p.nodes.length p.nc, .slice p.fa p.defs.length p.fc, .int .i64 p.root] 26))
  obtain ⟨rb, hrb⟩ : ∃ rb, rightT p = rb := ⟨_, rfl⟩
  have HRB := Lib.hid (right_b p rb _ (hp.next LX.out) hf hrb)
  unfold flatB at hb
  rw [hrb] at hb
  unfold progV at HRB ⊢
  by_cases hd : 0 < p.defs.length
  · have t1 : decide (0 < p.defs.length) = true := by simp [hd]
    have t1' : decide ((0 : Int) < (p.defs.length : Int)) = true := by simp; omega
    have HS := Lib.hid (show b = false by rw [← hb, decide_eq_false (by omega)]; rfl)
    clear hb hd hp hf hrb
    go_enter Tryd.func19, Tryd.ntmps19
    go_wp2
    go_ret
    exact ⟨by rw [HS.out]; rfl, LX.out⟩
  · have t1 : decide (0 < p.defs.length) = false := decide_eq_false hd
    have t1' : decide ((0 : Int) < (p.defs.length : Int)) = false := decide_eq_false (by omega)
    rw [decide_eq_true (by omega), Bool.true_and] at hb
    clear hd
    cases rb with
    | false =>
      have HS := Lib.hid (show b = false by rw [← hb]; rfl)
      clear hb hp hf hrb
      go_enter Tryd.func19, Tryd.ntmps19
      go_wp2_with fail
      refine (HRB.out).mono ?_
      rintro e w2 ⟨rfl, hb2⟩
      have L2 := Lib.hid (Gl.below_next LX.out hb2)
      clear hb2
      go_wp2
      go_ret
      exact ⟨by rw [HS.out]; rfl, L2.out⟩
    | true =>
      rw [Bool.true_and] at hb
      have HB := Lib.hid hb
      clear hb hp hf hrb
      go_enter Tryd.func19, Tryd.ntmps19
      go_wp2_with fail
      refine (HRB.out).mono ?_
      rintro e w2 ⟨rfl, hb2⟩
      have L2 := Lib.hid (Gl.below_next LX.out hb2)
      have B2 := Lib.hid (BX.out.next hb2)
      clear hb2
      have y2 := B2.out.c 2
      simp only [List.getElem?_cons_zero, List.getElem?_cons_succ] at y2
      go_wp2_with fail
      clear y2 t1 t1'
      go_loopw [17] (fun iv wr => ∃ j : Nat, j ≤ p.nodes.length ∧ iv = .int .i64 (j : Int) ∧ Hid ((p.nodes.take j).all (fun q => nokB p.name q.n) = true) ∧ Hid (Below w.heap.size w wr) ∧ Hid (Bk 26 wr w.heap.size [.string p.name, .slice p.da p.dims.length p.dc, .slice p.na p.nodes.length p.nc, .slice p.fa p.defs.length p.fc, .int .i64 p.root])) (fun iv _ => p.nodes.length - (intOf iv).toNat)
      case atStart => exact ⟨0, Nat.zero_le _, rfl, Lib.hid rfl, L2, B2⟩
      case round =>
        obtain ⟨j, hj, rfl, HA, HW, HBX⟩ := hrel
        have y0 := HBX.out.c 0
        have y2 := HBX.out.c 2
        simp only [List.getElem?_cons_zero, List.getElem?_cons_succ] at y0 y2
        by_cases hlt : j < p.nodes.length
        · obtain ⟨q, hq⟩ : ∃ q, p.nodes[j]? = some q := ⟨_, List.getElem?_eq_getElem hlt⟩
          have HN := Lib.hid ((HPI.out.2.1).next HW.out)
          obtain ⟨b0, o0, ea, hb0, ⟨c0, c1, c2, c3, c4, c5⟩, hin⟩ := HN.out.at_ hq
          rw [ea] at y2
          have HNX := Lib.hid (show (p.nodes.take (j + 1)).all (fun q => nokB p.name q.n) = ((p.nodes.take j).all (fun q => nokB p.name q.n) && nokB p.name q.n) by rw [List.take_add_one, hq]; simp)
          have HBAD := Lib.hid (fun h : nokB p.name q.n = false => show b = false by rw [← HB.out]; exact all_badP hq h)
          obtain ⟨⟨kk, pp, cc, kids, nums, name⟩, ka, kc, na, nc⟩ := q
          simp only at c0 c1 c2 c3 c4 c5
          have n5 : name.size ≤ maxLen := hin.2.2.2.2
          have n6 : p.name.size ≤ maxLen := HPI.out.2.2.2.1
          have i2 : (0 : Int) ≤ (j : Int) := by omega
          have i3 : (j : Int) < (p.nodes.length : Int) := by omega
          have hsum := wrap_k j (by have := HF.out.nodes; omega)
          have LA := Lib.hid (show Below w.heap.size w (wr.alloc (.cells #[.int .i64 kk, .int .i64 pp, .int .i64 cc, .slice ka kids.length kc, .slice na nums.length nc, .string name] 45)) from HW.out.trans ((below_new wr _).mono HW.out.size))
          have BA := Lib.hid (show Bk 26 (wr.alloc (.cells #[.int .i64 kk, .int .i64 pp, .int .i64 cc, .slice ka kids.length kc, .slice na nums.length nc, .string name] 45)) w.heap.size [.string p.name, .slice p.da p.dims.length p.dc, .slice p.na p.nodes.length p.nc, .slice p.fa p.defs.length p.fc, .int .i64 p.root] from HBX.out.alloc _)
          have ya0 := BA.out.c 0
          simp only [List.getElem?_cons_zero, List.getElem?_cons_succ] at ya0
          clear hin hq hb0
          by_cases h6 : kk = 6
          · have HS := Lib.hid (HBAD.out (by simp [nokB, h6]))
            subst h6
            clear HNX HBAD
            go_wp2
            go_ret
            exact ⟨by rw [HS.out]; rfl, LA.out⟩
          · have u6 : (kk == 6) = false := by simp [h6]
            have v6 : decide (kk = 6) = false := by simp [h6]
            by_cases h2 : kk = 2
            · by_cases hnm : name = p.name
              · have q1 : (name.toList == p.name.toList) = true := ba_yes hnm
                have q1' : (name.toList != p.name.toList) = false := bne_ba q1
                have HOK := Lib.hid (show (p.nodes.take (j + 1)).all (fun q => nokB p.name q.n) = true by rw [HNX.out, HA.out]; simp [nokB, h6, hnm])
                subst h2
                clear HNX HBAD hnm h6
                go_wp2
                go_round
                case rel => exact ⟨j + 1, by omega, by go_num, HOK, LA, BA⟩
                case measure => simp [intOf]; omega
              · have q1 : (name.toList == p.name.toList) = false := ba_no hnm
                have q1' : (name.toList != p.name.toList) = true := bne_ba q1
                have HS := Lib.hid (HBAD.out (by simp [nokB, h2, hnm]))
                subst h2
                clear HNX HBAD hnm h6
                go_wp2
                go_ret
                exact ⟨by rw [HS.out]; rfl, LA.out⟩
            · have u2 : (kk == 2) = false := by simp [h2]
              have v2 : decide (kk = 2) = false := by simp [h2]
              have HOK := Lib.hid (show (p.nodes.take (j + 1)).all (fun q => nokB p.name q.n) = true by rw [HNX.out, HA.out]; simp [nokB, h6, h2])
              clear HNX HBAD h6 h2
              go_wp2
              go_round
              case rel => exact ⟨j + 1, by omega, by go_num, HOK, LA, BA⟩
              case measure => simp [intOf]; omega
        · have hje : j = p.nodes.length := by omega
          have HFO : Hid (b = true) := Lib.hid (by have := HA.out; rw [hje, List.take_length] at this; rw [← HB.out]; exact this)
          have hjn : decide (j < p.nodes.length) = false := by simp; omega
          have hjn' : decide ((j : Int) < (p.nodes.length : Int)) = false := by simp; omega
          go_wp2
          go_ret
          exact ⟨by rw [HFO.out]; rfl, HW.out⟩
set_option maxHeartbeats 8000000 in
theorem rflat_b (p : Pq) (b : Bool) (w : World) (hp : ProgIn w p) (hf : FitP p) (hb : flatB p = b) : Calls Tryd.prog 14 #[progV p] w (RetBl b w) := by
  have HPI := Lib.hid hp
  have HF := Lib.hid hf
  have BX := Lib.hid (Bk.new 26 w [.string p.name, .slice p.da p.dims.length p.dc, .slice p.na p.nodes.length p.nc, .slice p.fa p.defs.length p.fc, .int .i64 p.root])
  have LX := Lib.hid (below_new w (.cells #[.string p.name, .slice p.da p.dims.length p.dc, .slice p.na p.nodes.length p.nc, .slice p.fa p.defs.length p.fc, .int .i64 p.root] 26))
  obtain ⟨rb, hrb⟩ : ∃ rb, rightT p = rb := ⟨_, rfl⟩
  have HRB := Lib.hid (rright_b p rb _ (hp.next LX.out) hf (by rw [← right_same]; exact hrb))
  unfold flatB at hb
  rw [hrb] at hb
  unfold progV at HRB ⊢
  by_cases hd : 0 < p.defs.length
  · have t1 : decide (0 < p.defs.length) = true := by simp [hd]
    have t1' : decide ((0 : Int) < (p.defs.length : Int)) = true := by simp; omega
    have HS := Lib.hid (show b = false by rw [← hb, decide_eq_false (by omega)]; rfl)
    clear hb hd hp hf hrb
    go_enter Tryd.func14, Tryd.ntmps14
    go_wp2
    go_ret
    exact ⟨by rw [HS.out]; rfl, LX.out⟩
  · have t1 : decide (0 < p.defs.length) = false := decide_eq_false hd
    have t1' : decide ((0 : Int) < (p.defs.length : Int)) = false := decide_eq_false (by omega)
    rw [decide_eq_true (by omega), Bool.true_and] at hb
    clear hd
    cases rb with
    | false =>
      have HS := Lib.hid (show b = false by rw [← hb]; rfl)
      clear hb hp hf hrb
      go_enter Tryd.func14, Tryd.ntmps14
      go_wp2_with fail
      refine (HRB.out).mono ?_
      rintro e w2 ⟨rfl, hb2⟩
      have L2 := Lib.hid (Gl.below_next LX.out hb2)
      clear hb2
      go_wp2
      go_ret
      exact ⟨by rw [HS.out]; rfl, L2.out⟩
    | true =>
      rw [Bool.true_and] at hb
      have HB := Lib.hid hb
      clear hb hp hf hrb
      go_enter Tryd.func14, Tryd.ntmps14
      go_wp2_with fail
      refine (HRB.out).mono ?_
      rintro e w2 ⟨rfl, hb2⟩
      have L2 := Lib.hid (Gl.below_next LX.out hb2)
      have B2 := Lib.hid (BX.out.next hb2)
      clear hb2
      have y2 := B2.out.c 2
      simp only [List.getElem?_cons_zero, List.getElem?_cons_succ] at y2
      go_wp2_with fail
      clear y2 t1 t1'
      go_loopw [3] (fun iv wr => ∃ j : Nat, j ≤ p.nodes.length ∧ iv = .int .i64 (j : Int) ∧ Hid ((p.nodes.take j).all (fun q => nokB p.name q.n) = true) ∧ Hid (Below w.heap.size w wr) ∧ Hid (Bk 26 wr w.heap.size [.string p.name, .slice p.da p.dims.length p.dc, .slice p.na p.nodes.length p.nc, .slice p.fa p.defs.length p.fc, .int .i64 p.root])) (fun iv _ => p.nodes.length - (intOf iv).toNat)
      case atStart => exact ⟨0, Nat.zero_le _, rfl, Lib.hid rfl, L2, B2⟩
      case round =>
        obtain ⟨j, hj, rfl, HA, HW, HBX⟩ := hrel
        have y0 := HBX.out.c 0
        have y2 := HBX.out.c 2
        simp only [List.getElem?_cons_zero, List.getElem?_cons_succ] at y0 y2
        by_cases hlt : j < p.nodes.length
        · obtain ⟨q, hq⟩ : ∃ q, p.nodes[j]? = some q := ⟨_, List.getElem?_eq_getElem hlt⟩
          have HN := Lib.hid ((HPI.out.2.1).next HW.out)
          obtain ⟨b0, o0, ea, hb0, ⟨c0, c1, c2, c3, c4, c5⟩, hin⟩ := HN.out.at_ hq
          rw [ea] at y2
          have HNX := Lib.hid (show (p.nodes.take (j + 1)).all (fun q => nokB p.name q.n) = ((p.nodes.take j).all (fun q => nokB p.name q.n) && nokB p.name q.n) by rw [List.take_add_one, hq]; simp)
          have HBAD := Lib.hid (fun h : nokB p.name q.n = false => show b = false by rw [← HB.out]; exact all_badP hq h)
          obtain ⟨⟨kk, pp, cc, kids, nums, name⟩, ka, kc, na, nc⟩ := q
          simp only at c0 c1 c2 c3 c4 c5
          have n5 : name.size ≤ maxLen := hin.2.2.2.2
          have n6 : p.name.size ≤ maxLen := HPI.out.2.2.2.1
          have i2 : (0 : Int) ≤ (j : Int) := by omega
          have i3 : (j : Int) < (p.nodes.length : Int) := by omega
          have hsum := wrap_k j (by have := HF.out.nodes; omega)
          have LA := Lib.hid (show Below w.heap.size w (wr.drew) from HW.out.drew)
          have BA := Lib.hid (show Bk 26 (wr.drew) w.heap.size [.string p.name, .slice p.da p.dims.length p.dc, .slice p.na p.nodes.length p.nc, .slice p.fa p.defs.length p.fc, .int .i64 p.root] from HBX.out.drew)
          clear hin hq hb0
          by_cases h6 : kk = 6
          · have HS := Lib.hid (HBAD.out (by simp [nokB, h6]))
            subst h6
            clear HNX HBAD
            go_upto_region 6 with fail
            go_quiet (fail)
            go_wp2
            go_ret
            exact ⟨by rw [HS.out]; rfl, Sc.below_drewN HW.out _⟩
          · have u6 : (kk == 6) = false := by simp [h6]
            have v6 : decide (kk = 6) = false := by simp [h6]
            by_cases h2 : kk = 2
            · by_cases hnm : name = p.name
              · have q1 : (name.toList == p.name.toList) = true := ba_yes hnm
                have q1' : (name.toList != p.name.toList) = false := bne_ba q1
                have HOK := Lib.hid (show (p.nodes.take (j + 1)).all (fun q => nokB p.name q.n) = true by rw [HNX.out, HA.out]; simp [nokB, h6, hnm])
                subst h2
                clear HNX HBAD hnm h6
                go_upto_region 6 with fail
                go_quiet (fail)
                go_wp2
                go_round
                case rel => exact ⟨j + 1, by omega, by go_num, HOK, Lib.hid (Sc.below_drewN HW.out _), Lib.hid (HBX.out.drewN _)⟩
                case measure => simp [intOf]; omega
              · have q1 : (name.toList == p.name.toList) = false := ba_no hnm
                have q1' : (name.toList != p.name.toList) = true := bne_ba q1
                have HS := Lib.hid (HBAD.out (by simp [nokB, h2, hnm]))
                subst h2
                clear HNX HBAD hnm h6
                go_upto_region 6 with fail
                go_quiet (fail)
                go_wp2
                go_ret
                exact ⟨by rw [HS.out]; rfl, Sc.below_drewN HW.out _⟩
            · have u2 : (kk == 2) = false := by simp [h2]
              have v2 : decide (kk = 2) = false := by simp [h2]
              have HOK := Lib.hid (show (p.nodes.take (j + 1)).all (fun q => nokB p.name q.n) = true by rw [HNX.out, HA.out]; simp [nokB, h6, h2])
              clear HNX HBAD h6 h2
              go_upto_region 6 with fail
              go_quiet (fail)
              go_wp2
              go_round
              case rel => exact ⟨j + 1, by omega, by go_num, HOK, Lib.hid (Sc.below_drewN HW.out _), Lib.hid (HBX.out.drewN _)⟩
              case measure => simp [intOf]; omega
        · have hje : j = p.nodes.length := by omega
          have HFO : Hid (b = true) := Lib.hid (by have := HA.out; rw [hje, List.take_length] at this; rw [← HB.out]; exact this)
          have hjn : decide (j < p.nodes.length) = false := by simp; omega
          have hjn' : decide ((j : Int) < (p.nodes.length : Int)) = false := by simp; omega
          go_wp2
          go_ret
          exact ⟨by rw [HFO.out]; rfl, HW.out⟩
end Go.Proofs.YtjmpilmmgfjpmaaDoor.Stp
