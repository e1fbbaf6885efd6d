/-
  What riffleref08.Scan answers for any function and any cell, and fold.Scan likewise in one sentence; nothing that was there is written. Conditions: the numbers are int64; at most 100 axes and 1000 numbers; for fold.Scan the table of traits holds what its text lays.
-/
import Derived.Test.YticicfbllhnpcaaDoorFdRLine
import Derived.Test.YticicfbllhnpcaaDoorCellBox
import Derived.Test.YticicfbllhnpcaaDoorPkY
import Derived.Deep.QuietTactic
set_option maxRecDepth 100000
namespace Go.Proofs.YticicfbllhnpcaaDoor.Fd
open Go.Proofs.YticicfbllhnpcaaDoor.Sh
open Go.RowKit
set_option linter.unusedVariables false

def axI (d : List Int) (b : Bool) : Int := if b = true then 0 else (d.length : Int) - 1
def scE (c : Int) (d : List Int) (n : Nat) : Int := if cellB d n = true then (if Sc.hasB c 2 = true then 0 else 13) else 1
def scD (c : Int) (d : List Int) (n : Nat) : List Int := if scE c d n = 0 then d else []
/-- What stands at a place of a scan. -/
def scG (c : Int) (s : Bool) (d v : List Int) (b : Bool) (k : Nat) : Int := rowI c s (dlL d v (dg d (k : Int)) (axI d b) (((dg d (k : Int)).getD (axI d b).toNat 0).toNat + 1))
def scV (c : Int) (s : Bool) (d v : List Int) (b : Bool) : List Int := if scE c d v.length = 0 then (if d.length = 0 then v else (List.range v.length).map (scG c s d v b)) else []
section
variable {c : Int} {s : Bool} {d v : List Int} {b : Bool} {n : Nat}
theorem sc_1 (h : cellB d v.length = false) : scE c d v.length = 1 ∧ scD c d v.length = [] ∧ scV c s d v b = [] := by
  have e : scE c d v.length = 1 := by simp [scE, h]
  exact ⟨e, by simp [scD, e], by simp [scV, e]⟩
theorem sc_13 (h : cellB d v.length = true) (h2 : Sc.hasB c 2 = false) : scE c d v.length = 13 ∧ scD c d v.length = [] ∧ scV c s d v b = [] := by
  have e : scE c d v.length = 13 := by simp [scE, h, h2]
  exact ⟨e, by simp [scD, e], by simp [scV, e]⟩
theorem sc_n (h : cellB d v.length = true) (h2 : Sc.hasB c 2 = true) (h0 : d.length = 0) : scE c d v.length = 0 ∧ scD c d v.length = d ∧ scV c s d v b = v := by
  have e : scE c d v.length = 0 := by simp [scE, h, h2]
  exact ⟨e, by simp [scD, e], by unfold scV; rw [if_pos e, if_pos h0]⟩
theorem sc_0 (h : cellB d v.length = true) (h2 : Sc.hasB c 2 = true) (h0 : ¬ d.length = 0) : scE c d v.length = 0 ∧ scD c d v.length = d ∧ scV c s d v b = (List.range v.length).map (scG c s d v b) := by
  have e : scE c d v.length = 0 := by simp [scE, h, h2]
  exact ⟨e, by simp [scD, e], by unfold scV; rw [if_pos e, if_neg h0]⟩
theorem scV_len : (scV c s d v b).length ≤ v.length := by
  unfold scV; split
  · split <;> simp
  · simp
theorem scD_len : (scD c d n).length ≤ d.length := by unfold scD; split <;> simp
theorem axI_nat {a P st : Nat} (ok : AxOk d b a P st) : axI d b = (a : Int) := ok.ax
theorem dg_ax {a P st : Nat} (ok : AxOk d b a P st) (hst : (st : Int) = prod (d.drop (a + 1))) (k : Nat) : (dg d (k : Int)).getD a 0 = ((k / st % P : Nat) : Int) := by
  rw [dg_at d _ a ok.lt, ok.hP, ← hst]; simp
theorem scG_is {a P st : Nat} (h : cellB d v.length = true) (ok : AxOk d b a P st) (hst : (st : Int) = prod (d.drop (a + 1))) {k : Nat} (hk : k < v.length) : scF c s v P st k = scG c s d v b k := by
  obtain ⟨⟨q1, q2⟩, -⟩ := (scok_of h ok hst).pos (by omega)
  unfold scF scG lineL dlL
  rw [axI_nat ok, Int.toNat_natCast, dg_ax ok hst k, Int.toNat_natCast]
  congr 1
  refine List.map_congr_left fun j hj => ?_
  have hj2 : j < k / st % P + 1 := by simpa using hj
  have hp : k / st % P < P := Nat.mod_lt _ q1
  exact (sc_at h ok hst hk (by omega)).symm
end
theorem scan_any (c : Int) (s : Bool) (A : Option Addr) (c1 : Nat) (d : List Int) (B : Option Addr) (c2 : Nat) (v : List Int) (b : Bool) (w : World) (hT : Sc.Tab w) (id : Ints w A d) (iv : Ints w B v) (hd : d.length ≤ 100) (hv : v.length ≤ 1000) (rv : AllR v) :
    Calls Tryd.prog 19 #[.agg #[.int .i64 c, .bool s], .agg #[.slice A d.length c1, .slice B v.length c2], .bool b] w (RetC w (scD c d v.length) (scV c s d v b) (.int .i64 (scE c d v.length))) := by
  by_cases h : cellB d v.length = true
  · by_cases h2 : Sc.hasB c 2 = true
    · by_cases h0 : d.length = 0
      · obtain ⟨e1, e2, e3⟩ := sc_n (s := s) (b := b) h h2 h0
        rw [e1, e2, e3]
        exact scan_none c s A c1 d B c2 v b w hT id iv hd hv h h2 h0
      · obtain ⟨e1, e2, e3⟩ := sc_0 (s := s) (b := b) h h2 h0
        obtain ⟨a, P, st, ok, hst⟩ := ax_of b h (by omega)
        have hn := (cellB_parts h).2
        have hs := scan_0 c s A c1 d B c2 v b a P st v.length w hT id iv hd h h2 ok (scok_of h ok hst) hn.symm rv
        rw [e1, e2, e3, show (List.range v.length).map (scG c s d v b) = (List.range v.length).map (scF c s v P st) from List.map_congr_left fun k hk => (scG_is h ok hst (by simpa using hk)).symm]
        exact hs
    · have h2' : Sc.hasB c 2 = false := by simpa using h2
      obtain ⟨e1, e2, e3⟩ := sc_13 (s := s) (b := b) h h2'
      rw [e1, e2, e3]
      exact scan_13 c s A c1 d B c2 v b w hT id iv hd h h2'
  · have h' : cellB d v.length = false := by simpa using h
    obtain ⟨e1, e2, e3⟩ := sc_1 (c := c) (s := s) (b := b) h'
    rw [e1, e2, e3]
    exact scan_1 c s A c1 d B c2 v b w hT id iv hd h'
theorem rhas_x (c v : Int) (b : Bool) (w : World) (h : Sc.hasB c v = b) : Calls Tryd.prog 59 #[.int .i64 c, .int .i64 v] w fun e w' => e = .returned (.bool b) ∧ Below w.heap.size w w' :=
  (Sc.rhas_b c v b w h).mono fun _ _ ⟨e1, e2⟩ => ⟨e1, by subst e2; exact Below.refl _ _⟩
theorem RRow_x (c : Int) (s : Bool) (A : Option Addr) (cap : Nat) (l : List Int) (n : Nat) (x : Int) (w : World) (h2 : Sc.hasB c 2 = true) (hn : l.length = n) (hx : rowI c s l = x) (hl : n ≤ 1000) (hc : n ≤ cap) (hcm : cap ≤ maxLen) (hR : AllR l) (hi : Ints w A l) :
    Calls Tryd.prog 64 #[.agg #[.int .i64 c, .bool s], .slice A n cap] w fun e w' => ∃ t : Bool, e = .returned (.tuple #[.int .i64 x, .bool t]) ∧ Below w.heap.size w w' := by
  subst hn
  refine (RRow_any c s l A cap w hl hc hcm hR hi).mono ?_
  rintro e w' ⟨rfl, hb⟩
  refine ⟨rowB c l, ?_, hb⟩
  unfold rowV
  rw [if_pos h2, hx]
set_option maxHeartbeats 2000000 in
theorem rscan_1 (c : Int) (s : Bool) (A : Option Addr) (c1 : Nat) (d : List Int) (B : Option Addr) (c2 : Nat) (v : List Int) (b : Bool) (w : World) (id : Ints w A d) (iv : Ints w B v) (hd : d.length ≤ 100) (h : cellB d v.length = false) :
    Calls Tryd.prog 20 #[.agg #[.int .i64 c, .bool s], .agg #[.slice A d.length c1, .slice B v.length c2], .bool b] w (RetCI w [] [] (.int .i64 1)) := by
  obtain ⟨f0, b0, r0, hb0⟩ := red_all w c s (.slice A d.length c1) (.slice B v.length c2)
  have FN := Lib.hid (f0)
  have BA := Lib.hid (b0)
  have BR := Lib.hid (r0)
  have L := Lib.hid (hb0)
  have ID := Lib.hid (id.below L.out)
  have IV := Lib.hid (iv.below L.out)
  clear f0 b0 r0 hb0 id iv
  go_enter Tryd.func20, Tryd.ntmps20
  obtain ⟨qBA0, qBA1, -, -⟩ := BA.out.all
  go_wp2_with fail
  refine (rright_no _ _ d _ _ _ _ (by unfold maxLen; omega) ID.out h).mono ?_
  rintro r w1 ⟨rfl, hb⟩
  clear qBA0 qBA1
  replace FN := Lib.hid (FN.out.below hb)
  replace BA := Lib.hid (BA.out.next hb)
  replace BR := Lib.hid (BR.out.next hb)
  replace L := Lib.hid (below_next L.out hb)
  replace ID := Lib.hid (ID.out.below hb)
  replace IV := Lib.hid (IV.out.below hb)
  clear hb
  obtain ⟨r0, r1, r2, r3⟩ := BR.out.all
  go_wp2
  have T9 := (BR.out.set0 (.slice none 0 0)).set1 (.slice none 0 0)
  obtain ⟨t0, t1, _, _⟩ := T9.all
  refine bodyPost_ret (v := .tuple #[.agg #[.slice none 0 0, .slice none 0 0], .int .i64 1]) (by simp [results, Tryd.results20, go_sem, t0, t1]) rfl ?_
  exact ⟨none, 0, none, 0, rfl, Ints.nil _ _, Ints.nil _ _, (L.out.setCell (by simp; try omega) _).setCell (by simp; try omega) _⟩
set_option maxHeartbeats 2000000 in
theorem rscan_13 (c : Int) (s : Bool) (A : Option Addr) (c1 : Nat) (d : List Int) (B : Option Addr) (c2 : Nat) (v : List Int) (b : Bool) (w : World) (id : Ints w A d) (iv : Ints w B v) (hd : d.length ≤ 100) (h : cellB d v.length = true) (h2 : Sc.hasB c 2 = false) :
    Calls Tryd.prog 20 #[.agg #[.int .i64 c, .bool s], .agg #[.slice A d.length c1, .slice B v.length c2], .bool b] w (RetCI w [] [] (.int .i64 13)) := by
  obtain ⟨f0, b0, r0, hb0⟩ := red_all w c s (.slice A d.length c1) (.slice B v.length c2)
  have FN := Lib.hid (f0)
  have BA := Lib.hid (b0)
  have BR := Lib.hid (r0)
  have L := Lib.hid (hb0)
  have ID := Lib.hid (id.below L.out)
  have IV := Lib.hid (iv.below L.out)
  clear f0 b0 r0 hb0 id iv
  go_enter Tryd.func20, Tryd.ntmps20
  obtain ⟨qBA0, qBA1, -, -⟩ := BA.out.all
  go_wp2_with fail
  refine (rright_yes _ _ d _ _ _ _ (by unfold maxLen; omega) ID.out h).mono ?_
  rintro r w1 ⟨rfl, hb⟩
  clear qBA0 qBA1
  replace FN := Lib.hid (FN.out.below hb)
  replace BA := Lib.hid (BA.out.next hb)
  replace BR := Lib.hid (BR.out.next hb)
  replace L := Lib.hid (below_next L.out hb)
  replace ID := Lib.hid (ID.out.below hb)
  replace IV := Lib.hid (IV.out.below hb)
  clear hb
  obtain ⟨qFN0, qFN1⟩ := FN.out
  go_wp2_with fail
  refine (rhas_x c 2 false _ h2).mono ?_
  rintro r w2 ⟨rfl, hb⟩
  clear qFN0 qFN1
  replace FN := Lib.hid (FN.out.below hb)
  replace BA := Lib.hid (BA.out.next hb)
  replace BR := Lib.hid (BR.out.next hb)
  replace L := Lib.hid (below_next L.out hb)
  replace ID := Lib.hid (ID.out.below hb)
  replace IV := Lib.hid (IV.out.below hb)
  clear hb
  obtain ⟨r0, r1, r2, r3⟩ := BR.out.all
  go_wp2
  have T9 := (BR.out.set0 (.slice none 0 0)).set1 (.slice none 0 0)
  obtain ⟨t0, t1, _, _⟩ := T9.all
  refine bodyPost_ret (v := .tuple #[.agg #[.slice none 0 0, .slice none 0 0], .int .i64 13]) (by simp [results, Tryd.results20, go_sem, t0, t1]) rfl ?_
  exact ⟨none, 0, none, 0, rfl, Ints.nil _ _, Ints.nil _ _, (L.out.setCell (by simp; try omega) _).setCell (by simp; try omega) _⟩
set_option maxHeartbeats 2000000 in
theorem rscan_n (c : Int) (s : Bool) (A : Option Addr) (c1 : Nat) (d : List Int) (B : Option Addr) (c2 : Nat) (v : List Int) (b : Bool) (w : World) (id : Ints w A d) (iv : Ints w B v) (hd : d.length ≤ 100) (h : cellB d v.length = true) (h2 : Sc.hasB c 2 = true) (h0 : d.length = 0) :
    Calls Tryd.prog 20 #[.agg #[.int .i64 c, .bool s], .agg #[.slice A d.length c1, .slice B v.length c2], .bool b] w (RetCI w d v (.int .i64 0)) := by
  obtain ⟨f0, b0, r0, hb0⟩ := red_all w c s (.slice A d.length c1) (.slice B v.length c2)
  have FN := Lib.hid (f0)
  have BA := Lib.hid (b0)
  have BR := Lib.hid (r0)
  have L := Lib.hid (hb0)
  have ID := Lib.hid (id.below L.out)
  have IV := Lib.hid (iv.below L.out)
  clear f0 b0 r0 hb0 id iv
  have hz : ((d.length : Int) == 0) = true := by simp; exact List.eq_nil_of_length_eq_zero h0
  clear h0
  go_enter Tryd.func20, Tryd.ntmps20
  obtain ⟨qBA0, qBA1, -, -⟩ := BA.out.all
  go_wp2_with fail
  refine (rright_yes _ _ d _ _ _ _ (by unfold maxLen; omega) ID.out h).mono ?_
  rintro r w1 ⟨rfl, hb⟩
  clear qBA0 qBA1
  replace FN := Lib.hid (FN.out.below hb)
  replace BA := Lib.hid (BA.out.next hb)
  replace BR := Lib.hid (BR.out.next hb)
  replace L := Lib.hid (below_next L.out hb)
  replace ID := Lib.hid (ID.out.below hb)
  replace IV := Lib.hid (IV.out.below hb)
  clear hb
  obtain ⟨qFN0, qFN1⟩ := FN.out
  go_wp2_with fail
  refine (rhas_x c 2 true _ h2).mono ?_
  rintro r w2 ⟨rfl, hb⟩
  clear qFN0 qFN1
  replace FN := Lib.hid (FN.out.below hb)
  replace BA := Lib.hid (BA.out.next hb)
  replace BR := Lib.hid (BR.out.next hb)
  replace L := Lib.hid (below_next L.out hb)
  replace ID := Lib.hid (ID.out.below hb)
  replace IV := Lib.hid (IV.out.below hb)
  clear hb
  obtain ⟨qBA0, qBA1, -, -⟩ := BA.out.all
  obtain ⟨r0, r1, r2, r3⟩ := BR.out.all
  go_wp2
  have T9 := (BR.out.set0 (.slice A d.length c1)).set1 (.slice B v.length c2)
  obtain ⟨t0, t1, _, _⟩ := T9.all
  refine bodyPost_ret (v := .tuple #[.agg #[.slice A d.length c1, .slice B v.length c2], .int .i64 0]) (by simp [results, Tryd.results20, go_sem, t0, t1]) rfl ?_
  exact ⟨_, _, _, _, rfl, ID.out.set_box BR.out _ _, IV.out.set_box BR.out _ _, (L.out.setCell (by simp; try omega) _).setCell (by simp; try omega) _⟩
theorem keepG {w w' : World} {g : Nat} {p : Addr} {x : Value} (hg : w.grownBy w' (some g)) (hne : p.block ≠ g) (h : w.cell? p = some x) : w'.cell? p = some x :=
  (World.cell?_of_block (hg.block p.block (World.block_lt_of_cell? w p h) (fun e => hne (by injection e)))).trans h
set_option maxHeartbeats 8000000 in
theorem rscan_0 (c : Int) (s : Bool) (A : Option Addr) (c1 : Nat) (d : List Int) (B : Option Addr) (c2 : Nat) (v : List Int) (b : Bool) (a : Nat) (w : World) (id : Ints w A d) (iv : Ints w B v) (hd : d.length ≤ 100) (h : cellB d v.length = true) (h2 : Sc.hasB c 2 = true) (ha : a < d.length) (hax : axI d b = (a : Int)) (rv : AllR v) :
    Calls Tryd.prog 20 #[.agg #[.int .i64 c, .bool s], .agg #[.slice A d.length c1, .slice B v.length c2], .bool b] w (RetCI w d ((List.range v.length).map (scG c s d v b)) (.int .i64 0)) := by
  obtain ⟨f0, b0, r0, hb0⟩ := red_all w c s (.slice A d.length c1) (.slice B v.length c2)
  have FN := Lib.hid (f0)
  have BA := Lib.hid (b0)
  have BR := Lib.hid (r0)
  have L := Lib.hid (hb0)
  have ID := Lib.hid (id.below L.out)
  have IV := Lib.hid (iv.below L.out)
  clear f0 b0 r0 hb0 id iv
  have hz : ((d.length : Int) == 0) = false := by simp; intro h0; rw [h0] at ha; simp at ha
  have HR := Lib.hid (cellB_parts h).1
  have HN := Lib.hid (cellB_parts h).2.symm
  have RV := Lib.hid rv
  have H1 := Lib.hid h
  have n64 := (cellB_len h).2.2.2
  have d3 := (cellB_len h).2.2.1
  have HP := Lib.hid (fun hn => pos_of h hn)
  clear rv h
  go_enter Tryd.func20, Tryd.ntmps20
  obtain ⟨qBA0, qBA1, -, -⟩ := BA.out.all
  go_wp2_with fail
  refine (rright_yes _ _ d _ _ _ _ (by unfold maxLen; omega) ID.out H1.out).mono ?_
  rintro r w1 ⟨rfl, hb⟩
  clear qBA0 qBA1
  replace FN := Lib.hid (FN.out.below hb)
  replace BA := Lib.hid (BA.out.next hb)
  replace BR := Lib.hid (BR.out.next hb)
  replace L := Lib.hid (below_next L.out hb)
  replace ID := Lib.hid (ID.out.below hb)
  replace IV := Lib.hid (IV.out.below hb)
  clear hb
  obtain ⟨qFN0, qFN1⟩ := FN.out
  go_wp2_with fail
  refine (rhas_x c 2 true _ h2).mono ?_
  rintro r w2 ⟨rfl, hb⟩
  clear qFN0 qFN1
  replace FN := Lib.hid (FN.out.below hb)
  replace BA := Lib.hid (BA.out.next hb)
  replace BR := Lib.hid (BR.out.next hb)
  replace L := Lib.hid (below_next L.out hb)
  replace ID := Lib.hid (ID.out.below hb)
  replace IV := Lib.hid (IV.out.below hb)
  clear hb
  obtain ⟨qBA0, qBA1, -, -⟩ := BA.out.all
  have HAX := Lib.hid (show (if b = true then 0 else (d.length : Int) - 1) = (a : Int) from hax)
  clear hax
  go_upto_if 32 with (fail)
  go_cut [8] (fun s8 wx => s8 = .int .i64 (a : Int) ∧ w2 = wx)
  case first =>
    cases b with
    | true =>
      have HA0 := Lib.hid (show (a : Int) = 0 by have := HAX.out; simpa using this.symm)
      clear HAX
      go_wp2
      go_meet
      exact ⟨by rw [HA0.out], rfl⟩
    | false =>
      have HA0 := Lib.hid (show (d.length : Int) - 1 = (a : Int) by have := HAX.out; simpa using this)
      clear HAX
      go_wp2
      go_meet
      exact ⟨by rw [HA0.out], rfl⟩
  case rest =>
    obtain ⟨rfl, rfl⟩ := hcut
    clear qBA0 qBA1
    obtain ⟨qBA0, qBA1, -, -⟩ := BA.out.all
    have hgA := BA.out.lt
    go_wp2_with (at_builtin; refine wpList_copyI numI Tryd.underlying24 rfl (.tmp 33) (.tmp 35) rfl rfl _ _ d rfl ID.out (by omega) ?_; intro A6 c6 w3 hm6 hb; have p0 := (BA.out.next hb).c0; have p1 := (BA.out.next hb).c1; have hgB := (BA.out.next hb).lt)
    clear qBA0 qBA1
    replace FN := Lib.hid (FN.out.below hb)
    replace BA := Lib.hid (BA.out.next hb)
    replace BR := Lib.hid (BR.out.next hb)
    replace L := Lib.hid (below_next L.out hb)
    replace ID := Lib.hid (ID.out.below hb)
    replace IV := Lib.hid (IV.out.below hb)
    have M6 := Lib.hid hm6
    clear hm6 hb
    clear hgA
    have hgR := BR.out.lt
    have hgW := L.out.size
    have M7 := Lib.hid M6.out.ints'
    have ID3 := Lib.hid ID.out
    have IV3 := Lib.hid IV.out
    have L7 := Lib.hid (Below.refl w3.heap.size w3)
    have KB := Lib.hid (below_new w3 (.cells #[.slice A6 d.length c6, .slice none 0 0] 27))
    have BX := Lib.hid (Box.new w3 (.slice A6 d.length c6) (.slice none 0 0))
    clear M6
    replace FN := Lib.hid (FN.out.below KB.out)
    replace BA := Lib.hid (BA.out.next KB.out)
    replace BR := Lib.hid (BR.out.next KB.out)
    replace L := Lib.hid (below_next L.out KB.out)
    replace ID := Lib.hid (ID.out.below KB.out)
    replace IV := Lib.hid (IV.out.below KB.out)
    replace L7 := Lib.hid (below_next L7.out KB.out)
    clear KB
    have hgo := BX.out.lt
    refine (places_pc _ _ d v.length _ HN.out (by omega) ID.out).mono ?_
    rintro r w4 ⟨AP, cP8, rfl, hp8, hb⟩
    replace FN := Lib.hid (FN.out.below hb)
    replace BA := Lib.hid (BA.out.next hb)
    replace BR := Lib.hid (BR.out.next hb)
    replace L := Lib.hid (below_next L.out hb)
    replace ID := Lib.hid (ID.out.below hb)
    replace IV := Lib.hid (IV.out.below hb)
    replace L7 := Lib.hid (below_next L7.out hb)
    replace BX := Lib.hid (BX.out.next hb)
    clear hb
    have PL := Lib.hid hp8
    clear hp8 p0 p1
    generalize hW7 : w3.alloc (.cells #[.slice A6 d.length c6, .slice none 0 0] 27) = W7 at *
    clear hW7
    generalize hgo7 : w3.heap.size = go at *
    have HG7 := Lib.hid hgo7
    clear hgo7
    have O0 := Lib.hid (show OutSt w4 w4 go (.slice A6 d.length c6) (.slice none 0 0) [] from ⟨turned_refl _ _, BX.out, MineT.nil _ _ _, BX.out.lt⟩)
    have L8 := Lib.hid (Below.refl w4.heap.size w4)
    obtain ⟨F, hF⟩ : ∃ F, scG c s d v b = F := ⟨_, rfl⟩
    have HF := Lib.hid hF
    rw [hF]
    clear hF
    go_wp2
    go_loopw [11] (fun j wr => ∃ (k : Nat) (V : Value), k ≤ v.length ∧ j = .int .i64 (k : Int) ∧ OutSt w4 wr go (.slice A6 d.length c6) V ((List.range k).map F)) (fun j _ => v.length - (intOf j).toNat)
    case atStart => exact ⟨0, _, Nat.zero_le _, rfl, O0.out⟩
    case round =>
      obtain ⟨k, V, hk, rfl, hO⟩ := hrel
      have O := Lib.hid hO
      have PLr := Lib.hid (PL.out.grown hO.1 hgo)
      clear hO O0
      have FNr := Lib.hid (show FnAt wr w.heap.size c s from ⟨keepG O.out.1 (by simp; omega) FN.out.1, keepG O.out.1 (by simp; omega) FN.out.2⟩)
      have BAr := Lib.hid (BA.out.grown O.out.1 (fun e => by injection e with e; omega))
      have BRr := Lib.hid (BR.out.grown O.out.1 (fun e => by injection e with e; omega))
      have LWr := Lib.hid (below_turned L.out O.out.1 (by omega))
      have L7r := Lib.hid (show Below w3.heap.size w3 wr from below_turned (by rw [HG7.out]; exact L7.out) O.out.1 (by rw [HG7.out]; exact Nat.le_refl _))
      by_cases hlt : k < v.length
      · obtain ⟨bp, At, ct, rfl, hbp1, hbp2, hcp, hfp, hct, hcm⟩ := PLr.out k hlt
        have HPL := Lib.hid (HP.out (by omega))
        have HMX := Lib.hid (show (List.range (k + 1)).map F = (List.range k).map F ++ [F k] by rw [List.range_succ, List.map_append]; rfl)
        have LQ := Lib.hid (show ((List.range k).map F).length = k by simp)
        have HFK := Lib.hid (show rowI c s (dlL d v (dg d (k : Int)) (a : Int) (((dg d (k : Int)).getD a 0).toNat + 1)) = F k by rw [← HF.out]; unfold scG; rw [show axI d b = (a : Int) from HAX.out, Int.toNat_natCast])
        have HQA := Lib.hid (show 0 ≤ (dg d (k : Int)).getD a 0 ∧ (dg d (k : Int)).getD a 0 < d.getD a 0 by
          rw [dg_at d k a ha]
          have := posL_at HPL.out ha
          exact ⟨Int.emod_nonneg _ (by omega), Int.emod_lt_of_pos _ (by omega)⟩)
        have hda := okAx_bd (cellB_len H1.out).2.1 a ha
        have HQL := Lib.hid (dg_length d (k : Int))
        generalize dg d (k : Int) = q at *
        rw [← HQL.out] at hcp hct
        obtain ⟨y, hy⟩ : ∃ y : Nat, q.getD a 0 = (y : Int) := ⟨(q.getD a 0).toNat, by have := HQA.out; omega⟩
        have hy64 : y < 64 := by have := HQA.out; omega
        rw [hy, Int.toNat_natCast] at HFK
        have IQ := Lib.hid hfp.ints
        obtain ⟨bz, oz, rfl, hbz, hcz⟩ := IQ.out (by rw [HQL.out]; omega)
        have haq : a < q.length := by rw [HQL.out]; exact ha
        have z0 := hcz a haq
        rw [hy] at z0
        clear hcz hfp hy hda
        have k0 : (0 : Int) ≤ (k : Int) := by omega
        have k1 : (k : Int) < (v.length : Int) := by omega
        have a0 : (0 : Int) ≤ (a : Int) := by omega
        have a1 : (a : Int) < (q.length : Int) := by omega
        have u3 : IntKind.i64.wrap ((y : Int) + 1) = (y : Int) + 1 := IntWalk.i64_in _ (by omega)
        obtain ⟨f0, f1⟩ := FNr.out
        obtain ⟨q0, q1, -, -⟩ := BAr.out.all
        have IDr := Lib.hid (ID3.out.below L7r.out.drew)
        have IVr := Lib.hid (IV3.out.below L7r.out.drew)
        have IQr := Lib.hid (IQ.out.below ((Below.refl _ wr).drew))
        have LC := Lib.hid (rline_any A c1 d B c2 v (some ⟨bz, oz, none⟩) ct q (a : Int) (y + 1) wr.drew (by omega) (by omega) (by rw [HQL.out]; omega) (by omega) IDr.out IVr.out IQr.out)
        rw [show ((y + 1 : Nat) : Int) = (y : Int) + 1 from by simp] at LC
        have HH := Lib.hid h2
        have RC := Lib.hid (fun A' c' W h1 h2 hI => RRow_x c s A' c' (dlL d v q (a : Int) (y + 1)) (y + 1) (F k) W HH.out (dlL_len _ _ _ _ _) HFK.out (by omega) h1 h2 (dlL_R RV.out _ _ _) hI)
        have Or := Lib.hid O.out.drew
        generalize F k = x at *
        generalize hys : (List.range k).map F = ys at *
        clear hys h2
        go_upto_region 15 with (fail)
        go_region_held3 (fun w' => w'.cell? ⟨w.heap.size, 0, none⟩ = some (.int .i64 c) ∧ w'.cell? ⟨w.heap.size, 1, none⟩ = some (.bool s) ∧ w'.cell? ⟨w.heap.size + 1, 0, none⟩ = some (.slice A d.length c1) ∧ w'.cell? ⟨w.heap.size + 1, 1, none⟩ = some (.slice B v.length c2) ∧ w'.cell? ⟨bp, k, none⟩ = some (.slice (some ⟨bz, oz, none⟩) q.length ct) ∧ w'.cell? ⟨bz, oz + a, none⟩ = some (.int .i64 (y : Int)))
          (first
            | with_reducible exact KK2.out
            | with_reducible exact KK.out
            | go_keep)
          (first
            | (go_at_call 65; (with_reducible refine (LC.out).mono ?_); rintro r w10 ⟨A10, c10, rfl, hcl10, hcm10, hi10, hb10⟩; have I10 := Lib.hid hi10; have H10 := Lib.hid hb10; have CL10 := Lib.hid hcl10; have CM10 := Lib.hid hcm10; have KK := Lib.hid (show w10.cell? ⟨w.heap.size, 0, none⟩ = some (.int .i64 c) ∧ w10.cell? ⟨w.heap.size, 1, none⟩ = some (.bool s) ∧ w10.cell? ⟨w.heap.size + 1, 0, none⟩ = some (.slice A d.length c1) ∧ w10.cell? ⟨w.heap.size + 1, 1, none⟩ = some (.slice B v.length c2) ∧ w10.cell? ⟨bp, k, none⟩ = some (.slice (some ⟨bz, oz, none⟩) q.length ct) ∧ w10.cell? ⟨bz, oz + a, none⟩ = some (.int .i64 (y : Int)) from ⟨keepC hb10 f0, keepC hb10 f1, keepC hb10 q0, keepC hb10 q1, keepC hb10 hcp, keepC hb10 z0⟩); clear hi10 hb10 hcl10 hcm10)
            | (go_at_call 64; (with_reducible refine (RC.out _ _ _ CL10.out CM10.out I10.out).mono ?_); rintro r w11 ⟨t11, rfl, hb11⟩; have O11 := Lib.hid ((Or.out.next H10.out).next hb11); obtain ⟨d1, d2, d3', d4, d5, d6⟩ := KK.out; have KK2 := Lib.hid (show w11.cell? ⟨w.heap.size, 0, none⟩ = some (.int .i64 c) ∧ w11.cell? ⟨w.heap.size, 1, none⟩ = some (.bool s) ∧ w11.cell? ⟨w.heap.size + 1, 0, none⟩ = some (.slice A d.length c1) ∧ w11.cell? ⟨w.heap.size + 1, 1, none⟩ = some (.slice B v.length c2) ∧ w11.cell? ⟨bp, k, none⟩ = some (.slice (some ⟨bz, oz, none⟩) q.length ct) ∧ w11.cell? ⟨bz, oz + a, none⟩ = some (.int .i64 (y : Int)) from ⟨keepB hb11 d1, keepB hb11 d2, keepB hb11 d3', keepB hb11 d4, keepB hb11 d5, keepB hb11 d6⟩); clear hb11 d1 d2 d3' d4 d5 d6))
        have O8 := Lib.hid (O11.out.alloc (.cells #[.int .i64 x] 2))
        have X8 := Lib.hid (one_new w11 x)
        have c7 := O11.out.box.c1
        clear f0 f1 q0 q1
        go_wp2_with (at_builtin; refine wpList_appI numL Tryd.underlying25 rfl (.tmp 68) (.tmp 70) rfl w4.heap.size V ys (by rfl) O8.out.mine (some ⟨w11.heap.size, 0, none⟩) 1 [x] rfl X8.out (by rw [LQ.out]; simp; omega) O8.out.size ?_; intro V' w12 hm8 hg8 ha8; obtain ⟨A8, c8, rfl, -⟩ := hm8.ints; obtain ⟨y0', y1', y2', y3'⟩ := (O8.out.mid hg8).all)
        go_roundw
        case rel => exact ⟨k + 1, _, by omega, by go_num, by rw [HMX.out]; have hm9 := hm8; rw [List.length_append] at hm9; exact O8.out.app hm9 hg8⟩
        case measure => simp [intOf]; omega
      · obtain rfl : k = v.length := by omega
        have IDx := Lib.hid (M7.out.below L7r.out)
        generalize hys : (List.range v.length).map F = ys at *
        have HY := Lib.hid (show (List.range v.length).map (scG c s d v b) = ys by rw [HF.out]; exact hys)
        clear hys
        obtain ⟨AV, cV, rfl, -⟩ := O.out.mine.ints
        obtain ⟨q0, q1, -, -⟩ := O.out.box.all
        obtain ⟨r0, r1, r2, r3⟩ := BRr.out.all
        have hlr := LWr.out.size
        go_wp2
        have T9 := (BRr.out.set0 (.slice A6 d.length c6)).set1 (.slice AV ys.length cV)
        obtain ⟨t0, t1, _, _⟩ := T9.all
        refine bodyPost_ret (v := .tuple #[.agg #[.slice A6 d.length c6, .slice AV ys.length cV], .int .i64 0]) (by simp [results, Tryd.results20, go_sem, t0, t1]) rfl ?_
        rw [HY.out]
        exact ⟨A6, c6, AV, cV, rfl, IDx.out.set_box BRr.out _ _, O.out.mine.ints'.set_box BRr.out _ _, (LWr.out.setCell (by simp; omega) _).setCell (by simp; omega) _⟩
theorem rscan_any (c : Int) (s : Bool) (A : Option Addr) (c1 : Nat) (d : List Int) (B : Option Addr) (c2 : Nat) (v : List Int) (b : Bool) (w : World) (id : Ints w A d) (iv : Ints w B v) (hd : d.length ≤ 100) (hv : v.length ≤ 1000) (rv : AllR v) :
    Calls Tryd.prog 20 #[.agg #[.int .i64 c, .bool s], .agg #[.slice A d.length c1, .slice B v.length c2], .bool b] w (RetCI w (scD c d v.length) (scV c s d v b) (.int .i64 (scE c d v.length))) := by
  by_cases h : cellB d v.length = true
  · by_cases h2 : Sc.hasB c 2 = true
    · by_cases h0 : d.length = 0
      · obtain ⟨e1, e2, e3⟩ := sc_n (s := s) (b := b) h h2 h0
        rw [e1, e2, e3]
        exact rscan_n c s A c1 d B c2 v b w id iv hd h h2 h0
      · obtain ⟨e1, e2, e3⟩ := sc_0 (s := s) (b := b) h h2 h0
        obtain ⟨a, P, st, ok, hst⟩ := ax_of b h (by omega)
        rw [e1, e2, e3]
        exact rscan_0 c s A c1 d B c2 v b a w id iv hd h h2 ok.lt ok.ax rv
    · have h2' : Sc.hasB c 2 = false := by simpa using h2
      obtain ⟨e1, e2, e3⟩ := sc_13 (s := s) (b := b) h h2'
      rw [e1, e2, e3]
      exact rscan_13 c s A c1 d B c2 v b w id iv hd h h2'
  · have h' : cellB d v.length = false := by simpa using h
    obtain ⟨e1, e2, e3⟩ := sc_1 (c := c) (s := s) (b := b) h'
    rw [e1, e2, e3]
    exact rscan_1 c s A c1 d B c2 v b w id iv hd h'
end Go.Proofs.YticicfbllhnpcaaDoor.Fd
