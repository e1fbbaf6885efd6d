/-
  What riffleref08.Reduce answers for any function and any cell, and fold.Reduce likewise in one sentence; nothing that was there is written. Conditions: the numbers are int64; at most 100 axes and 1000 numbers; for fold.Reduce the table of traits holds what its text lays.
-/
import Derived.Test.YticicfbllhnpcaaDoorFdRPut
import Derived.Test.YticicfbllhnpcaaDoorFdRed
set_option maxRecDepth 100000
namespace Go.Proofs.YticicfbllhnpcaaDoor.Fd
open Go.Proofs.YticicfbllhnpcaaDoor.Sh
open Go.RowKit
set_option linter.unusedVariables false

def reO (d : List Int) (b : Bool) : List Int := withoutL d (axI d b)
def reE (c : Int) (d : List Int) (n : Nat) (b : Bool) : Int :=
  if cellB d n = true then (if Sc.hasB c 2 = true then (if d.length = 0 then 0 else if d.getD (axI d b).toNat 0 = 0 ∧ (Sc.trOf c).starts = false then 5 else if rightB (reO d b) = true then 0 else 4) else 13) else 1
def reD (c : Int) (d : List Int) (n : Nat) (b : Bool) : List Int := if reE c d n b = 0 then (if d.length = 0 then d else reO d b) else []
/-- What stands at a place of a fold. -/
def reG (c : Int) (s : Bool) (d v : List Int) (b : Bool) (k : Nat) : Int := rowI c s (dlL d v (putL (dg (reO d b) (k : Int)) (axI d b).toNat) (axI d b) (d.getD (axI d b).toNat 0).toNat)
def reV (c : Int) (s : Bool) (d v : List Int) (b : Bool) : List Int := if reE c d v.length b = 0 then (if d.length = 0 then v else (List.range (sizeI (reO d b)).toNat).map (reG c s d v b)) else []
section
variable {c : Int} {s : Bool} {d v : List Int} {b : Bool}
theorem re_1 (h : cellB d v.length = false) : reE c d v.length b = 1 ∧ reD c d v.length b = [] ∧ reV c s d v b = [] := by
  have e : reE c d v.length b = 1 := by simp [reE, h]
  exact ⟨e, by simp [reD, e], by simp [reV, e]⟩
theorem re_13 (h : cellB d v.length = true) (h2 : Sc.hasB c 2 = false) : reE c d v.length b = 13 ∧ reD c d v.length b = [] ∧ reV c s d v b = [] := by
  have e : reE c d v.length b = 13 := by simp [reE, h, h2]
  exact ⟨e, by simp [reD, e], by simp [reV, e]⟩
theorem re_n (h : cellB d v.length = true) (h2 : Sc.hasB c 2 = true) (h0 : d.length = 0) : reE c d v.length b = 0 ∧ reD c d v.length b = d ∧ reV c s d v b = v := by
  have e : reE c d v.length b = 0 := by unfold reE; rw [if_pos h, if_pos h2, if_pos h0]
  exact ⟨e, by unfold reD; rw [if_pos e, if_pos h0], by unfold reV; rw [if_pos e, if_pos h0]⟩
theorem re_5 (h : cellB d v.length = true) (h2 : Sc.hasB c 2 = true) (h0 : ¬ d.length = 0) (h5 : d.getD (axI d b).toNat 0 = 0 ∧ (Sc.trOf c).starts = false) : reE c d v.length b = 5 ∧ reD c d v.length b = [] ∧ reV c s d v b = [] := by
  have e : reE c d v.length b = 5 := by unfold reE; rw [if_pos h, if_pos h2, if_neg h0, if_pos h5]
  exact ⟨e, by simp [reD, e], by simp [reV, e]⟩
theorem re_4 (h : cellB d v.length = true) (h2 : Sc.hasB c 2 = true) (h0 : ¬ d.length = 0) (h5 : ¬ (d.getD (axI d b).toNat 0 = 0 ∧ (Sc.trOf c).starts = false)) (h4 : rightB (reO d b) = false) : reE c d v.length b = 4 ∧ reD c d v.length b = [] ∧ reV c s d v b = [] := by
  have e : reE c d v.length b = 4 := by unfold reE; rw [if_pos h, if_pos h2, if_neg h0, if_neg h5, if_neg (by simp [h4])]
  exact ⟨e, by simp [reD, e], by simp [reV, e]⟩
theorem re_0 (h : cellB d v.length = true) (h2 : Sc.hasB c 2 = true) (h0 : ¬ d.length = 0) (h5 : ¬ (d.getD (axI d b).toNat 0 = 0 ∧ (Sc.trOf c).starts = false)) (h4 : rightB (reO d b) = true) : reE c d v.length b = 0 ∧ reD c d v.length b = reO d b ∧ reV c s d v b = (List.range (sizeI (reO d b)).toNat).map (reG c s d v b) := by
  have e : reE c d v.length b = 0 := by unfold reE; rw [if_pos h, if_pos h2, if_neg h0, if_neg h5, if_pos h4]
  exact ⟨e, by unfold reD; rw [if_pos e, if_neg h0], by unfold reV; rw [if_pos e, if_neg h0]⟩
theorem reO_len : (reO d b).length ≤ d.length := withoutL_len d _
theorem reD_len {n : Nat} : (reD c d n b).length ≤ d.length := by
  unfold reD; split
  · split
    · exact Nat.le_refl _
    · exact reO_len
  · simp
theorem reV_len (hv : v.length ≤ 200) : (reV c s d v b).length ≤ 200 := by
  unfold reV; split
  · split
    · exact hv
    · have := sizeI_bd (reO d b); simp; omega
  · simp
theorem reG_is {a P st n : Nat} (h : cellB d v.length = true) (ok : AxOk d b a P st) (hst : (st : Int) = prod (d.drop (a + 1))) (hR : rightB (reO d b) = true) (hn : sizeI (reO d b) = (n : Int)) {k : Nat} (hk : k < n) : rdF c s v P st k = reG c s d v b k := by
  have hO : reO d b = withoutL d (a : Int) := by unfold reO; rw [axI_nat ok]
  rw [hO] at hR hn
  have hd := (rd_of h ok hst hR hn).2 k hk
  unfold rdF reG lineL dlL
  rw [hO, axI_nat ok, Int.toNat_natCast, ok.hP, Int.toNat_natCast]
  congr 1
  refine List.map_congr_left fun j hj => ?_
  exact (hd j (by simpa using hj)).symm
end
theorem red_any (c : Int) (s : Bool) (A : Option Addr) (c1 : Nat) (d : List Int) (B : Option Addr) (c2 : Nat) (v : List Int) (b : Bool) (w : World) (hT : Sc.Tab w) (id : Ints w A d) (iv : Ints w B v) (hd : d.length ≤ 100) (hv : v.length ≤ 1000) (rv : AllR v) :
    Calls Tryd.prog 16 #[.agg #[.int .i64 c, .bool s], .agg #[.slice A d.length c1, .slice B v.length c2], .bool b] w (RetC w (reD c d v.length b) (reV c s d v b) (.int .i64 (reE c d v.length b))) := by
  by_cases h : cellB d v.length = true
  rotate_left
  · have h' : cellB d v.length = false := by simpa using h
    obtain ⟨e1, e2, e3⟩ := re_1 (c := c) (s := s) (b := b) h'
    rw [e1, e2, e3]
    exact red_1 c s A c1 d B c2 v b w hT id iv hd h'
  by_cases h2 : Sc.hasB c 2 = true
  rotate_left
  · have h2' : Sc.hasB c 2 = false := by simpa using h2
    obtain ⟨e1, e2, e3⟩ := re_13 (s := s) (b := b) h h2'
    rw [e1, e2, e3]
    exact red_13 c s A c1 d B c2 v b w hT id iv hd h h2'
  by_cases h0 : d.length = 0
  · obtain ⟨e1, e2, e3⟩ := re_n (s := s) (b := b) h h2 h0
    rw [e1, e2, e3]
    exact red_none c s A c1 d B c2 v b w hT id iv hd hv h h2 h0
  obtain ⟨a, P, st, ok, hst⟩ := ax_of b h (by omega)
  have hP : d.getD (axI d b).toNat 0 = (P : Int) := by rw [axI_nat ok, Int.toNat_natCast, ok.hP]
  have hO : withoutL d (a : Int) = reO d b := by unfold reO; rw [axI_nat ok]
  by_cases h5 : d.getD (axI d b).toNat 0 = 0 ∧ (Sc.trOf c).starts = false
  · obtain ⟨e1, e2, e3⟩ := re_5 (s := s) h h2 h0 h5
    rw [e1, e2, e3]
    exact red_5 c s A c1 d B c2 v b a P st w hT id iv hd h h2 ok (by have := h5.1; omega) h5.2
  have hpass : P = 0 → (Sc.trOf c).starts = true := fun hp => by
    cases hs : (Sc.trOf c).starts
    · exact absurd ⟨by rw [hP, hp]; rfl, hs⟩ h5
    · rfl
  have hl := reO_len (d := d) (b := b)
  by_cases h4 : rightB (reO d b) = true
  · obtain ⟨e1, e2, e3⟩ := re_0 (s := s) h h2 h0 h5 h4
    obtain ⟨n, hn⟩ : ∃ n : Nat, sizeI (reO d b) = (n : Int) := ⟨(sizeI (reO d b)).toNat, by have := sizeI_bd (reO d b); omega⟩
    rw [e1, e2, e3, hn, Int.toNat_natCast, show (List.range n).map (reG c s d v b) = (List.range n).map (rdF c s v P st) from List.map_congr_left fun k hk => (reG_is h ok hst h4 hn (by simpa using hk)).symm]
    exact red_0 c s A c1 d B c2 v b a P st _ n w hT id iv hd h h2 ok hpass hO (by omega) h4 hn (rd_of h ok hst (by rw [hO]; exact h4) (by rw [hO]; exact hn)).1 rv
  · have h4' : rightB (reO d b) = false := by simpa using h4
    obtain ⟨e1, e2, e3⟩ := re_4 (s := s) h h2 h0 h5 h4'
    rw [e1, e2, e3]
    exact red_4 c s A c1 d B c2 v b a P st _ w hT id iv hd h h2 ok hpass hO (by omega) h4'
theorem runit_x (c : Int) (t : Bool) (w : World) (ht : (Sc.trOf c).starts = t) : Calls Tryd.prog 60 #[.int .i64 c] w fun e w' => ∃ u : Int, e = .returned (.tuple #[.int .i64 u, .bool t]) ∧ Below w.heap.size w w' := by
  subst ht; exact (Sc.runit_any c w).mono fun _ _ ⟨h1, h2⟩ => ⟨_, h1, h2⟩
theorem rwithout_o (A : Option Addr) (c : Nat) (d O : List Int) (a : Int) (w : World) (hO : withoutL d a = O) (hl : d.length ≤ 100) (hi : Ints w A d) : Calls Tryd.prog 61 #[.slice A d.length c, .int .i64 a] w (RetInts w O) := by
  subst hO; exact refWithout_any A c d a w hl hi
theorem put_x (C : Option Addr) (c3 : Nat) (p : List Int) (n a : Nat) (q : List Int) (w : World) (hn : p.length = n) (hp : n ≤ 100) (hc : n ≤ c3) (hcm : c3 ≤ maxLen) (ha : a = 0 ∨ a = n) (hq : putL p a = q) (ip : Ints w C p) :
    Calls Tryd.prog 66 #[.slice C n c3, .int .i64 (a : Int)] w (RetInts w q) := by
  rcases ha with rfl | rfl
  · exact put_0 C c3 p n q w hn hp hc hcm (by rw [← hq]; rfl) ip
  · exact put_n C c3 p a q w hn hp hc hcm (by rw [← hq]; unfold putL; rw [← hn]; simp) ip
set_option maxHeartbeats 2000000 in
theorem rred_1 (c : Int) (s : Bool) (A : Option Addr) (c1 : Nat) (d : List Int) (B : Option Addr) (c2 : Nat) (v : List Int) (b : Bool) (w : World) (id : Ints w A d) (iv : Ints w B v) (hd : d.length ≤ 100) (h : cellB d v.length = false) :
    Calls Tryd.prog 17 #[.agg #[.int .i64 c, .bool s], .agg #[.slice A d.length c1, .slice B v.length c2], .bool b] w (RetCI w [] [] (.int .i64 1)) := by
  obtain ⟨f0, b0, r0, hb0⟩ := red_all w c s (.slice A d.length c1) (.slice B v.length c2)
  have FN := Lib.hid (f0)
  have BA := Lib.hid (b0)
  have BR := Lib.hid (r0)
  have L := Lib.hid (hb0)
  have ID := Lib.hid (id.below L.out)
  have IV := Lib.hid (iv.below L.out)
  clear f0 b0 r0 hb0 id iv
  go_enter Tryd.func17, Tryd.ntmps17
  obtain ⟨qBA0, qBA1, -, -⟩ := BA.out.all
  go_wp2_with fail
  refine (rright_no _ _ d _ _ _ _ (by unfold maxLen; omega) ID.out h).mono ?_
  rintro r w1 ⟨rfl, hb⟩
  clear qBA0 qBA1
  replace FN := Lib.hid (FN.out.below hb)
  replace BA := Lib.hid (BA.out.next hb)
  replace BR := Lib.hid (BR.out.next hb)
  replace L := Lib.hid (below_next L.out hb)
  replace ID := Lib.hid (ID.out.below hb)
  replace IV := Lib.hid (IV.out.below hb)
  clear hb
  obtain ⟨r0, r1, r2, r3⟩ := BR.out.all
  go_wp2
  have T9 := (BR.out.set0 (.slice none 0 0)).set1 (.slice none 0 0)
  obtain ⟨t0, t1, _, _⟩ := T9.all
  refine bodyPost_ret (v := .tuple #[.agg #[.slice none 0 0, .slice none 0 0], .int .i64 1]) (by simp [results, Tryd.results17, go_sem, t0, t1]) rfl ?_
  exact ⟨none, 0, none, 0, rfl, Ints.nil _ _, Ints.nil _ _, (L.out.setCell (by simp; try omega) _).setCell (by simp; try omega) _⟩
set_option maxHeartbeats 2000000 in
theorem rred_13 (c : Int) (s : Bool) (A : Option Addr) (c1 : Nat) (d : List Int) (B : Option Addr) (c2 : Nat) (v : List Int) (b : Bool) (w : World) (id : Ints w A d) (iv : Ints w B v) (hd : d.length ≤ 100) (h : cellB d v.length = true) (h2 : Sc.hasB c 2 = false) :
    Calls Tryd.prog 17 #[.agg #[.int .i64 c, .bool s], .agg #[.slice A d.length c1, .slice B v.length c2], .bool b] w (RetCI w [] [] (.int .i64 13)) := by
  obtain ⟨f0, b0, r0, hb0⟩ := red_all w c s (.slice A d.length c1) (.slice B v.length c2)
  have FN := Lib.hid (f0)
  have BA := Lib.hid (b0)
  have BR := Lib.hid (r0)
  have L := Lib.hid (hb0)
  have ID := Lib.hid (id.below L.out)
  have IV := Lib.hid (iv.below L.out)
  clear f0 b0 r0 hb0 id iv
  go_enter Tryd.func17, Tryd.ntmps17
  obtain ⟨qBA0, qBA1, -, -⟩ := BA.out.all
  go_wp2_with fail
  refine (rright_yes _ _ d _ _ _ _ (by unfold maxLen; omega) ID.out h).mono ?_
  rintro r w1 ⟨rfl, hb⟩
  clear qBA0 qBA1
  replace FN := Lib.hid (FN.out.below hb)
  replace BA := Lib.hid (BA.out.next hb)
  replace BR := Lib.hid (BR.out.next hb)
  replace L := Lib.hid (below_next L.out hb)
  replace ID := Lib.hid (ID.out.below hb)
  replace IV := Lib.hid (IV.out.below hb)
  clear hb
  obtain ⟨qFN0, qFN1⟩ := FN.out
  go_wp2_with fail
  refine (rhas_x c 2 false _ h2).mono ?_
  rintro r w2 ⟨rfl, hb⟩
  clear qFN0 qFN1
  replace FN := Lib.hid (FN.out.below hb)
  replace BA := Lib.hid (BA.out.next hb)
  replace BR := Lib.hid (BR.out.next hb)
  replace L := Lib.hid (below_next L.out hb)
  replace ID := Lib.hid (ID.out.below hb)
  replace IV := Lib.hid (IV.out.below hb)
  clear hb
  obtain ⟨r0, r1, r2, r3⟩ := BR.out.all
  go_wp2
  have T9 := (BR.out.set0 (.slice none 0 0)).set1 (.slice none 0 0)
  obtain ⟨t0, t1, _, _⟩ := T9.all
  refine bodyPost_ret (v := .tuple #[.agg #[.slice none 0 0, .slice none 0 0], .int .i64 13]) (by simp [results, Tryd.results17, go_sem, t0, t1]) rfl ?_
  exact ⟨none, 0, none, 0, rfl, Ints.nil _ _, Ints.nil _ _, (L.out.setCell (by simp; try omega) _).setCell (by simp; try omega) _⟩
set_option maxHeartbeats 2000000 in
theorem rred_n (c : Int) (s : Bool) (A : Option Addr) (c1 : Nat) (d : List Int) (B : Option Addr) (c2 : Nat) (v : List Int) (b : Bool) (w : World) (id : Ints w A d) (iv : Ints w B v) (hd : d.length ≤ 100) (h : cellB d v.length = true) (h2 : Sc.hasB c 2 = true) (h0 : d.length = 0) :
    Calls Tryd.prog 17 #[.agg #[.int .i64 c, .bool s], .agg #[.slice A d.length c1, .slice B v.length c2], .bool b] w (RetCI w d v (.int .i64 0)) := by
  obtain ⟨f0, b0, r0, hb0⟩ := red_all w c s (.slice A d.length c1) (.slice B v.length c2)
  have FN := Lib.hid (f0)
  have BA := Lib.hid (b0)
  have BR := Lib.hid (r0)
  have L := Lib.hid (hb0)
  have ID := Lib.hid (id.below L.out)
  have IV := Lib.hid (iv.below L.out)
  clear f0 b0 r0 hb0 id iv
  have hz : ((d.length : Int) == 0) = true := by simp; exact List.eq_nil_of_length_eq_zero h0
  clear h0
  go_enter Tryd.func17, Tryd.ntmps17
  obtain ⟨qBA0, qBA1, -, -⟩ := BA.out.all
  go_wp2_with fail
  refine (rright_yes _ _ d _ _ _ _ (by unfold maxLen; omega) ID.out h).mono ?_
  rintro r w1 ⟨rfl, hb⟩
  clear qBA0 qBA1
  replace FN := Lib.hid (FN.out.below hb)
  replace BA := Lib.hid (BA.out.next hb)
  replace BR := Lib.hid (BR.out.next hb)
  replace L := Lib.hid (below_next L.out hb)
  replace ID := Lib.hid (ID.out.below hb)
  replace IV := Lib.hid (IV.out.below hb)
  clear hb
  obtain ⟨qFN0, qFN1⟩ := FN.out
  go_wp2_with fail
  refine (rhas_x c 2 true _ h2).mono ?_
  rintro r w2 ⟨rfl, hb⟩
  clear qFN0 qFN1
  replace FN := Lib.hid (FN.out.below hb)
  replace BA := Lib.hid (BA.out.next hb)
  replace BR := Lib.hid (BR.out.next hb)
  replace L := Lib.hid (below_next L.out hb)
  replace ID := Lib.hid (ID.out.below hb)
  replace IV := Lib.hid (IV.out.below hb)
  clear hb
  obtain ⟨qBA0, qBA1, -, -⟩ := BA.out.all
  obtain ⟨r0, r1, r2, r3⟩ := BR.out.all
  go_wp2
  have T9 := (BR.out.set0 (.slice A d.length c1)).set1 (.slice B v.length c2)
  obtain ⟨t0, t1, _, _⟩ := T9.all
  refine bodyPost_ret (v := .tuple #[.agg #[.slice A d.length c1, .slice B v.length c2], .int .i64 0]) (by simp [results, Tryd.results17, go_sem, t0, t1]) rfl ?_
  exact ⟨_, _, _, _, rfl, ID.out.set_box BR.out _ _, IV.out.set_box BR.out _ _, (L.out.setCell (by simp; try omega) _).setCell (by simp; try omega) _⟩
set_option maxHeartbeats 4000000 in
theorem rred_5 (c : Int) (s : Bool) (A : Option Addr) (c1 : Nat) (d : List Int) (B : Option Addr) (c2 : Nat) (v : List Int) (b : Bool) (a P : Nat) (w : World) (id : Ints w A d) (iv : Ints w B v) (hd : d.length ≤ 100) (h : cellB d v.length = true) (h2 : Sc.hasB c 2 = true) (ha : a < d.length) (hax : axI d b = (a : Int)) (hP : d.getD a 0 = (P : Int)) (S0 : Bool) (hS0 : (Sc.trOf c).starts = S0) (hP0 : P = 0) (hS1 : S0 = false) :
    Calls Tryd.prog 17 #[.agg #[.int .i64 c, .bool s], .agg #[.slice A d.length c1, .slice B v.length c2], .bool b] w (RetCI w [] [] (.int .i64 5)) := by
  obtain ⟨f0, b0, r0, hb0⟩ := red_all w c s (.slice A d.length c1) (.slice B v.length c2)
  have FN := Lib.hid (f0)
  have BA := Lib.hid (b0)
  have BR := Lib.hid (r0)
  have L := Lib.hid (hb0)
  have ID := Lib.hid (id.below L.out)
  have IV := Lib.hid (iv.below L.out)
  clear f0 b0 r0 hb0 id iv
  have HS0 := Lib.hid hS0
  have HPA := Lib.hid hP
  clear hS0 hP
  have HP0 := Lib.hid hP0
  have HS1 := Lib.hid hS1
  clear hP0 hS1
  have hz : ((d.length : Int) == 0) = false := by simp; intro h0; rw [h0] at ha; simp at ha
  go_enter Tryd.func17, Tryd.ntmps17
  obtain ⟨qBA0, qBA1, -, -⟩ := BA.out.all
  go_wp2_with fail
  refine (rright_yes _ _ d _ _ _ _ (by unfold maxLen; omega) ID.out h).mono ?_
  rintro r w1 ⟨rfl, hb⟩
  clear qBA0 qBA1
  replace FN := Lib.hid (FN.out.below hb)
  replace BA := Lib.hid (BA.out.next hb)
  replace BR := Lib.hid (BR.out.next hb)
  replace L := Lib.hid (below_next L.out hb)
  replace ID := Lib.hid (ID.out.below hb)
  replace IV := Lib.hid (IV.out.below hb)
  clear hb
  obtain ⟨qFN0, qFN1⟩ := FN.out
  go_wp2_with fail
  refine (rhas_x c 2 true _ h2).mono ?_
  rintro r w2 ⟨rfl, hb⟩
  clear qFN0 qFN1
  replace FN := Lib.hid (FN.out.below hb)
  replace BA := Lib.hid (BA.out.next hb)
  replace BR := Lib.hid (BR.out.next hb)
  replace L := Lib.hid (below_next L.out hb)
  replace ID := Lib.hid (ID.out.below hb)
  replace IV := Lib.hid (IV.out.below hb)
  clear hb
  obtain ⟨qBA0, qBA1, -, -⟩ := BA.out.all
  have HAX := Lib.hid (show (if b = true then 0 else (d.length : Int) - 1) = (a : Int) from hax)
  clear hax
  go_upto_if 34 with (fail)
  go_cut [8] (fun s8 wx => s8 = .int .i64 (a : Int) ∧ w2 = wx)
  case first =>
    cases b with
    | true =>
      have HA0 := Lib.hid (show (a : Int) = 0 by have := HAX.out; simpa using this.symm)
      clear HAX
      go_wp2
      go_meet
      exact ⟨by rw [HA0.out], rfl⟩
    | false =>
      have HA0 := Lib.hid (show (d.length : Int) - 1 = (a : Int) by have := HAX.out; simpa using this)
      clear HAX
      go_wp2
      go_meet
      exact ⟨by rw [HA0.out], rfl⟩
  case rest =>
    obtain ⟨rfl, rfl⟩ := hcut
    clear qBA0 qBA1
    obtain ⟨qFN0, qFN1⟩ := FN.out
    go_wp2_with fail
    refine (runit_x c S0 _ HS0.out).mono ?_
    rintro r w3 ⟨u0, rfl, hb⟩
    clear qFN0 qFN1
    replace FN := Lib.hid (FN.out.below hb)
    replace BA := Lib.hid (BA.out.next hb)
    replace BR := Lib.hid (BR.out.next hb)
    replace L := Lib.hid (below_next L.out hb)
    replace ID := Lib.hid (ID.out.below hb)
    replace IV := Lib.hid (IV.out.below hb)
    clear hb
    obtain ⟨qBA0, qBA1, -, -⟩ := BA.out.all
    obtain ⟨bd, od, rfl, hbd, hcd⟩ := ID.out (by omega)
    have xd := hcd a ha
    have a0 : (0 : Int) ≤ (a : Int) := by omega
    have a1 : (a : Int) < (d.length : Int) := by omega
    rw [HPA.out] at xd
    clear hcd
    have hzp : ((P : Int) == 0) = true := by rw [HP0.out]; rfl
    obtain rfl : S0 = false := HS1.out
    obtain ⟨r0, r1, r2, r3⟩ := BR.out.all
    go_wp2
    have T9 := (BR.out.set0 (.slice none 0 0)).set1 (.slice none 0 0)
    obtain ⟨t0, t1, _, _⟩ := T9.all
    refine bodyPost_ret (v := .tuple #[.agg #[.slice none 0 0, .slice none 0 0], .int .i64 5]) (by simp [results, Tryd.results17, go_sem, t0, t1]) rfl ?_
    exact ⟨none, 0, none, 0, rfl, Ints.nil _ _, Ints.nil _ _, (L.out.setCell (by simp; try omega) _).setCell (by simp; try omega) _⟩
set_option maxHeartbeats 4000000 in
theorem rred_4 (c : Int) (s : Bool) (A : Option Addr) (c1 : Nat) (d : List Int) (B : Option Addr) (c2 : Nat) (v : List Int) (b : Bool) (a P : Nat) (w : World) (id : Ints w A d) (iv : Ints w B v) (hd : d.length ≤ 100) (h : cellB d v.length = true) (h2 : Sc.hasB c 2 = true) (ha : a < d.length) (hax : axI d b = (a : Int)) (hP : d.getD a 0 = (P : Int)) (S0 : Bool) (hS0 : (Sc.trOf c).starts = S0) (O : List Int) (hPS : P = 0 → S0 = true) (hO : withoutL d (a : Int) = O) (hOl : O.length ≤ 100) (h4 : rightB O = false) :
    Calls Tryd.prog 17 #[.agg #[.int .i64 c, .bool s], .agg #[.slice A d.length c1, .slice B v.length c2], .bool b] w (RetCI w [] [] (.int .i64 4)) := by
  obtain ⟨f0, b0, r0, hb0⟩ := red_all w c s (.slice A d.length c1) (.slice B v.length c2)
  have FN := Lib.hid (f0)
  have BA := Lib.hid (b0)
  have BR := Lib.hid (r0)
  have L := Lib.hid (hb0)
  have ID := Lib.hid (id.below L.out)
  have IV := Lib.hid (iv.below L.out)
  clear f0 b0 r0 hb0 id iv
  have HS0 := Lib.hid hS0
  have HPA := Lib.hid hP
  clear hS0 hP
  have HPS := Lib.hid hPS
  have HO := Lib.hid hO
  have H4 := Lib.hid h4
  clear hPS hO h4
  have hz : ((d.length : Int) == 0) = false := by simp; intro h0; rw [h0] at ha; simp at ha
  go_enter Tryd.func17, Tryd.ntmps17
  obtain ⟨qBA0, qBA1, -, -⟩ := BA.out.all
  go_wp2_with fail
  refine (rright_yes _ _ d _ _ _ _ (by unfold maxLen; omega) ID.out h).mono ?_
  rintro r w1 ⟨rfl, hb⟩
  clear qBA0 qBA1
  replace FN := Lib.hid (FN.out.below hb)
  replace BA := Lib.hid (BA.out.next hb)
  replace BR := Lib.hid (BR.out.next hb)
  replace L := Lib.hid (below_next L.out hb)
  replace ID := Lib.hid (ID.out.below hb)
  replace IV := Lib.hid (IV.out.below hb)
  clear hb
  obtain ⟨qFN0, qFN1⟩ := FN.out
  go_wp2_with fail
  refine (rhas_x c 2 true _ h2).mono ?_
  rintro r w2 ⟨rfl, hb⟩
  clear qFN0 qFN1
  replace FN := Lib.hid (FN.out.below hb)
  replace BA := Lib.hid (BA.out.next hb)
  replace BR := Lib.hid (BR.out.next hb)
  replace L := Lib.hid (below_next L.out hb)
  replace ID := Lib.hid (ID.out.below hb)
  replace IV := Lib.hid (IV.out.below hb)
  clear hb
  obtain ⟨qBA0, qBA1, -, -⟩ := BA.out.all
  have HAX := Lib.hid (show (if b = true then 0 else (d.length : Int) - 1) = (a : Int) from hax)
  clear hax
  go_upto_if 34 with (fail)
  go_cut [8] (fun s8 wx => s8 = .int .i64 (a : Int) ∧ w2 = wx)
  case first =>
    cases b with
    | true =>
      have HA0 := Lib.hid (show (a : Int) = 0 by have := HAX.out; simpa using this.symm)
      clear HAX
      go_wp2
      go_meet
      exact ⟨by rw [HA0.out], rfl⟩
    | false =>
      have HA0 := Lib.hid (show (d.length : Int) - 1 = (a : Int) by have := HAX.out; simpa using this)
      clear HAX
      go_wp2
      go_meet
      exact ⟨by rw [HA0.out], rfl⟩
  case rest =>
    obtain ⟨rfl, rfl⟩ := hcut
    clear qBA0 qBA1
    obtain ⟨qFN0, qFN1⟩ := FN.out
    go_wp2_with fail
    refine (runit_x c S0 _ HS0.out).mono ?_
    rintro r w3 ⟨u0, rfl, hb⟩
    clear qFN0 qFN1
    replace FN := Lib.hid (FN.out.below hb)
    replace BA := Lib.hid (BA.out.next hb)
    replace BR := Lib.hid (BR.out.next hb)
    replace L := Lib.hid (below_next L.out hb)
    replace ID := Lib.hid (ID.out.below hb)
    replace IV := Lib.hid (IV.out.below hb)
    clear hb
    obtain ⟨qBA0, qBA1, -, -⟩ := BA.out.all
    obtain ⟨bd, od, rfl, hbd, hcd⟩ := ID.out (by omega)
    have xd := hcd a ha
    have a0 : (0 : Int) ≤ (a : Int) := by omega
    have a1 : (a : Int) < (d.length : Int) := by omega
    rw [HPA.out] at xd
    clear hcd
    go_upto_region 11 with (fail)
    go_cut [50] (fun s50 wx => s50 = .bool false ∧ w3 = wx)
    case first =>
      by_cases hP0 : P = 0
      · have hzp : ((P : Int) == 0) = true := by rw [hP0]; rfl
        obtain rfl : S0 = true := HPS.out hP0
        clear hP0
        go_wp2
        go_meet
        exact ⟨rfl, rfl⟩
      · have hzp : ((P : Int) == 0) = false := by simp; omega
        go_wp2
        go_meet
        exact ⟨rfl, rfl⟩
    case rest =>
      obtain ⟨rfl, rfl⟩ := hcut
      clear xd
      clear qBA0 qBA1
      obtain ⟨qBA0, qBA1, -, -⟩ := BA.out.all
      go_wp2_with fail
      refine (rwithout_o _ _ d O (a : Int) _ HO.out hd ID.out).mono ?_
      rintro r w4 ⟨AO, cO, rfl, hiO, hb⟩
      clear qBA0 qBA1
      replace FN := Lib.hid (FN.out.below hb)
      replace BA := Lib.hid (BA.out.next hb)
      replace BR := Lib.hid (BR.out.next hb)
      replace L := Lib.hid (below_next L.out hb)
      replace ID := Lib.hid (ID.out.below hb)
      replace IV := Lib.hid (IV.out.below hb)
      clear hb
      have IO := Lib.hid hiO
      clear hiO
      have hgA := BA.out.lt
      have hgF := FN.out.1
      have hgR := BR.out.lt
      have hgW := L.out.size
      clear hgF
      have IO4 := Lib.hid IO.out
      have ID4 := Lib.hid ID.out
      have IV4 := Lib.hid IV.out
      have L4 := Lib.hid (Below.refl w4.heap.size w4)
      have KB := Lib.hid (below_new w4 (.cells #[.slice AO O.length cO, .slice none 0 0] 27))
      have BX := Lib.hid (Box.new w4 (.slice AO O.length cO) (.slice none 0 0))
      replace FN := Lib.hid (FN.out.below KB.out)
      replace BA := Lib.hid (BA.out.next KB.out)
      replace BR := Lib.hid (BR.out.next KB.out)
      replace L := Lib.hid (below_next L.out KB.out)
      replace ID := Lib.hid (ID.out.below KB.out)
      replace IV := Lib.hid (IV.out.below KB.out)
      replace IO := Lib.hid (IO.out.below KB.out)
      replace L4 := Lib.hid (below_next L4.out KB.out)
      clear KB
      go_upto_region 14 with (fail)
      generalize hW4 : w4.alloc (.cells #[.slice AO O.length cO, .slice none 0 0] 27) = W4 at *
      clear hW4
      have hgo := BX.out.lt
      obtain ⟨qBX0, qBX1, -, -⟩ := BX.out.all
      go_wp2_with fail
      refine (refRightB_no _ _ O _ H4.out (by unfold maxLen; omega) IO.out).mono ?_
      rintro r w5 ⟨rfl, hb⟩
      clear qBX0 qBX1
      replace FN := Lib.hid (FN.out.below hb)
      replace BA := Lib.hid (BA.out.next hb)
      replace BR := Lib.hid (BR.out.next hb)
      replace L := Lib.hid (below_next L.out hb)
      replace ID := Lib.hid (ID.out.below hb)
      replace IV := Lib.hid (IV.out.below hb)
      replace IO := Lib.hid (IO.out.below hb)
      replace L4 := Lib.hid (below_next L4.out hb)
      replace BX := Lib.hid (BX.out.next hb)
      clear hb
      obtain ⟨r0, r1, r2, r3⟩ := BR.out.all
      go_wp2
      have T9 := (BR.out.set0 (.slice none 0 0)).set1 (.slice none 0 0)
      obtain ⟨t0, t1, _, _⟩ := T9.all
      refine bodyPost_ret (v := .tuple #[.agg #[.slice none 0 0, .slice none 0 0], .int .i64 4]) (by simp [results, Tryd.results17, go_sem, t0, t1]) rfl ?_
      exact ⟨none, 0, none, 0, rfl, Ints.nil _ _, Ints.nil _ _, (L.out.setCell (by simp; try omega) _).setCell (by simp; try omega) _⟩
set_option maxHeartbeats 8000000 in
theorem rred_0 (c : Int) (s : Bool) (A : Option Addr) (c1 : Nat) (d : List Int) (B : Option Addr) (c2 : Nat) (v : List Int) (b : Bool) (a P : Nat) (w : World) (id : Ints w A d) (iv : Ints w B v) (hd : d.length ≤ 100) (h : cellB d v.length = true) (h2 : Sc.hasB c 2 = true) (ha : a < d.length) (hax : axI d b = (a : Int)) (hP : d.getD a 0 = (P : Int)) (S0 : Bool) (hS0 : (Sc.trOf c).starts = S0) (hv : v.length ≤ 1000) (O : List Int) (n : Nat) (hPS : P = 0 → S0 = true) (hO : withoutL d (a : Int) = O) (hOl : O.length ≤ 100) (h4 : rightB O = true) (hn : sizeI O = (n : Int)) (hae : a = 0 ∨ a = O.length) (rv : AllR v) :
    Calls Tryd.prog 17 #[.agg #[.int .i64 c, .bool s], .agg #[.slice A d.length c1, .slice B v.length c2], .bool b] w (RetCI w O ((List.range n).map (reG c s d v b)) (.int .i64 0)) := by
  obtain ⟨f0, b0, r0, hb0⟩ := red_all w c s (.slice A d.length c1) (.slice B v.length c2)
  have FN := Lib.hid (f0)
  have BA := Lib.hid (b0)
  have BR := Lib.hid (r0)
  have L := Lib.hid (hb0)
  have ID := Lib.hid (id.below L.out)
  have IV := Lib.hid (iv.below L.out)
  clear f0 b0 r0 hb0 id iv
  have HS0 := Lib.hid hS0
  have HPA := Lib.hid hP
  clear hS0 hP
  have HPS := Lib.hid hPS
  have HO := Lib.hid hO
  have H4 := Lib.hid h4
  have HN := Lib.hid hn
  have RV := Lib.hid rv
  have P64 : P ≤ 64 := by have := okAx_bd (cellB_len h).2.1 a ha; rw [HPA.out] at this; omega
  have HAE := Lib.hid hae
  have n64 : n ≤ 64 := by have := sizeI_bd O; omega
  clear hPS hO h4 hn rv hae
  have hz : ((d.length : Int) == 0) = false := by simp; intro h0; rw [h0] at ha; simp at ha
  go_enter Tryd.func17, Tryd.ntmps17
  obtain ⟨qBA0, qBA1, -, -⟩ := BA.out.all
  go_wp2_with fail
  refine (rright_yes _ _ d _ _ _ _ (by unfold maxLen; omega) ID.out h).mono ?_
  rintro r w1 ⟨rfl, hb⟩
  clear qBA0 qBA1
  replace FN := Lib.hid (FN.out.below hb)
  replace BA := Lib.hid (BA.out.next hb)
  replace BR := Lib.hid (BR.out.next hb)
  replace L := Lib.hid (below_next L.out hb)
  replace ID := Lib.hid (ID.out.below hb)
  replace IV := Lib.hid (IV.out.below hb)
  clear hb
  obtain ⟨qFN0, qFN1⟩ := FN.out
  go_wp2_with fail
  refine (rhas_x c 2 true _ h2).mono ?_
  rintro r w2 ⟨rfl, hb⟩
  clear qFN0 qFN1
  replace FN := Lib.hid (FN.out.below hb)
  replace BA := Lib.hid (BA.out.next hb)
  replace BR := Lib.hid (BR.out.next hb)
  replace L := Lib.hid (below_next L.out hb)
  replace ID := Lib.hid (ID.out.below hb)
  replace IV := Lib.hid (IV.out.below hb)
  clear hb
  obtain ⟨qBA0, qBA1, -, -⟩ := BA.out.all
  have HAX := Lib.hid (show (if b = true then 0 else (d.length : Int) - 1) = (a : Int) from hax)
  clear hax
  go_upto_if 34 with (fail)
  go_cut [8] (fun s8 wx => s8 = .int .i64 (a : Int) ∧ w2 = wx)
  case first =>
    cases b with
    | true =>
      have HA0 := Lib.hid (show (a : Int) = 0 by have := HAX.out; simpa using this.symm)
      clear HAX
      go_wp2
      go_meet
      exact ⟨by rw [HA0.out], rfl⟩
    | false =>
      have HA0 := Lib.hid (show (d.length : Int) - 1 = (a : Int) by have := HAX.out; simpa using this)
      clear HAX
      go_wp2
      go_meet
      exact ⟨by rw [HA0.out], rfl⟩
  case rest =>
    obtain ⟨rfl, rfl⟩ := hcut
    clear qBA0 qBA1
    obtain ⟨qFN0, qFN1⟩ := FN.out
    go_wp2_with fail
    refine (runit_x c S0 _ HS0.out).mono ?_
    rintro r w3 ⟨u0, rfl, hb⟩
    clear qFN0 qFN1
    replace FN := Lib.hid (FN.out.below hb)
    replace BA := Lib.hid (BA.out.next hb)
    replace BR := Lib.hid (BR.out.next hb)
    replace L := Lib.hid (below_next L.out hb)
    replace ID := Lib.hid (ID.out.below hb)
    replace IV := Lib.hid (IV.out.below hb)
    clear hb
    obtain ⟨qBA0, qBA1, -, -⟩ := BA.out.all
    obtain ⟨bd, od, rfl, hbd, hcd⟩ := ID.out (by omega)
    have xd := hcd a ha
    have a0 : (0 : Int) ≤ (a : Int) := by omega
    have a1 : (a : Int) < (d.length : Int) := by omega
    rw [HPA.out] at xd
    clear hcd
    go_upto_region 11 with (fail)
    go_cut [50] (fun s50 wx => s50 = .bool false ∧ w3 = wx)
    case first =>
      by_cases hP0 : P = 0
      · have hzp : ((P : Int) == 0) = true := by rw [hP0]; rfl
        obtain rfl : S0 = true := HPS.out hP0
        clear hP0
        go_wp2
        go_meet
        exact ⟨rfl, rfl⟩
      · have hzp : ((P : Int) == 0) = false := by simp; omega
        go_wp2
        go_meet
        exact ⟨rfl, rfl⟩
    case rest =>
      obtain ⟨rfl, rfl⟩ := hcut
      clear xd
      clear qBA0 qBA1
      obtain ⟨qBA0, qBA1, -, -⟩ := BA.out.all
      go_wp2_with fail
      refine (rwithout_o _ _ d O (a : Int) _ HO.out hd ID.out).mono ?_
      rintro r w4 ⟨AO, cO, rfl, hiO, hb⟩
      clear qBA0 qBA1
      replace FN := Lib.hid (FN.out.below hb)
      replace BA := Lib.hid (BA.out.next hb)
      replace BR := Lib.hid (BR.out.next hb)
      replace L := Lib.hid (below_next L.out hb)
      replace ID := Lib.hid (ID.out.below hb)
      replace IV := Lib.hid (IV.out.below hb)
      clear hb
      have IO := Lib.hid hiO
      clear hiO
      have hgA := BA.out.lt
      have hgF := FN.out.1
      have hgR := BR.out.lt
      have hgW := L.out.size
      clear hgF
      have IO4 := Lib.hid IO.out
      have ID4 := Lib.hid ID.out
      have IV4 := Lib.hid IV.out
      have L4 := Lib.hid (Below.refl w4.heap.size w4)
      have KB := Lib.hid (below_new w4 (.cells #[.slice AO O.length cO, .slice none 0 0] 27))
      have BX := Lib.hid (Box.new w4 (.slice AO O.length cO) (.slice none 0 0))
      replace FN := Lib.hid (FN.out.below KB.out)
      replace BA := Lib.hid (BA.out.next KB.out)
      replace BR := Lib.hid (BR.out.next KB.out)
      replace L := Lib.hid (below_next L.out KB.out)
      replace ID := Lib.hid (ID.out.below KB.out)
      replace IV := Lib.hid (IV.out.below KB.out)
      replace IO := Lib.hid (IO.out.below KB.out)
      replace L4 := Lib.hid (below_next L4.out KB.out)
      clear KB
      go_upto_region 14 with (fail)
      generalize hW4 : w4.alloc (.cells #[.slice AO O.length cO, .slice none 0 0] 27) = W4 at *
      clear hW4
      have hgo := BX.out.lt
      obtain ⟨qBX0, qBX1, -, -⟩ := BX.out.all
      go_wp2_with fail
      refine (refRightB_yes _ _ O _ H4.out (by unfold maxLen; omega) IO.out).mono ?_
      rintro r w5 ⟨rfl, hb⟩
      clear qBX0 qBX1
      replace FN := Lib.hid (FN.out.below hb)
      replace BA := Lib.hid (BA.out.next hb)
      replace BR := Lib.hid (BR.out.next hb)
      replace L := Lib.hid (below_next L.out hb)
      replace ID := Lib.hid (ID.out.below hb)
      replace IV := Lib.hid (IV.out.below hb)
      replace IO := Lib.hid (IO.out.below hb)
      replace L4 := Lib.hid (below_next L4.out hb)
      replace BX := Lib.hid (BX.out.next hb)
      clear hb
      obtain ⟨qBX0, qBX1, -, -⟩ := BX.out.all
      have hgoP := BX.out.lt
      go_wp2_with fail
      refine (places_pc _ _ O n _ HN.out (by omega) IO.out).mono ?_
      rintro r w6 ⟨AP, cP8, rfl, hp8, hb⟩
      clear qBX0 qBX1
      replace FN := Lib.hid (FN.out.below hb)
      replace BA := Lib.hid (BA.out.next hb)
      replace BR := Lib.hid (BR.out.next hb)
      replace L := Lib.hid (below_next L.out hb)
      replace ID := Lib.hid (ID.out.below hb)
      replace IV := Lib.hid (IV.out.below hb)
      replace IO := Lib.hid (IO.out.below hb)
      replace L4 := Lib.hid (below_next L4.out hb)
      replace BX := Lib.hid (BX.out.next hb)
      clear hb
      have PL := Lib.hid hp8
      clear hp8
      have hgo8 := BX.out.lt
      have O0 := Lib.hid (show OutSt w6 w6 w4.heap.size (.slice AO O.length cO) (.slice none 0 0) [] from ⟨turned_refl _ _, BX.out, MineT.nil _ _ _, BX.out.lt⟩)
      obtain ⟨FF, hF⟩ : ∃ F, reG c s d v b = F := ⟨_, rfl⟩
      have HF := Lib.hid hF
      clear hF
      go_wp2
      go_loopw [13] (fun j wr => ∃ (k : Nat) (V : Value), k ≤ n ∧ j = .int .i64 (k : Int) ∧ OutSt w6 wr w4.heap.size (.slice AO O.length cO) V ((List.range k).map FF)) (fun j _ => n - (intOf j).toNat)
      case atStart => exact ⟨0, _, Nat.zero_le _, rfl, O0.out⟩
      case round =>
        obtain ⟨k, V, hk, rfl, hO⟩ := hrel
        have Q := Lib.hid hO
        have PLr := Lib.hid (PL.out.grown hO.1 hgoP)
        clear hO O0
        have FNr := Lib.hid (show FnAt wr w.heap.size c s from ⟨keepG Q.out.1 (by simp; omega) FN.out.1, keepG Q.out.1 (by simp; omega) FN.out.2⟩)
        have BAr := Lib.hid (BA.out.grown Q.out.1 (fun e => by injection e with e; omega))
        have BRr := Lib.hid (BR.out.grown Q.out.1 (fun e => by injection e with e; omega))
        have LWr := Lib.hid (below_turned L.out Q.out.1 (by omega))
        have L4r := Lib.hid (show Below w4.heap.size w4 wr from below_turned L4.out Q.out.1 (Nat.le_refl _))
        by_cases hlt : k < n
        · obtain ⟨bp, At, ct, rfl, hbp1, hbp2, hcp, hfp, hct, hcm⟩ := PLr.out k hlt
          have HMX := Lib.hid (show (List.range (k + 1)).map FF = (List.range k).map FF ++ [FF k] by rw [List.range_succ, List.map_append]; rfl)
          have LQ := Lib.hid (show ((List.range k).map FF).length = k by simp)
          have HFK := Lib.hid (show rowI c s (dlL d v (putL (dg O (k : Int)) a) (a : Int) P) = FF k by rw [← HF.out]; unfold reG reO; rw [show axI d b = (a : Int) from HAX.out, Int.toNat_natCast, HO.out, HPA.out, Int.toNat_natCast])
          have HQL := Lib.hid (dg_length O (k : Int))
          generalize dg O (k : Int) = q0 at *
          obtain ⟨q, hq⟩ : ∃ q, putL q0 a = q := ⟨_, rfl⟩
          have HQ := Lib.hid hq
          have hql : q.length ≤ 100 := by rw [← hq]; unfold putL; simp only [List.length_append, List.length_take, List.length_cons, List.length_drop]; have h1 := withoutL_len d (a : Int); rw [HO.out] at h1; have h2 := HQL.out; have h3 := (cellB_len h).2.2.1; omega
          rw [hq] at HFK
          clear hq
          have IQ := Lib.hid hfp.ints
          clear hfp
          have k0 : (0 : Int) ≤ (k : Int) := by omega
          have k1 : (k : Int) < (n : Int) := by omega
          obtain ⟨f0, f1⟩ := FNr.out
          obtain ⟨p0, p1, -, -⟩ := BAr.out.all
          obtain ⟨bd3, od3, e3, hbd3, hcd3⟩ := (ID4.out.below L4r.out) (by omega)
          injection e3 with e3
          injection e3 with e31 e32
          subst e31 e32
          have xd := hcd3 a ha
          rw [HPA.out] at xd
          clear hcd3
          have IDr := Lib.hid (ID4.out.below L4r.out.drew)
          have IVr := Lib.hid (IV4.out.below L4r.out.drew)
          have PC := Lib.hid (put_x At ct q0 O.length a q wr.drew HQL.out (by omega) hct hcm HAE.out HQ.out (IQ.out.below ((Below.refl _ wr).drew)))
          have HH := Lib.hid h2
          have LC := Lib.hid (fun C3 c3 W i1 i2 i3 => rline_any (some ⟨bd, od, none⟩) c1 d B c2 v C3 c3 q (a : Int) P W (by omega) hv hql (by omega) i1 i2 i3)
          have RC := Lib.hid (fun A' c' W h1 h2 hI => RRow_x c s A' c' (dlL d v q (a : Int) P) P (FF k) W HH.out (dlL_len _ _ _ _ _) HFK.out (by omega) h1 h2 (dlL_R RV.out _ _ _) hI)
          have Or := Lib.hid Q.out.drew
          generalize FF k = x at *
          generalize hys : (List.range k).map FF = ys at *
          clear hys h2
          go_upto_region 20 with (fail)
          go_region_held3 (fun w' => w'.cell? ⟨w.heap.size, 0, none⟩ = some (.int .i64 c) ∧ w'.cell? ⟨w.heap.size, 1, none⟩ = some (.bool s) ∧ w'.cell? ⟨w.heap.size + 1, 0, none⟩ = some (.slice (some ⟨bd, od, none⟩) d.length c1) ∧ w'.cell? ⟨w.heap.size + 1, 1, none⟩ = some (.slice B v.length c2) ∧ w'.cell? ⟨bp, k, none⟩ = some (.slice At O.length ct) ∧ w'.cell? ⟨bd, od + a, none⟩ = some (.int .i64 (P : Int)))
            (first
              | with_reducible exact KK3.out
              | with_reducible exact KK2.out
              | with_reducible exact KK.out
              | go_keep)
            (first
              | (go_at_call 66; (with_reducible refine (PC.out).mono ?_); rintro r w9 ⟨A9, c9, rfl, hi9, hb9⟩; have I9 := Lib.hid hi9; have H9 := Lib.hid hb9; have KK := Lib.hid (show w9.cell? ⟨w.heap.size, 0, none⟩ = some (.int .i64 c) ∧ w9.cell? ⟨w.heap.size, 1, none⟩ = some (.bool s) ∧ w9.cell? ⟨w.heap.size + 1, 0, none⟩ = some (.slice (some ⟨bd, od, none⟩) d.length c1) ∧ w9.cell? ⟨w.heap.size + 1, 1, none⟩ = some (.slice B v.length c2) ∧ w9.cell? ⟨bp, k, none⟩ = some (.slice At O.length ct) ∧ w9.cell? ⟨bd, od + a, none⟩ = some (.int .i64 (P : Int)) from ⟨keepC hb9 f0, keepC hb9 f1, keepC hb9 p0, keepC hb9 p1, keepC hb9 hcp, keepC hb9 xd⟩); clear hi9 hb9)
              | (go_at_call 65; (with_reducible refine (LC.out _ _ _ (IDr.out.below H9.out) (IVr.out.below H9.out) I9.out).mono ?_); rintro r w10 ⟨A10, c10, rfl, hcl10, hcm10, hi10, hb10⟩; have I10 := Lib.hid hi10; have H10 := Lib.hid hb10; have CL10 := Lib.hid hcl10; have CM10 := Lib.hid hcm10; obtain ⟨d1, d2, d3', d4, d5, d6⟩ := KK.out; have KK2 := Lib.hid (show w10.cell? ⟨w.heap.size, 0, none⟩ = some (.int .i64 c) ∧ w10.cell? ⟨w.heap.size, 1, none⟩ = some (.bool s) ∧ w10.cell? ⟨w.heap.size + 1, 0, none⟩ = some (.slice (some ⟨bd, od, none⟩) d.length c1) ∧ w10.cell? ⟨w.heap.size + 1, 1, none⟩ = some (.slice B v.length c2) ∧ w10.cell? ⟨bp, k, none⟩ = some (.slice At O.length ct) ∧ w10.cell? ⟨bd, od + a, none⟩ = some (.int .i64 (P : Int)) from ⟨keepB hb10 d1, keepB hb10 d2, keepB hb10 d3', keepB hb10 d4, keepB hb10 d5, keepB hb10 d6⟩); clear hi10 hb10 hcl10 hcm10 d1 d2 d3' d4 d5 d6)
              | (go_at_call 64; (with_reducible refine (RC.out _ _ _ CL10.out CM10.out I10.out).mono ?_); rintro r w11 ⟨t11, rfl, hb11⟩; have O11 := Lib.hid (((Or.out.next H9.out).next H10.out).next hb11); obtain ⟨d1, d2, d3', d4, d5, d6⟩ := KK2.out; have KK3 := Lib.hid (show w11.cell? ⟨w.heap.size, 0, none⟩ = some (.int .i64 c) ∧ w11.cell? ⟨w.heap.size, 1, none⟩ = some (.bool s) ∧ w11.cell? ⟨w.heap.size + 1, 0, none⟩ = some (.slice (some ⟨bd, od, none⟩) d.length c1) ∧ w11.cell? ⟨w.heap.size + 1, 1, none⟩ = some (.slice B v.length c2) ∧ w11.cell? ⟨bp, k, none⟩ = some (.slice At O.length ct) ∧ w11.cell? ⟨bd, od + a, none⟩ = some (.int .i64 (P : Int)) from ⟨keepB hb11 d1, keepB hb11 d2, keepB hb11 d3', keepB hb11 d4, keepB hb11 d5, keepB hb11 d6⟩); clear hb11 d1 d2 d3' d4 d5 d6))
          have O8 := Lib.hid (O11.out.alloc (.cells #[.int .i64 x] 2))
          have X8 := Lib.hid (one_new w11 x)
          have c7 := O11.out.box.c1
          clear f0 f1 p0 p1
          go_wp2_with (at_builtin; refine wpList_appI numL Tryd.underlying25 rfl (.tmp 91) (.tmp 93) rfl w6.heap.size V ys (by rfl) O8.out.mine (some ⟨w11.heap.size, 0, none⟩) 1 [x] rfl X8.out (by rw [LQ.out]; simp; omega) O8.out.size ?_; intro V' w12 hm8 hg8 ha8; obtain ⟨A8, c8, rfl, -⟩ := hm8.ints; obtain ⟨y0', y1', y2', y3'⟩ := (O8.out.mid hg8).all)
          go_roundw
          case rel => exact ⟨k + 1, _, by omega, by go_num, by rw [HMX.out]; have hm9 := hm8; rw [List.length_append] at hm9; exact O8.out.app hm9 hg8⟩
          case measure => simp [intOf]; omega
        · obtain rfl : k = n := by omega
          have IDx := Lib.hid (IO4.out.below L4r.out)
          generalize hys : (List.range k).map FF = ys at *
          have HY := Lib.hid (show (List.range k).map (reG c s d v b) = ys by rw [HF.out]; exact hys)
          clear hys
          obtain ⟨AV, cV, rfl, -⟩ := Q.out.mine.ints
          obtain ⟨q0, q1, -, -⟩ := Q.out.box.all
          obtain ⟨r0, r1, r2, r3⟩ := BRr.out.all
          have hlr := LWr.out.size
          go_wp2
          have T9 := (BRr.out.set0 (.slice AO O.length cO)).set1 (.slice AV ys.length cV)
          obtain ⟨t0, t1, _, _⟩ := T9.all
          refine bodyPost_ret (v := .tuple #[.agg #[.slice AO O.length cO, .slice AV ys.length cV], .int .i64 0]) (by simp [results, Tryd.results17, go_sem, t0, t1]) rfl ?_
          rw [HY.out]
          exact ⟨AO, cO, AV, cV, rfl, IDx.out.set_box BRr.out _ _, Q.out.mine.ints'.set_box BRr.out _ _, (LWr.out.setCell (by simp; omega) _).setCell (by simp; omega) _⟩
theorem rred_any (c : Int) (s : Bool) (A : Option Addr) (c1 : Nat) (d : List Int) (B : Option Addr) (c2 : Nat) (v : List Int) (b : Bool) (w : World) (id : Ints w A d) (iv : Ints w B v) (hd : d.length ≤ 100) (hv : v.length ≤ 1000) (rv : AllR v) :
    Calls Tryd.prog 17 #[.agg #[.int .i64 c, .bool s], .agg #[.slice A d.length c1, .slice B v.length c2], .bool b] w (RetCI w (reD c d v.length b) (reV c s d v b) (.int .i64 (reE c d v.length b))) := by
  by_cases h : cellB d v.length = true
  rotate_left
  · have h' : cellB d v.length = false := by simpa using h
    obtain ⟨e1, e2, e3⟩ := re_1 (c := c) (s := s) (b := b) h'
    rw [e1, e2, e3]
    exact rred_1 c s A c1 d B c2 v b w id iv hd h'
  by_cases h2 : Sc.hasB c 2 = true
  rotate_left
  · have h2' : Sc.hasB c 2 = false := by simpa using h2
    obtain ⟨e1, e2, e3⟩ := re_13 (s := s) (b := b) h h2'
    rw [e1, e2, e3]
    exact rred_13 c s A c1 d B c2 v b w id iv hd h h2'
  by_cases h0 : d.length = 0
  · obtain ⟨e1, e2, e3⟩ := re_n (s := s) (b := b) h h2 h0
    rw [e1, e2, e3]
    exact rred_n c s A c1 d B c2 v b w id iv hd h h2 h0
  obtain ⟨a, P, st, ok, hst⟩ := ax_of b h (by omega)
  have hP : d.getD (axI d b).toNat 0 = (P : Int) := by rw [axI_nat ok, Int.toNat_natCast, ok.hP]
  have hO : withoutL d (a : Int) = reO d b := by unfold reO; rw [axI_nat ok]
  have hlt := ok.lt
  by_cases h5 : d.getD (axI d b).toNat 0 = 0 ∧ (Sc.trOf c).starts = false
  · obtain ⟨e1, e2, e3⟩ := re_5 (s := s) h h2 h0 h5
    rw [e1, e2, e3]
    exact rred_5 c s A c1 d B c2 v b a P w id iv hd h h2 ok.lt ok.ax ok.hP _ rfl (by have := h5.1; omega) h5.2
  have hpass : P = 0 → (Sc.trOf c).starts = true := fun hp => by
    cases hs : (Sc.trOf c).starts
    · exact absurd ⟨by rw [hP, hp]; rfl, hs⟩ h5
    · rfl
  have hl := reO_len (d := d) (b := b)
  by_cases h4 : rightB (reO d b) = true
  · obtain ⟨e1, e2, e3⟩ := re_0 (s := s) h h2 h0 h5 h4
    obtain ⟨n, hn⟩ : ∃ n : Nat, sizeI (reO d b) = (n : Int) := ⟨(sizeI (reO d b)).toNat, by have := sizeI_bd (reO d b); omega⟩
    have hae : a = 0 ∨ a = (reO d b).length := by
      have hx := ok.ax
      cases b with
      | true => left; simp at hx; omega
      | false =>
        right
        have h1 : (d.length : Int) - 1 = (a : Int) := by simpa using hx
        rw [← hO]
        unfold withoutL
        rw [if_pos ⟨by omega, by omega⟩, Int.toNat_natCast, List.length_eraseIdx]
        rw [if_pos hlt]; omega
    rw [e1, e2, e3, hn, Int.toNat_natCast]
    exact rred_0 c s A c1 d B c2 v b a P w id iv hd h h2 ok.lt ok.ax ok.hP _ rfl hv _ n hpass hO (by omega) h4 hn hae rv
  · have h4' : rightB (reO d b) = false := by simpa using h4
    obtain ⟨e1, e2, e3⟩ := re_4 (s := s) h h2 h0 h5 h4'
    rw [e1, e2, e3]
    exact rred_4 c s A c1 d B c2 v b a P w id iv hd h h2 ok.lt ok.ax ok.hP _ rfl _ hpass hO (by omega) h4'
end Go.Proofs.YticicfbllhnpcaaDoor.Fd
