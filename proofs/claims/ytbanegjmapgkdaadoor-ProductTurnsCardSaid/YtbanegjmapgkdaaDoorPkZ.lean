/-
  What spread.Fit and the document's Fit answer for any two lists of axes; nothing that was there is written. Condition: at most 100 axes each. What spread.number and the functions that spread.Two and spread.One hand on answer at a place; nothing that was there is written. Conditions: the table of traits holds what its text lays; the place is one of the cells'. What spread.made answers for any axes that may be and any function value that answers a number at each place and writes nothing that was there. Condition: the axes may be. What spread.Two answers for any function and any two cells; nothing that was there is written. Conditions: the table of traits holds what its text lays; the numbers have 64 bits; at most 100 axes and 1000 numbers.
-/
import Derived.Test.YtbanegjmapgkdaaDoorPkC
import Derived.Test.YtbanegjmapgkdaaDoorPkX
import Derived.Test.YtbanegjmapgkdaaDoorPkY
set_option maxRecDepth 100000
-- SpFit
namespace Go.Proofs.YtbanegjmapgkdaaDoor.Sh
open Go.RowKit
set_option linter.unusedVariables false

/-- What Fit answers. -/
def fitE (a b : List Int) : Int := if rightB a = true ∧ rightB b = true then (if a.length = 0 ∨ b.length = 0 then 0 else if a.length = b.length then (if a = b then 0 else 3) else 2) else 1
def fitD (a b : List Int) : List Int := if fitE a b = 0 then (if a.length = 0 then b else a) else []
/-- A list of axes and an error. -/
def RetE (w : World) (d : List Int) (x : Int) (e : Ending) (w' : World) : Prop := ∃ A c, e = .returned (.tuple #[.slice A d.length c, .int .i64 x]) ∧ Ints w' A d ∧ Below w.heap.size w w'
theorem fit_bad1 {a b : List Int} (h : rightB a = false) : fitE a b = 1 ∧ fitD a b = [] := by simp [fitE, fitD, h]
theorem fit_bad2 {a b : List Int} (h : rightB b = false) : fitE a b = 1 ∧ fitD a b = [] := by simp [fitE, fitD, h]
theorem fit_l {a b : List Int} (h : rightB a = true) (h' : rightB b = true) (hn : a.length = 0) : fitE a b = 0 ∧ fitD a b = b := by simp [fitE, fitD, h, h', hn]
theorem fit_r {a b : List Int} (h : rightB a = true) (h' : rightB b = true) (hn : ¬ a.length = 0) (hm : b.length = 0) : fitE a b = 0 ∧ fitD a b = a := by simp only [fitE, fitD, h, h', hn, hm]; simp
theorem fit_k {a b : List Int} (h : rightB a = true) (h' : rightB b = true) (hn : ¬ a.length = 0) (hm : ¬ b.length = 0) (hk : ¬ a.length = b.length) : fitE a b = 2 ∧ fitD a b = [] := by simp only [fitE, fitD, h, h', hn, hm, hk]; simp
theorem fit_x {a b : List Int} (h : rightB a = true) (h' : rightB b = true) (hn : ¬ a.length = 0) (hm : ¬ b.length = 0) (hk : a.length = b.length) (hx : ¬ a = b) : fitE a b = 3 ∧ fitD a b = [] := by simp only [fitE, fitD, h, h', hm, hk, hx]; simp
theorem fit_ok {a b : List Int} (h : rightB a = true) (h' : rightB b = true) (hn : ¬ a.length = 0) (hm : ¬ b.length = 0) (hx : a = b) : fitE a b = 0 ∧ fitD a b = a := by subst hx; simp only [fitE, fitD, h, hn]; simp

set_option maxHeartbeats 2000000 in
theorem fit_any (A : Option Addr) (c : Nat) (a : List Int) (B : Option Addr) (c2 : Nat) (b : List Int) (w : World) (ha : a.length ≤ 100) (hb : b.length ≤ 100) (ia : Ints w A a) (ib : Ints w B b) :
    Calls Tryd.prog 53 #[.slice A a.length c, .slice B b.length c2] w (RetE w (fitD a b) (fitE a b)) := by
  have IA := Lib.hid ia
  have IB := Lib.hid ib
  clear ia ib
  by_cases hR : rightB a = true
  · have HR := Lib.hid hR
    by_cases hR2 : rightB b = true
    · have HR2 := Lib.hid hR2
      by_cases hn : a.length = 0
      · obtain ⟨e1, e2⟩ := fit_l hR hR2 hn
        rw [e1, e2]
        have hn' : ((a.length : Int) == 0) = true := by simp [hn]
        clear e1 e2 hR hR2 hn
        go_enter Tryd.func53, Tryd.ntmps53
        go_wp2_with fail
        refine (right_yes _ _ a _ HR.out (by unfold maxLen; omega) IA.out).mono ?_
        rintro r w1 ⟨rfl, hb1⟩
        have L1 := Lib.hid hb1
        clear hb1
        go_wp2_with fail
        refine (right_yes _ _ b _ HR2.out (by unfold maxLen; omega) (IB.out.below L1.out)).mono ?_
        rintro r w2 ⟨rfl, hb2⟩
        have L2 := Lib.hid (below_next L1.out hb2)
        clear hb2
        go_wp2_with fail
        refine (clone_t _ _ b _ hb (IB.out.below L2.out)).mono ?_
        rintro r w3 ⟨A3, c3, rfl, hm3, hb3⟩
        have L9 := Lib.hid (below_next L2.out hb3)
        have M3 := Lib.hid hm3.ints'
        clear hb3 hm3
        go_wp2
        go_ret2
        exact ⟨A3, c3, rfl, M3.out, L9.out⟩
      · have hn' : ((a.length : Int) == 0) = false := by simpa using hn
        by_cases hm : b.length = 0
        · obtain ⟨e1, e2⟩ := fit_r hR hR2 hn hm
          rw [e1, e2]
          have hm' : ((b.length : Int) == 0) = true := by simp [hm]
          clear e1 e2 hR hR2 hn hm
          go_enter Tryd.func53, Tryd.ntmps53
          go_wp2_with fail
          refine (right_yes _ _ a _ HR.out (by unfold maxLen; omega) IA.out).mono ?_
          rintro r w1 ⟨rfl, hb1⟩
          have L1 := Lib.hid hb1
          clear hb1
          go_wp2_with fail
          refine (right_yes _ _ b _ HR2.out (by unfold maxLen; omega) (IB.out.below L1.out)).mono ?_
          rintro r w2 ⟨rfl, hb2⟩
          have L2 := Lib.hid (below_next L1.out hb2)
          clear hb2
          go_wp2_with fail
          refine (clone_t _ _ a _ ha (IA.out.below L2.out)).mono ?_
          rintro r w3 ⟨A3, c3, rfl, hm3, hb3⟩
          have L9 := Lib.hid (below_next L2.out hb3)
          have M3 := Lib.hid hm3.ints'
          clear hb3 hm3
          go_wp2
          go_ret2
          exact ⟨A3, c3, rfl, M3.out, L9.out⟩
        · have hm' : ((b.length : Int) == 0) = false := by simpa using hm
          by_cases hk : a.length = b.length
          · have hk' : ((a.length : Int) != (b.length : Int)) = false := by simp [hk]
            by_cases hx : a = b
            · have HX := Lib.hid hx
              obtain ⟨e1, e2⟩ := fit_ok hR hR2 hn hm hx
              rw [e1, e2]
              clear e1 e2 hR hR2 hn hm hk hx
              go_enter Tryd.func53, Tryd.ntmps53
              go_wp2_with fail
              refine (right_yes _ _ a _ HR.out (by unfold maxLen; omega) IA.out).mono ?_
              rintro r w1 ⟨rfl, hb1⟩
              have L1 := Lib.hid hb1
              clear hb1
              go_wp2_with fail
              refine (right_yes _ _ b _ HR2.out (by unfold maxLen; omega) (IB.out.below L1.out)).mono ?_
              rintro r w2 ⟨rfl, hb2⟩
              have L2 := Lib.hid (below_next L1.out hb2)
              clear hb2
              go_wp2_with fail
              refine (same_yes _ _ a _ _ b _ (by unfold maxLen; omega) (by unfold maxLen; omega) (IA.out.below L2.out) (IB.out.below L2.out) HX.out).mono ?_
              rintro r w3 ⟨rfl, hb3⟩
              have L3 := Lib.hid (below_next L2.out hb3)
              clear hb3
              go_wp2_with fail
              refine (clone_t _ _ a _ ha (IA.out.below L3.out)).mono ?_
              rintro r w4 ⟨A3, c3, rfl, hm3, hb3⟩
              have L9 := Lib.hid (below_next L3.out hb3)
              have M3 := Lib.hid hm3.ints'
              clear hb3 hm3
              go_wp2
              go_ret2
              exact ⟨A3, c3, rfl, M3.out, L9.out⟩
            · have HX := Lib.hid hx
              obtain ⟨e1, e2⟩ := fit_x hR hR2 hn hm hk hx
              rw [e1, e2]
              clear e1 e2 hR hR2 hn hm hk hx
              go_enter Tryd.func53, Tryd.ntmps53
              go_wp2_with fail
              refine (right_yes _ _ a _ HR.out (by unfold maxLen; omega) IA.out).mono ?_
              rintro r w1 ⟨rfl, hb1⟩
              have L1 := Lib.hid hb1
              clear hb1
              go_wp2_with fail
              refine (right_yes _ _ b _ HR2.out (by unfold maxLen; omega) (IB.out.below L1.out)).mono ?_
              rintro r w2 ⟨rfl, hb2⟩
              have L2 := Lib.hid (below_next L1.out hb2)
              clear hb2
              go_wp2_with fail
              refine (same_no _ _ a _ _ b _ (by unfold maxLen; omega) (by unfold maxLen; omega) (IA.out.below L2.out) (IB.out.below L2.out) HX.out).mono ?_
              rintro r w3 ⟨rfl, hb3⟩
              have L3 := Lib.hid (below_next L2.out hb3)
              clear hb3
              go_wp2
              go_ret2
              exact ⟨none, 0, rfl, Ints.nil _ _, L3.out⟩
          · have hk' : ((a.length : Int) != (b.length : Int)) = true := by simp; omega
            obtain ⟨e1, e2⟩ := fit_k hR hR2 hn hm hk
            rw [e1, e2]
            clear e1 e2 hR hR2 hn hm hk
            go_enter Tryd.func53, Tryd.ntmps53
            go_wp2_with fail
            refine (right_yes _ _ a _ HR.out (by unfold maxLen; omega) IA.out).mono ?_
            rintro r w1 ⟨rfl, hb1⟩
            have L1 := Lib.hid hb1
            clear hb1
            go_wp2_with fail
            refine (right_yes _ _ b _ HR2.out (by unfold maxLen; omega) (IB.out.below L1.out)).mono ?_
            rintro r w2 ⟨rfl, hb2⟩
            have L2 := Lib.hid (below_next L1.out hb2)
            clear hb2
            go_wp2
            go_ret2
            exact ⟨none, 0, rfl, Ints.nil _ _, L2.out⟩
    · have HR2 := Lib.hid (show rightB b = false by simpa using hR2)
      obtain ⟨e1, e2⟩ := fit_bad2 (a := a) HR2.out
      rw [e1, e2]
      clear e1 e2 hR hR2
      go_enter Tryd.func53, Tryd.ntmps53
      go_wp2_with fail
      refine (right_yes _ _ a _ HR.out (by unfold maxLen; omega) IA.out).mono ?_
      rintro r w1 ⟨rfl, hb1⟩
      have L1 := Lib.hid hb1
      clear hb1
      go_wp2_with fail
      refine (right_no _ _ b _ HR2.out (by unfold maxLen; omega) (IB.out.below L1.out)).mono ?_
      rintro r w2 ⟨rfl, hb2⟩
      have L2 := Lib.hid (below_next L1.out hb2)
      clear hb2
      go_wp2
      go_ret2
      exact ⟨none, 0, rfl, Ints.nil _ _, L2.out⟩
  · have HR := Lib.hid (show rightB a = false by simpa using hR)
    obtain ⟨e1, e2⟩ := fit_bad1 (b := b) HR.out
    rw [e1, e2]
    clear e1 e2 hR
    go_enter Tryd.func53, Tryd.ntmps53
    go_wp2_with fail
    refine (right_no _ _ a _ HR.out (by unfold maxLen; omega) IA.out).mono ?_
    rintro r w1 ⟨rfl, hb1⟩
    have L1 := Lib.hid hb1
    clear hb1
    go_wp2
    go_ret2
    exact ⟨none, 0, rfl, Ints.nil _ _, L1.out⟩

end Go.Proofs.YtbanegjmapgkdaaDoor.Sh
-- SpNum
namespace Go.Proofs.YtbanegjmapgkdaaDoor.Sp
open Go.Proofs.YtbanegjmapgkdaaDoor.Sh
open Go.RowKit
set_option linter.unusedVariables false

/-- The number of a cell at an Index of the axes that it is spread to. -/
def numA (d v : List Int) (i : Nat) : Int := v.getD (if d.length = 0 then 0 else i) 0
/-- Is there one? -/
def okA (d v : List Int) (i : Nat) : Prop := (d.length = 0 → 0 < v.length) ∧ (¬ d.length = 0 → i < v.length)
def AllR (v : List Int) : Prop := ∀ x ∈ v, Sc.InR x
theorem numA_R {d v : List Int} {i : Nat} (h : AllR v) : Sc.InR (numA d v i) := by
  unfold numA
  generalize (if d.length = 0 then 0 else i) = k
  rcases Nat.lt_or_ge k v.length with hk | hk
  · have : v.getD k 0 = v[k] := by simp [List.getD, hk]
    rw [this]; exact h _ (List.getElem_mem hk)
  · have : v.getD k 0 = 0 := by simp [List.getD, hk]
    rw [this]; unfold Sc.InR; omega

set_option maxHeartbeats 1000000 in
theorem number_any (A : Option Addr) (c : Nat) (d : List Int) (B : Option Addr) (c2 : Nat) (v : List Int) (i : Nat) (x : Int) (w : World) (hx : numA d v i = x) (hk : okA d v i) (hd : d.length ≤ 100) (hv : v.length ≤ 1000) (iv : Ints w B v) :
    Calls Tryd.prog 57 #[.agg #[.slice A d.length c, .slice B v.length c2], .int .i64 (i : Int)] w fun e w' => e = .returned (.int .i64 x) ∧ Below w.heap.size w w' := by
  obtain ⟨s0, s1, _, _⟩ := (Box.new w (.slice A d.length c) (.slice B v.length c2)).all
  have hB : Below w.heap.size w (w.alloc (.cells #[.slice A d.length c, .slice B v.length c2] 29)) := below_box (Below.refl _ _)
  have iv1 := iv.below hB
  have L0 := Lib.hid hB
  clear hB iv
  by_cases hn : d.length = 0
  · have hn' : ((d.length : Int) == 0) = true := by simp [hn]
    have h0 : 0 < v.length := hk.1 hn
    obtain ⟨b, off, rfl, hb, hcs⟩ := iv1 h0
    have hck := hcs 0 h0
    rw [Nat.add_zero] at hck
    have hx' : v.getD 0 0 = x := by rw [← hx]; simp [numA, hn]
    rw [hx'] at hck
    have i0 : (0 : Int) < (v.length : Int) := by omega
    clear hx hx' hn hk hcs
    go_enter Tryd.func57, Tryd.ntmps57
    go_wp2
    go_ret
    exact ⟨rfl, L0.out⟩
  · have hn' : ((d.length : Int) == 0) = false := by simpa using hn
    have h0 : i < v.length := hk.2 hn
    obtain ⟨b, off, rfl, hb, hcs⟩ := iv1 (by omega)
    have hck := hcs i h0
    have hx' : v.getD i 0 = x := by rw [← hx]; simp [numA, hn]
    rw [hx'] at hck
    have i0 : (0 : Int) ≤ (i : Int) := by omega
    have i1 : (i : Int) < (v.length : Int) := by omega
    clear hx hx' hn hk hcs
    go_enter Tryd.func57, Tryd.ntmps57
    go_wp2
    go_ret
    exact ⟨rfl, L0.out⟩

theorem keep6 {W w1 : World} {p1 p2 p3 p4 p5 p6 : Addr} {x1 x2 x3 x4 x5 x6 : Value} (hb : Below W.heap.size W w1) (h : W.cell? p1 = some x1 ∧ W.cell? p2 = some x2 ∧ W.cell? p3 = some x3 ∧ W.cell? p4 = some x4 ∧ W.cell? p5 = some x5 ∧ W.cell? p6 = some x6) :
    w1.cell? p1 = some x1 ∧ w1.cell? p2 = some x2 ∧ w1.cell? p3 = some x3 ∧ w1.cell? p4 = some x4 ∧ w1.cell? p5 = some x5 ∧ w1.cell? p6 = some x6 :=
  have k : ∀ {p : Addr} {x : Value}, W.cell? p = some x → w1.cell? p = some x := fun {p x} hp => (hb.cell (World.block_lt_of_cell? W p hp)).trans hp
  ⟨k h.1, k h.2.1, k h.2.2.1, k h.2.2.2.1, k h.2.2.2.2.1, k h.2.2.2.2.2⟩

set_option maxHeartbeats 4000000 in
theorem two1_any (c : Int) (s : Bool) (gf ga gb : Nat) (A : Option Addr) (c1 : Nat) (d : List Int) (B : Option Addr) (c2 : Nat) (v : List Int) (A' : Option Addr) (c1' : Nat) (e : List Int) (B' : Option Addr) (c2' : Nat) (u : List Int) (i : Nat) (x : Int) (w : World)
    (hx : Sc.doI c s (numA d v i) (numA e u i) = x) (hT : Sc.Tab w) (hf0 : w.cell? ⟨gf, 0, none⟩ = some (.int .i64 c)) (hf1 : w.cell? ⟨gf, 1, none⟩ = some (.bool s))
    (ba : Box w ga (.slice A d.length c1) (.slice B v.length c2)) (bb : Box w gb (.slice A' e.length c1') (.slice B' u.length c2')) (iv : Ints w B v) (iu : Ints w B' u)
    (hk : okA d v i) (hk' : okA e u i) (hd : d.length ≤ 100) (hv : v.length ≤ 1000) (he : e.length ≤ 100) (hu : u.length ≤ 1000) (rv : AllR v) (ru : AllR u) :
    Calls Tryd.prog 55 #[.int .i64 (i : Int), .pointer (some ⟨gf, 0, none⟩), .pointer (some ⟨ga, 0, none⟩), .pointer (some ⟨gb, 0, none⟩)] w fun r w' => r = .returned (.int .i64 x) ∧ Below w.heap.size w w' := by
  obtain ⟨y, hy⟩ : ∃ y, numA d v i = y := ⟨_, rfl⟩
  obtain ⟨z, hz⟩ : ∃ z, numA e u i = z := ⟨_, rfl⟩
  have yR : Sc.InR y := hy ▸ numA_R rv
  have zR : Sc.InR z := hz ▸ numA_R ru
  rw [hy, hz] at hx
  obtain ⟨tb, htb⟩ : ∃ tb, Sc.twoB c = tb := ⟨_, rfl⟩
  have hdo : ∀ W, Sc.Tab W → Calls Tryd.prog 56 #[.agg #[.int .i64 c, .bool s], .int .i64 y, .int .i64 z] W fun e w' => e = .returned (.tuple #[.int .i64 x, .bool tb]) ∧ Below W.heap.size W w' := fun W hW => by
    rw [← hx, ← htb]; exact Sc.do_any c s y z W hW yR zR
  have HDO := Lib.hid hdo
  have HY := Lib.hid hy
  have HZ := Lib.hid hz
  have HK := Lib.hid hk
  have HK' := Lib.hid hk'
  have T0 : Sc.Tab w.drew := hT.below ((Below.refl _ w).drew)
  obtain ⟨a0, a1, _, _⟩ := ba.all
  obtain ⟨b0, b1, _, _⟩ := bb.all
  have L0 := Lib.hid ((Below.refl w.heap.size w).drew)
  have iv0 : Ints w.drew B v := iv
  have iu0 : Ints w.drew B' u := iu
  clear hx hdo hy hz hk hk' hT ba bb iv iu rv ru htb
  go_enter Tryd.func55, Tryd.ntmps55
  go_wp2_with fail
  go_region_held3 (fun w' => w'.cell? ⟨gf, 0, none⟩ = some (.int .i64 c) ∧ w'.cell? ⟨gf, 1, none⟩ = some (.bool s) ∧ w'.cell? ⟨ga, 0, none⟩ = some (.slice A d.length c1) ∧ w'.cell? ⟨ga, 1, none⟩ = some (.slice B v.length c2) ∧ w'.cell? ⟨gb, 0, none⟩ = some (.slice A' e.length c1') ∧ w'.cell? ⟨gb, 1, none⟩ = some (.slice B' u.length c2'))
    (first
      | go_keep
      | exact ⟨hf0, hf1, a0, a1, b0, b1⟩
      | exact keep6 hb1 (by go_keep)
      | exact keep6 hb2 (by go_keep)
      | exact keep6 hb3 (by go_keep))
    (first
      | (go_at_call 57; (with_reducible refine (number_any A c1 d B c2 v i y w.drew HY.out HK.out hd hv iv0).mono ?_); rintro r w1 ⟨rfl, hb1⟩; have iu1 := iu0.below hb1; have T1 := T0.below hb1; have M1 := Lib.hid (Go.Proofs.YtbanegjmapgkdaaDoor.Sh.below_next L0.out hb1))
      | (go_at_call 57; (with_reducible refine (number_any A' c1' e B' c2' u i z w1 HZ.out HK'.out he hu iu1).mono ?_); rintro r w2 ⟨rfl, hb2⟩; have T2 := T1.below hb2; have M2 := Lib.hid (Go.Proofs.YtbanegjmapgkdaaDoor.Sh.below_next M1.out hb2))
      | (go_at_call 56; (with_reducible refine (HDO.out w2 T2).mono ?_); rintro r w3 ⟨rfl, hb3⟩; have M3 := Lib.hid (Go.Proofs.YtbanegjmapgkdaaDoor.Sh.below_next M2.out hb3)))
  go_wp2
  go_ret
  exact ⟨rfl, by first | exact M3.out | exact M3.out.drew | exact below_drewN M3.out _⟩
end Go.Proofs.YtbanegjmapgkdaaDoor.Sp
-- SpMade
namespace Go.Proofs.YtbanegjmapgkdaaDoor.Sh
open Go.RowKit
set_option linter.unusedVariables false

set_option maxHeartbeats 4000000 in
theorem made_two (p1 p2 p3 : Value) (A : Option Addr) (c : Nat) (d : List Int) (f : Nat → Int) (n : Nat) (w : World) (hd : d.length ≤ 100) (id : Ints w A d) (hR : rightB d = true) (hn : sizeI d = n)
    (hf : ∀ i, i < n → ∀ W, Below w.heap.size w W → Calls Tryd.prog 55 #[.int .i64 (i : Int), p1, p2, p3] W fun r W' => r = .returned (.int .i64 (f i)) ∧ Below W.heap.size W W') :
    Calls Tryd.prog 54 #[.slice A d.length c, .func (.func 55) #[] #[p1, p2, p3]] w (RetC1 w d ((List.range n).map f)) := by
  obtain ⟨h3, hall, h64⟩ := rightB_all hR
  have hn64 : n ≤ 64 := by have : sizeI d = prod d := sizeI_mk h3 hall h64; omega
  have hz := fun W iW => zero_m A c d W hd iW hR
  rw [hn, Int.toNat_natCast] at hz
  have HZ := Lib.hid hz
  have HF := Lib.hid hf
  have B0 := Lib.hid (Box.new w (.slice none 0 0) (.slice none 0 0))
  have L0 := Lib.hid (show Below w.heap.size w (w.alloc (.cells #[.slice none 0 0, .slice none 0 0] 29)) from below_box (Below.refl _ _))
  have I0 := Lib.hid (id.below L0.out)
  clear hz hf hR hall h64 h3 hn id
  go_enter Tryd.func54, Tryd.ntmps54
  go_wp2_with fail
  refine (HZ.out _ I0.out).mono ?_
  rintro r w1 ⟨A1, c1, g, rfl, hm1, hr1, hg1, hb1⟩
  have L1 := Lib.hid (below_next L0.out hb1)
  have B1 := Lib.hid (B0.out.next hb1)
  have M1 := Lib.hid hm1
  have R1 := Lib.hid (show Row64 w1 g (List.replicate n 0) from hr1)
  have hgs : w.heap.size < g := by have : w.heap.size + 1 ≤ g := by simpa using hg1
                                   omega
  have hg1' : g < w1.heap.size := R1.out.lt
  clear hm1 hr1 hg1 hb1
  have B2 := Lib.hid (Box.new w1 (.slice A1 d.length c1) (.slice (some ⟨g, 0, none⟩) n n))
  have K2 := Lib.hid (show Below w1.heap.size w1 (w1.alloc (.cells #[.slice A1 d.length c1, .slice (some ⟨g, 0, none⟩) n n] 29)) from below_box (Below.refl _ _))

  go_wp2
  go_loopw [12] (fun j wr => ∃ k : Nat, k ≤ n ∧ j = .int .i64 (k : Int) ∧ (w1.alloc (.cells #[.slice A1 d.length c1, .slice (some ⟨g, 0, none⟩) n n] 29)).grownBy wr (some g) ∧ Row64 wr g (fillK f n k)) (fun j _ => n - (intOf j).toNat)
  case atStart => exact ⟨0, Nat.zero_le _, rfl, turned_refl _ _, by rw [fillK_0]; exact R1.out.alloc _⟩
  case round =>
    obtain ⟨k, hk, rfl, hgr, hrw⟩ := hrel
    have GR := Lib.hid hgr
    have RW := Lib.hid hrw
    have BB := Lib.hid (B2.out.grown hgr (fun e => by injection e with e; omega))
    have LB := Lib.hid (below_turned (below_next L1.out K2.out) hgr (Nat.le_of_lt hgs))
    clear hgr hrw
    by_cases hlt : k < n
    · have hfk := HF.out k hlt wr.drew LB.out.drew
      have HFK := Lib.hid hfk
      have q1 := BB.out.c1
      have i0 : (0 : Int) ≤ (k : Int) := by omega
      have i1 : (k : Int) < (n : Int) := by omega
      clear hfk
      go_wp2
      go_region_held3 (fun w' => w'.cell? ⟨w1.heap.size, 1, none⟩ = some (.slice (some ⟨g, 0, none⟩) n n))
        (first
          | go_keep
          | exact q1
          | exact keep1 hb2 (by go_keep)
          | exact (World.cell?_setCell_other _ _ _ _ (fun e => by injection e with e1; omega)).trans (keep1 hb2 q1))
        (first
          | (go_at_call 55; (with_reducible refine (HFK.out).mono ?_); rintro r w2 ⟨rfl, hb2⟩; have R2 := Lib.hid (RW.out.drew.next hb2); have f2 := R2.out.frozen k; have x2 := R2.out.cell (i := k) (by rw [fillK_length]; exact hlt); have G2 := Lib.hid (turned_below (turned_drew GR.out) hb2)))
      go_wp2
      go_roundw
      case rel => exact ⟨k + 1, by omega, by go_num, turned_set G2.out k _, by rw [← fillK_succ f n k hlt]; exact R2.out.set_ k _⟩
      case measure => simp [intOf]; omega
    · obtain rfl : k = n := by omega
      have B3 := Lib.hid ((B1.out.alloc (.cells #[.slice A1 d.length c1, .slice (some ⟨g, 0, none⟩) k k] 29)).grown GR.out (fun e => by injection e with e; omega))
      obtain ⟨s0, s1, _, _⟩ := BB.out.all
      obtain ⟨y0, y1, y2, y3⟩ := B3.out.all
      go_wp2
      have T := (B3.out.set0 (.slice A1 d.length c1)).set1 (.slice (some ⟨g, 0, none⟩) k k)
      obtain ⟨t0, t1, _, _⟩ := T.all
      refine bodyPost_ret (v := .agg #[.slice A1 d.length c1, .slice (some ⟨g, 0, none⟩) k k]) (by simp [results, Tryd.results54, go_sem, t0, t1]) rfl ?_
      have hrn := RW.out
      rw [fillK_n] at hrn
      have hl : ((List.range k).map f).length = k := by simp
      have m1 := mine_turned (M1.out.alloc (.cells #[.slice A1 d.length c1, .slice (some ⟨g, 0, none⟩) k k] 29)) (R1.out.alloc _) (by decide) GR.out
      have m2 := mine_block (base := g) hrn (Nat.le_refl _) (by rw [hl]; unfold maxLen; omega)
      have hic := isCell_of (base := w.heap.size) (m1.box (by simp) (.slice A1 d.length c1) (.slice (some ⟨g, 0, none⟩) k k)) (m2.box hgs (.slice A1 d.length c1) (.slice (some ⟨g, 0, none⟩) k k)) (by simp) (Nat.le_of_lt hgs)
      rw [hl] at hic
      exact ⟨_, rfl, hic, (LB.out.setCell (Nat.le_refl _) _).setCell (Nat.le_refl _) _⟩
end Go.Proofs.YtbanegjmapgkdaaDoor.Sh
-- SpTwo
namespace Go.Proofs.YtbanegjmapgkdaaDoor.Sp
open Go.Proofs.YtbanegjmapgkdaaDoor.Sh
open Go.RowKit
set_option linter.unusedVariables false

/-- What Two answers. -/
def twoE (c : Int) (d : List Int) (n : Nat) (e : List Int) (m : Nat) : Int := if cellB d n = true ∧ cellB e m = true then (if Sc.hasB c 2 = true then fitE d e else 13) else 1
def twoD (c : Int) (d : List Int) (n : Nat) (e : List Int) (m : Nat) : List Int := if twoE c d n e m = 0 then fitD d e else []
def twoF (c : Int) (s : Bool) (d v e u : List Int) (i : Nat) : Int := Sc.doI c s (numA d v i) (numA e u i)
def twoV (c : Int) (s : Bool) (d v e u : List Int) : List Int := if twoE c d v.length e u.length = 0 then (List.range (sizeI (fitD d e)).toNat).map (twoF c s d v e u) else []
section
variable {c : Int} {s : Bool} {d v e u : List Int}
theorem two_bad1 (h : cellB d v.length = false) : twoE c d v.length e u.length = 1 ∧ twoD c d v.length e u.length = [] ∧ twoV c s d v e u = [] := by simp [twoD, twoV, twoE, h]
theorem two_bad2 (h : cellB e u.length = false) : twoE c d v.length e u.length = 1 ∧ twoD c d v.length e u.length = [] ∧ twoV c s d v e u = [] := by simp [twoD, twoV, twoE, h]
theorem two_bad3 (h1 : cellB d v.length = true) (h2 : cellB e u.length = true) (h : Sc.hasB c 2 = false) : twoE c d v.length e u.length = 13 ∧ twoD c d v.length e u.length = [] ∧ twoV c s d v e u = [] := by simp [twoD, twoV, twoE, h, h1, h2]
theorem two_bad4 (h1 : cellB d v.length = true) (h2 : cellB e u.length = true) (h3 : Sc.hasB c 2 = true) {x : Int} (hx : fitE d e = x) (h : ¬ x = 0) : twoE c d v.length e u.length = x ∧ twoD c d v.length e u.length = [] ∧ twoV c s d v e u = [] := by subst hx; simp [twoD, twoV, twoE, h, h1, h2, h3]
theorem two_good (h1 : cellB d v.length = true) (h2 : cellB e u.length = true) (h3 : Sc.hasB c 2 = true) (h : fitE d e = 0) {n : Nat} (hn : sizeI (fitD d e) = n) : twoE c d v.length e u.length = 0 ∧ twoD c d v.length e u.length = fitD d e ∧ twoV c s d v e u = (List.range n).map (twoF c s d v e u) := by simp [twoD, twoV, twoE, h, h1, h2, h3, hn]
end
theorem fitE_0 {d e : List Int} (h : fitE d e = 0) : rightB d = true ∧ rightB e = true ∧ ((d.length = 0 ∧ fitD d e = e) ∨ (¬ d.length = 0 ∧ fitD d e = d ∧ (e.length = 0 ∨ d = e))) := by
  have hD : fitD d e = if d.length = 0 then e else d := by unfold fitD; rw [if_pos h]
  rw [hD]
  unfold fitE at h
  split at h
  · rename_i hr
    refine ⟨hr.1, hr.2, ?_⟩
    split at h
    · rename_i hz
      by_cases h0 : d.length = 0
      · exact .inl ⟨h0, by rw [if_pos h0]⟩
      · exact .inr ⟨h0, by rw [if_neg h0], .inl (by omega)⟩
    · rename_i hz
      have h0 : ¬ d.length = 0 := by omega
      split at h
      · split at h
        · rename_i hde
          exact .inr ⟨h0, by rw [if_neg h0], .inr hde⟩
        · omega
      · omega
  · omega
theorem sizeI_nil : sizeI [] = 1 := by decide
theorem fit_right {d e : List Int} (h : fitE d e = 0) : rightB (fitD d e) = true := by
  obtain ⟨h1, h2, ⟨_, h3⟩ | ⟨_, h3, _⟩⟩ := fitE_0 h <;> rw [h3] <;> assumption
theorem fit_len {d e : List Int} (hd : d.length ≤ 100) (he : e.length ≤ 100) : (fitD d e).length ≤ 100 := by
  unfold fitD; split
  · split <;> omega
  · simp
theorem cellB_n {d : List Int} {n : Nat} (h : cellB d n = true) : (n : Int) = sizeI d := (cellB_parts h).2
theorem fit_ok1 {d e v : List Int} {i : Nat} (h : fitE d e = 0) (h1 : cellB d v.length = true) (hi : (i : Int) < sizeI (fitD d e)) : okA d v i := by
  obtain ⟨_, _, hc⟩ := fitE_0 h
  have hn := cellB_n h1
  refine ⟨fun h0 => ?_, fun h0 => ?_⟩
  · obtain rfl := List.eq_nil_of_length_eq_zero h0
    rw [sizeI_nil] at hn; omega
  · rcases hc with ⟨h', _⟩ | ⟨_, h', _⟩
    · exact absurd h' h0
    · rw [h'] at hi; omega
theorem fit_ok2 {d e u : List Int} {i : Nat} (h : fitE d e = 0) (h1 : cellB e u.length = true) (hi : (i : Int) < sizeI (fitD d e)) : okA e u i := by
  obtain ⟨_, _, hc⟩ := fitE_0 h
  have hn := cellB_n h1
  refine ⟨fun h0 => ?_, fun h0 => ?_⟩
  · obtain rfl := List.eq_nil_of_length_eq_zero h0
    rw [sizeI_nil] at hn; omega
  · rcases hc with ⟨_, h'⟩ | ⟨_, h', h2 | h2⟩
    · rw [h'] at hi; omega
    · exact absurd h2 h0
    · rw [h', h2] at hi; omega
theorem sizeI_nat (d : List Int) (h : rightB d = true) : ∃ n : Nat, sizeI d = n ∧ n ≤ 64 := by
  obtain ⟨h3, hall, h64⟩ := rightB_all h
  have hp := (prod_bd d hall).1
  exact ⟨(prod d).toNat, by rw [sizeI_mk h3 hall h64]; omega, by omega⟩

theorem fit_v (A : Option Addr) (c : Nat) (a : List Int) (B : Option Addr) (c2 : Nat) (b : List Int) (w : World) (x : Int) (D : List Int) (hx : fitE a b = x) (hD : fitD a b = D) (ha : a.length ≤ 100) (hb : b.length ≤ 100) (ia : Ints w A a) (ib : Ints w B b) :
    Calls Tryd.prog 53 #[.slice A a.length c, .slice B b.length c2] w (RetE w D x) := by subst hx hD; exact fit_any A c a B c2 b w ha hb ia ib
/-- The box of a function. -/
theorem fn_new (w : World) (x y : Value) : (w.alloc (.cells #[x, y] 23)).cell? ⟨w.heap.size, 0, none⟩ = some x ∧ (w.alloc (.cells #[x, y] 23)).cell? ⟨w.heap.size, 1, none⟩ = some y :=
  ⟨by rw [World.cell?_alloc_at _ _ _ _ (by simp)]; rfl, by rw [World.cell?_alloc_at _ _ _ _ (by simp)]; rfl⟩
theorem keepFn {W w1 : World} {g : Nat} {x y : Value} (hb : Below W.heap.size W w1) (h : W.cell? ⟨g, 0, none⟩ = some x ∧ W.cell? ⟨g, 1, none⟩ = some y) :
    w1.cell? ⟨g, 0, none⟩ = some x ∧ w1.cell? ⟨g, 1, none⟩ = some y :=
  ⟨(hb.cell (p := ⟨g, 0, none⟩) (World.block_lt_of_cell? W ⟨g, 0, none⟩ h.1)).trans h.1, (hb.cell (p := ⟨g, 1, none⟩) (World.block_lt_of_cell? W ⟨g, 0, none⟩ h.1)).trans h.2⟩
/-- The world behind the boxes of a function and of two cells. -/
def W3 (w : World) (c : Int) (s : Bool) (x y z t : Value) : World := ((w.alloc (.cells #[.int .i64 c, .bool s] 23)).alloc (.cells #[x, y] 29)).alloc (.cells #[z, t] 29)
theorem w3_all (w : World) (c : Int) (s : Bool) (x y z t : Value) :
    ((W3 w c s x y z t).cell? ⟨w.heap.size, 0, none⟩ = some (.int .i64 c) ∧ (W3 w c s x y z t).cell? ⟨w.heap.size, 1, none⟩ = some (.bool s)) ∧ Box (W3 w c s x y z t) (w.heap.size + 1) x y ∧ Box (W3 w c s x y z t) (w.heap.size + 1 + 1) z t ∧ Below w.heap.size w (W3 w c s x y z t) ∧ (W3 w c s x y z t).heap.size = w.heap.size + 1 + 1 + 1 := by
  have e1 : (w.alloc (.cells #[.int .i64 c, .bool s] 23)).heap.size = w.heap.size + 1 := by simp
  have e2 : ((w.alloc (.cells #[.int .i64 c, .bool s] 23)).alloc (.cells #[x, y] 29)).heap.size = w.heap.size + 1 + 1 := by simp
  have b1 := below_new w (.cells #[.int .i64 c, .bool s] 23)
  have b2 := below_new (w.alloc (.cells #[.int .i64 c, .bool s] 23)) (.cells #[x, y] 29)
  have b3 := below_new ((w.alloc (.cells #[.int .i64 c, .bool s] 23)).alloc (.cells #[x, y] 29)) (.cells #[z, t] 29)
  refine ⟨keepFn b3 (keepFn b2 (fn_new w _ _)), ?_, ?_, Sh.below_next b1 (Sh.below_next b2 b3), by simp [W3]⟩
  · have := (Box.new (w.alloc (.cells #[.int .i64 c, .bool s] 23)) x y).next b3
    rw [e1] at this; exact this
  · have := Box.new ((w.alloc (.cells #[.int .i64 c, .bool s] 23)).alloc (.cells #[x, y] 29)) z t
    rw [e2] at this; exact this

set_option maxHeartbeats 4000000 in
theorem two_any (c : Int) (s : Bool) (A : Option Addr) (c1 : Nat) (d : List Int) (B : Option Addr) (c2 : Nat) (v : List Int) (A' : Option Addr) (c1' : Nat) (e : List Int) (B' : Option Addr) (c2' : Nat) (u : List Int) (w : World) (hT : Sc.Tab w) (id : Ints w A d) (iv : Ints w B v) (ie : Ints w A' e) (iu : Ints w B' u) (hd : d.length ≤ 100) (hv : v.length ≤ 1000) (he : e.length ≤ 100) (hu : u.length ≤ 1000) (rv : AllR v) (ru : AllR u) :
    Calls Tryd.prog 19 #[.agg #[.int .i64 c, .bool s], .agg #[.slice A d.length c1, .slice B v.length c2], .agg #[.slice A' e.length c1', .slice B' u.length c2']] w (RetC w (twoD c d v.length e u.length) (twoV c s d v e u) (.int .i64 (twoE c d v.length e u.length))) := by
  have RV := Lib.hid rv
  have RU := Lib.hid ru
  clear rv ru
  by_cases h1 : cellB d v.length = true
  · by_cases h2 : cellB e u.length = true
    · by_cases h3 : Sc.hasB c 2 = true
      · obtain ⟨x, hx⟩ : ∃ x, fitE d e = x := ⟨_, rfl⟩
        by_cases h4 : x = 0
        · subst h4
          obtain ⟨n, hn, hn64⟩ := sizeI_nat _ (fit_right hx)
          obtain ⟨e1, e2, e3⟩ := two_good (s := s) h1 h2 h3 hx hn
          rw [e1, e2, e3]
          have H8 := Lib.hid (fun (i : Nat) (hi : i < n) => (⟨fit_ok1 hx h1 (by omega), fit_ok2 hx h2 (by omega)⟩ : okA d v i ∧ okA e u i))
          have H6 := Lib.hid (fit_right hx)
          have H7 := Lib.hid hn
          have H1 := Lib.hid h1
          have H2 := Lib.hid h2
          have H3 := Lib.hid h3
          have H4 := Lib.hid hx
          have HDL := Lib.hid (fit_len hd he)
          clear h1 h2 h3 hx hn e1 e2 e3
          obtain ⟨D, hD⟩ : ∃ D, fitD d e = D := ⟨_, rfl⟩
          have H5 := Lib.hid hD
          rw [hD] at H6 H7 HDL ⊢
          clear hD
          obtain ⟨hf0, ba0, bb0, hb0, hs0⟩ := w3_all w c s (.slice A d.length c1) (.slice B v.length c2) (.slice A' e.length c1') (.slice B' u.length c2')
          have hb := below_new (W3 w c s (.slice A d.length c1) (.slice B v.length c2) (.slice A' e.length c1') (.slice B' u.length c2')) (.cells #[.slice none 0 0, .slice none 0 0] 29)
          have br0 := Box.new (W3 w c s (.slice A d.length c1) (.slice B v.length c2) (.slice A' e.length c1') (.slice B' u.length c2')) (.slice none 0 0) (.slice none 0 0)
          rw [hs0] at br0
          have FF := Lib.hid (keepFn hb hf0)
          have BA := Lib.hid (ba0.next hb)
          have BB := Lib.hid (bb0.next hb)
          have BR := Lib.hid (br0)
          have L := Lib.hid (Sh.below_next hb0 hb)
          have T := Lib.hid (hT.below L.out)
          have ID := Lib.hid (id.below L.out)
          have IV := Lib.hid (iv.below L.out)
          have IE := Lib.hid (ie.below L.out)
          have IU := Lib.hid (iu.below L.out)
          clear hb hf0 ba0 bb0 hb0 hs0 br0 hT id iv ie iu
          unfold W3 at *
          go_enter Tryd.func19, Tryd.ntmps19
          go_wp2_with fail
          refine (cright_yes _ _ d _ _ _ _ (by unfold maxLen; omega) ID.out H1.out).mono ?_
          rintro r w1 ⟨rfl, hb⟩
          replace FF := Lib.hid (keepFn hb FF.out)
          replace BA := Lib.hid (BA.out.next hb)
          replace BB := Lib.hid (BB.out.next hb)
          replace BR := Lib.hid (BR.out.next hb)
          replace L := Lib.hid (Sh.below_next L.out hb)
          replace T := Lib.hid (T.out.below hb)
          replace ID := Lib.hid (ID.out.below hb)
          replace IV := Lib.hid (IV.out.below hb)
          replace IE := Lib.hid (IE.out.below hb)
          replace IU := Lib.hid (IU.out.below hb)
          clear hb
          obtain ⟨qBB0, qBB1, -, -⟩ := BB.out.all
          go_wp2_with fail
          refine (cright_yes _ _ e _ _ _ _ (by unfold maxLen; omega) IE.out H2.out).mono ?_
          rintro r w2 ⟨rfl, hb⟩
          clear qBB0 qBB1
          replace FF := Lib.hid (keepFn hb FF.out)
          replace BA := Lib.hid (BA.out.next hb)
          replace BB := Lib.hid (BB.out.next hb)
          replace BR := Lib.hid (BR.out.next hb)
          replace L := Lib.hid (Sh.below_next L.out hb)
          replace T := Lib.hid (T.out.below hb)
          replace ID := Lib.hid (ID.out.below hb)
          replace IV := Lib.hid (IV.out.below hb)
          replace IE := Lib.hid (IE.out.below hb)
          replace IU := Lib.hid (IU.out.below hb)
          clear hb
          obtain ⟨qFF0, qFF1⟩ := FF.out
          go_wp2_with fail
          refine (Sc.has_b c 2 true _ H3.out T.out).mono ?_
          rintro r w3 ⟨rfl, hb⟩
          clear qFF0 qFF1
          replace FF := Lib.hid (keepFn hb FF.out)
          replace BA := Lib.hid (BA.out.next hb)
          replace BB := Lib.hid (BB.out.next hb)
          replace BR := Lib.hid (BR.out.next hb)
          replace L := Lib.hid (Sh.below_next L.out hb)
          replace T := Lib.hid (T.out.below hb)
          replace ID := Lib.hid (ID.out.below hb)
          replace IV := Lib.hid (IV.out.below hb)
          replace IE := Lib.hid (IE.out.below hb)
          replace IU := Lib.hid (IU.out.below hb)
          clear hb
          obtain ⟨qBA0, qBA1, -, -⟩ := BA.out.all
          obtain ⟨qBB0, qBB1, -, -⟩ := BB.out.all
          go_wp2_with fail
          refine (fit_v _ _ d _ _ e _ 0 D H4.out H5.out hd he ID.out IE.out).mono ?_
          rintro r w4 ⟨A5, c5, rfl, hi, hb⟩
          clear qBA0 qBA1 qBB0 qBB1
          replace FF := Lib.hid (keepFn hb FF.out)
          replace BA := Lib.hid (BA.out.next hb)
          replace BB := Lib.hid (BB.out.next hb)
          replace BR := Lib.hid (BR.out.next hb)
          replace L := Lib.hid (Sh.below_next L.out hb)
          replace T := Lib.hid (T.out.below hb)
          replace ID := Lib.hid (ID.out.below hb)
          replace IV := Lib.hid (IV.out.below hb)
          replace IE := Lib.hid (IE.out.below hb)
          replace IU := Lib.hid (IU.out.below hb)
          clear hb
          have IF := Lib.hid (hi)
          clear hi
          have HG := Lib.hid BR.out.lt
          have HL := Lib.hid L.out.size
          go_wp2_with fail
          refine (made_two (.pointer (some ⟨w.heap.size, 0, none⟩)) (.pointer (some ⟨w.heap.size + 1, 0, none⟩)) (.pointer (some ⟨w.heap.size + 1 + 1, 0, none⟩)) _ _ D (twoF c s d v e u) n _ HDL.out IF.out H6.out H7.out (fun i hi W hW => two1_any c s _ _ _ A c1 d B c2 v A' c1' e B' c2' u i _ W rfl (T.out.below hW) (keepFn hW FF.out).1 (keepFn hW FF.out).2 (BA.out.next hW) (BB.out.next hW) (IV.out.below hW) (IU.out.below hW) (H8.out i hi).1 (H8.out i hi).2 hd hv he hu RV.out RU.out)).mono ?_
          rintro r w5 ⟨x, rfl, ⟨A6, c6, B6, e6, rfl, j1, j2, j3⟩, hb⟩
          replace FF := Lib.hid (keepFn hb FF.out)
          replace BA := Lib.hid (BA.out.next hb)
          replace BB := Lib.hid (BB.out.next hb)
          replace BR := Lib.hid (BR.out.next hb)
          replace L := Lib.hid (Sh.below_next L.out hb)
          replace T := Lib.hid (T.out.below hb)
          replace ID := Lib.hid (ID.out.below hb)
          replace IV := Lib.hid (IV.out.below hb)
          replace IE := Lib.hid (IE.out.below hb)
          replace IU := Lib.hid (IU.out.below hb)
          replace IF := Lib.hid (IF.out.below hb)
          clear hb
          have J := Lib.hid (show IsCell w5 w4.heap.size D ((List.range n).map (twoF c s d v e u)) (.agg #[.slice A6 D.length c6, .slice B6 ((List.range n).map (twoF c s d v e u)).length e6]) from ⟨A6, c6, B6, e6, rfl, j1, j2, j3⟩)
          clear j1 j2 j3
          generalize (List.range n).map (twoF c s d v e u) = V at *
          obtain ⟨qBR0, qBR1, fBR0, fBR1⟩ := BR.out.all
          go_wp2
          have T9 := (BR.out.set0 (.slice A6 D.length c6)).set1 (.slice B6 V.length e6)
          obtain ⟨t0, t1, _, _⟩ := T9.all
          refine bodyPost_ret (v := .tuple #[.agg #[.slice A6 D.length c6, .slice B6 V.length e6], .int .i64 0]) (by simp [results, Tryd.results19, go_sem, t0, t1]) rfl ?_
          exact ⟨_, rfl, (J.out.set2 HG.out _ _).mono HL.out, (L.out.setCell (by simp; omega) _).setCell (by simp; omega) _⟩
        · obtain ⟨e1, e2, e3⟩ := two_bad4 (s := s) h1 h2 h3 hx h4
          rw [e1, e2, e3]
          have hx0 : (x != 0) = true := by simpa using h4
          have H1 := Lib.hid h1
          have H2 := Lib.hid h2
          have H3 := Lib.hid h3
          have H4 := Lib.hid hx
          have H5 : Hid (fitD d e = []) := Lib.hid (by unfold fitD; rw [hx, if_neg h4])
          clear h1 h2 h3 hx h4 e1 e2 e3
          obtain ⟨hf0, ba0, bb0, hb0, hs0⟩ := w3_all w c s (.slice A d.length c1) (.slice B v.length c2) (.slice A' e.length c1') (.slice B' u.length c2')
          have hb := below_new (W3 w c s (.slice A d.length c1) (.slice B v.length c2) (.slice A' e.length c1') (.slice B' u.length c2')) (.cells #[.slice none 0 0, .slice none 0 0] 29)
          have br0 := Box.new (W3 w c s (.slice A d.length c1) (.slice B v.length c2) (.slice A' e.length c1') (.slice B' u.length c2')) (.slice none 0 0) (.slice none 0 0)
          rw [hs0] at br0
          have FF := Lib.hid (keepFn hb hf0)
          have BA := Lib.hid (ba0.next hb)
          have BB := Lib.hid (bb0.next hb)
          have BR := Lib.hid (br0)
          have L := Lib.hid (Sh.below_next hb0 hb)
          have T := Lib.hid (hT.below L.out)
          have ID := Lib.hid (id.below L.out)
          have IV := Lib.hid (iv.below L.out)
          have IE := Lib.hid (ie.below L.out)
          have IU := Lib.hid (iu.below L.out)
          clear hb hf0 ba0 bb0 hb0 hs0 br0 hT id iv ie iu
          unfold W3 at *
          go_enter Tryd.func19, Tryd.ntmps19
          go_wp2_with fail
          refine (cright_yes _ _ d _ _ _ _ (by unfold maxLen; omega) ID.out H1.out).mono ?_
          rintro r w1 ⟨rfl, hb⟩
          replace FF := Lib.hid (keepFn hb FF.out)
          replace BA := Lib.hid (BA.out.next hb)
          replace BB := Lib.hid (BB.out.next hb)
          replace BR := Lib.hid (BR.out.next hb)
          replace L := Lib.hid (Sh.below_next L.out hb)
          replace T := Lib.hid (T.out.below hb)
          replace ID := Lib.hid (ID.out.below hb)
          replace IV := Lib.hid (IV.out.below hb)
          replace IE := Lib.hid (IE.out.below hb)
          replace IU := Lib.hid (IU.out.below hb)
          clear hb
          obtain ⟨qBB0, qBB1, -, -⟩ := BB.out.all
          go_wp2_with fail
          refine (cright_yes _ _ e _ _ _ _ (by unfold maxLen; omega) IE.out H2.out).mono ?_
          rintro r w2 ⟨rfl, hb⟩
          clear qBB0 qBB1
          replace FF := Lib.hid (keepFn hb FF.out)
          replace BA := Lib.hid (BA.out.next hb)
          replace BB := Lib.hid (BB.out.next hb)
          replace BR := Lib.hid (BR.out.next hb)
          replace L := Lib.hid (Sh.below_next L.out hb)
          replace T := Lib.hid (T.out.below hb)
          replace ID := Lib.hid (ID.out.below hb)
          replace IV := Lib.hid (IV.out.below hb)
          replace IE := Lib.hid (IE.out.below hb)
          replace IU := Lib.hid (IU.out.below hb)
          clear hb
          obtain ⟨qFF0, qFF1⟩ := FF.out
          go_wp2_with fail
          refine (Sc.has_b c 2 true _ H3.out T.out).mono ?_
          rintro r w3 ⟨rfl, hb⟩
          clear qFF0 qFF1
          replace FF := Lib.hid (keepFn hb FF.out)
          replace BA := Lib.hid (BA.out.next hb)
          replace BB := Lib.hid (BB.out.next hb)
          replace BR := Lib.hid (BR.out.next hb)
          replace L := Lib.hid (Sh.below_next L.out hb)
          replace T := Lib.hid (T.out.below hb)
          replace ID := Lib.hid (ID.out.below hb)
          replace IV := Lib.hid (IV.out.below hb)
          replace IE := Lib.hid (IE.out.below hb)
          replace IU := Lib.hid (IU.out.below hb)
          clear hb
          obtain ⟨qBA0, qBA1, -, -⟩ := BA.out.all
          obtain ⟨qBB0, qBB1, -, -⟩ := BB.out.all
          go_wp2_with fail
          refine (fit_v _ _ d _ _ e _ x [] H4.out H5.out hd he ID.out IE.out).mono ?_
          rintro r w4 ⟨A5, c5, rfl, hi, hb⟩
          clear qBA0 qBA1 qBB0 qBB1
          replace FF := Lib.hid (keepFn hb FF.out)
          replace BA := Lib.hid (BA.out.next hb)
          replace BB := Lib.hid (BB.out.next hb)
          replace BR := Lib.hid (BR.out.next hb)
          replace L := Lib.hid (Sh.below_next L.out hb)
          replace T := Lib.hid (T.out.below hb)
          replace ID := Lib.hid (ID.out.below hb)
          replace IV := Lib.hid (IV.out.below hb)
          replace IE := Lib.hid (IE.out.below hb)
          replace IU := Lib.hid (IU.out.below hb)
          clear hb
          clear hi
          obtain ⟨qBR0, qBR1, fBR0, fBR1⟩ := BR.out.all
          go_wp2
          have T9 := (BR.out.set0 (.slice none 0 0)).set1 (.slice none 0 0)
          obtain ⟨t0, t1, _, _⟩ := T9.all
          refine bodyPost_ret (v := .tuple #[.agg #[.slice none 0 0, .slice none 0 0], .int .i64 x]) (by simp [results, Tryd.results19, go_sem, t0, t1]) rfl ?_
          exact ⟨_, rfl, IsCell.none _ _, (L.out.setCell (by simp; omega) _).setCell (by simp; omega) _⟩
      · have H3 := Lib.hid (show Sc.hasB c 2 = false by simpa using h3)
        obtain ⟨e1, e2, e3⟩ := two_bad3 (s := s) h1 h2 H3.out
        rw [e1, e2, e3]
        have H1 := Lib.hid h1
        have H2 := Lib.hid h2
        clear h1 h2 h3 e1 e2 e3
        obtain ⟨hf0, ba0, bb0, hb0, hs0⟩ := w3_all w c s (.slice A d.length c1) (.slice B v.length c2) (.slice A' e.length c1') (.slice B' u.length c2')
        have hb := below_new (W3 w c s (.slice A d.length c1) (.slice B v.length c2) (.slice A' e.length c1') (.slice B' u.length c2')) (.cells #[.slice none 0 0, .slice none 0 0] 29)
        have br0 := Box.new (W3 w c s (.slice A d.length c1) (.slice B v.length c2) (.slice A' e.length c1') (.slice B' u.length c2')) (.slice none 0 0) (.slice none 0 0)
        rw [hs0] at br0
        have FF := Lib.hid (keepFn hb hf0)
        have BA := Lib.hid (ba0.next hb)
        have BB := Lib.hid (bb0.next hb)
        have BR := Lib.hid (br0)
        have L := Lib.hid (Sh.below_next hb0 hb)
        have T := Lib.hid (hT.below L.out)
        have ID := Lib.hid (id.below L.out)
        have IV := Lib.hid (iv.below L.out)
        have IE := Lib.hid (ie.below L.out)
        have IU := Lib.hid (iu.below L.out)
        clear hb hf0 ba0 bb0 hb0 hs0 br0 hT id iv ie iu
        unfold W3 at *
        go_enter Tryd.func19, Tryd.ntmps19
        go_wp2_with fail
        refine (cright_yes _ _ d _ _ _ _ (by unfold maxLen; omega) ID.out H1.out).mono ?_
        rintro r w1 ⟨rfl, hb⟩
        replace FF := Lib.hid (keepFn hb FF.out)
        replace BA := Lib.hid (BA.out.next hb)
        replace BB := Lib.hid (BB.out.next hb)
        replace BR := Lib.hid (BR.out.next hb)
        replace L := Lib.hid (Sh.below_next L.out hb)
        replace T := Lib.hid (T.out.below hb)
        replace ID := Lib.hid (ID.out.below hb)
        replace IV := Lib.hid (IV.out.below hb)
        replace IE := Lib.hid (IE.out.below hb)
        replace IU := Lib.hid (IU.out.below hb)
        clear hb
        obtain ⟨qBB0, qBB1, -, -⟩ := BB.out.all
        go_wp2_with fail
        refine (cright_yes _ _ e _ _ _ _ (by unfold maxLen; omega) IE.out H2.out).mono ?_
        rintro r w2 ⟨rfl, hb⟩
        clear qBB0 qBB1
        replace FF := Lib.hid (keepFn hb FF.out)
        replace BA := Lib.hid (BA.out.next hb)
        replace BB := Lib.hid (BB.out.next hb)
        replace BR := Lib.hid (BR.out.next hb)
        replace L := Lib.hid (Sh.below_next L.out hb)
        replace T := Lib.hid (T.out.below hb)
        replace ID := Lib.hid (ID.out.below hb)
        replace IV := Lib.hid (IV.out.below hb)
        replace IE := Lib.hid (IE.out.below hb)
        replace IU := Lib.hid (IU.out.below hb)
        clear hb
        obtain ⟨qFF0, qFF1⟩ := FF.out
        go_wp2_with fail
        refine (Sc.has_b c 2 false _ H3.out T.out).mono ?_
        rintro r w3 ⟨rfl, hb⟩
        clear qFF0 qFF1
        replace FF := Lib.hid (keepFn hb FF.out)
        replace BA := Lib.hid (BA.out.next hb)
        replace BB := Lib.hid (BB.out.next hb)
        replace BR := Lib.hid (BR.out.next hb)
        replace L := Lib.hid (Sh.below_next L.out hb)
        replace T := Lib.hid (T.out.below hb)
        replace ID := Lib.hid (ID.out.below hb)
        replace IV := Lib.hid (IV.out.below hb)
        replace IE := Lib.hid (IE.out.below hb)
        replace IU := Lib.hid (IU.out.below hb)
        clear hb
        obtain ⟨qBR0, qBR1, fBR0, fBR1⟩ := BR.out.all
        go_wp2
        have T9 := (BR.out.set0 (.slice none 0 0)).set1 (.slice none 0 0)
        obtain ⟨t0, t1, _, _⟩ := T9.all
        refine bodyPost_ret (v := .tuple #[.agg #[.slice none 0 0, .slice none 0 0], .int .i64 13]) (by simp [results, Tryd.results19, go_sem, t0, t1]) rfl ?_
        exact ⟨_, rfl, IsCell.none _ _, (L.out.setCell (by simp; omega) _).setCell (by simp; omega) _⟩
    · have H2 := Lib.hid (show cellB e u.length = false by simpa using h2)
      obtain ⟨e1, e2, e3⟩ := two_bad2 (c := c) (s := s) (d := d) (v := v) H2.out
      rw [e1, e2, e3]
      have H1 := Lib.hid h1
      clear h1 h2 e1 e2 e3
      obtain ⟨hf0, ba0, bb0, hb0, hs0⟩ := w3_all w c s (.slice A d.length c1) (.slice B v.length c2) (.slice A' e.length c1') (.slice B' u.length c2')
      have hb := below_new (W3 w c s (.slice A d.length c1) (.slice B v.length c2) (.slice A' e.length c1') (.slice B' u.length c2')) (.cells #[.slice none 0 0, .slice none 0 0] 29)
      have br0 := Box.new (W3 w c s (.slice A d.length c1) (.slice B v.length c2) (.slice A' e.length c1') (.slice B' u.length c2')) (.slice none 0 0) (.slice none 0 0)
      rw [hs0] at br0
      have FF := Lib.hid (keepFn hb hf0)
      have BA := Lib.hid (ba0.next hb)
      have BB := Lib.hid (bb0.next hb)
      have BR := Lib.hid (br0)
      have L := Lib.hid (Sh.below_next hb0 hb)
      have T := Lib.hid (hT.below L.out)
      have ID := Lib.hid (id.below L.out)
      have IV := Lib.hid (iv.below L.out)
      have IE := Lib.hid (ie.below L.out)
      have IU := Lib.hid (iu.below L.out)
      clear hb hf0 ba0 bb0 hb0 hs0 br0 hT id iv ie iu
      unfold W3 at *
      go_enter Tryd.func19, Tryd.ntmps19
      go_wp2_with fail
      refine (cright_yes _ _ d _ _ _ _ (by unfold maxLen; omega) ID.out H1.out).mono ?_
      rintro r w1 ⟨rfl, hb⟩
      replace FF := Lib.hid (keepFn hb FF.out)
      replace BA := Lib.hid (BA.out.next hb)
      replace BB := Lib.hid (BB.out.next hb)
      replace BR := Lib.hid (BR.out.next hb)
      replace L := Lib.hid (Sh.below_next L.out hb)
      replace T := Lib.hid (T.out.below hb)
      replace ID := Lib.hid (ID.out.below hb)
      replace IV := Lib.hid (IV.out.below hb)
      replace IE := Lib.hid (IE.out.below hb)
      replace IU := Lib.hid (IU.out.below hb)
      clear hb
      obtain ⟨qBB0, qBB1, -, -⟩ := BB.out.all
      go_wp2_with fail
      refine (cright_no _ _ e _ _ _ _ (by unfold maxLen; omega) IE.out H2.out).mono ?_
      rintro r w2 ⟨rfl, hb⟩
      clear qBB0 qBB1
      replace FF := Lib.hid (keepFn hb FF.out)
      replace BA := Lib.hid (BA.out.next hb)
      replace BB := Lib.hid (BB.out.next hb)
      replace BR := Lib.hid (BR.out.next hb)
      replace L := Lib.hid (Sh.below_next L.out hb)
      replace T := Lib.hid (T.out.below hb)
      replace ID := Lib.hid (ID.out.below hb)
      replace IV := Lib.hid (IV.out.below hb)
      replace IE := Lib.hid (IE.out.below hb)
      replace IU := Lib.hid (IU.out.below hb)
      clear hb
      obtain ⟨qBR0, qBR1, fBR0, fBR1⟩ := BR.out.all
      go_wp2
      have T9 := (BR.out.set0 (.slice none 0 0)).set1 (.slice none 0 0)
      obtain ⟨t0, t1, _, _⟩ := T9.all
      refine bodyPost_ret (v := .tuple #[.agg #[.slice none 0 0, .slice none 0 0], .int .i64 1]) (by simp [results, Tryd.results19, go_sem, t0, t1]) rfl ?_
      exact ⟨_, rfl, IsCell.none _ _, (L.out.setCell (by simp; omega) _).setCell (by simp; omega) _⟩
  · have H1 := Lib.hid (show cellB d v.length = false by simpa using h1)
    obtain ⟨e1, e2, e3⟩ := two_bad1 (c := c) (s := s) (e := e) (u := u) H1.out
    rw [e1, e2, e3]
    clear h1 e1 e2 e3
    obtain ⟨hf0, ba0, bb0, hb0, hs0⟩ := w3_all w c s (.slice A d.length c1) (.slice B v.length c2) (.slice A' e.length c1') (.slice B' u.length c2')
    have hb := below_new (W3 w c s (.slice A d.length c1) (.slice B v.length c2) (.slice A' e.length c1') (.slice B' u.length c2')) (.cells #[.slice none 0 0, .slice none 0 0] 29)
    have br0 := Box.new (W3 w c s (.slice A d.length c1) (.slice B v.length c2) (.slice A' e.length c1') (.slice B' u.length c2')) (.slice none 0 0) (.slice none 0 0)
    rw [hs0] at br0
    have FF := Lib.hid (keepFn hb hf0)
    have BA := Lib.hid (ba0.next hb)
    have BB := Lib.hid (bb0.next hb)
    have BR := Lib.hid (br0)
    have L := Lib.hid (Sh.below_next hb0 hb)
    have T := Lib.hid (hT.below L.out)
    have ID := Lib.hid (id.below L.out)
    have IV := Lib.hid (iv.below L.out)
    have IE := Lib.hid (ie.below L.out)
    have IU := Lib.hid (iu.below L.out)
    clear hb hf0 ba0 bb0 hb0 hs0 br0 hT id iv ie iu
    unfold W3 at *
    go_enter Tryd.func19, Tryd.ntmps19
    go_wp2_with fail
    refine (cright_no _ _ d _ _ _ _ (by unfold maxLen; omega) ID.out H1.out).mono ?_
    rintro r w1 ⟨rfl, hb⟩
    replace FF := Lib.hid (keepFn hb FF.out)
    replace BA := Lib.hid (BA.out.next hb)
    replace BB := Lib.hid (BB.out.next hb)
    replace BR := Lib.hid (BR.out.next hb)
    replace L := Lib.hid (Sh.below_next L.out hb)
    replace T := Lib.hid (T.out.below hb)
    replace ID := Lib.hid (ID.out.below hb)
    replace IV := Lib.hid (IV.out.below hb)
    replace IE := Lib.hid (IE.out.below hb)
    replace IU := Lib.hid (IU.out.below hb)
    clear hb
    obtain ⟨qBR0, qBR1, fBR0, fBR1⟩ := BR.out.all
    go_wp2
    have T9 := (BR.out.set0 (.slice none 0 0)).set1 (.slice none 0 0)
    obtain ⟨t0, t1, _, _⟩ := T9.all
    refine bodyPost_ret (v := .tuple #[.agg #[.slice none 0 0, .slice none 0 0], .int .i64 1]) (by simp [results, Tryd.results19, go_sem, t0, t1]) rfl ?_
    exact ⟨_, rfl, IsCell.none _ _, (L.out.setCell (by simp; omega) _).setCell (by simp; omega) _⟩
end Go.Proofs.YtbanegjmapgkdaaDoor.Sp
