/-
  What riffleref07.meant answers for any two cells; nothing that was there is written. Condition: at most 100 axes and 1000 numbers.
-/
import Derived.Test.YticicfbllhnpcaaPkW
import Derived.Deep.DeepCutAuto
import Derived.Deep.CutBlock
set_option maxRecDepth 100000
namespace Go.Proofs.Yticicfbllhnpcaa.Sh
open Go.RowKit
set_option linter.unusedVariables false

/-- How long is the list in a box's first cell? -/
def lenAt (w : World) (g : Nat) : Nat := match w.cell? ⟨g, 0, none⟩ with
  | some (.slice _ n _) => n
  | _ => 0
theorem lenAt_box {w : World} {g n c : Nat} {A : Option Addr} {y : Value} (h : Box w g (.slice A n c) y) : lenAt w g = n := by unfold lenAt; rw [h.c0]
theorem Ints.far00 {w : World} {g : Nat} {l : List Int} {L A B : Option Addr} {n c m e : Nat} (h : Ints w L l) (bx : Box w g (.slice A n c) (.slice B m e)) (x : Value) : Ints (w.setCell ⟨g, 0, none⟩ x) L l := Ints.far0 h bx x
set_option maxHeartbeats 4000000 in
theorem meant_1 (A : Option Addr) (c : Nat) (d : List Int) (B : Option Addr) (c2 : Nat) (v : List Int) (A' : Option Addr) (c' : Nat) (e : List Int) (B' : Option Addr) (c2' : Nat) (u : List Int) (w : World) (id : Ints w A d) (iv : Ints w B v) (ie : Ints w A' e) (iu : Ints w B' u) (hd : d.length ≤ 100) (hv : v.length ≤ 1000) (he : e.length ≤ 100) (hu : u.length ≤ 1000) (h1 : cellB d v.length = false) :
    Calls Try.prog 46 #[.agg #[.slice A d.length c, .slice B v.length c2], .agg #[.slice A' e.length c', .slice B' u.length c2']] w (RetCI w e u (.int .i64 1)) := by
  obtain ⟨ba0, bb0, br0, hb0⟩ := w2_all w (.slice A d.length c) (.slice B v.length c2) (.slice A' e.length c') (.slice B' u.length c2')
  have BA := Lib.hid (ba0)
  have BB := Lib.hid (bb0)
  have BR := Lib.hid (br0)
  have L := Lib.hid (hb0)
  have ID := Lib.hid (id.below hb0)
  have IV := Lib.hid (iv.below hb0)
  have IE := Lib.hid (ie.below hb0)
  have IU := Lib.hid (iu.below hb0)
  clear ba0 bb0 br0 hb0 id iv ie iu
  go_enter Try.func46, Try.ntmps46
  obtain ⟨qBA0, qBA1, -, -⟩ := BA.out.all
  go_wp2_with fail
  refine (rright_no _ _ d _ _ _ _ (by unfold maxLen; omega) ID.out h1).mono ?_
  rintro r w1 ⟨rfl, hb⟩
  clear qBA0 qBA1
  replace BA := Lib.hid (BA.out.next hb)
  replace BB := Lib.hid (BB.out.next hb)
  replace BR := Lib.hid (BR.out.next hb)
  replace L := Lib.hid (below_next L.out hb)
  replace ID := Lib.hid (ID.out.below hb)
  replace IV := Lib.hid (IV.out.below hb)
  replace IE := Lib.hid (IE.out.below hb)
  replace IU := Lib.hid (IU.out.below hb)
  clear hb
  obtain ⟨qBB0, qBB1, -, -⟩ := BB.out.all
  obtain ⟨r0, r1, r2, r3⟩ := BR.out.all
  go_wp2
  have T9 := (BR.out.set0 (.slice A' e.length c')).set1 (.slice B' u.length c2')
  obtain ⟨t0, t1, _, _⟩ := T9.all
  refine bodyPost_ret (v := .tuple #[.agg #[.slice A' e.length c', .slice B' u.length c2'], .int .i64 1]) (by simp [results, Try.results46, go_sem, t0, t1]) rfl ?_
  exact ⟨_, _, _, _, rfl, IE.out.set_box BR.out _ _, IU.out.set_box BR.out _ _, (L.out.setCell (by first | (simp; done) | (simp; omega)) _).setCell (by first | (simp; done) | (simp; omega)) _⟩
set_option maxHeartbeats 4000000 in
theorem meant_1' (A : Option Addr) (c : Nat) (d : List Int) (B : Option Addr) (c2 : Nat) (v : List Int) (A' : Option Addr) (c' : Nat) (e : List Int) (B' : Option Addr) (c2' : Nat) (u : List Int) (w : World) (id : Ints w A d) (iv : Ints w B v) (ie : Ints w A' e) (iu : Ints w B' u) (hd : d.length ≤ 100) (hv : v.length ≤ 1000) (he : e.length ≤ 100) (hu : u.length ≤ 1000) (h1 : cellB d v.length = true) (h2 : cellB e u.length = false) :
    Calls Try.prog 46 #[.agg #[.slice A d.length c, .slice B v.length c2], .agg #[.slice A' e.length c', .slice B' u.length c2']] w (RetCI w e u (.int .i64 1)) := by
  obtain ⟨ba0, bb0, br0, hb0⟩ := w2_all w (.slice A d.length c) (.slice B v.length c2) (.slice A' e.length c') (.slice B' u.length c2')
  have BA := Lib.hid (ba0)
  have BB := Lib.hid (bb0)
  have BR := Lib.hid (br0)
  have L := Lib.hid (hb0)
  have ID := Lib.hid (id.below hb0)
  have IV := Lib.hid (iv.below hb0)
  have IE := Lib.hid (ie.below hb0)
  have IU := Lib.hid (iu.below hb0)
  clear ba0 bb0 br0 hb0 id iv ie iu
  go_enter Try.func46, Try.ntmps46
  obtain ⟨qBA0, qBA1, -, -⟩ := BA.out.all
  go_wp2_with fail
  refine (rright_yes _ _ d _ _ _ _ (by unfold maxLen; omega) ID.out h1).mono ?_
  rintro r w1 ⟨rfl, hb⟩
  clear qBA0 qBA1
  replace BA := Lib.hid (BA.out.next hb)
  replace BB := Lib.hid (BB.out.next hb)
  replace BR := Lib.hid (BR.out.next hb)
  replace L := Lib.hid (below_next L.out hb)
  replace ID := Lib.hid (ID.out.below hb)
  replace IV := Lib.hid (IV.out.below hb)
  replace IE := Lib.hid (IE.out.below hb)
  replace IU := Lib.hid (IU.out.below hb)
  clear hb
  obtain ⟨qBB0, qBB1, -, -⟩ := BB.out.all
  go_wp2_with fail
  refine (rright_no _ _ e _ _ _ _ (by unfold maxLen; omega) IE.out h2).mono ?_
  rintro r w2 ⟨rfl, hb⟩
  clear qBB0 qBB1
  replace BA := Lib.hid (BA.out.next hb)
  replace BB := Lib.hid (BB.out.next hb)
  replace BR := Lib.hid (BR.out.next hb)
  replace L := Lib.hid (below_next L.out hb)
  replace ID := Lib.hid (ID.out.below hb)
  replace IV := Lib.hid (IV.out.below hb)
  replace IE := Lib.hid (IE.out.below hb)
  replace IU := Lib.hid (IU.out.below hb)
  clear hb
  obtain ⟨qBB0, qBB1, -, -⟩ := BB.out.all
  obtain ⟨r0, r1, r2, r3⟩ := BR.out.all
  go_wp2
  have T9 := (BR.out.set0 (.slice A' e.length c')).set1 (.slice B' u.length c2')
  obtain ⟨t0, t1, _, _⟩ := T9.all
  refine bodyPost_ret (v := .tuple #[.agg #[.slice A' e.length c', .slice B' u.length c2'], .int .i64 1]) (by simp [results, Try.results46, go_sem, t0, t1]) rfl ?_
  exact ⟨_, _, _, _, rfl, IE.out.set_box BR.out _ _, IU.out.set_box BR.out _ _, (L.out.setCell (by first | (simp; done) | (simp; omega)) _).setCell (by first | (simp; done) | (simp; omega)) _⟩
set_option maxHeartbeats 4000000 in
theorem meant_2 (A : Option Addr) (c : Nat) (d : List Int) (B : Option Addr) (c2 : Nat) (v : List Int) (A' : Option Addr) (c' : Nat) (e : List Int) (B' : Option Addr) (c2' : Nat) (u : List Int) (w : World) (id : Ints w A d) (iv : Ints w B v) (ie : Ints w A' e) (iu : Ints w B' u) (hd : d.length ≤ 100) (hv : v.length ≤ 1000) (he : e.length ≤ 100) (hu : u.length ≤ 1000) (h1 : cellB d v.length = true) (h2 : cellB e u.length = true) (h3 : ¬ d.length ≤ 1) :
    Calls Try.prog 46 #[.agg #[.slice A d.length c, .slice B v.length c2], .agg #[.slice A' e.length c', .slice B' u.length c2']] w (RetCI w e u (.int .i64 2)) := by
  obtain ⟨ba0, bb0, br0, hb0⟩ := w2_all w (.slice A d.length c) (.slice B v.length c2) (.slice A' e.length c') (.slice B' u.length c2')
  have BA := Lib.hid (ba0)
  have BB := Lib.hid (bb0)
  have BR := Lib.hid (br0)
  have L := Lib.hid (hb0)
  have ID := Lib.hid (id.below hb0)
  have IV := Lib.hid (iv.below hb0)
  have IE := Lib.hid (ie.below hb0)
  have IU := Lib.hid (iu.below hb0)
  clear ba0 bb0 br0 hb0 id iv ie iu
  have hx : (1 : Int) < (d.length : Int) := by omega
  go_enter Try.func46, Try.ntmps46
  obtain ⟨qBA0, qBA1, -, -⟩ := BA.out.all
  go_wp2_with fail
  refine (rright_yes _ _ d _ _ _ _ (by unfold maxLen; omega) ID.out h1).mono ?_
  rintro r w1 ⟨rfl, hb⟩
  clear qBA0 qBA1
  replace BA := Lib.hid (BA.out.next hb)
  replace BB := Lib.hid (BB.out.next hb)
  replace BR := Lib.hid (BR.out.next hb)
  replace L := Lib.hid (below_next L.out hb)
  replace ID := Lib.hid (ID.out.below hb)
  replace IV := Lib.hid (IV.out.below hb)
  replace IE := Lib.hid (IE.out.below hb)
  replace IU := Lib.hid (IU.out.below hb)
  clear hb
  obtain ⟨qBB0, qBB1, -, -⟩ := BB.out.all
  go_wp2_with fail
  refine (rright_yes _ _ e _ _ _ _ (by unfold maxLen; omega) IE.out h2).mono ?_
  rintro r w2 ⟨rfl, hb⟩
  clear qBB0 qBB1
  replace BA := Lib.hid (BA.out.next hb)
  replace BB := Lib.hid (BB.out.next hb)
  replace BR := Lib.hid (BR.out.next hb)
  replace L := Lib.hid (below_next L.out hb)
  replace ID := Lib.hid (ID.out.below hb)
  replace IV := Lib.hid (IV.out.below hb)
  replace IE := Lib.hid (IE.out.below hb)
  replace IU := Lib.hid (IU.out.below hb)
  clear hb
  obtain ⟨qBA0, qBA1, -, -⟩ := BA.out.all
  obtain ⟨qBB0, qBB1, -, -⟩ := BB.out.all
  obtain ⟨r0, r1, r2, r3⟩ := BR.out.all
  go_wp2
  have T9 := (BR.out.set0 (.slice A' e.length c')).set1 (.slice B' u.length c2')
  obtain ⟨t0, t1, _, _⟩ := T9.all
  refine bodyPost_ret (v := .tuple #[.agg #[.slice A' e.length c', .slice B' u.length c2'], .int .i64 2]) (by simp [results, Try.results46, go_sem, t0, t1]) rfl ?_
  exact ⟨_, _, _, _, rfl, IE.out.set_box BR.out _ _, IU.out.set_box BR.out _ _, (L.out.setCell (by first | (simp; done) | (simp; omega)) _).setCell (by first | (simp; done) | (simp; omega)) _⟩
set_option maxHeartbeats 4000000 in
theorem meant_n3 (A : Option Addr) (c : Nat) (d : List Int) (B : Option Addr) (c2 : Nat) (v : List Int) (A' : Option Addr) (c' : Nat) (e : List Int) (B' : Option Addr) (c2' : Nat) (u : List Int) (w : World) (id : Ints w A d) (iv : Ints w B v) (ie : Ints w A' e) (iu : Ints w B' u) (hd : d.length ≤ 100) (hv : v.length ≤ 1000) (he : e.length ≤ 100) (hu : u.length ≤ 1000) (h1 : cellB d v.length = true) (h2 : cellB e u.length = true) (h3 : d.length ≤ 1) (hg : ¬ (e.length = 0 ∧ v.length ≤ 3)) (h4 : ¬ v.length = e.length) :
    Calls Try.prog 46 #[.agg #[.slice A d.length c, .slice B v.length c2], .agg #[.slice A' e.length c', .slice B' u.length c2']] w (RetCI w e u (.int .i64 3)) := by
  obtain ⟨ba0, bb0, br0, hb0⟩ := w2_all w (.slice A d.length c) (.slice B v.length c2) (.slice A' e.length c') (.slice B' u.length c2')
  have BA := Lib.hid (ba0)
  have BB := Lib.hid (bb0)
  have BR := Lib.hid (br0)
  have L := Lib.hid (hb0)
  have ID := Lib.hid (id.below hb0)
  have IV := Lib.hid (iv.below hb0)
  have IE := Lib.hid (ie.below hb0)
  have IU := Lib.hid (iu.below hb0)
  clear ba0 bb0 br0 hb0 id iv ie iu
  have hq : ((v.length : Int) != (e.length : Int)) = true := by simp; omega
  clear h4
  have hx : ¬ (1 : Int) < (d.length : Int) := by omega
  go_enter Try.func46, Try.ntmps46
  obtain ⟨qBA0, qBA1, -, -⟩ := BA.out.all
  go_wp2_with fail
  refine (rright_yes _ _ d _ _ _ _ (by unfold maxLen; omega) ID.out h1).mono ?_
  rintro r w1 ⟨rfl, hb⟩
  clear qBA0 qBA1
  replace BA := Lib.hid (BA.out.next hb)
  replace BB := Lib.hid (BB.out.next hb)
  replace BR := Lib.hid (BR.out.next hb)
  replace L := Lib.hid (below_next L.out hb)
  replace ID := Lib.hid (ID.out.below hb)
  replace IV := Lib.hid (IV.out.below hb)
  replace IE := Lib.hid (IE.out.below hb)
  replace IU := Lib.hid (IU.out.below hb)
  clear hb
  obtain ⟨qBB0, qBB1, -, -⟩ := BB.out.all
  go_wp2_with fail
  refine (rright_yes _ _ e _ _ _ _ (by unfold maxLen; omega) IE.out h2).mono ?_
  rintro r w2 ⟨rfl, hb⟩
  clear qBB0 qBB1
  replace BA := Lib.hid (BA.out.next hb)
  replace BB := Lib.hid (BB.out.next hb)
  replace BR := Lib.hid (BR.out.next hb)
  replace L := Lib.hid (below_next L.out hb)
  replace ID := Lib.hid (ID.out.below hb)
  replace IV := Lib.hid (IV.out.below hb)
  replace IE := Lib.hid (IE.out.below hb)
  replace IU := Lib.hid (IU.out.below hb)
  clear hb
  obtain ⟨qBA0, qBA1, -, -⟩ := BA.out.all
  obtain ⟨qBB0, qBB1, -, -⟩ := BB.out.all
  have KB := Lib.hid (below_new w2 (.cells #[.slice A' e.length c', .slice B' u.length c2'] 25))
  have K6 := Lib.hid (Box.new w2 (.slice A' e.length c') (.slice B' u.length c2'))
  have hgA := BA.out.lt
  have hgB := BB.out.lt
  have hgR := BR.out.lt
  have hgW := L.out.size
  replace BA := Lib.hid (BA.out.next KB.out)
  replace BB := Lib.hid (BB.out.next KB.out)
  replace BR := Lib.hid (BR.out.next KB.out)
  replace L := Lib.hid (below_next L.out KB.out)
  replace ID := Lib.hid (ID.out.below KB.out)
  replace IV := Lib.hid (IV.out.below KB.out)
  replace IE := Lib.hid (IE.out.below KB.out)
  replace IU := Lib.hid (IU.out.below KB.out)
  go_wp2
  generalize hW6 : w2.alloc (.cells #[.slice A' e.length c', .slice B' u.length c2'] 25) = w6 at *
  clear hW6
  generalize hg6 : w2.heap.size = g6 at *
  have HG6 := Lib.hid hg6
  clear hg6
  clear qBA0 qBA1 qBB0 qBB1
  clear KB
  go_loopw [] (fun wr => w6 = wr) (fun _ => 0)
  case atStart => rfl
  case round =>
    obtain rfl := hrel
    obtain ⟨qBA0, qBA1, -, -⟩ := BA.out.all
    obtain ⟨qBB0, qBB1, -, -⟩ := BB.out.all
    obtain ⟨qK60, qK61, -, -⟩ := K6.out.all
    by_cases hz0 : e.length = 0
    · have hz : ((e.length : Int) == 0) = true := by simp; exact List.eq_nil_of_length_eq_zero hz0
      have hq3 : ¬ (v.length : Int) ≤ 3 := by omega
      clear hz0 hg
      obtain ⟨r0, r1, r2, r3⟩ := BR.out.all
      go_wp2
      have T9 := (BR.out.set0 (.slice A' e.length c')).set1 (.slice B' u.length c2')
      obtain ⟨t0, t1, _, _⟩ := T9.all
      refine bodyPost_ret (v := .tuple #[.agg #[.slice A' e.length c', .slice B' u.length c2'], .int .i64 3]) (by simp [results, Try.results46, go_sem, t0, t1]) rfl ?_
      exact ⟨_, _, _, _, rfl, IE.out.set_box BR.out _ _, IU.out.set_box BR.out _ _, (L.out.setCell (by first | (simp; done) | (simp; omega)) _).setCell (by first | (simp; done) | (simp; omega)) _⟩
    · have hz : ((e.length : Int) == 0) = false := by simp; intro h; rw [h] at hz0; simp at hz0
      clear hz0 hg
      obtain ⟨r0, r1, r2, r3⟩ := BR.out.all
      go_wp2
      have T9 := (BR.out.set0 (.slice A' e.length c')).set1 (.slice B' u.length c2')
      obtain ⟨t0, t1, _, _⟩ := T9.all
      refine bodyPost_ret (v := .tuple #[.agg #[.slice A' e.length c', .slice B' u.length c2'], .int .i64 3]) (by simp [results, Try.results46, go_sem, t0, t1]) rfl ?_
      exact ⟨_, _, _, _, rfl, IE.out.set_box BR.out _ _, IU.out.set_box BR.out _ _, (L.out.setCell (by first | (simp; done) | (simp; omega)) _).setCell (by first | (simp; done) | (simp; omega)) _⟩
set_option maxHeartbeats 4000000 in
theorem meant_n0 (A : Option Addr) (c : Nat) (d : List Int) (B : Option Addr) (c2 : Nat) (v : List Int) (A' : Option Addr) (c' : Nat) (e : List Int) (B' : Option Addr) (c2' : Nat) (u : List Int) (w : World) (id : Ints w A d) (iv : Ints w B v) (ie : Ints w A' e) (iu : Ints w B' u) (hd : d.length ≤ 100) (hv : v.length ≤ 1000) (he : e.length ≤ 100) (hu : u.length ≤ 1000) (h1 : cellB d v.length = true) (h2 : cellB e u.length = true) (h3 : d.length ≤ 1) (hg : ¬ (e.length = 0 ∧ v.length ≤ 3)) (h4 : v.length = e.length) :
    Calls Try.prog 46 #[.agg #[.slice A d.length c, .slice B v.length c2], .agg #[.slice A' e.length c', .slice B' u.length c2']] w (RetCI w e u (.int .i64 0)) := by
  obtain ⟨ba0, bb0, br0, hb0⟩ := w2_all w (.slice A d.length c) (.slice B v.length c2) (.slice A' e.length c') (.slice B' u.length c2')
  have BA := Lib.hid (ba0)
  have BB := Lib.hid (bb0)
  have BR := Lib.hid (br0)
  have L := Lib.hid (hb0)
  have ID := Lib.hid (id.below hb0)
  have IV := Lib.hid (iv.below hb0)
  have IE := Lib.hid (ie.below hb0)
  have IU := Lib.hid (iu.below hb0)
  clear ba0 bb0 br0 hb0 id iv ie iu
  have H4 := Lib.hid h4
  clear h4
  have hx : ¬ (1 : Int) < (d.length : Int) := by omega
  go_enter Try.func46, Try.ntmps46
  obtain ⟨qBA0, qBA1, -, -⟩ := BA.out.all
  go_wp2_with fail
  refine (rright_yes _ _ d _ _ _ _ (by unfold maxLen; omega) ID.out h1).mono ?_
  rintro r w1 ⟨rfl, hb⟩
  clear qBA0 qBA1
  replace BA := Lib.hid (BA.out.next hb)
  replace BB := Lib.hid (BB.out.next hb)
  replace BR := Lib.hid (BR.out.next hb)
  replace L := Lib.hid (below_next L.out hb)
  replace ID := Lib.hid (ID.out.below hb)
  replace IV := Lib.hid (IV.out.below hb)
  replace IE := Lib.hid (IE.out.below hb)
  replace IU := Lib.hid (IU.out.below hb)
  clear hb
  obtain ⟨qBB0, qBB1, -, -⟩ := BB.out.all
  go_wp2_with fail
  refine (rright_yes _ _ e _ _ _ _ (by unfold maxLen; omega) IE.out h2).mono ?_
  rintro r w2 ⟨rfl, hb⟩
  clear qBB0 qBB1
  replace BA := Lib.hid (BA.out.next hb)
  replace BB := Lib.hid (BB.out.next hb)
  replace BR := Lib.hid (BR.out.next hb)
  replace L := Lib.hid (below_next L.out hb)
  replace ID := Lib.hid (ID.out.below hb)
  replace IV := Lib.hid (IV.out.below hb)
  replace IE := Lib.hid (IE.out.below hb)
  replace IU := Lib.hid (IU.out.below hb)
  clear hb
  obtain ⟨qBA0, qBA1, -, -⟩ := BA.out.all
  obtain ⟨qBB0, qBB1, -, -⟩ := BB.out.all
  have KB := Lib.hid (below_new w2 (.cells #[.slice A' e.length c', .slice B' u.length c2'] 25))
  have K6 := Lib.hid (Box.new w2 (.slice A' e.length c') (.slice B' u.length c2'))
  have hgA := BA.out.lt
  have hgB := BB.out.lt
  have hgR := BR.out.lt
  have hgW := L.out.size
  replace BA := Lib.hid (BA.out.next KB.out)
  replace BB := Lib.hid (BB.out.next KB.out)
  replace BR := Lib.hid (BR.out.next KB.out)
  replace L := Lib.hid (below_next L.out KB.out)
  replace ID := Lib.hid (ID.out.below KB.out)
  replace IV := Lib.hid (IV.out.below KB.out)
  replace IE := Lib.hid (IE.out.below KB.out)
  replace IU := Lib.hid (IU.out.below KB.out)
  go_wp2
  generalize hW6 : w2.alloc (.cells #[.slice A' e.length c', .slice B' u.length c2'] 25) = w6 at *
  clear hW6
  generalize hg6 : w2.heap.size = g6 at *
  have HG6 := Lib.hid hg6
  clear hg6
  clear qBA0 qBA1 qBB0 qBB1
  clear KB
  go_loopw [] (fun wr => w6 = wr) (fun _ => 0)
  case atStart => rfl
  case round =>
    obtain rfl := hrel
    rw [H4.out] at BA
    obtain ⟨qBA0, qBA1, -, -⟩ := BA.out.all
    obtain ⟨qBB0, qBB1, -, -⟩ := BB.out.all
    obtain ⟨qK60, qK61, -, -⟩ := K6.out.all
    by_cases hz0 : e.length = 0
    · have hz : ((e.length : Int) == 0) = true := by simp; exact List.eq_nil_of_length_eq_zero hz0
      have hq3 : ¬ (e.length : Int) ≤ 3 := by rw [H4.out] at hg; omega
      clear hz0 hg
      obtain ⟨r0, r1, r2, r3⟩ := BR.out.all
      go_wp2
      have T9 := (BR.out.set0 (.slice A' e.length c')).set1 (.slice B' u.length c2')
      obtain ⟨t0, t1, _, _⟩ := T9.all
      refine bodyPost_ret (v := .tuple #[.agg #[.slice A' e.length c', .slice B' u.length c2'], .int .i64 0]) (by simp [results, Try.results46, go_sem, t0, t1]) rfl ?_
      exact ⟨_, _, _, _, rfl, IE.out.set_box BR.out _ _, IU.out.set_box BR.out _ _, (L.out.setCell (by first | (simp; done) | (simp; omega)) _).setCell (by first | (simp; done) | (simp; omega)) _⟩
    · have hz : ((e.length : Int) == 0) = false := by simp; intro h; rw [h] at hz0; simp at hz0
      clear hz0 hg
      obtain ⟨r0, r1, r2, r3⟩ := BR.out.all
      go_wp2
      have T9 := (BR.out.set0 (.slice A' e.length c')).set1 (.slice B' u.length c2')
      obtain ⟨t0, t1, _, _⟩ := T9.all
      refine bodyPost_ret (v := .tuple #[.agg #[.slice A' e.length c', .slice B' u.length c2'], .int .i64 0]) (by simp [results, Try.results46, go_sem, t0, t1]) rfl ?_
      exact ⟨_, _, _, _, rfl, IE.out.set_box BR.out _ _, IU.out.set_box BR.out _ _, (L.out.setCell (by first | (simp; done) | (simp; omega)) _).setCell (by first | (simp; done) | (simp; omega)) _⟩
set_option maxHeartbeats 4000000 in
theorem meant_g (A : Option Addr) (c : Nat) (d : List Int) (B : Option Addr) (c2 : Nat) (v : List Int) (A' : Option Addr) (c' : Nat) (e : List Int) (B' : Option Addr) (c2' : Nat) (u : List Int) (w : World) (id : Ints w A d) (iv : Ints w B v) (ie : Ints w A' e) (iu : Ints w B' u) (hd : d.length ≤ 100) (hv : v.length ≤ 1000) (he : e.length ≤ 100) (hu : u.length ≤ 1000) (h1 : cellB d v.length = true) (h2 : cellB e u.length = true) (h3 : d.length ≤ 1) (hg : e.length = 0 ∧ v.length ≤ 3) :
    Calls Try.prog 46 #[.agg #[.slice A d.length c, .slice B v.length c2], .agg #[.slice A' e.length c', .slice B' u.length c2']] w (RetCI w (List.replicate v.length 1) u (.int .i64 0)) := by
  obtain ⟨ba0, bb0, br0, hb0⟩ := w2_all w (.slice A d.length c) (.slice B v.length c2) (.slice A' e.length c') (.slice B' u.length c2')
  have BA := Lib.hid (ba0)
  have BB := Lib.hid (bb0)
  have BR := Lib.hid (br0)
  have L := Lib.hid (hb0)
  have ID := Lib.hid (id.below hb0)
  have IV := Lib.hid (iv.below hb0)
  have IE := Lib.hid (ie.below hb0)
  have IU := Lib.hid (iu.below hb0)
  clear ba0 bb0 br0 hb0 id iv ie iu
  have HE0 := Lib.hid hg.1
  have hz : ((e.length : Int) == 0) = true := by simp; exact List.eq_nil_of_length_eq_zero hg.1
  have hv3 : v.length ≤ 3 := hg.2
  have hq3 : (v.length : Int) ≤ 3 := by omega
  clear hg
  have hx : ¬ (1 : Int) < (d.length : Int) := by omega
  go_enter Try.func46, Try.ntmps46
  obtain ⟨qBA0, qBA1, -, -⟩ := BA.out.all
  go_wp2_with fail
  refine (rright_yes _ _ d _ _ _ _ (by unfold maxLen; omega) ID.out h1).mono ?_
  rintro r w1 ⟨rfl, hb⟩
  clear qBA0 qBA1
  replace BA := Lib.hid (BA.out.next hb)
  replace BB := Lib.hid (BB.out.next hb)
  replace BR := Lib.hid (BR.out.next hb)
  replace L := Lib.hid (below_next L.out hb)
  replace ID := Lib.hid (ID.out.below hb)
  replace IV := Lib.hid (IV.out.below hb)
  replace IE := Lib.hid (IE.out.below hb)
  replace IU := Lib.hid (IU.out.below hb)
  clear hb
  obtain ⟨qBB0, qBB1, -, -⟩ := BB.out.all
  go_wp2_with fail
  refine (rright_yes _ _ e _ _ _ _ (by unfold maxLen; omega) IE.out h2).mono ?_
  rintro r w2 ⟨rfl, hb⟩
  clear qBB0 qBB1
  replace BA := Lib.hid (BA.out.next hb)
  replace BB := Lib.hid (BB.out.next hb)
  replace BR := Lib.hid (BR.out.next hb)
  replace L := Lib.hid (below_next L.out hb)
  replace ID := Lib.hid (ID.out.below hb)
  replace IV := Lib.hid (IV.out.below hb)
  replace IE := Lib.hid (IE.out.below hb)
  replace IU := Lib.hid (IU.out.below hb)
  clear hb
  obtain ⟨qBA0, qBA1, -, -⟩ := BA.out.all
  obtain ⟨qBB0, qBB1, -, -⟩ := BB.out.all
  have IU0 := Lib.hid IU.out
  have L60 := Lib.hid (below_new w2 (.cells #[.slice A' e.length c', .slice B' u.length c2'] 25))
  have KB := Lib.hid (below_new w2 (.cells #[.slice A' e.length c', .slice B' u.length c2'] 25))
  have K6 := Lib.hid (Box.new w2 (.slice A' e.length c') (.slice B' u.length c2'))
  have hgA := BA.out.lt
  have hgB := BB.out.lt
  have hgR := BR.out.lt
  have hgW := L.out.size
  replace BA := Lib.hid (BA.out.next KB.out)
  replace BB := Lib.hid (BB.out.next KB.out)
  replace BR := Lib.hid (BR.out.next KB.out)
  replace L := Lib.hid (below_next L.out KB.out)
  replace ID := Lib.hid (ID.out.below KB.out)
  replace IV := Lib.hid (IV.out.below KB.out)
  replace IE := Lib.hid (IE.out.below KB.out)
  replace IU := Lib.hid (IU.out.below KB.out)
  go_wp2
  generalize hW6 : w2.alloc (.cells #[.slice A' e.length c', .slice B' u.length c2'] 25) = w6 at *
  clear hW6
  generalize hg6 : w2.heap.size = g6 at *
  have HG6 := Lib.hid hg6
  clear hg6
  clear qBA0 qBA1 qBB0 qBB1
  clear KB
  have K60 := Lib.hid K6.out
  have L6 := Lib.hid (Below.refl w6.heap.size w6)
  have hlt6 := K6.out.lt
  go_loopw [] (fun wr => ∃ (k : Nat) (A9 : Option Addr) (c9 : Nat), k ≤ v.length ∧ Box wr g6 (.slice A9 k c9) (.slice B' u.length c2') ∧ Ints wr A9 (List.replicate k 1) ∧ w6.grownBy wr (some g6)) (fun wr => v.length - lenAt wr g6)
  case atStart => exact ⟨0, A', c', Nat.zero_le _, by have := K60.out; rwa [HE0.out] at this, Ints.nil _ _, turned_refl _ _⟩
  case round =>
    obtain ⟨k, A9, c9, hk, hbx, hi9, hgr⟩ := hrel
    have I9 := Lib.hid hi9
    have GR := Lib.hid hgr
    have K9 := Lib.hid hbx
    have BAr := Lib.hid (BA.out.grown hgr (fun e => by injection e with e; omega))
    have BBr := Lib.hid (BB.out.grown hgr (fun e => by injection e with e; omega))
    have BRr := Lib.hid (BR.out.grown hgr (fun e => by injection e with e; omega))
    have LWr := Lib.hid (below_turned L.out hgr (by omega))
    have hlr := hgr.size
    have HLA := Lib.hid (lenAt_box hbx)
    have hg9 := hbx.lt
    clear hi9 hgr hbx
    obtain ⟨p0, p1, -, -⟩ := BAr.out.all
    obtain ⟨q0, q1, -, -⟩ := BBr.out.all
    obtain ⟨k0, k1, k2, k3⟩ := K9.out.all
    by_cases hlt : k < v.length
    · have hx2 : (k : Int) < (v.length : Int) := by omega
      go_wp2_with (at_builtin; first
        | (refine wpList_copyI numI Try.underlying22 rfl (.tmp 41) (.tmp 43) rfl rfl A9 c9 (List.replicate k 1) (by rw [List.length_replicate]; rfl) I9.out (by simp; omega) ?_; intro B5 c5 w1 hm1 hb1; rw [List.length_replicate] at hm1; have M1 := Lib.hid hm1; have L1 := Lib.hid hb1; clear hm1 hb1)
        | (refine wpList_appI numI Try.underlying22 rfl (.tmp 44) (.tmp 45) rfl wr.heap.size _ (List.replicate k 1) rfl (M1.out.alloc (.cells #[.int .i64 1] 3)) (some ⟨w1.heap.size, 0, none⟩) 1 [1] rfl (one_newI w1 1) (by simp; omega) (below_next L1.out (below_new w1 (.cells #[.int .i64 1] 3))).size ?_; intro V2 w2' hm2 hg2 ha2; obtain ⟨A8, c8, e8, i8⟩ := hm2.ints; have e9 : V2 = .slice A8 (k + 1) c8 := (by rw [e8]; simp); clear e8; subst e9; have hne : some g6 ≠ Value.ownBlock (.slice B5 k c5) := (fun e => by have := M1.out.block g6 e.symm; omega); have K8 := Lib.hid (((K9.out.next L1.out).alloc (.cells #[.int .i64 1] 3)).grown hg2 hne); obtain ⟨x0, x1, x2, x3⟩ := K8.out.all; have I8 := Lib.hid i8; have G8 := Lib.hid (turned_grown (turned_alloc (turned_below GR.out L1.out) (.cells #[.int .i64 1] 3)) hg2 (fun g hg => Nat.le_trans hlr (M1.out.block g hg))); clear i8 hm2 hg2 ha2))
      have HRP := Lib.hid (show List.replicate k (1 : Int) ++ [1] = List.replicate (k + 1) 1 by rw [List.replicate_succ'])
      go_roundw
      case rel => exact ⟨k + 1, A8, c8, by omega, K8.out.set0 _, by rw [← HRP.out]; exact Ints.far0 I8.out K8.out _, turned_set G8.out 0 _⟩
      case measure => rw [HLA.out, lenAt_box (K8.out.set0 (.slice A8 (k + 1) c8))]; omega
    · obtain rfl : k = v.length := by omega
      have hx2 : ¬ (v.length : Int) < (v.length : Int) := by omega
      have IUr := Lib.hid (IU0.out.below (show Below w2.heap.size w2 wr from below_turned (by rw [HG6.out]; exact L60.out) GR.out (by rw [HG6.out]; exact Nat.le_refl _)))
      obtain ⟨r0, r1, r2, r3⟩ := BRr.out.all
      go_wp2
      have T9 := (BRr.out.set0 (.slice A9 v.length c9)).set1 (.slice B' u.length c2')
      obtain ⟨t0, t1, _, _⟩ := T9.all
      refine bodyPost_ret (v := .tuple #[.agg #[.slice A9 v.length c9, .slice B' u.length c2'], .int .i64 0]) (by simp [results, Try.results46, go_sem, t0, t1]) rfl ?_
      have HRL := Lib.hid (List.length_replicate (n := v.length) (a := (1 : Int)))
      exact ⟨A9, c9, B', c2', by rw [HRL.out], I9.out.set_box BRr.out _ _, IUr.out.set_box BRr.out _ _, (LWr.out.setCell (by first | (simp; done) | (simp; omega)) _).setCell (by first | (simp; done) | (simp; omega)) _⟩
theorem meant_any (A : Option Addr) (c : Nat) (d : List Int) (B : Option Addr) (c2 : Nat) (v : List Int) (A' : Option Addr) (c' : Nat) (e : List Int) (B' : Option Addr) (c2' : Nat) (u : List Int) (w : World) (id : Ints w A d) (iv : Ints w B v) (ie : Ints w A' e) (iu : Ints w B' u) (hd : d.length ≤ 100) (hv : v.length ≤ 1000) (he : e.length ≤ 100) (hu : u.length ≤ 1000) :
    Calls Try.prog 46 #[.agg #[.slice A d.length c, .slice B v.length c2], .agg #[.slice A' e.length c', .slice B' u.length c2']] w (RetCI w (if coE d v e u = 0 then coD v e else e) u (.int .i64 (coE d v e u))) := by
  by_cases h1 : cellB d v.length = true
  rotate_left
  · have h1' : cellB d v.length = false := by simpa using h1
    rw [co_1 h1', if_neg (by decide)]
    exact meant_1 A c d B c2 v A' c' e B' c2' u w id iv ie iu hd hv he hu h1'
  by_cases h2 : cellB e u.length = true
  rotate_left
  · have h2' : cellB e u.length = false := by simpa using h2
    rw [co_1' h2', if_neg (by decide)]
    exact meant_1' A c d B c2 v A' c' e B' c2' u w id iv ie iu hd hv he hu h1 h2'
  by_cases h3 : d.length ≤ 1
  rotate_left
  · rw [co_2 h1 h2 h3, if_neg (by decide)]
    exact meant_2 A c d B c2 v A' c' e B' c2' u w id iv ie iu hd hv he hu h1 h2 h3
  by_cases hg : e.length = 0 ∧ v.length ≤ 3
  · have hD : coD v e = List.replicate v.length 1 := by unfold coD; rw [if_pos hg]
    rw [co_0 h1 h2 h3 (by rw [hD]; simp), if_pos rfl, hD]
    exact meant_g A c d B c2 v A' c' e B' c2' u w id iv ie iu hd hv he hu h1 h2 h3 hg
  have hD : coD v e = e := by unfold coD; rw [if_neg hg]
  by_cases h4 : v.length = e.length
  · rw [co_0 h1 h2 h3 (by rw [hD]; exact h4), if_pos rfl, hD]
    exact meant_n0 A c d B c2 v A' c' e B' c2' u w id iv ie iu hd hv he hu h1 h2 h3 hg h4
  · rw [co_3 h1 h2 h3 (by rw [hD]; exact h4), if_neg (by decide)]
    exact meant_n3 A c d B c2 v A' c' e B' c2' u w id iv ie iu hd hv he hu h1 h2 h3 hg h4
end Go.Proofs.Yticicfbllhnpcaa.Sh
