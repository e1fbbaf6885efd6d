/-
  What mold.Dims, Tally, Ravel and the document's own answer for any cell; nothing that was there is written. Condition: at most 100 axes and 1000 numbers.
-/
import Derived.Test.YthabimjmdnhomaaMoLaw
namespace Go.Proofs.Ythabimjmdnhomaa.Sh
open Go.RowKit
set_option linter.unusedVariables false

/-- The boxes of a cell and of the answer. -/
theorem w1_all (w : World) (x y : Value) :
    Box ((w.alloc (.cells #[x, y] 25)).alloc (.cells #[.slice none 0 0, .slice none 0 0] 25)) w.heap.size x y ∧
    Box ((w.alloc (.cells #[x, y] 25)).alloc (.cells #[.slice none 0 0, .slice none 0 0] 25)) (w.heap.size + 1) (.slice none 0 0) (.slice none 0 0) ∧
    Below w.heap.size w ((w.alloc (.cells #[x, y] 25)).alloc (.cells #[.slice none 0 0, .slice none 0 0] 25)) := by
  refine ⟨(Box.new w x y).alloc _, ?_, below_next (below_new w _) (below_new _ _)⟩
  have := Box.new (w.alloc (.cells #[x, y] 25)) (.slice none 0 0) (.slice none 0 0)
  rw [show (w.alloc (.cells #[x, y] 25)).heap.size = w.heap.size + 1 from by simp] at this
  exact this
def okE (d : List Int) (n : Nat) : Int := if cellB d n = true then 0 else 1
def okL (d : List Int) (n : Nat) (l : List Int) : List Int := if cellB d n = true then l else []
theorem ok_yes {d : List Int} {n : Nat} (h : cellB d n = true) (l : List Int) : okE d n = 0 ∧ okL d n l = l := by simp [okE, okL, h]
theorem ok_no {d : List Int} {n : Nat} (h : cellB d n = false) (l : List Int) : okE d n = 1 ∧ okL d n l = [] := by simp [okE, okL, h]
theorem getD_range (d : List Int) : (List.range d.length).map (fun i => d.getD i 0) = d := by
  apply List.ext_getElem
  · simp
  · intro i h1 h2
    simp [List.getD, h2]

set_option maxHeartbeats 4000000 in
theorem ravel_any (A : Option Addr) (c : Nat) (d : List Int) (B : Option Addr) (c2 : Nat) (v : List Int) (w : World) (id : Ints w A d) (iv : Ints w B v) (hd : d.length ≤ 100) (hv : v.length ≤ 1000) :
    Calls Try.prog 13 #[.agg #[.slice A d.length c, .slice B v.length c2]] w (RetC w (okL d v.length [(v.length : Int)]) (okL d v.length v) (.int .i64 (okE d v.length))) := by
  by_cases h1 : cellB d v.length = true
  · rw [(ok_yes h1 [(v.length : Int)]).2, (ok_yes h1 v).2, (ok_yes h1 []).1]
    obtain ⟨hd3, hv64⟩ := cellB_small h1
    have H1 := Lib.hid h1
    clear h1
    obtain ⟨ba0, br0, hb0⟩ := w1_all w (.slice A d.length c) (.slice B v.length c2)
    have BA := Lib.hid (ba0)
    have BR := Lib.hid (br0)
    have L := Lib.hid (hb0)
    have ID0 := Lib.hid id
    have IV0 := Lib.hid iv
    have ID := Lib.hid (id.below hb0)
    have IV := Lib.hid (iv.below hb0)
    clear ba0 br0 hb0 id iv
    go_enter Try.func13, Try.ntmps13
    go_wp2_with fail
    refine (cright_yes _ _ d _ _ _ _ (by unfold maxLen; omega) ID.out H1.out).mono ?_
    rintro r w1 ⟨rfl, hb⟩
    replace BA := Lib.hid (BA.out.next hb)
    replace BR := Lib.hid (BR.out.next hb)
    replace L := Lib.hid (below_next L.out hb)
    replace ID := Lib.hid (ID.out.below hb)
    replace IV := Lib.hid (IV.out.below hb)
    clear hb
    obtain ⟨qBA0, qBA1, -, -⟩ := BA.out.all
    have HG := Lib.hid BR.out.lt
    have HL := Lib.hid L.out.size
    go_wp2_with fail
    refine (list_ok _ _ v _ (by omega) IV.out).mono ?_
    rintro r w2 ⟨x, rfl, ⟨A6, c6, B6, e6, rfl, j1, j2, j3⟩, hb⟩
    clear qBA0 qBA1
    replace BA := Lib.hid (BA.out.next hb)
    replace BR := Lib.hid (BR.out.next hb)
    replace L := Lib.hid (below_next L.out hb)
    replace ID := Lib.hid (ID.out.below hb)
    replace IV := Lib.hid (IV.out.below hb)
    clear hb
    have J := Lib.hid (show IsCell w2 w1.heap.size [(v.length : Int)] v (.agg #[.slice A6 1 c6, .slice B6 v.length e6]) from ⟨A6, c6, B6, e6, rfl, j1, j2, j3⟩)
    clear j1 j2 j3
    obtain ⟨qBR0, qBR1, fBR0, fBR1⟩ := BR.out.all
    go_wp2
    have T9 := (BR.out.set0 (.slice A6 1 c6)).set1 (.slice B6 v.length e6)
    obtain ⟨t0, t1, _, _⟩ := T9.all
    refine bodyPost_ret (v := .tuple #[.agg #[.slice A6 1 c6, .slice B6 v.length e6], .int .i64 0]) (by simp [results, Try.results13, go_sem, t0, t1]) rfl ?_
    exact ⟨_, rfl, (J.out.set2 HG.out _ _).mono HL.out, (L.out.setCell (by simp) _).setCell (by simp) _⟩
  · have H1 := Lib.hid (show cellB d v.length = false by simpa using h1)
    rw [(ok_no H1.out [(v.length : Int)]).2, (ok_no H1.out v).2, (ok_no H1.out []).1]
    clear h1
    obtain ⟨ba0, br0, hb0⟩ := w1_all w (.slice A d.length c) (.slice B v.length c2)
    have BA := Lib.hid (ba0)
    have BR := Lib.hid (br0)
    have L := Lib.hid (hb0)
    have ID0 := Lib.hid id
    have IV0 := Lib.hid iv
    have ID := Lib.hid (id.below hb0)
    have IV := Lib.hid (iv.below hb0)
    clear ba0 br0 hb0 id iv
    go_enter Try.func13, Try.ntmps13
    go_wp2_with fail
    refine (cright_no _ _ d _ _ _ _ (by unfold maxLen; omega) ID.out H1.out).mono ?_
    rintro r w1 ⟨rfl, hb⟩
    replace BA := Lib.hid (BA.out.next hb)
    replace BR := Lib.hid (BR.out.next hb)
    replace L := Lib.hid (below_next L.out hb)
    replace ID := Lib.hid (ID.out.below hb)
    replace IV := Lib.hid (IV.out.below hb)
    clear hb
    obtain ⟨qBR0, qBR1, fBR0, fBR1⟩ := BR.out.all
    go_wp2
    have T9 := (BR.out.set0 (.slice none 0 0)).set1 (.slice none 0 0)
    obtain ⟨t0, t1, _, _⟩ := T9.all
    refine bodyPost_ret (v := .tuple #[.agg #[.slice none 0 0, .slice none 0 0], .int .i64 1]) (by simp [results, Try.results13, go_sem, t0, t1]) rfl ?_
    exact ⟨_, rfl, IsCell.none _ _, (L.out.setCell (by simp) _).setCell (by simp) _⟩

theorem listed_getD (d : List Int) (x : Int) (h : (listedL d).getD 0 0 = x) (hz : ¬ d.length = 0) : d.getD 0 0 = x := by
  unfold listedL at h; rw [if_neg hz] at h; exact h

set_option maxHeartbeats 4000000 in
theorem tally_any (A : Option Addr) (c : Nat) (d : List Int) (B : Option Addr) (c2 : Nat) (v : List Int) (w : World) (id : Ints w A d) (iv : Ints w B v) (hd : d.length ≤ 100) (hv : v.length ≤ 1000) :
    Calls Try.prog 11 #[.agg #[.slice A d.length c, .slice B v.length c2]] w (RetC w (okL d v.length []) (okL d v.length [(listedL d).getD 0 0]) (.int .i64 (okE d v.length))) := by
  by_cases h1 : cellB d v.length = true
  · rw [(ok_yes h1 []).2, (ok_yes h1 [(listedL d).getD 0 0]).2, (ok_yes h1 []).1]
    obtain ⟨hd3, hv64⟩ := cellB_small h1
    have H1 := Lib.hid h1
    clear h1
    obtain ⟨ba0, br0, hb0⟩ := w1_all w (.slice A d.length c) (.slice B v.length c2)
    have BA := Lib.hid (ba0)
    have BR := Lib.hid (br0)
    have L := Lib.hid (hb0)
    have ID0 := Lib.hid id
    have IV0 := Lib.hid iv
    have ID := Lib.hid (id.below hb0)
    have IV := Lib.hid (iv.below hb0)
    clear ba0 br0 hb0 id iv
    go_enter Try.func11, Try.ntmps11
    go_wp2_with fail
    refine (cright_yes _ _ d _ _ _ _ (by unfold maxLen; omega) ID.out H1.out).mono ?_
    rintro r w1 ⟨rfl, hb⟩
    replace BA := Lib.hid (BA.out.next hb)
    replace BR := Lib.hid (BR.out.next hb)
    replace L := Lib.hid (below_next L.out hb)
    replace ID := Lib.hid (ID.out.below hb)
    replace IV := Lib.hid (IV.out.below hb)
    clear hb
    have HX := Lib.hid (show (listedL d).getD 0 0 = (listedL d).getD 0 0 from rfl)
    have hl0 := listed_len d
    generalize hxx : (listedL d).getD 0 0 = x at *
    have HXX := Lib.hid hxx
    clear hxx HX
    obtain ⟨qBA0, qBA1, -, -⟩ := BA.out.all
    go_wp2_with fail
    refine (listed_any _ _ d _ (by omega) ID.out).mono ?_
    rintro r w2 ⟨A2, c2', rfl, hi, hb⟩
    clear qBA0 qBA1
    replace BA := Lib.hid (BA.out.next hb)
    replace BR := Lib.hid (BR.out.next hb)
    replace L := Lib.hid (below_next L.out hb)
    replace ID := Lib.hid (ID.out.below hb)
    replace IV := Lib.hid (IV.out.below hb)
    clear hb
    obtain ⟨bl, ol, rfl, hbl, hcl⟩ := hi hl0
    have hc0 := hcl 0 hl0
    rw [Nat.add_zero, HXX.out] at hc0
    have hl0I : (0 : Int) < ((listedL d).length : Int) := by omega
    clear hi hcl HXX
    generalize listedL d = LL at *
    have HG := Lib.hid BR.out.lt
    have HL := Lib.hid L.out.size
    go_wp2_with fail
    refine (scalar_any x _).mono ?_
    rintro r w3 ⟨y, rfl, ⟨A6, c6, B6, e6, rfl, j1, j2, j3⟩, hb⟩
    replace BA := Lib.hid (BA.out.next hb)
    replace BR := Lib.hid (BR.out.next hb)
    replace L := Lib.hid (below_next L.out hb)
    replace ID := Lib.hid (ID.out.below hb)
    replace IV := Lib.hid (IV.out.below hb)
    clear hb
    have J := Lib.hid (show IsCell w3 w2.heap.size [] [x] (.agg #[.slice A6 0 c6, .slice B6 1 e6]) from ⟨A6, c6, B6, e6, rfl, j1, j2, j3⟩)
    clear j1 j2 j3
    obtain ⟨qBR0, qBR1, fBR0, fBR1⟩ := BR.out.all
    go_wp2
    have T9 := (BR.out.set0 (.slice A6 0 c6)).set1 (.slice B6 1 e6)
    obtain ⟨t0, t1, _, _⟩ := T9.all
    refine bodyPost_ret (v := .tuple #[.agg #[.slice A6 0 c6, .slice B6 1 e6], .int .i64 0]) (by simp [results, Try.results11, go_sem, t0, t1]) rfl ?_
    exact ⟨_, rfl, (J.out.set2 HG.out _ _).mono HL.out, (L.out.setCell (by simp) _).setCell (by simp) _⟩
  · have H1 := Lib.hid (show cellB d v.length = false by simpa using h1)
    rw [(ok_no H1.out []).2, (ok_no H1.out [(listedL d).getD 0 0]).2, (ok_no H1.out []).1]
    clear h1
    obtain ⟨ba0, br0, hb0⟩ := w1_all w (.slice A d.length c) (.slice B v.length c2)
    have BA := Lib.hid (ba0)
    have BR := Lib.hid (br0)
    have L := Lib.hid (hb0)
    have ID0 := Lib.hid id
    have IV0 := Lib.hid iv
    have ID := Lib.hid (id.below hb0)
    have IV := Lib.hid (iv.below hb0)
    clear ba0 br0 hb0 id iv
    go_enter Try.func11, Try.ntmps11
    go_wp2_with fail
    refine (cright_no _ _ d _ _ _ _ (by unfold maxLen; omega) ID.out H1.out).mono ?_
    rintro r w1 ⟨rfl, hb⟩
    replace BA := Lib.hid (BA.out.next hb)
    replace BR := Lib.hid (BR.out.next hb)
    replace L := Lib.hid (below_next L.out hb)
    replace ID := Lib.hid (ID.out.below hb)
    replace IV := Lib.hid (IV.out.below hb)
    clear hb
    obtain ⟨qBR0, qBR1, fBR0, fBR1⟩ := BR.out.all
    go_wp2
    have T9 := (BR.out.set0 (.slice none 0 0)).set1 (.slice none 0 0)
    obtain ⟨t0, t1, _, _⟩ := T9.all
    refine bodyPost_ret (v := .tuple #[.agg #[.slice none 0 0, .slice none 0 0], .int .i64 1]) (by simp [results, Try.results11, go_sem, t0, t1]) rfl ?_
    exact ⟨_, rfl, IsCell.none _ _, (L.out.setCell (by simp) _).setCell (by simp) _⟩

set_option maxHeartbeats 4000000 in
theorem rtally_any (A : Option Addr) (c : Nat) (d : List Int) (B : Option Addr) (c2 : Nat) (v : List Int) (w : World) (id : Ints w A d) (iv : Ints w B v) (hd : d.length ≤ 100) (hv : v.length ≤ 1000) :
    Calls Try.prog 12 #[.agg #[.slice A d.length c, .slice B v.length c2]] w (RetC w (okL d v.length []) (okL d v.length [(listedL d).getD 0 0]) (.int .i64 (okE d v.length))) := by
  by_cases h1 : cellB d v.length = true
  · rw [(ok_yes h1 []).2, (ok_yes h1 [(listedL d).getD 0 0]).2, (ok_yes h1 []).1]
    obtain ⟨hd3, hv64⟩ := cellB_small h1
    have H1 := Lib.hid h1
    clear h1
    obtain ⟨ba0, br0, hb0⟩ := w1_all w (.slice A d.length c) (.slice B v.length c2)
    have BA := Lib.hid (ba0)
    have BR := Lib.hid (br0)
    have L := Lib.hid (hb0)
    have ID0 := Lib.hid id
    have IV0 := Lib.hid iv
    have ID := Lib.hid (id.below hb0)
    have IV := Lib.hid (iv.below hb0)
    clear ba0 br0 hb0 id iv
    go_enter Try.func12, Try.ntmps12
    go_wp2_with fail
    refine (rright_yes _ _ d _ _ _ _ (by unfold maxLen; omega) ID.out H1.out).mono ?_
    rintro r w1 ⟨rfl, hb⟩
    replace BA := Lib.hid (BA.out.next hb)
    replace BR := Lib.hid (BR.out.next hb)
    replace L := Lib.hid (below_next L.out hb)
    replace ID := Lib.hid (ID.out.below hb)
    replace IV := Lib.hid (IV.out.below hb)
    clear hb
    generalize hxx : (listedL d).getD 0 0 = x at *
    have HXX := Lib.hid hxx
    clear hxx
    have HG := Lib.hid BR.out.lt
    have HL := Lib.hid L.out.size
    by_cases hz : d.length = 0
    · have hz1 : ((d.length : Int) == 0) = true := by simp [hz]
      have hx1 : x = 1 := by rw [← HXX.out, List.eq_nil_of_length_eq_zero hz]; rfl
      subst hx1
      clear hz HXX
      obtain ⟨qBA0, qBA1, -, -⟩ := BA.out.all
      go_wp2_with fail
      refine (rscalar_any 1 _).mono ?_
      rintro r w2 ⟨y, rfl, ⟨A6, c6, B6, e6, rfl, j1, j2, j3⟩, hb⟩
      clear qBA0 qBA1
      replace BA := Lib.hid (BA.out.next hb)
      replace BR := Lib.hid (BR.out.next hb)
      replace L := Lib.hid (below_next L.out hb)
      replace ID := Lib.hid (ID.out.below hb)
      replace IV := Lib.hid (IV.out.below hb)
      clear hb
      have J := Lib.hid (show IsCell w2 w1.heap.size [] [1] (.agg #[.slice A6 0 c6, .slice B6 1 e6]) from ⟨A6, c6, B6, e6, rfl, j1, j2, j3⟩)
      clear j1 j2 j3
      obtain ⟨qBR0, qBR1, fBR0, fBR1⟩ := BR.out.all
      go_wp2
      have T9 := (BR.out.set0 (.slice A6 0 c6)).set1 (.slice B6 1 e6)
      obtain ⟨t0, t1, _, _⟩ := T9.all
      refine bodyPost_ret (v := .tuple #[.agg #[.slice A6 0 c6, .slice B6 1 e6], .int .i64 0]) (by simp [results, Try.results12, go_sem, t0, t1]) rfl ?_
      exact ⟨_, rfl, (J.out.set2 HG.out _ _).mono HL.out, (L.out.setCell (by simp) _).setCell (by simp) _⟩
    · have hz1 : ((d.length : Int) == 0) = false := by simpa using hz
      obtain ⟨bl, ol, rfl, hbl, hcl⟩ := ID.out (by omega)
      have hc0 := hcl 0 (by omega)
      rw [Nat.add_zero, listed_getD d x HXX.out hz] at hc0
      have hl0I : (0 : Int) < (d.length : Int) := by omega
      clear hz HXX hcl
      obtain ⟨qBA0, qBA1, -, -⟩ := BA.out.all
      go_wp2_with fail
      refine (rscalar_any x _).mono ?_
      rintro r w2 ⟨y, rfl, ⟨A6, c6, B6, e6, rfl, j1, j2, j3⟩, hb⟩
      clear qBA0 qBA1
      replace BA := Lib.hid (BA.out.next hb)
      replace BR := Lib.hid (BR.out.next hb)
      replace L := Lib.hid (below_next L.out hb)
      replace ID := Lib.hid (ID.out.below hb)
      replace IV := Lib.hid (IV.out.below hb)
      clear hb
      have J := Lib.hid (show IsCell w2 w1.heap.size [] [x] (.agg #[.slice A6 0 c6, .slice B6 1 e6]) from ⟨A6, c6, B6, e6, rfl, j1, j2, j3⟩)
      clear j1 j2 j3
      obtain ⟨qBR0, qBR1, fBR0, fBR1⟩ := BR.out.all
      go_wp2
      have T9 := (BR.out.set0 (.slice A6 0 c6)).set1 (.slice B6 1 e6)
      obtain ⟨t0, t1, _, _⟩ := T9.all
      refine bodyPost_ret (v := .tuple #[.agg #[.slice A6 0 c6, .slice B6 1 e6], .int .i64 0]) (by simp [results, Try.results12, go_sem, t0, t1]) rfl ?_
      exact ⟨_, rfl, (J.out.set2 HG.out _ _).mono HL.out, (L.out.setCell (by simp) _).setCell (by simp) _⟩
  · have H1 := Lib.hid (show cellB d v.length = false by simpa using h1)
    rw [(ok_no H1.out []).2, (ok_no H1.out [(listedL d).getD 0 0]).2, (ok_no H1.out []).1]
    clear h1
    obtain ⟨ba0, br0, hb0⟩ := w1_all w (.slice A d.length c) (.slice B v.length c2)
    have BA := Lib.hid (ba0)
    have BR := Lib.hid (br0)
    have L := Lib.hid (hb0)
    have ID0 := Lib.hid id
    have IV0 := Lib.hid iv
    have ID := Lib.hid (id.below hb0)
    have IV := Lib.hid (iv.below hb0)
    clear ba0 br0 hb0 id iv
    go_enter Try.func12, Try.ntmps12
    go_wp2_with fail
    refine (rright_no _ _ d _ _ _ _ (by unfold maxLen; omega) ID.out H1.out).mono ?_
    rintro r w1 ⟨rfl, hb⟩
    replace BA := Lib.hid (BA.out.next hb)
    replace BR := Lib.hid (BR.out.next hb)
    replace L := Lib.hid (below_next L.out hb)
    replace ID := Lib.hid (ID.out.below hb)
    replace IV := Lib.hid (IV.out.below hb)
    clear hb
    obtain ⟨qBR0, qBR1, fBR0, fBR1⟩ := BR.out.all
    go_wp2
    have T9 := (BR.out.set0 (.slice none 0 0)).set1 (.slice none 0 0)
    obtain ⟨t0, t1, _, _⟩ := T9.all
    refine bodyPost_ret (v := .tuple #[.agg #[.slice none 0 0, .slice none 0 0], .int .i64 1]) (by simp [results, Try.results12, go_sem, t0, t1]) rfl ?_
    exact ⟨_, rfl, IsCell.none _ _, (L.out.setCell (by simp) _).setCell (by simp) _⟩

set_option maxHeartbeats 4000000 in
theorem dims_any (A : Option Addr) (c : Nat) (d : List Int) (B : Option Addr) (c2 : Nat) (v : List Int) (w : World) (id : Ints w A d) (iv : Ints w B v) (hd : d.length ≤ 100) (hv : v.length ≤ 1000) :
    Calls Try.prog 9 #[.agg #[.slice A d.length c, .slice B v.length c2]] w (RetC w (okL d v.length [(d.length : Int)]) (okL d v.length d) (.int .i64 (okE d v.length))) := by
  by_cases h1 : cellB d v.length = true
  · rw [(ok_yes h1 [(d.length : Int)]).2, (ok_yes h1 d).2, (ok_yes h1 []).1]
    obtain ⟨hd3, hv64⟩ := cellB_small h1
    have H1 := Lib.hid h1
    clear h1
    obtain ⟨ba0, br0, hb0⟩ := w1_all w (.slice A d.length c) (.slice B v.length c2)
    have BA := Lib.hid (ba0)
    have BR := Lib.hid (br0)
    have L := Lib.hid (hb0)
    have ID0 := Lib.hid id
    have IV0 := Lib.hid iv
    have ID := Lib.hid (id.below hb0)
    have IV := Lib.hid (iv.below hb0)
    clear ba0 br0 hb0 id iv
    go_enter Try.func9, Try.ntmps9
    go_wp2_with fail
    refine (cright_yes _ _ d _ _ _ _ (by unfold maxLen; omega) ID.out H1.out).mono ?_
    rintro r w1 ⟨rfl, hb⟩
    replace BA := Lib.hid (BA.out.next hb)
    replace BR := Lib.hid (BR.out.next hb)
    replace L := Lib.hid (below_next L.out hb)
    replace ID := Lib.hid (ID.out.below hb)
    replace IV := Lib.hid (IV.out.below hb)
    clear hb
    have hmk := fun W => run_make_row' (P := Try.prog) 23 2 (.int .i64 0) 8 Try.underlying23 numL rfl .i64 .i64 d.length (by omega) (by omega) W
    obtain ⟨qBA0, qBA1, -, -⟩ := BA.out.all
    have R1 := Lib.hid (show Row64 (w1.alloc (.cells (madeCells #[Value.int .i64 0] d.length) 2)) w1.heap.size (List.replicate d.length 0) from by rw [cells_made]; exact heap_alloc_new w1 _)
    have K1 := Lib.hid (below_new w1 (.cells (madeCells #[Value.int .i64 0] d.length) 2))
    have BA1 := Lib.hid (BA.out.next K1.out)
    obtain ⟨z0, z1, -, -⟩ := BA1.out.all
    have hg1 := BR.out.lt
    have hgA := BA.out.lt
    have L1 := Lib.hid (below_next L.out K1.out)
    have BR1 := Lib.hid (BR.out.next K1.out)
    go_wp2
    clear z0 z1 hmk
    clear qBA0 qBA1
    generalize hW : w1.alloc (.cells (madeCells #[Value.int .i64 0] d.length) 2) = W1 at *
    clear hW
    have hL1 := L.out.size
    generalize w1.heap.size = g at *
    go_loopw [18] (fun j wr => ∃ k : Nat, k ≤ d.length ∧ j = .int .i64 (k : Int) ∧ W1.grownBy wr (some g) ∧ Row64 wr g (fillK (fun i => d.getD i 0) d.length k)) (fun j _ => d.length - (intOf j).toNat)
    case atStart => exact ⟨0, Nat.zero_le _, rfl, turned_refl _ _, by rw [fillK_0]; exact R1.out⟩
    case round =>
      obtain ⟨k, hk, rfl, hgr, hrw⟩ := hrel
      have GR := Lib.hid hgr
      have RW := Lib.hid hrw
      have LB := Lib.hid (below_turned L1.out hgr hL1)
      clear hgr hrw
      by_cases hlt : k < d.length
      · obtain ⟨b, off, rfl, hb, hcs⟩ := ID0.out.below LB.out (by omega)
        have hck := hcs k hlt
        have HS := Lib.hid (show (fillK (fun i => d.getD i 0) d.length k).set k (d.getD k 0) = fillK (fun i => d.getD i 0) d.length (k + 1) from fillK_succ (fun i => d.getD i 0) d.length k hlt)
        have x0 := RW.out.cell (i := k) (by rw [fillK_length]; exact hlt)
        have x1 := RW.out.frozen k
        have i0 : (0 : Int) ≤ (k : Int) := by omega
        have i1 : (k : Int) < (d.length : Int) := by omega
        clear hcs
        generalize d.getD k 0 = y at *
        go_wp2
        go_roundw
        case rel => exact ⟨k + 1, by omega, by go_num, turned_set GR.out k _, by rw [← HS.out]; exact RW.out.set_ k _⟩
        case measure => simp [intOf]; omega
      · obtain rfl : k = d.length := by omega
        have hrn := RW.out
        rw [fillK_n, getD_range] at hrn
        have RN := Lib.hid hrn.ints
        have BRk := Lib.hid (BR1.out.grown GR.out (fun e => by injection e with e; omega))
        have HG := Lib.hid BRk.out.lt
        have HL := Lib.hid LB.out.size
        clear hrn
        go_wp2_with fail
        refine (list_ok _ _ d _ (by omega) RN.out).mono ?_
        rintro r w3 ⟨x, rfl, ⟨A6, c6, B6, e6, rfl, j1, j2, j3⟩, hb⟩
        have J := Lib.hid (show IsCell w3 wr.heap.size [(d.length : Int)] d (.agg #[.slice A6 1 c6, .slice B6 d.length e6]) from ⟨A6, c6, B6, e6, rfl, j1, j2, j3⟩)
        have BR3 := Lib.hid (BRk.out.next hb)
        have L3 := Lib.hid (below_next LB.out hb)
        clear j1 j2 j3 hb
        obtain ⟨q0, q1, q2, q3⟩ := BR3.out.all
        go_wp2
        have T9 := (BR3.out.set0 (.slice A6 1 c6)).set1 (.slice B6 d.length e6)
        obtain ⟨t0, t1, _, _⟩ := T9.all
        refine bodyPost_ret (v := .tuple #[.agg #[.slice A6 1 c6, .slice B6 d.length e6], .int .i64 0]) (by simp [results, Try.results9, go_sem, t0, t1]) rfl ?_
        exact ⟨_, rfl, (J.out.set2 HG.out _ _).mono HL.out, (L3.out.setCell (by simp) _).setCell (by simp) _⟩
  · have H1 := Lib.hid (show cellB d v.length = false by simpa using h1)
    rw [(ok_no H1.out [(d.length : Int)]).2, (ok_no H1.out d).2, (ok_no H1.out []).1]
    clear h1
    obtain ⟨ba0, br0, hb0⟩ := w1_all w (.slice A d.length c) (.slice B v.length c2)
    have BA := Lib.hid (ba0)
    have BR := Lib.hid (br0)
    have L := Lib.hid (hb0)
    have ID0 := Lib.hid id
    have IV0 := Lib.hid iv
    have ID := Lib.hid (id.below hb0)
    have IV := Lib.hid (iv.below hb0)
    clear ba0 br0 hb0 id iv
    go_enter Try.func9, Try.ntmps9
    go_wp2_with fail
    refine (cright_no _ _ d _ _ _ _ (by unfold maxLen; omega) ID.out H1.out).mono ?_
    rintro r w1 ⟨rfl, hb⟩
    replace BA := Lib.hid (BA.out.next hb)
    replace BR := Lib.hid (BR.out.next hb)
    replace L := Lib.hid (below_next L.out hb)
    replace ID := Lib.hid (ID.out.below hb)
    replace IV := Lib.hid (IV.out.below hb)
    clear hb
    obtain ⟨qBR0, qBR1, fBR0, fBR1⟩ := BR.out.all
    go_wp2
    have T9 := (BR.out.set0 (.slice none 0 0)).set1 (.slice none 0 0)
    obtain ⟨t0, t1, _, _⟩ := T9.all
    refine bodyPost_ret (v := .tuple #[.agg #[.slice none 0 0, .slice none 0 0], .int .i64 1]) (by simp [results, Try.results9, go_sem, t0, t1]) rfl ?_
    exact ⟨_, rfl, IsCell.none _ _, (L.out.setCell (by simp) _).setCell (by simp) _⟩
end Go.Proofs.Ythabimjmdnhomaa.Sh
