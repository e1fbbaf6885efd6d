/-
  What rifflelaw06.lives answers. No condition. Helpers of the laws of layer 6. No condition. What mold.Dims, Tally, Ravel and the document's own answer for any cell; nothing that was there is written. Condition: at most 100 axes and 1000 numbers. What the document's Dims and Ravel, mold.Count and the document's Count answer for any cell; nothing that was there is written. Condition: at most 100 axes and 1000 numbers. What the document's Ravel answers for any cell; nothing that was there is written. Condition: at most 100 axes and 1000 numbers. What mold.Count and the document's Count answer for any cell; nothing that was there is written. Condition: at most 100 axes and 1000 numbers. What the document's Count answers for any cell; nothing that was there is written. Condition: at most 100 axes and 1000 numbers. Which part stands where in a Copy: the list of the parts' numbers, and the number at each place. No condition beyond those told. What riffleref06.along answers for a cell that may be, beside no axes; nothing that was there is written. Condition: the cell may be. A list of numbers does not lie in the box of a cell: a store into the box leaves the list as it was. No condition. Copy once each gives the list again; what mold.beside and mold.joined answer. Conditions: as told in each. shape.With, mold.listed and mold.beside with the room of what they answer; what mold.joined answers. Conditions: as told in each. What mold.joined answers for two lists of axes that have some. Condition: at most 100 axes, from 0 to 64.
-/
import Derived.Test.YtfnpdflapmbnjaaPkN
import Derived.Test.YtfnpdflapmbnjaaPkC
import Derived.Test.YtfnpdflapmbnjaaRows
import Derived.Test.YtfnpdflapmbnjaaPkM
-- MoLives
namespace Go.Proofs.Ytfnpdflapmbnjaa.Sh
open Go.RowKit
set_option linter.unusedVariables false

def RetLs (B : Option Addr) (n c : Nat) (w : World) (e : Ending) (w' : World) : Prop := ∃ A1, e = .returned (.agg #[.slice A1 1 1, .slice B n c]) ∧ Ints w' A1 [(n : Int)] ∧ Below w.heap.size w w'
set_option maxHeartbeats 1000000 in
theorem list_n (B : Option Addr) (n c : Nat) (w : World) (hn : n ≤ 1000) : Calls Try.prog 35 #[.slice B n c] w (RetLs B n c w) := by
  go_enter Try.func35, Try.ntmps35
  go_wp2
  refine bodyPost_ret (v := .agg #[.slice (some ⟨w.heap.size + 1, 0, none⟩) 1 1, .slice B n c]) (by simp [results, Try.results35, go_sem]) rfl ?_
  have hm := MineT.new 3 (w.alloc (.cells #[.slice (some ⟨w.heap.size + 1, 0, none⟩) 1 1, .slice B n c] 25)) [(n : Int)] w.heap.size (by simp) (by unfold maxLen; simp)
  rw [show (w.alloc (.cells #[.slice (some ⟨w.heap.size + 1, 0, none⟩) 1 1, .slice B n c] 25)).heap.size = w.heap.size + 1 from by simp] at hm
  exact ⟨_, rfl, hm.ints', below_next (below_new _ _) (below_new _ _)⟩
theorem resh_live (A : Option Addr) (c : Nat) (B : Option Addr) (c2 : Nat) (A' : Option Addr) (c' : Nat) (B' : Option Addr) (c2' : Nat) (w : World) (id : Ints w A [2]) (iv : Ints w B [2, 2]) (ie : Ints w A' [3]) (iu : Ints w B' [1, 2, 3]) :
    Calls Try.prog 18 #[.agg #[.slice A 1 c, .slice B 2 c2], .agg #[.slice A' 1 c', .slice B' 3 c2']] w (RetC w [2, 2] [1, 2, 3, 1] (.int .i64 0)) := by
  have h := reshape_any A c [2] B c2 [2, 2] A' c' [3] B' c2' [1, 2, 3] w id iv ie iu (by simp) (by simp) (by simp) (by simp)
  rw [show rsE [2] [2, 2] [3] [1, 2, 3] = 0 by decide, show rsD [2] [2, 2] [3] [1, 2, 3] = [2, 2] by decide, show rsV [2] [2, 2] [3] [1, 2, 3] = [1, 2, 3, 1] by decide] at h
  exact h
theorem copy_live (A : Option Addr) (c : Nat) (B : Option Addr) (c2 : Nat) (A' : Option Addr) (c' : Nat) (B' : Option Addr) (c2' : Nat) (w : World) (id : Ints w A [3]) (iv : Ints w B [1, 0, 2]) (ie : Ints w A' [3]) (iu : Ints w B' [4, 5, 6]) (hcu : 3 ≤ c2') (hcm : c2' ≤ maxLen) :
    Calls Try.prog 12 #[.agg #[.slice A 1 c, .slice B 3 c2], .agg #[.slice A' 1 c', .slice B' 3 c2'], .bool false] w (RetC w [3] [4, 6, 6] (.int .i64 0)) := by
  have h := copy_last A c [3] B c2 [1, 0, 2] A' c' [3] B' c2' [4, 5, 6] 0 3 1 3 [3] [1, 0, 2] w id iv ie iu hcu hcm
    ⟨by decide, by decide, by decide, by decide, by decide, by decide, .inr (by decide), by decide, by decide, by decide, by decide, by decide⟩ (by decide)
  rw [show withL [3] ((0 : Nat) : Int) (sumL [1, 0, 2]) = [3] by decide, show copV [4, 5, 6] 1 [1, 0, 2] = [4, 6, 6] by decide] at h
  exact h
theorem nums_eq (A : Option Addr) (c : Nat) (a : List Int) (B : Option Addr) (d : Nat) (w : World) (hl : a.length ≤ 1000) (ha : Ints w A a) (hb : Ints w B a) :
    Calls Try.prog 19 #[.slice A a.length c, .slice B a.length d] w fun e w' => e = .returned (.bool true) ∧ Below w.heap.size w w' :=
  (nums_b A c a B d a w (by unfold maxLen; omega) (by unfold maxLen; omega) ha hb).mono fun _ _ ⟨h1, h2⟩ => ⟨by rw [h1]; simp, h2⟩
theorem nums4 (A : Option Addr) (c : Nat) (B : Option Addr) (d : Nat) (w : World) (ha : Ints w A [1, 2, 3, 1]) (hb : Ints w B [1, 2, 3, 1]) :
    Calls Try.prog 19 #[.slice A 4 c, .slice B 4 d] w fun e w' => e = .returned (.bool true) ∧ Below w.heap.size w w' := nums_eq A c [1, 2, 3, 1] B d w (by simp) ha hb
theorem nums3 (A : Option Addr) (c : Nat) (B : Option Addr) (d : Nat) (w : World) (ha : Ints w A [4, 6, 6]) (hb : Ints w B [4, 6, 6]) :
    Calls Try.prog 19 #[.slice A 3 c, .slice B 3 d] w fun e w' => e = .returned (.bool true) ∧ Below w.heap.size w w' := nums_eq A c [4, 6, 6] B d w (by simp) ha hb
theorem row1 (t : TypeId) (w : World) (xs : List Int) (hl : xs.length ≤ 1000) : Ints (w.alloc (.cells (cellsI xs) t)) (some ⟨w.heap.size, 0, none⟩) xs := (MineT.new t w xs 0 (by simp) (by unfold maxLen; omega)).ints'

set_option maxHeartbeats 2000000 in
set_option maxRecDepth 100000 in
theorem lives_any (w : World) : Calls Try.prog 11 #[] w fun e w' => e = .returned (.bool true) ∧ Below w.heap.size w w' := by
  have L := Lib.hid (Below.refl w.heap.size w)
  have KB := Lib.hid (below_new w (.cells (cellsI [2, 2]) 2))
  replace L := Lib.hid (below_next L.out KB.out)
  clear KB
  have R1 := Lib.hid (row1 2 w [2, 2] (by simp))
  go_enter Try.func11, Try.ntmps11
  go_wp2_with fail
  refine (list_n _ _ _ _ (by omega)).mono ?_
  rintro r w1 ⟨A1, rfl, hi, hb⟩
  replace L := Lib.hid (below_next L.out hb)
  replace R1 := Lib.hid (R1.out.below hb)
  clear hb
  have I1 := Lib.hid (hi)
  clear hi
  have KB := Lib.hid (below_new w1 (.cells (cellsI [1, 2, 3]) 2))
  replace L := Lib.hid (below_next L.out KB.out)
  replace R1 := Lib.hid (R1.out.below KB.out)
  replace I1 := Lib.hid (I1.out.below KB.out)
  clear KB
  have R2 := Lib.hid (row1 2 w1 [1, 2, 3] (by simp))
  go_wp2_with fail
  refine (list_n _ _ _ _ (by omega)).mono ?_
  rintro r w2 ⟨A2, rfl, hi, hb⟩
  replace L := Lib.hid (below_next L.out hb)
  replace R1 := Lib.hid (R1.out.below hb)
  replace I1 := Lib.hid (I1.out.below hb)
  replace R2 := Lib.hid (R2.out.below hb)
  clear hb
  have I2 := Lib.hid (hi)
  clear hi
  go_wp2_with fail
  refine (resh_live _ _ _ _ _ _ _ _ _ I1.out R1.out I2.out R2.out).mono ?_
  rintro r w3 ⟨x, rfl, ⟨A3, c3, B3, e3, rfl, j1, j2, -⟩, hb⟩
  replace L := Lib.hid (below_next L.out hb)
  replace R1 := Lib.hid (R1.out.below hb)
  replace I1 := Lib.hid (I1.out.below hb)
  replace R2 := Lib.hid (R2.out.below hb)
  replace I2 := Lib.hid (I2.out.below hb)
  clear hb
  clear I1
  clear R1
  clear I2
  clear R2
  have Q3 := Lib.hid j2.ints
  clear j1 j2
  have KB := Lib.hid (below_new w3 (.cells #[.slice A3 2 c3, .slice B3 4 e3] 25))
  have K3 := Lib.hid (Box.new w3 (.slice A3 2 c3) (.slice B3 4 e3))
  replace L := Lib.hid (below_next L.out KB.out)
  replace Q3 := Lib.hid (Q3.out.below KB.out)
  go_upto_region 2 with (fail)
  clear KB
  generalize hW : w3.alloc (.cells #[.slice A3 2 c3, .slice B3 4 e3] 25) = W3 at *
  clear hW
  generalize w3.heap.size = g3 at *
  have KB := Lib.hid (below_new W3 (.cells (cellsI [1, 0, 2]) 2))
  replace L := Lib.hid (below_next L.out KB.out)
  replace Q3 := Lib.hid (Q3.out.below KB.out)
  replace K3 := Lib.hid (K3.out.next KB.out)
  clear KB
  have R1 := Lib.hid (row1 2 W3 [1, 0, 2] (by simp))
  go_wp2_with fail
  refine (list_n _ _ _ _ (by omega)).mono ?_
  rintro r w4 ⟨A4, rfl, hi, hb⟩
  replace L := Lib.hid (below_next L.out hb)
  replace Q3 := Lib.hid (Q3.out.below hb)
  replace K3 := Lib.hid (K3.out.next hb)
  replace R1 := Lib.hid (R1.out.below hb)
  clear hb
  have I1 := Lib.hid (hi)
  clear hi
  have KB := Lib.hid (below_new w4 (.cells (cellsI [4, 5, 6]) 2))
  replace L := Lib.hid (below_next L.out KB.out)
  replace Q3 := Lib.hid (Q3.out.below KB.out)
  replace K3 := Lib.hid (K3.out.next KB.out)
  replace R1 := Lib.hid (R1.out.below KB.out)
  replace I1 := Lib.hid (I1.out.below KB.out)
  clear KB
  have R2 := Lib.hid (row1 2 w4 [4, 5, 6] (by simp))
  go_wp2_with fail
  refine (list_n _ _ _ _ (by omega)).mono ?_
  rintro r w5 ⟨A5, rfl, hi, hb⟩
  replace L := Lib.hid (below_next L.out hb)
  replace Q3 := Lib.hid (Q3.out.below hb)
  replace K3 := Lib.hid (K3.out.next hb)
  replace R1 := Lib.hid (R1.out.below hb)
  replace I1 := Lib.hid (I1.out.below hb)
  replace R2 := Lib.hid (R2.out.below hb)
  clear hb
  have I2 := Lib.hid (hi)
  clear hi
  go_wp2_with fail
  refine (copy_live _ _ _ _ _ _ _ _ _ I1.out R1.out I2.out R2.out (by omega) (by unfold maxLen; omega)).mono ?_
  rintro r w6 ⟨x, rfl, ⟨A6, c6, B6, e6, rfl, j1, j2, -⟩, hb⟩
  replace L := Lib.hid (below_next L.out hb)
  replace Q3 := Lib.hid (Q3.out.below hb)
  replace K3 := Lib.hid (K3.out.next hb)
  replace R1 := Lib.hid (R1.out.below hb)
  replace I1 := Lib.hid (I1.out.below hb)
  replace R2 := Lib.hid (R2.out.below hb)
  replace I2 := Lib.hid (I2.out.below hb)
  clear hb
  clear I1
  clear R1
  clear I2
  clear R2
  have Q6 := Lib.hid j2.ints
  clear j1 j2
  have KB := Lib.hid (below_new w6 (.cells #[.slice A6 1 c6, .slice B6 3 e6] 25))
  have K6 := Lib.hid (Box.new w6 (.slice A6 1 c6) (.slice B6 3 e6))
  replace L := Lib.hid (below_next L.out KB.out)
  replace Q3 := Lib.hid (Q3.out.below KB.out)
  replace K3 := Lib.hid (K3.out.next KB.out)
  replace Q6 := Lib.hid (Q6.out.below KB.out)
  go_upto_region 3 with (fail)
  clear KB
  generalize hW : w6.alloc (.cells #[.slice A6 1 c6, .slice B6 3 e6] 25) = W6 at *
  clear hW
  generalize w6.heap.size = g6 at *
  have K36 := Lib.hid K3.out.c1
  have KB := Lib.hid (below_new W6 (.cells (cellsI [1, 2, 3, 1]) 2))
  replace L := Lib.hid (below_next L.out KB.out)
  replace Q3 := Lib.hid (Q3.out.below KB.out)
  replace K3 := Lib.hid (K3.out.next KB.out)
  replace Q6 := Lib.hid (Q6.out.below KB.out)
  replace K6 := Lib.hid (K6.out.next KB.out)
  clear KB
  have R1 := Lib.hid (row1 2 W6 [1, 2, 3, 1] (by simp))
  obtain ⟨q0, q1, -, -⟩ := K3.out.all
  have q2 : W6.cell? ⟨g3, 1, none⟩ = some (.slice B3 4 e3) := K36.out
  go_wp2_with fail
  refine (nums4 _ _ _ _ _ Q3.out R1.out).mono ?_
  rintro r w7 ⟨rfl, hb⟩
  replace L := Lib.hid (below_next L.out hb)
  replace Q3 := Lib.hid (Q3.out.below hb)
  replace K3 := Lib.hid (K3.out.next hb)
  replace Q6 := Lib.hid (Q6.out.below hb)
  replace K6 := Lib.hid (K6.out.next hb)
  replace R1 := Lib.hid (R1.out.below hb)
  clear hb
  clear q0 q1 q2 K36
  clear R1
  have K67 := Lib.hid K6.out.c1
  have KB := Lib.hid (below_new w7 (.cells (cellsI [4, 6, 6]) 2))
  replace L := Lib.hid (below_next L.out KB.out)
  replace Q3 := Lib.hid (Q3.out.below KB.out)
  replace K3 := Lib.hid (K3.out.next KB.out)
  replace Q6 := Lib.hid (Q6.out.below KB.out)
  replace K6 := Lib.hid (K6.out.next KB.out)
  clear KB
  have R2 := Lib.hid (row1 2 w7 [4, 6, 6] (by simp))
  obtain ⟨q0, q1, -, -⟩ := K6.out.all
  have q2 : w7.cell? ⟨g6, 1, none⟩ = some (.slice B6 3 e6) := K67.out
  go_wp2_with fail
  refine (nums3 _ _ _ _ _ Q6.out R2.out).mono ?_
  rintro r w8 ⟨rfl, hb⟩
  replace L := Lib.hid (below_next L.out hb)
  replace Q3 := Lib.hid (Q3.out.below hb)
  replace K3 := Lib.hid (K3.out.next hb)
  replace Q6 := Lib.hid (Q6.out.below hb)
  replace K6 := Lib.hid (K6.out.next hb)
  replace R2 := Lib.hid (R2.out.below hb)
  clear hb
  go_wp2
  go_ret
  exact ⟨ret_bool (by first | rfl | simp), L.out⟩
end Go.Proofs.Ytfnpdflapmbnjaa.Sh
-- MoLaw
namespace Go.Proofs.Ytfnpdflapmbnjaa.Sh
open Go.RowKit
set_option linter.unusedVariables false

theorem rsame_eq (A : Option Addr) (c : Nat) (d : List Int) (B : Option Addr) (c2 : Nat) (v : List Int) (A' : Option Addr) (c' : Nat) (B' : Option Addr) (c2' : Nat) (w : World) (hd : d.length ≤ 1000) (hv : v.length ≤ 1000) (id : Ints w A d) (iv : Ints w B v) (ie : Ints w A' d) (iu : Ints w B' v) :
    Calls Try.prog 14 #[.agg #[.slice A d.length c, .slice B v.length c2], .agg #[.slice A' d.length c', .slice B' v.length c2']] w fun r w' => r = .returned (.bool true) ∧ Below w.heap.size w w' :=
  (rsame_any A c d B c2 v A' c' d B' c2' v w (by unfold maxLen; omega) (by unfold maxLen; omega) (by unfold maxLen; omega) (by unfold maxLen; omega) id iv ie iu).mono fun _ _ ⟨h1, h2⟩ => ⟨by rw [h1]; simp [sameB], h2⟩
theorem rsD_len {d v e u : List Int} (hv : v.length ≤ 200) : (rsD d v e u).length ≤ 200 := by
  unfold rsD; split
  · simpa [lensL] using hv
  · simp
theorem rsV_len {d v e u : List Int} : (rsV d v e u).length ≤ 64 := by
  unfold rsV; split
  · rename_i h
    have hr : rightB (lensL v) = true := by
      unfold rsE at h
      split at h
      · split at h
        · split at h
          · omega
          · split at h
            · assumption
            · omega
        · omega
      · omega
    obtain ⟨n, hn, h64⟩ := sizeI_nat _ hr
    rw [hn]; simpa using h64
  · simp
theorem reshape_w (A : Option Addr) (c : Nat) (d : List Int) (B : Option Addr) (c2 : Nat) (v : List Int) (A' : Option Addr) (c' : Nat) (e : List Int) (B' : Option Addr) (c2' : Nat) (u : List Int) (w : World) (E : Int) (D V : List Int) (hE : rsE d v e u = E) (hD : rsD d v e u = D) (hV : rsV d v e u = V)
    (id : Ints w A d) (iv : Ints w B v) (ie : Ints w A' e) (iu : Ints w B' u) (hd : d.length ≤ 100) (hv : v.length ≤ 1000) (he : e.length ≤ 100) (hu : u.length ≤ 1000) :
    Calls Try.prog 18 #[.agg #[.slice A d.length c, .slice B v.length c2], .agg #[.slice A' e.length c', .slice B' u.length c2']] w (RetC w D V (.int .i64 E)) := by
  subst hE hD hV; exact reshape_any A c d B c2 v A' c' e B' c2' u w id iv ie iu hd hv he hu
end Go.Proofs.Ytfnpdflapmbnjaa.Sh
-- MoTell
namespace Go.Proofs.Ytfnpdflapmbnjaa.Sh
open Go.RowKit
set_option linter.unusedVariables false

/-- The boxes of a cell and of the answer. -/
theorem w1_all (w : World) (x y : Value) :
    Box ((w.alloc (.cells #[x, y] 25)).alloc (.cells #[.slice none 0 0, .slice none 0 0] 25)) w.heap.size x y ∧
    Box ((w.alloc (.cells #[x, y] 25)).alloc (.cells #[.slice none 0 0, .slice none 0 0] 25)) (w.heap.size + 1) (.slice none 0 0) (.slice none 0 0) ∧
    Below w.heap.size w ((w.alloc (.cells #[x, y] 25)).alloc (.cells #[.slice none 0 0, .slice none 0 0] 25)) := by
  refine ⟨(Box.new w x y).alloc _, ?_, below_next (below_new w _) (below_new _ _)⟩
  have := Box.new (w.alloc (.cells #[x, y] 25)) (.slice none 0 0) (.slice none 0 0)
  rw [show (w.alloc (.cells #[x, y] 25)).heap.size = w.heap.size + 1 from by simp] at this
  exact this
def okE (d : List Int) (n : Nat) : Int := if cellB d n = true then 0 else 1
def okL (d : List Int) (n : Nat) (l : List Int) : List Int := if cellB d n = true then l else []
theorem ok_yes {d : List Int} {n : Nat} (h : cellB d n = true) (l : List Int) : okE d n = 0 ∧ okL d n l = l := by simp [okE, okL, h]
theorem ok_no {d : List Int} {n : Nat} (h : cellB d n = false) (l : List Int) : okE d n = 1 ∧ okL d n l = [] := by simp [okE, okL, h]
theorem getD_range (d : List Int) : (List.range d.length).map (fun i => d.getD i 0) = d := by
  apply List.ext_getElem
  · simp
  · intro i h1 h2
    simp [List.getD, h2]

set_option maxHeartbeats 4000000 in
theorem ravel_any (A : Option Addr) (c : Nat) (d : List Int) (B : Option Addr) (c2 : Nat) (v : List Int) (w : World) (id : Ints w A d) (iv : Ints w B v) (hd : d.length ≤ 100) (hv : v.length ≤ 1000) :
    Calls Try.prog 17 #[.agg #[.slice A d.length c, .slice B v.length c2]] w (RetC w (okL d v.length [(v.length : Int)]) (okL d v.length v) (.int .i64 (okE d v.length))) := by
  by_cases h1 : cellB d v.length = true
  · rw [(ok_yes h1 [(v.length : Int)]).2, (ok_yes h1 v).2, (ok_yes h1 []).1]
    obtain ⟨hd3, hv64⟩ := cellB_small h1
    have H1 := Lib.hid h1
    clear h1
    obtain ⟨ba0, br0, hb0⟩ := w1_all w (.slice A d.length c) (.slice B v.length c2)
    have BA := Lib.hid (ba0)
    have BR := Lib.hid (br0)
    have L := Lib.hid (hb0)
    have ID0 := Lib.hid id
    have IV0 := Lib.hid iv
    have ID := Lib.hid (id.below hb0)
    have IV := Lib.hid (iv.below hb0)
    clear ba0 br0 hb0 id iv
    go_enter Try.func17, Try.ntmps17
    go_wp2_with fail
    refine (cright_yes _ _ d _ _ _ _ (by unfold maxLen; omega) ID.out H1.out).mono ?_
    rintro r w1 ⟨rfl, hb⟩
    replace BA := Lib.hid (BA.out.next hb)
    replace BR := Lib.hid (BR.out.next hb)
    replace L := Lib.hid (below_next L.out hb)
    replace ID := Lib.hid (ID.out.below hb)
    replace IV := Lib.hid (IV.out.below hb)
    clear hb
    obtain ⟨qBA0, qBA1, -, -⟩ := BA.out.all
    have HG := Lib.hid BR.out.lt
    have HL := Lib.hid L.out.size
    go_wp2_with fail
    refine (list_ok _ _ v _ (by omega) IV.out).mono ?_
    rintro r w2 ⟨x, rfl, ⟨A6, c6, B6, e6, rfl, j1, j2, j3⟩, hb⟩
    clear qBA0 qBA1
    replace BA := Lib.hid (BA.out.next hb)
    replace BR := Lib.hid (BR.out.next hb)
    replace L := Lib.hid (below_next L.out hb)
    replace ID := Lib.hid (ID.out.below hb)
    replace IV := Lib.hid (IV.out.below hb)
    clear hb
    have J := Lib.hid (show IsCell w2 w1.heap.size [(v.length : Int)] v (.agg #[.slice A6 1 c6, .slice B6 v.length e6]) from ⟨A6, c6, B6, e6, rfl, j1, j2, j3⟩)
    clear j1 j2 j3
    obtain ⟨qBR0, qBR1, fBR0, fBR1⟩ := BR.out.all
    go_wp2
    have T9 := (BR.out.set0 (.slice A6 1 c6)).set1 (.slice B6 v.length e6)
    obtain ⟨t0, t1, _, _⟩ := T9.all
    refine bodyPost_ret (v := .tuple #[.agg #[.slice A6 1 c6, .slice B6 v.length e6], .int .i64 0]) (by simp [results, Try.results17, go_sem, t0, t1]) rfl ?_
    exact ⟨_, rfl, (J.out.set2 HG.out _ _).mono HL.out, (L.out.setCell (by simp) _).setCell (by simp) _⟩
  · have H1 := Lib.hid (show cellB d v.length = false by simpa using h1)
    rw [(ok_no H1.out [(v.length : Int)]).2, (ok_no H1.out v).2, (ok_no H1.out []).1]
    clear h1
    obtain ⟨ba0, br0, hb0⟩ := w1_all w (.slice A d.length c) (.slice B v.length c2)
    have BA := Lib.hid (ba0)
    have BR := Lib.hid (br0)
    have L := Lib.hid (hb0)
    have ID0 := Lib.hid id
    have IV0 := Lib.hid iv
    have ID := Lib.hid (id.below hb0)
    have IV := Lib.hid (iv.below hb0)
    clear ba0 br0 hb0 id iv
    go_enter Try.func17, Try.ntmps17
    go_wp2_with fail
    refine (cright_no _ _ d _ _ _ _ (by unfold maxLen; omega) ID.out H1.out).mono ?_
    rintro r w1 ⟨rfl, hb⟩
    replace BA := Lib.hid (BA.out.next hb)
    replace BR := Lib.hid (BR.out.next hb)
    replace L := Lib.hid (below_next L.out hb)
    replace ID := Lib.hid (ID.out.below hb)
    replace IV := Lib.hid (IV.out.below hb)
    clear hb
    obtain ⟨qBR0, qBR1, fBR0, fBR1⟩ := BR.out.all
    go_wp2
    have T9 := (BR.out.set0 (.slice none 0 0)).set1 (.slice none 0 0)
    obtain ⟨t0, t1, _, _⟩ := T9.all
    refine bodyPost_ret (v := .tuple #[.agg #[.slice none 0 0, .slice none 0 0], .int .i64 1]) (by simp [results, Try.results17, go_sem, t0, t1]) rfl ?_
    exact ⟨_, rfl, IsCell.none _ _, (L.out.setCell (by simp) _).setCell (by simp) _⟩

theorem listed_getD (d : List Int) (x : Int) (h : (listedL d).getD 0 0 = x) (hz : ¬ d.length = 0) : d.getD 0 0 = x := by
  unfold listedL at h; rw [if_neg hz] at h; exact h

set_option maxHeartbeats 4000000 in
theorem dims_any (A : Option Addr) (c : Nat) (d : List Int) (B : Option Addr) (c2 : Nat) (v : List Int) (w : World) (id : Ints w A d) (iv : Ints w B v) (hd : d.length ≤ 100) (hv : v.length ≤ 1000) :
    Calls Try.prog 16 #[.agg #[.slice A d.length c, .slice B v.length c2]] w (RetC w (okL d v.length [(d.length : Int)]) (okL d v.length d) (.int .i64 (okE d v.length))) := by
  by_cases h1 : cellB d v.length = true
  · rw [(ok_yes h1 [(d.length : Int)]).2, (ok_yes h1 d).2, (ok_yes h1 []).1]
    obtain ⟨hd3, hv64⟩ := cellB_small h1
    have H1 := Lib.hid h1
    clear h1
    obtain ⟨ba0, br0, hb0⟩ := w1_all w (.slice A d.length c) (.slice B v.length c2)
    have BA := Lib.hid (ba0)
    have BR := Lib.hid (br0)
    have L := Lib.hid (hb0)
    have ID0 := Lib.hid id
    have IV0 := Lib.hid iv
    have ID := Lib.hid (id.below hb0)
    have IV := Lib.hid (iv.below hb0)
    clear ba0 br0 hb0 id iv
    go_enter Try.func16, Try.ntmps16
    go_wp2_with fail
    refine (cright_yes _ _ d _ _ _ _ (by unfold maxLen; omega) ID.out H1.out).mono ?_
    rintro r w1 ⟨rfl, hb⟩
    replace BA := Lib.hid (BA.out.next hb)
    replace BR := Lib.hid (BR.out.next hb)
    replace L := Lib.hid (below_next L.out hb)
    replace ID := Lib.hid (ID.out.below hb)
    replace IV := Lib.hid (IV.out.below hb)
    clear hb
    have hmk := fun W => run_make_row' (P := Try.prog) 23 2 (.int .i64 0) 8 Try.underlying23 numL rfl .i64 .i64 d.length (by omega) (by omega) W
    obtain ⟨qBA0, qBA1, -, -⟩ := BA.out.all
    have R1 := Lib.hid (show Row64 (w1.alloc (.cells (madeCells #[Value.int .i64 0] d.length) 2)) w1.heap.size (List.replicate d.length 0) from by rw [cells_made]; exact heap_alloc_new w1 _)
    have K1 := Lib.hid (below_new w1 (.cells (madeCells #[Value.int .i64 0] d.length) 2))
    have BA1 := Lib.hid (BA.out.next K1.out)
    obtain ⟨z0, z1, -, -⟩ := BA1.out.all
    have hg1 := BR.out.lt
    have hgA := BA.out.lt
    have L1 := Lib.hid (below_next L.out K1.out)
    have BR1 := Lib.hid (BR.out.next K1.out)
    go_wp2
    clear z0 z1 hmk
    clear qBA0 qBA1
    generalize hW : w1.alloc (.cells (madeCells #[Value.int .i64 0] d.length) 2) = W1 at *
    clear hW
    have hL1 := L.out.size
    generalize w1.heap.size = g at *
    go_loopw [18] (fun j wr => ∃ k : Nat, k ≤ d.length ∧ j = .int .i64 (k : Int) ∧ W1.grownBy wr (some g) ∧ Row64 wr g (fillK (fun i => d.getD i 0) d.length k)) (fun j _ => d.length - (intOf j).toNat)
    case atStart => exact ⟨0, Nat.zero_le _, rfl, turned_refl _ _, by rw [fillK_0]; exact R1.out⟩
    case round =>
      obtain ⟨k, hk, rfl, hgr, hrw⟩ := hrel
      have GR := Lib.hid hgr
      have RW := Lib.hid hrw
      have LB := Lib.hid (below_turned L1.out hgr hL1)
      clear hgr hrw
      by_cases hlt : k < d.length
      · obtain ⟨b, off, rfl, hb, hcs⟩ := ID0.out.below LB.out (by omega)
        have hck := hcs k hlt
        have HS := Lib.hid (show (fillK (fun i => d.getD i 0) d.length k).set k (d.getD k 0) = fillK (fun i => d.getD i 0) d.length (k + 1) from fillK_succ (fun i => d.getD i 0) d.length k hlt)
        have x0 := RW.out.cell (i := k) (by rw [fillK_length]; exact hlt)
        have x1 := RW.out.frozen k
        have i0 : (0 : Int) ≤ (k : Int) := by omega
        have i1 : (k : Int) < (d.length : Int) := by omega
        clear hcs
        generalize d.getD k 0 = y at *
        go_wp2
        go_roundw
        case rel => exact ⟨k + 1, by omega, by go_num, turned_set GR.out k _, by rw [← HS.out]; exact RW.out.set_ k _⟩
        case measure => simp [intOf]; omega
      · obtain rfl : k = d.length := by omega
        have hrn := RW.out
        rw [fillK_n, getD_range] at hrn
        have RN := Lib.hid hrn.ints
        have BRk := Lib.hid (BR1.out.grown GR.out (fun e => by injection e with e; omega))
        have HG := Lib.hid BRk.out.lt
        have HL := Lib.hid LB.out.size
        clear hrn
        go_wp2_with fail
        refine (list_ok _ _ d _ (by omega) RN.out).mono ?_
        rintro r w3 ⟨x, rfl, ⟨A6, c6, B6, e6, rfl, j1, j2, j3⟩, hb⟩
        have J := Lib.hid (show IsCell w3 wr.heap.size [(d.length : Int)] d (.agg #[.slice A6 1 c6, .slice B6 d.length e6]) from ⟨A6, c6, B6, e6, rfl, j1, j2, j3⟩)
        have BR3 := Lib.hid (BRk.out.next hb)
        have L3 := Lib.hid (below_next LB.out hb)
        clear j1 j2 j3 hb
        obtain ⟨q0, q1, q2, q3⟩ := BR3.out.all
        go_wp2
        have T9 := (BR3.out.set0 (.slice A6 1 c6)).set1 (.slice B6 d.length e6)
        obtain ⟨t0, t1, _, _⟩ := T9.all
        refine bodyPost_ret (v := .tuple #[.agg #[.slice A6 1 c6, .slice B6 d.length e6], .int .i64 0]) (by simp [results, Try.results16, go_sem, t0, t1]) rfl ?_
        exact ⟨_, rfl, (J.out.set2 HG.out _ _).mono HL.out, (L3.out.setCell (by simp) _).setCell (by simp) _⟩
  · have H1 := Lib.hid (show cellB d v.length = false by simpa using h1)
    rw [(ok_no H1.out [(d.length : Int)]).2, (ok_no H1.out d).2, (ok_no H1.out []).1]
    clear h1
    obtain ⟨ba0, br0, hb0⟩ := w1_all w (.slice A d.length c) (.slice B v.length c2)
    have BA := Lib.hid (ba0)
    have BR := Lib.hid (br0)
    have L := Lib.hid (hb0)
    have ID0 := Lib.hid id
    have IV0 := Lib.hid iv
    have ID := Lib.hid (id.below hb0)
    have IV := Lib.hid (iv.below hb0)
    clear ba0 br0 hb0 id iv
    go_enter Try.func16, Try.ntmps16
    go_wp2_with fail
    refine (cright_no _ _ d _ _ _ _ (by unfold maxLen; omega) ID.out H1.out).mono ?_
    rintro r w1 ⟨rfl, hb⟩
    replace BA := Lib.hid (BA.out.next hb)
    replace BR := Lib.hid (BR.out.next hb)
    replace L := Lib.hid (below_next L.out hb)
    replace ID := Lib.hid (ID.out.below hb)
    replace IV := Lib.hid (IV.out.below hb)
    clear hb
    obtain ⟨qBR0, qBR1, fBR0, fBR1⟩ := BR.out.all
    go_wp2
    have T9 := (BR.out.set0 (.slice none 0 0)).set1 (.slice none 0 0)
    obtain ⟨t0, t1, _, _⟩ := T9.all
    refine bodyPost_ret (v := .tuple #[.agg #[.slice none 0 0, .slice none 0 0], .int .i64 1]) (by simp [results, Try.results16, go_sem, t0, t1]) rfl ?_
    exact ⟨_, rfl, IsCell.none _ _, (L.out.setCell (by simp) _).setCell (by simp) _⟩
end Go.Proofs.Ytfnpdflapmbnjaa.Sh
-- MoTell2
namespace Go.Proofs.Ytfnpdflapmbnjaa.Sh
open Go.RowKit
set_option linter.unusedVariables false


end Go.Proofs.Ytfnpdflapmbnjaa.Sh
-- MoTell3
namespace Go.Proofs.Ytfnpdflapmbnjaa.Sh
open Go.RowKit
set_option linter.unusedVariables false

theorem keepRS {W : World} {g gR : Nat} {x : Value} (h : W.cell? ⟨g, 1, none⟩ = some x) (hne : g ≠ gR) (a b : Value) : ((W.setCell ⟨gR, 0, none⟩ a).setCell ⟨gR, 1, none⟩ b).cell? ⟨g, 1, none⟩ = some x :=
  (World.cell?_setCell_other _ ⟨gR, 1, none⟩ ⟨g, 1, none⟩ b (fun e => by injection e with e1; omega)).trans ((World.cell?_setCell_other W ⟨gR, 0, none⟩ ⟨g, 1, none⟩ a (fun e => by injection e with e1; omega)).trans h)
theorem keepAl {W : World} {g : Nat} {x : Value} (h : W.cell? ⟨g, 1, none⟩ = some x) (o : Obj) : (W.alloc o).cell? ⟨g, 1, none⟩ = some x :=
  ((below_new W o).cell (p := ⟨g, 1, none⟩) (World.block_lt_of_cell? W ⟨g, 1, none⟩ h)).trans h
theorem keepRA {W : World} {g gR : Nat} {x : Value} (h : W.cell? ⟨g, 1, none⟩ = some x) (hne : g ≠ gR) (a b : Value) (o : Obj) : (((W.setCell ⟨gR, 0, none⟩ a).setCell ⟨gR, 1, none⟩ b).alloc o).cell? ⟨g, 1, none⟩ = some x := keepAl (keepRS h hne a b) o
/-- Behind the answer's making. -/
def CutR (w : World) (g : Nat) (n : Nat) (v : List Int) (wx : World) : Prop := ∃ A6 B6 e6, Box wx g (.slice A6 1 1) (.slice B6 v.length e6) ∧ IsCell wx w.heap.size [(n : Int)] v (.agg #[.slice A6 1 1, .slice B6 v.length e6]) ∧ Below g w wx
theorem cutR_mk {w w9 : World} {gR b n : Nat} {v : List Int} {A9 : Option Addr} {c9 : Nat} {x y : Value} (hm : MineT 2 w9 w.heap.size (.slice A9 v.length c9) v) (hi : MineT 3 w9 w.heap.size (.slice (some ⟨b, 0, none⟩) 1 1) [(n : Int)]) (hb : Below w.heap.size w w9) (bx : Box w9 gR x y) (hg : gR < w.heap.size) :
    CutR w gR n v ((w9.setCell ⟨gR, 0, none⟩ (.slice (some ⟨b, 0, none⟩) 1 1)).setCell ⟨gR, 1, none⟩ (.slice A9 v.length c9)) :=
  ⟨_, _, _, (bx.set0 _).set1 _, isCell_of (d := [(n : Int)]) (hi.box hg _ _) (hm.box hg _ _) (Nat.le_refl _) (Nat.le_refl _), ((hb.mono (Nat.le_of_lt hg)).setCell (Nat.le_refl _) _).setCell (Nat.le_refl _) _⟩
theorem cutR_a {w w9 : World} {gR n : Nat} {v : List Int} {A9 : Option Addr} {c9 : Nat} {x y : Value} (hm : MineT 2 w9 w.heap.size (.slice A9 v.length c9) v) (hb : Below w.heap.size w w9) (bx : Box w9 gR x y) (hg : gR < w.heap.size) :
    CutR w gR n v (((w9.setCell ⟨gR, 0, none⟩ (.slice (some ⟨w9.heap.size, 0, none⟩) 1 1)).setCell ⟨gR, 1, none⟩ (.slice A9 v.length c9)).alloc (.cells #[.int .i64 (n : Int)] 3)) := by
  have hsz : ((w9.setCell ⟨gR, 0, none⟩ (.slice (some ⟨w9.heap.size, 0, none⟩) 1 1)).setCell ⟨gR, 1, none⟩ (.slice A9 v.length c9)).heap.size = w9.heap.size := by simp [World.setCell]
  have hi := MineT.new 3 ((w9.setCell ⟨gR, 0, none⟩ (.slice (some ⟨w9.heap.size, 0, none⟩) 1 1)).setCell ⟨gR, 1, none⟩ (.slice A9 v.length c9)) [(n : Int)] w.heap.size (by rw [hsz]; exact hb.size) (by unfold maxLen; simp)
  rw [hsz] at hi
  exact ⟨_, _, _, ((bx.set0 _).set1 _).alloc _, isCell_of (d := [(n : Int)]) hi ((hm.box hg _ _).alloc _) (Nat.le_refl _) (Nat.le_refl _), (((hb.mono (Nat.le_of_lt hg)).setCell (Nat.le_refl _) _).setCell (Nat.le_refl _) _).alloc (by rw [hsz]; have := hb.size; omega) _⟩

end Go.Proofs.Ytfnpdflapmbnjaa.Sh
-- MoTell4
namespace Go.Proofs.Ytfnpdflapmbnjaa.Sh
open Go.RowKit
set_option linter.unusedVariables false

/-- What Count answers. -/
def cnE (d v : List Int) : Int := if cellB d v.length = true then (if v.length = 1 then (if v.getD 0 0 < 0 then 5 else if 64 < v.getD 0 0 then 4 else 0) else 2) else 1
def cnD (d v : List Int) : List Int := if cnE d v = 0 then [v.getD 0 0] else []
def idN (i : Nat) : Int := (i : Int)
def cnV (d v : List Int) : List Int := if cnE d v = 0 then (List.range (v.getD 0 0).toNat).map idN else []
section
variable {d v : List Int}
theorem cn_1 (h : cellB d v.length = false) : cnE d v = 1 ∧ cnD d v = [] ∧ cnV d v = [] := by simp [cnD, cnV, cnE, h]
theorem cn_2 (h1 : cellB d v.length = true) (h : ¬ v.length = 1) : cnE d v = 2 ∧ cnD d v = [] ∧ cnV d v = [] := by simp [cnD, cnV, cnE, h1, h]
theorem cn_3 (h1 : cellB d v.length = true) (h2 : v.length = 1) (h : v.getD 0 0 < 0) : cnE d v = 5 ∧ cnD d v = [] ∧ cnV d v = [] := by
  have hE : cnE d v = 5 := by unfold cnE; rw [if_pos h1, if_pos h2, if_pos h]
  exact ⟨hE, by unfold cnD; rw [hE]; rfl, by unfold cnV; rw [hE]; rfl⟩
theorem cn_4 (h1 : cellB d v.length = true) (h2 : v.length = 1) (h3 : ¬ v.getD 0 0 < 0) (h : 64 < v.getD 0 0) : cnE d v = 4 ∧ cnD d v = [] ∧ cnV d v = [] := by
  have hE : cnE d v = 4 := by unfold cnE; rw [if_pos h1, if_pos h2, if_neg h3, if_pos h]
  exact ⟨hE, by unfold cnD; rw [hE]; rfl, by unfold cnV; rw [hE]; rfl⟩
theorem cn_5 (h1 : cellB d v.length = true) (h2 : v.length = 1) (h3 : ¬ v.getD 0 0 < 0) (h : ¬ 64 < v.getD 0 0) {n : Nat} (hn : v.getD 0 0 = n) : cnE d v = 0 ∧ cnD d v = [(n : Int)] ∧ cnV d v = (List.range n).map idN := by
  have hE : cnE d v = 0 := by unfold cnE; rw [if_pos h1, if_pos h2, if_neg h3, if_neg h]
  exact ⟨hE, by unfold cnD; rw [if_pos hE, hn], by unfold cnV; rw [if_pos hE, hn, Int.toNat_natCast]⟩
end
theorem below_yesB (n : Int) (w : World) (h : n < 0) : Calls Try.prog 38 #[.int .i64 n] w fun e w' => e = .returned (.bool true) ∧ Below w.heap.size w w' :=
  (below_yes n w h).mono fun _ _ ⟨h1, h2⟩ => ⟨h1, by subst h2; exact Below.refl _ _⟩
theorem below_noB (n : Int) (w : World) (h : 0 ≤ n) : Calls Try.prog 38 #[.int .i64 n] w fun e w' => e = .returned (.bool false) ∧ Below w.heap.size w w' :=
  (below_no n w h).mono fun _ _ ⟨h1, h2⟩ => ⟨h1, by subst h2; exact Below.refl _ _⟩
theorem one_of {v : List Int} (h : v.length = 1) : v = [v.getD 0 0] := by
  match v, h with
  | [x], _ => rfl

end Go.Proofs.Ytfnpdflapmbnjaa.Sh
-- MoTell5
namespace Go.Proofs.Ytfnpdflapmbnjaa.Sh
open Go.RowKit
set_option linter.unusedVariables false

theorem idN_succ (k : Nat) : (List.range (k + 1)).map idN = (List.range k).map idN ++ [(k : Int)] := by rw [List.range_succ]; simp [idN]

end Go.Proofs.Ytfnpdflapmbnjaa.Sh
-- MoSeq
namespace Go.Proofs.Ytfnpdflapmbnjaa.Sh
open Go.RowKit
set_option linter.unusedVariables false

/-- The numbers of the first k parts, each as often as it is copied. -/
def seqL (T : List Int) : Nat → List Nat
  | 0 => []
  | k + 1 => seqL T k ++ List.replicate (tk T k) k
theorem seqL_len (T : List Int) (k : Nat) : (seqL T k).length = tot T k := by
  induction k with
  | zero => rfl
  | succ k ih => rw [seqL, List.length_append, ih, List.length_replicate, tot]
theorem flatMap_rep (i : Nat) (x : Nat) (f : Nat → List Int) : (List.replicate i x).flatMap f = (List.replicate i (f x)).flatten := by
  induction i with
  | zero => rfl
  | succ i ih => rw [List.replicate_succ, List.flatMap_cons, ih, List.replicate_succ, List.flatten_cons]
theorem cpL_seq (u : List Int) (s : Nat) (T : List Int) (k : Nat) : cpL u s T k = (seqL T k).flatMap (fun j => piece u j s) := by
  induction k with
  | zero => rfl
  | succ k ih => rw [cpL, seqL, List.flatMap_append, ← ih, flatMap_rep]
theorem seqL_add (T : List Int) (A j : Nat) : seqL T (A * T.length + j) = seqL T (A * T.length) ++ (seqL T j).map (· + A * T.length) := by
  induction j with
  | zero => simp [seqL]
  | succ j ih =>
    rw [← Nat.add_assoc, seqL, ih, tk_mod, seqL, List.map_append, List.append_assoc, List.map_replicate, Nat.add_comm j]
/-- The parts of a second round are those of the first one, further on. -/
theorem seqL_at (T : List Int) (A : Nat) (q : Nat) (hq : q < A * tot T T.length) : (seqL T (A * T.length))[q]? = (seqL T T.length)[q % tot T T.length]?.map (· + q / tot T T.length * T.length) := by
  have hS : 0 < tot T T.length := by
    rcases Nat.eq_zero_or_pos (tot T T.length) with h | h
    · rw [h] at hq; simp at hq
    · exact h
  induction A with
  | zero => simp at hq
  | succ A ih =>
    have e : (A + 1) * T.length = A * T.length + T.length := by rw [Nat.add_mul, Nat.one_mul]
    rw [e, seqL_add]
    have hl : (seqL T (A * T.length)).length = A * tot T T.length := by rw [seqL_len, tot_mul]
    by_cases hlt : q < A * tot T T.length
    · rw [List.getElem?_append_left (by rw [hl]; exact hlt)]
      exact ih hlt
    · rw [List.getElem?_append_right (by rw [hl]; omega), hl, List.getElem?_map]
      rw [Nat.add_mul, Nat.one_mul] at hq
      have h1 : q / tot T T.length = A := by
        apply Nat.div_eq_of_lt_le
        · omega
        · rw [Nat.add_mul, Nat.one_mul]; omega
      have h2 : q % tot T T.length = q - A * tot T T.length := by
        have := Nat.div_add_mod q (tot T T.length)
        rw [h1, Nat.mul_comm] at this
        omega
      rw [h1, h2]
theorem flatMap_at (f : Nat → List Int) (s : Nat) (hs : 0 < s) (l : List Nat) (hf : ∀ x ∈ l, (f x).length = s) (i : Nat) : (l.flatMap f)[i]? = l[i / s]?.bind fun j => (f j)[i % s]? := by
  induction l generalizing i with
  | nil => simp
  | cons x l ih =>
    rw [List.flatMap_cons]
    have hx := hf x (by simp)
    by_cases hi : i < s
    · rw [List.getElem?_append_left (by rw [hx]; exact hi), Nat.div_eq_of_lt hi, Nat.mod_eq_of_lt hi]
      simp
    · have h1 : i / s = (i - s) / s + 1 := by
        have : i = (i - s) + s := by omega
        conv => lhs; rw [this]
        exact Nat.add_div_right _ hs
      have h2 : i % s = (i - s) % s := by
        have : i = (i - s) + s := by omega
        conv => lhs; rw [this]
        exact Nat.add_mod_right _ _
      rw [List.getElem?_append_right (by rw [hx]; omega), hx, ih (fun y hy => hf y (List.mem_cons_of_mem _ hy)), h1, h2, List.getElem?_cons_succ]
theorem seqL_lt (T : List Int) (k : Nat) : ∀ x ∈ seqL T k, x < k := by
  induction k with
  | zero => intro x hx; cases hx
  | succ k ih =>
    intro x hx
    rw [seqL, List.mem_append] at hx
    rcases hx with h | h
    · have := ih x h; omega
    · have := (List.mem_replicate.1 h).2; omega
/-- The number at a place of what is copied. -/
theorem cpL_at {u : List Int} {s A : Nat} {T : List Int} (hs : 0 < s) (hu : u.length = A * T.length * s) (i : Nat) (hi : i < A * tot T T.length * s) :
    ∃ j, (seqL T T.length)[i / s % tot T T.length]? = some j ∧ j < T.length ∧ (cpL u s T (A * T.length)).getD i 0 = u.getD ((i / s / tot T T.length * T.length + j) * s + i % s) 0 := by
  have hq : i / s < A * tot T T.length := Nat.div_lt_of_lt_mul (by rw [Nat.mul_comm]; exact hi)
  have hS : 0 < tot T T.length := by
    rcases Nat.eq_zero_or_pos (tot T T.length) with h | h
    · rw [h] at hq; simp at hq
    · exact h
  have hr : i / s % tot T T.length < (seqL T T.length).length := by rw [seqL_len]; exact Nat.mod_lt _ hS
  refine ⟨(seqL T T.length)[i / s % tot T T.length], List.getElem?_eq_getElem hr, seqL_lt T _ _ (List.getElem_mem hr), ?_⟩
  have hpl : ∀ x ∈ seqL T (A * T.length), (piece u x s).length = s := fun x hx => by
    apply piece_length
    rw [hu]
    exact Nat.mul_le_mul_right s (seqL_lt T _ x hx)
  have h1 := flatMap_at (fun j => piece u j s) s hs (seqL T (A * T.length)) hpl i
  rw [← cpL_seq, seqL_at T A _ hq, List.getElem?_eq_getElem hr] at h1
  simp only [Option.map_some, Option.bind_some] at h1
  have hj := seqL_lt T _ _ (List.getElem_mem hr)
  have hms : i % s < s := Nat.mod_lt _ hs
  unfold List.getD
  rw [h1, Nat.add_comm (i / s / tot T T.length * T.length)]
  congr 1
  unfold piece
  rw [List.getElem?_take_of_lt hms, List.getElem?_drop]
end Go.Proofs.Ytfnpdflapmbnjaa.Sh
-- MoAlong
namespace Go.Proofs.Ytfnpdflapmbnjaa.Sh
open Go.RowKit
set_option linter.unusedVariables false

/-- A cell, wherever it lies. -/
def RetAl (w : World) (d v : List Int) (e : Ending) (w' : World) : Prop := ∃ A c B c2, e = .returned (.agg #[.slice A d.length c, .slice B v.length c2]) ∧ Ints w' A d ∧ Ints w' B v ∧ Below w.heap.size w w'
set_option maxHeartbeats 4000000 in
theorem along_nil (A : Option Addr) (c : Nat) (e : List Int) (B : Option Addr) (c2 : Nat) (u : List Int) (w : World) (ie : Ints w A e) (iu : Ints w B u) (h : cellB e u.length = true) :
    Calls Try.prog 46 #[.agg #[.slice A e.length c, .slice B u.length c2], .slice none 0 0] w (RetAl w (listedL e) u) := by
  obtain ⟨h3, hu64⟩ := cellB_small h
  obtain ⟨ba0, br0, hb0⟩ := w1_all w (.slice A e.length c) (.slice B u.length c2)
  have BA := Lib.hid ba0
  have BR := Lib.hid br0
  have L := Lib.hid hb0
  clear ba0 br0 hb0
  by_cases hz : e.length = 0
  · have hu1 : u.length = 1 := by
      have := (cellB_parts h).2
      rw [List.eq_nil_of_length_eq_zero hz] at this
      have h1 : sizeI [] = 1 := by decide
      omega
    have hD : listedL e = [1] := by simp [listedL, hz]
    rw [hD]
    have hz1 : decide (0 < e.length) = false := by simp [hz]
    have IU := Lib.hid iu
    have HU := Lib.hid (one_of hu1)
    have hup : 0 < u.length := by omega
    have hul : u.length ≤ 1 := by omega
    have hzz := fun W A c iW => rzero_m A c [1] W (by simp) iW (by decide)
    rw [show (sizeI [1]).toNat = 1 by decide] at hzz
    have HZ := Lib.hid hzz
    clear hD hz hu1 hzz ie iu h
    have K1 := Lib.hid (row1 3 ((w.alloc (.cells #[.slice A e.length c, .slice B u.length c2] 25)).alloc (.cells #[.slice none 0 0, .slice none 0 0] 25)) [1] (by simp))
    have KB := Lib.hid (below_new ((w.alloc (.cells #[.slice A e.length c, .slice B u.length c2] 25)).alloc (.cells #[.slice none 0 0, .slice none 0 0] 25)) (.cells (cellsI [1]) 3))
    replace BA := Lib.hid (BA.out.next KB.out)
    replace BR := Lib.hid (BR.out.next KB.out)
    replace L := Lib.hid (below_next L.out KB.out)
    clear KB
    go_enter Try.func46, Try.ntmps46
    go_wp2_with fail
    refine (HZ.out _ _ _ (by have := K1.out; rw [show ((w.alloc (.cells #[.slice A e.length c, .slice B u.length c2] 25)).alloc (.cells #[.slice none 0 0, .slice none 0 0] 25)).heap.size = w.heap.size + 1 + 1 from by simp] at this; exact this)).mono ?_
    rintro r w1 ⟨A1, c1, g, rfl, hm1, hr1, hg1, hb⟩
    have hgw0 : w.heap.size + 1 + 1 + 1 ≤ g := by simpa using hg1
    have hgw : w.heap.size + 1 < g := by omega
    replace BA := Lib.hid (BA.out.next hb)
    replace BR := Lib.hid (BR.out.next hb)
    replace L := Lib.hid (below_next L.out hb)
    have M1 := Lib.hid hm1
    have R1 := Lib.hid (show Row64 w1 g (List.replicate 1 0) from hr1)
    have hgl : g < w1.heap.size := R1.out.lt
    clear hm1 hr1 hb hg1 HZ K1
    have B2 := Lib.hid (Box.new w1 (.slice A1 1 c1) (.slice (some ⟨g, 0, none⟩) 1 1))
    have K2 := Lib.hid (below_new w1 (.cells #[.slice A1 1 c1, .slice (some ⟨g, 0, none⟩) 1 1] 25))
    replace BA := Lib.hid (BA.out.next K2.out)
    replace BR := Lib.hid (BR.out.next K2.out)
    replace L := Lib.hid (below_next L.out K2.out)
    have M2 := Lib.hid (M1.out.below K2.out (Nat.le_refl _))
    have R2 := Lib.hid (R1.out.next K2.out)
    go_wp2
    go_loopw [7] (fun j wr => ∃ k : Nat, k ≤ 1 ∧ j = .int .i64 (k : Int) ∧ (w1.alloc (.cells #[.slice A1 1 c1, .slice (some ⟨g, 0, none⟩) 1 1] 25)).grownBy wr (some g) ∧ Row64 wr g (fillK (fun _ => u.getD 0 0) 1 k)) (fun j _ => 1 - (intOf j).toNat)
    case atStart => exact ⟨0, Nat.zero_le _, rfl, turned_refl _ _, by rw [fillK_0]; exact R2.out⟩
    case round =>
      obtain ⟨k, hk, rfl, hgr, hrw⟩ := hrel
      have GR := Lib.hid hgr
      have RW := Lib.hid hrw
      have B5 := Lib.hid (B2.out.grown hgr (fun e => by injection e with e; omega))
      have BAz := Lib.hid (BA.out.grown hgr (fun e => by injection e with e; omega))
      have LZ := Lib.hid (below_turned L.out hgr (by omega))
      clear hgr hrw
      obtain ⟨q0, q1, -, -⟩ := B5.out.all
      obtain ⟨q2, q3, -, -⟩ := BAz.out.all
      by_cases hlt : k < 1
      · obtain rfl : k = 0 := by omega
        obtain ⟨b, off, rfl, hb, hcs⟩ := IU.out hup
        have hck := (LZ.out.cell (p := ⟨b, off + 0, none⟩) hb).trans (hcs 0 hup)
        rw [Nat.add_zero] at hck
        have HS := Lib.hid (show (fillK (fun _ => u.getD 0 0) 1 0).set 0 (u.getD 0 0) = fillK (fun _ => u.getD 0 0) 1 (0 + 1) from fillK_succ (fun _ => u.getD 0 0) 1 0 (by omega))
        have x0 := RW.out.cell (i := 0) (by rw [fillK_length]; omega)
        have x1 := RW.out.frozen 0
        have i1 : (0 : Int) < (u.length : Int) := by omega
        have N1 := Lib.hid (show w1.heap.size ≠ g by omega)
        have N2 := Lib.hid (show w.heap.size ≠ g by omega)
        have N3 := Lib.hid (show b ≠ g by omega)
        generalize u.getD 0 0 = y at *
        have KS := Lib.hid (show (wr.setCell ⟨g, 0, none⟩ (.int .i64 y)).drew.cell? ⟨w1.heap.size, 1, none⟩ = some (.slice (some ⟨g, 0, none⟩) 1 1) ∧ (wr.setCell ⟨g, 0, none⟩ (.int .i64 y)).drew.cell? ⟨w.heap.size, 1, none⟩ = some (.slice (some ⟨b, off, none⟩) u.length c2) ∧ (wr.setCell ⟨g, 0, none⟩ (.int .i64 y)).drew.cell? ⟨b, off, none⟩ = some (.int .i64 y) from ⟨keep_set q1 N1.out, keep_set q3 N2.out, keep_set hck N3.out⟩)
        clear hcs
        go_wp2_with fail
        go_region_held3 (fun w' => w'.cell? ⟨w1.heap.size, 1, none⟩ = some (.slice (some ⟨g, 0, none⟩) 1 1) ∧ w'.cell? ⟨w.heap.size, 1, none⟩ = some (.slice (some ⟨b, off, none⟩) u.length c2) ∧ w'.cell? ⟨b, off, none⟩ = some (.int .i64 y))
          (first
            | with_reducible exact KS.out
            | go_keep)
          (fail)
        go_wp2
        go_roundw
        case rel => exact ⟨0 + 1, by omega, by go_num, turned_set (turned_drew GR.out) 0 _, by rw [← HS.out]; exact RW.out.drew.set_ 0 _⟩
        case measure => simp [intOf]
      · obtain rfl : k = 1 := by omega
        have hrn : Row64 wr g u := by
          have h := RW.out
          rw [fillK_n] at h
          rw [HU.out]; exact h
        have HRN := Lib.hid hrn
        have B3 := Lib.hid (BR.out.grown GR.out (fun e => by injection e with e; omega))
        obtain ⟨y0, y1, y2, y3⟩ := B3.out.all
        have hgB := BR.out.lt
        clear hrn
        go_wp2
        have T9 := (B3.out.set0 (.slice A1 1 c1)).set1 (.slice (some ⟨g, 0, none⟩) 1 1)
        obtain ⟨t0, t1, _, _⟩ := T9.all
        refine bodyPost_ret (v := .agg #[.slice A1 1 c1, .slice (some ⟨g, 0, none⟩) 1 1]) (by simp [results, Try.results46, go_sem, t0, t1]) rfl ?_
        have m1 := ((mine_turned M2.out R2.out (by decide) GR.out).box (g := w.heap.size + 1) (by simp) (.slice A1 1 c1) (.slice (some ⟨g, 0, none⟩) 1 1)).ints'
        have hne : g ≠ w.heap.size + 1 := by omega
        have m2 := ((HRN.out.far (p := ⟨w.heap.size + 1, 0, none⟩) hne (.slice A1 1 c1)).far (p := ⟨w.heap.size + 1, 1, none⟩) hne (.slice (some ⟨g, 0, none⟩) 1 1)).ints
        refine ⟨A1, c1, some ⟨g, 0, none⟩, 1, by rw [HU.out]; rfl, m1, m2, (LZ.out.setCell (by simp) _).setCell (by simp) _⟩
  · have hD : listedL e = e := by simp only [listedL]; rw [if_neg hz]
    rw [hD]
    have hz1 : decide (0 < e.length) = true := decide_eq_true (by omega)
    have IE := Lib.hid ie
    have IU := Lib.hid iu
    clear hD hz ie iu h
    obtain ⟨q0, q1, -, -⟩ := BA.out.all
    obtain ⟨y0, y1, y2, y3⟩ := BR.out.all
    go_enter Try.func46, Try.ntmps46
    go_wp2
    refine bodyPost_ret (v := .agg #[.slice A e.length c, .slice B u.length c2]) (by simp [results, Try.results46, go_sem]) rfl ?_
    have LL := below_next (below_new w (.cells #[.slice A e.length c, .slice B u.length c2] 25)) (below_new _ (.cells #[.slice A e.length c, .slice B u.length c2] 25))
    exact ⟨A, c, B, c2, rfl, IE.out.below LL, IU.out.below LL, LL⟩
end Go.Proofs.Ytfnpdflapmbnjaa.Sh
-- MoBox
namespace Go.Proofs.Ytfnpdflapmbnjaa.Sh
open Go.RowKit
set_option linter.unusedVariables false

theorem Box.cells {w : World} {g : Nat} {x y : Value} (h : Box w g x y) (i : Nat) {u : Value} (hu : w.cell? ⟨g, i, none⟩ = some u) : u = x ∨ u = y := by
  rw [cell_of_row w g i _ _ _ h] at hu
  match i, hu with
  | 0, hu => left; simpa using hu.symm
  | 1, hu => right; simpa using hu.symm
  | i + 2, hu => simp at hu
/-- The numbers lie elsewhere than the box. -/
theorem Ints.ne_box {w : World} {b off g : Nat} {l : List Int} {A B : Option Addr} {n c m e : Nat} (h : Ints w (some ⟨b, off, none⟩) l) (hp : 0 < l.length) (bx : Box w g (.slice A n c) (.slice B m e)) : b ≠ g := fun hbg => by
  obtain ⟨b', o', e', _, hc⟩ := h hp
  injection e' with e'
  injection e' with e1 e2
  subst e1 e2 hbg
  rcases bx.cells _ (hc 0 hp) with h | h <;> cases h
theorem Ints.set_box {w : World} {g : Nat} {l : List Int} {L A B : Option Addr} {n c m e : Nat} (h : Ints w L l) (bx : Box w g (.slice A n c) (.slice B m e)) (x y : Value) : Ints ((w.setCell ⟨g, 0, none⟩ x).setCell ⟨g, 1, none⟩ y) L l := fun hp => by
  obtain ⟨b, off, rfl, hb, hc⟩ := h hp
  have hne := Ints.ne_box h hp bx
  refine ⟨b, off, rfl, by simpa [World.setCell] using hb, fun i hi => ?_⟩
  rw [World.cell?_setCell_other _ ⟨g, 1, none⟩ ⟨b, off + i, none⟩ y (fun e => by injection e with e1; omega), World.cell?_setCell_other _ ⟨g, 0, none⟩ ⟨b, off + i, none⟩ x (fun e => by injection e with e1; omega)]
  exact hc i hi
end Go.Proofs.Ytfnpdflapmbnjaa.Sh
-- MoJoin0
namespace Go.Proofs.Ytfnpdflapmbnjaa.Sh
open Go.RowKit
set_option linter.unusedVariables false

theorem tk_one {P : Nat} (hP : 0 < P) (k : Nat) : tk (List.replicate P 1) k = 1 := by
  unfold tk
  rw [List.length_replicate]
  have : k % P < P := Nat.mod_lt _ hP
  simp [List.getD, this]
theorem cpL_one {u : List Int} {s P : Nat} (hP : 0 < P) (k : Nat) : cpL u s (List.replicate P 1) k = u.take (k * s) := by
  induction k with
  | zero => simp [cpL]
  | succ k ih =>
    rw [cpL, ih, tk_one hP, Nat.add_mul, Nat.one_mul, List.take_add]
    simp [piece]
theorem sum_ones (P : Nat) : sumL (List.replicate P 1) = P := by
  have h : SmallT (List.replicate P 1) := fun i hi => by
    rw [List.length_replicate] at hi
    simp [List.getD, hi]
  have h1 : ∀ k, k ≤ P → tot (List.replicate P 1) k = k := fun k => by
    induction k with
    | zero => intro _; rfl
    | succ k ih => intro hk; rw [tot, ih (by omega), tk_one (by omega)]
  have h2 := tot_sum h P (by simp)
  rw [h1 P (Nat.le_refl _)] at h2
  rw [h2, List.take_of_length_le (by simp)]
/-- Copied once each, the numbers are what they were. -/
theorem copV_one {d v e u : List Int} {a P s N : Nat} {D : List Int} (h : CopyOk d v e u a P s N D (List.replicate P 1)) : copV u s (List.replicate P 1) = u ∧ withL D (a : Int) (sumL (List.replicate P 1)) = D := by
  constructor
  · unfold copV
    rcases h.room with ⟨h1, h2, h3⟩ | ⟨h1, h2⟩
    · by_cases hs : s = 0
      · rw [if_pos hs]
        rw [hs] at h1
        simp at h1
        exact h1.symm
      · rw [if_neg hs]
        rcases Nat.eq_zero_or_pos (u.length / s) with h0 | h0
        · rw [h0] at h1
          have : u = [] := List.eq_nil_of_length_eq_zero (by simpa using h1)
          rw [h0, cpL, this]
        · have hP := h3 h0
          rw [List.length_replicate] at hP
          rw [cpL_one hP, ← h1, List.take_length]
    · rw [if_pos h1]
      obtain ⟨hTl, hsm, hP, hDr, hD3, hu, hv, hN64, hS0⟩ := h.small
      have hu2 := (cellB_parts h.right2).2
      obtain ⟨h3, hall, h64⟩ := rightB_all hDr
      have : (u.length : Int) = 0 := by
        rw [hu2, ← listed_size (cellB_parts h.right2).1, h.hD, sizeI_mk h3 hall h64, prod_split D a h.ha, h.hs, h1]
        simp
      exact (List.eq_nil_of_length_eq_zero (by omega)).symm
  · rw [sum_ones, ← h.hP, withL_at D a h.ha]
    exact (split_at D a h.ha).symm

/-- The axes that count in a join. -/
def besideL (a b : List Int) : List Int := if a.length = 0 ∧ 0 < b.length then withL b ((b.length : Int) - 1) 1 else listedL a
set_option maxHeartbeats 1000000 in
theorem beside_any (A : Option Addr) (c : Nat) (a : List Int) (B : Option Addr) (c2 : Nat) (b : List Int) (w : World) (ha : a.length ≤ 100) (hb : b.length ≤ 100) (ia : Ints w A a) (ib : Ints w B b) :
    Calls Try.prog 57 #[.slice A a.length c, .slice B b.length c2] w (RetInts w (besideL a b)) := by
  have IA := Lib.hid ia
  have IB := Lib.hid ib
  clear ia ib
  by_cases h0 : a.length = 0
  · have z0 : ((a.length : Int) == 0) = true := by simp [h0]
    by_cases h1 : 0 < b.length
    · have e : besideL a b = withL b ((b.length : Int) - 1) 1 := by unfold besideL; rw [if_pos ⟨h0, h1⟩]
      rw [e]
      clear e h0
      go_enter Try.func57, Try.ntmps57
      go_wp2_with fail
      refine (with_any _ _ b ((b.length : Int) - 1) 1 _ hb IB.out).mono ?_
      rintro r w1 ⟨A1, c1, rfl, hi, hbw⟩
      have I1 := Lib.hid hi
      have L1 := Lib.hid hbw
      clear hi hbw
      go_wp2
      go_ret
      exact ⟨A1, c1, rfl, I1.out, L1.out⟩
    · have z1 : decide (0 < b.length) = false := decide_eq_false h1
      have e : besideL a b = listedL a := by unfold besideL; rw [if_neg (fun h => h1 h.2)]
      rw [e]
      clear e h0 h1
      go_enter Try.func57, Try.ntmps57
      go_wp2_with fail
      refine (listed_any _ _ a _ (by omega) IA.out).mono ?_
      rintro r w1 ⟨A1, c1, rfl, hi, hbw⟩
      have I1 := Lib.hid hi
      have L1 := Lib.hid hbw
      clear hi hbw
      go_wp2
      go_ret
      exact ⟨A1, c1, rfl, I1.out, L1.out⟩
  · have z0 : ((a.length : Int) == 0) = false := by simpa using h0
    have e : besideL a b = listedL a := by unfold besideL; rw [if_neg (fun h => h0 h.1)]
    rw [e]
    clear e h0
    go_enter Try.func57, Try.ntmps57
    go_wp2_with fail
    refine (listed_any _ _ a _ (by omega) IA.out).mono ?_
    rintro r w1 ⟨A1, c1, rfl, hi, hbw⟩
    have I1 := Lib.hid hi
    have L1 := Lib.hid hbw
    clear hi hbw
    go_wp2
    go_ret
    exact ⟨A1, c1, rfl, I1.out, L1.out⟩
end Go.Proofs.Ytfnpdflapmbnjaa.Sh
-- MoJoin1
namespace Go.Proofs.Ytfnpdflapmbnjaa.Sh
open Go.RowKit
set_option linter.unusedVariables false

/-- A list of axes, with its room. -/
def RetIC (w : World) (xs : List Int) (e : Ending) (w' : World) : Prop := ∃ A c, e = .returned (.slice A xs.length c) ∧ Ints w' A xs ∧ xs.length ≤ c ∧ c ≤ maxLen ∧ Below w.heap.size w w'
set_option maxHeartbeats 1000000 in
theorem with_m (A : Option Addr) (c : Nat) (d : List Int) (x n : Int) (w : World) (hl : d.length ≤ 100) (hi : Ints w A d) :
    Calls Try.prog 41 #[.slice A d.length c, .int .i64 x, .int .i64 n] w (RetT 3 w (withL d x n)) := by
  by_cases hx : 0 ≤ x ∧ x < d.length
  · have hw := (withinB_iff x d.length).2 hx
    have HW := Lib.hid hw
    have hL : withL d x n = d.set x.toNat n := if_pos hx
    rw [hL]
    obtain ⟨hx0, hx1⟩ := hx
    clear hw hL
    go_enter Try.func41, Try.ntmps41
    go_wp2_with fail
    refine (clone_any _ _ d _ hl hi).mono ?_
    rintro e w1 ⟨v, rfl, hm, hb1⟩
    have hm0 : w1.ownsRow w.heap.size 3 1 v d.length (d.map (Value.int .i64)) := hm
    rcases hm0.2 with ⟨rfl, h0⟩ | ⟨g, cap, cur, rfl, hbg, _, hnc, hcm, _⟩
    · omega
    · have hc : w1.cell? ⟨g, x.toNat, none⟩ = some (.int .i64 (d.getD x.toNat 0)) := by
        rw [hm0.cellAt x.toNat (by omega)]
        have : x.toNat < d.length := by omega
        simp [List.getD, this]
      have hf := hm0.frozenAt x.toNat
      have hs := Lib.hid (hm0.stored x.toNat (.int .i64 n)).1
      have HB := Lib.hid (hb1.setCell (p := ⟨g, x.toNat, none⟩) hbg (.int .i64 n))
      clear hm hm0 hb1
      go_wp2_with (go_at_call 82; refine (within_yesL _ _ _ HW.out).mono ?_; rintro e w' ⟨rfl, rfl⟩)
      go_ret
      have hmm : Mine (w1.setCell ⟨g, x.toNat, none⟩ (.int .i64 n)) w.heap.size (.slice (some ⟨g, 0, none⟩) d.length cap) (d.set x.toNat n) := by
        unfold Mine
        rw [List.length_set, List.map_set]
        exact hs.out
      exact ⟨some ⟨g, 0, none⟩, cap, by rw [List.length_set]; rfl, by rw [List.length_set]; exact hmm, HB.out⟩
  · have hw : withinB x d.length = false := by rw [Bool.eq_false_iff]; intro h; exact hx ((withinB_iff x d.length).1 h)
    have HW := Lib.hid hw
    have hL : withL d x n = d := if_neg hx
    rw [hL]
    clear hw hL hx
    go_enter Try.func41, Try.ntmps41
    go_wp2_with fail
    refine (clone_any _ _ d _ hl hi).mono ?_
    rintro e w1 ⟨v, rfl, hm, hb1⟩
    obtain ⟨A', c', rfl, hi'⟩ := hm.ints
    have HM := Lib.hid (show MineT 3 w1 w.heap.size (.slice A' d.length c') d from hm)
    have HB := Lib.hid hb1
    clear hm hi' hb1
    go_wp2_with (go_at_call 82; refine (within_noL _ _ _ HW.out).mono ?_; rintro e w' ⟨rfl, rfl⟩)
    go_ret
    exact ⟨A', c', rfl, HM.out, HB.out⟩
theorem listed_c (A : Option Addr) (c : Nat) (e : List Int) (w : World) (he : e.length ≤ 1000) (ie : Ints w A e) (hc : e.length ≤ c) (hcm : c ≤ maxLen) :
    Calls Try.prog 36 #[.slice A e.length c] w (RetIC w (listedL e)) := by
  by_cases h : e.length = 0
  · have hl : listedL e = [1] := by simp [listedL, h]
    rw [hl]
    have X := Lib.hid (MineT.new 3 w [1] 0 (Nat.zero_le _) (by unfold maxLen; simp)).ints'
    have h0 : ((e.length : Int) == 0) = true := by simp [h]
    clear ie hl h
    go_enter Try.func36, Try.ntmps36
    go_wp2
    go_ret
    exact ⟨some ⟨w.heap.size, 0, none⟩, 1, rfl, X.out, by simp, by unfold maxLen; omega, below_new _ _⟩
  · have hl : listedL e = e := by simp only [listedL]; rw [if_neg h]
    rw [hl]
    have h0 : ((e.length : Int) == 0) = false := by simpa using h
    have X := Lib.hid ie
    have HC := Lib.hid (And.intro hc hcm)
    clear ie hl h hc hcm
    go_enter Try.func36, Try.ntmps36
    go_wp2
    go_ret
    exact ⟨A, c, rfl, X.out, HC.out.1, HC.out.2, Below.refl _ _⟩
set_option maxHeartbeats 1000000 in
theorem beside_c (A : Option Addr) (c : Nat) (a : List Int) (B : Option Addr) (c2 : Nat) (b : List Int) (w : World) (ha : a.length ≤ 100) (hb : b.length ≤ 100) (ia : Ints w A a) (ib : Ints w B b) (hc : a.length ≤ c) (hcm : c ≤ maxLen) :
    Calls Try.prog 57 #[.slice A a.length c, .slice B b.length c2] w (RetIC w (besideL a b)) := by
  have IA := Lib.hid ia
  have IB := Lib.hid ib
  have HCM := Lib.hid hcm
  clear ia ib hcm
  by_cases h0 : a.length = 0
  · have z0 : ((a.length : Int) == 0) = true := by simp [h0]
    by_cases h1 : 0 < b.length
    · have e : besideL a b = withL b ((b.length : Int) - 1) 1 := by unfold besideL; rw [if_pos ⟨h0, h1⟩]
      rw [e]
      clear e h0
      go_enter Try.func57, Try.ntmps57
      go_wp2_with fail
      refine (with_m _ _ b ((b.length : Int) - 1) 1 _ hb IB.out).mono ?_
      rintro r w1 ⟨A1, c1, rfl, hi, hbw⟩
      have I1 := Lib.hid hi
      have L1 := Lib.hid hbw
      clear hi hbw
      go_wp2
      go_ret
      exact ⟨A1, c1, rfl, I1.out.ints', I1.out.cap.1, I1.out.cap.2, L1.out⟩
    · have z1 : decide (0 < b.length) = false := decide_eq_false h1
      have e : besideL a b = listedL a := by unfold besideL; rw [if_neg (fun h => h1 h.2)]
      rw [e]
      clear e h0 h1
      go_enter Try.func57, Try.ntmps57
      go_wp2_with fail
      refine (listed_c _ _ a _ (by omega) IA.out hc HCM.out).mono ?_
      rintro r w1 ⟨A1, c1, rfl, hi, hk1, hk2, hbw⟩
      have I1 := Lib.hid hi
      have K1 := Lib.hid (And.intro hk1 hk2)
      have L1 := Lib.hid hbw
      clear hi hbw hk1 hk2
      go_wp2
      go_ret
      exact ⟨A1, c1, rfl, I1.out, K1.out.1, K1.out.2, L1.out⟩
  · have z0 : ((a.length : Int) == 0) = false := by simpa using h0
    have e : besideL a b = listedL a := by unfold besideL; rw [if_neg (fun h => h0 h.1)]
    rw [e]
    clear e h0
    go_enter Try.func57, Try.ntmps57
    go_wp2_with fail
    refine (listed_c _ _ a _ (by omega) IA.out hc HCM.out).mono ?_
    rintro r w1 ⟨A1, c1, rfl, hi, hk1, hk2, hbw⟩
    have I1 := Lib.hid hi
    have K1 := Lib.hid (And.intro hk1 hk2)
    have L1 := Lib.hid hbw
    clear hi hbw hk1 hk2
    go_wp2
    go_ret
    exact ⟨A1, c1, rfl, I1.out, K1.out.1, K1.out.2, L1.out⟩
end Go.Proofs.Ytfnpdflapmbnjaa.Sh
-- MoJoin2
namespace Go.Proofs.Ytfnpdflapmbnjaa.Sh
open Go.RowKit
set_option linter.unusedVariables false

/-- The axes of a join. -/
def jn0 (a b : List Int) (L : Nat) : List Int := withL a (L : Int) (a.getD L 0 + b.getD L 0)
def jnE (a b : List Int) (L : Nat) : Int := if a.length = b.length then (if a.take L = b.take L then (if rightB (jn0 a b L) = true then 0 else 4) else 3) else 2
def jnD (a b : List Int) (L : Nat) : List Int := if jnE a b L = 0 then jn0 a b L else []
/-- Axes, with their room, and an error. -/
def RetJ (w : World) (d : List Int) (x : Int) (e : Ending) (w' : World) : Prop := ∃ A c, e = .returned (.tuple #[.slice A d.length c, .int .i64 x]) ∧ Ints w' A d ∧ d.length ≤ c ∧ c ≤ maxLen ∧ Below w.heap.size w w'
theorem Ints.take {w : World} {A : Option Addr} {l : List Int} (h : Ints w A l) (k : Nat) (hk : k ≤ l.length) : Ints w A (l.take k) := fun hp => by
  rw [List.length_take] at hp
  obtain ⟨b, off, e, hb, hc⟩ := h (by omega)
  refine ⟨b, off, e, hb, fun i hi => ?_⟩
  rw [List.length_take] at hi
  rw [hc i (by omega)]
  simp [List.getD, show i < k by omega]
theorem same_v (A : Option Addr) (c : Nat) (a : List Int) (B : Option Addr) (c2 : Nat) (b : List Int) (n : Nat) (t : Bool) (w : World) (ht : decide (a = b) = t) (ha : a.length = n) (hb : b.length = n) (hn : n ≤ 100) (ia : Ints w A a) (ib : Ints w B b) :
    Calls Try.prog 87 #[.slice A n c, .slice B n c2] w fun e w' => e = .returned (.bool t) ∧ Below w.heap.size w w' := by
  have h := same_any A c a B c2 b w (by unfold maxLen; omega) (by unfold maxLen; omega) ia ib
  rw [ha, hb, ht] at h
  exact h.mono fun _ _ ⟨h1, k, h2⟩ => ⟨h1, by rw [h2]; exact below_drewN (Below.refl _ _) k⟩
set_option maxHeartbeats 4000000 in
theorem joined_any (A : Option Addr) (c : Nat) (a : List Int) (B : Option Addr) (c2 : Nat) (b : List Int) (L : Nat) (w : World) (hL : a.length = L + 1) (hL3 : L ≤ 10) (hb1 : 0 < b.length) (hb10 : b.length ≤ 100) (hca : a.length ≤ c) (hcb : b.length ≤ c2) (hcm : c ≤ maxLen) (hcm2 : c2 ≤ maxLen) (ia : Ints w A a) (ib : Ints w B b)
    (hxa : 0 ≤ a.getD L 0 ∧ a.getD L 0 ≤ 64) (hxb : 0 ≤ b.getD L 0 ∧ b.getD L 0 ≤ 64) :
    Calls Try.prog 58 #[.slice A a.length c, .slice B b.length c2] w (RetJ w (jnD a b L) (jnE a b L)) := by
  have hLa : L + 1 ≤ a.length := by omega
  have hLb : a.length ≤ L + 1 := by omega
  clear hL
  by_cases h1 : a.length = b.length
  · have z1 : ((a.length : Int) != (b.length : Int)) = false := by simp [h1]
    obtain ⟨ba, oa, rfl, hba, hca1⟩ := ia (by omega)
    obtain ⟨bb, ob, rfl, hbb, hcb1⟩ := ib hb1
    have ya := hca1 L (by omega)
    have yb := hcb1 L (by omega)
    have TA := Lib.hid (Ints.take ia L (by omega))
    have TB := Lib.hid (Ints.take ib L (by omega))
    have haI : (a.length : Int) - 1 = (L : Int) := by omega
    have i0 : (0 : Int) ≤ (L : Int) := by omega
    have i1 : (L : Int) ≤ (c : Int) := by omega
    have i2 : (L : Int) ≤ (c2 : Int) := by omega
    have i3 : (L : Int) < (a.length : Int) := by omega
    have i4 : (L : Int) < (b.length : Int) := by omega
    have n1 : L ≤ c := by omega
    have n2 : L ≤ c2 := by omega
    have IA := Lib.hid ia
    have LA := Lib.hid (show (a.take L).length = L by simp; omega)
    have LB := Lib.hid (show (b.take L).length = L by simp; omega)
    have HE := Lib.hid h1
    have D0 := Lib.hid ((Below.refl w.heap.size w).drew)
    unfold maxLen at hcm hcm2
    clear hca1 hcb1 h1 ia ib
    by_cases h2 : a.take L = b.take L
    · have SV := Lib.hid (same_v _ c (a.take L) _ c2 (b.take L) L true w.drew (decide_eq_true h2) LA.out LB.out (by omega) (TA.out.below D0.out) (TB.out.below D0.out))
      obtain ⟨x, hx⟩ : ∃ x, a.getD L 0 = x := ⟨_, rfl⟩
      obtain ⟨y, hy⟩ : ∃ y, b.getD L 0 = y := ⟨_, rfl⟩
      obtain ⟨J, hJ⟩ : ∃ J, withL a (L : Int) (x + y) = J := ⟨_, rfl⟩
      have hj0 : jn0 a b L = J := by unfold jn0; rw [hx, hy, hJ]
      have hJl : J.length = a.length := by rw [← hJ, withL_len]
      rw [hx] at hxa ya
      rw [hy] at hxb yb
      have HJ := Lib.hid hJ
      have hJ100 : J.length ≤ 100 := by omega
      have hEJ : jnE a b L = (if rightB J = true then 0 else 4) := by unfold jnE; rw [if_pos HE.out, if_pos h2, hj0]
      have HJ0 := Lib.hid hj0
      by_cases h3 : rightB J = true
      · have e1 : jnE a b L = 0 := by rw [hEJ, if_pos h3]
        have e2 : jnD a b L = J := by unfold jnD; rw [if_pos e1, hj0]
        rw [e1, e2]
        have H3 := Lib.hid h3
        clear e1 e2 h3 h2 hEJ hj0 hJl hx hy hJ
        go_enter Try.func58, Try.ntmps58
        go_wp2_with fail
        go_region_held3 (fun w' => True)
          (trivial)
          (first
            | (go_at_call 87; (with_reducible refine (SV.out).mono ?_); rintro r w1 ⟨rfl, hb⟩; have L1 := Lib.hid (below_next D0.out hb); clear hb))
        have ya1 := (L1.out.cell (p := ⟨ba, oa + L, none⟩) hba).trans ya
        have yb1 := (L1.out.cell (p := ⟨bb, ob + L, none⟩) hbb).trans yb
        have WM := Lib.hid (with_m (some ⟨ba, oa, none⟩) c a (L : Int) (x + y) w1.drew (by omega) (IA.out.below (L1.out.drew)))
        have D1 := Lib.hid ((Below.refl w1.heap.size w1).drew)
        have i5 : IntKind.i64.wrap (x + y) = x + y := IntWalk.i64_in _ (by omega)
        clear ya yb
        go_wp2_with fail
        go_region_held3 (fun w' => w'.cell? ⟨ba, oa + L, none⟩ = some (.int .i64 x) ∧ w'.cell? ⟨bb, ob + L, none⟩ = some (.int .i64 y))
          (first
            | with_reducible exact KK.out
            | go_keep)
          (first
            | (go_at_call 41; (with_reducible refine (WM.out).mono ?_); rintro r w2 ⟨A2, c2', rfl, hm, hb⟩; have KK := Lib.hid (keep2 hb (show w1.drew.cell? ⟨ba, oa + L, none⟩ = some (.int .i64 x) ∧ w1.drew.cell? ⟨bb, ob + L, none⟩ = some (.int .i64 y) from ⟨ya1, yb1⟩)); have M2 := Lib.hid hm; have L2 := Lib.hid (below_next L1.out (below_next D1.out hb)); clear hm hb))
        clear i5
        have hm2 := M2.out
        rw [HJ.out] at hm2
        replace M2 := Lib.hid hm2
        rw [HJ.out]
        clear hm2
        go_wp2_with fail
        refine (right_yes _ _ J _ H3.out (by unfold maxLen; omega) M2.out.ints').mono ?_
        rintro r w3 ⟨rfl, hb⟩
        have M3 := Lib.hid (M2.out.below hb (Nat.le_refl _))
        have L3 := Lib.hid (below_next L2.out hb)
        clear hb
        go_wp2
        go_ret2
        exact ⟨A2, c2', rfl, M3.out.ints', M3.out.cap.1, M3.out.cap.2, L3.out⟩
      · have e1 : jnE a b L = 4 := by rw [hEJ, if_neg h3]
        have e2 : jnD a b L = [] := by unfold jnD; rw [e1]; rfl
        rw [e1, e2]
        have H3 := Lib.hid (show rightB J = false by simpa using h3)
        clear e1 e2 h3 h2 hEJ hj0 hJl hx hy hJ
        go_enter Try.func58, Try.ntmps58
        go_wp2_with fail
        go_region_held3 (fun w' => True)
          (trivial)
          (first
            | (go_at_call 87; (with_reducible refine (SV.out).mono ?_); rintro r w1 ⟨rfl, hb⟩; have L1 := Lib.hid (below_next D0.out hb); clear hb))
        have ya1 := (L1.out.cell (p := ⟨ba, oa + L, none⟩) hba).trans ya
        have yb1 := (L1.out.cell (p := ⟨bb, ob + L, none⟩) hbb).trans yb
        have WM := Lib.hid (with_m (some ⟨ba, oa, none⟩) c a (L : Int) (x + y) w1.drew (by omega) (IA.out.below (L1.out.drew)))
        have D1 := Lib.hid ((Below.refl w1.heap.size w1).drew)
        have i5 : IntKind.i64.wrap (x + y) = x + y := IntWalk.i64_in _ (by omega)
        clear ya yb
        go_wp2_with fail
        go_region_held3 (fun w' => w'.cell? ⟨ba, oa + L, none⟩ = some (.int .i64 x) ∧ w'.cell? ⟨bb, ob + L, none⟩ = some (.int .i64 y))
          (first
            | with_reducible exact KK.out
            | go_keep)
          (first
            | (go_at_call 41; (with_reducible refine (WM.out).mono ?_); rintro r w2 ⟨A2, c2', rfl, hm, hb⟩; have KK := Lib.hid (keep2 hb (show w1.drew.cell? ⟨ba, oa + L, none⟩ = some (.int .i64 x) ∧ w1.drew.cell? ⟨bb, ob + L, none⟩ = some (.int .i64 y) from ⟨ya1, yb1⟩)); have M2 := Lib.hid hm; have L2 := Lib.hid (below_next L1.out (below_next D1.out hb)); clear hm hb))
        clear i5
        have hm2 := M2.out
        rw [HJ.out] at hm2
        replace M2 := Lib.hid hm2
        rw [HJ.out]
        clear hm2
        go_wp2_with fail
        refine (right_no _ _ J _ H3.out (by unfold maxLen; omega) M2.out.ints').mono ?_
        rintro r w3 ⟨rfl, hb⟩
        have L3 := Lib.hid (below_next L2.out hb)
        clear hb
        go_wp2
        go_ret2
        exact ⟨none, 0, rfl, fun h => absurd h (by simp), by simp, by simp, L3.out⟩
    · have e1 : jnE a b L = 3 := by unfold jnE; rw [if_pos HE.out, if_neg h2]
      have e2 : jnD a b L = [] := by unfold jnD; rw [e1]; rfl
      rw [e1, e2]
      have SV := Lib.hid (same_v _ c (a.take L) _ c2 (b.take L) L false w.drew (decide_eq_false h2) LA.out LB.out (by omega) (TA.out.below D0.out) (TB.out.below D0.out))
      clear e1 e2 h2
      go_enter Try.func58, Try.ntmps58
      go_wp2_with fail
      go_region_held3 (fun w' => True)
        (trivial)
        (first
          | (go_at_call 87; (with_reducible refine (SV.out).mono ?_); rintro r w1 ⟨rfl, hb⟩; have L1 := Lib.hid (below_next D0.out hb); clear hb))
      go_wp2
      go_ret2
      exact ⟨none, 0, rfl, fun h => absurd h (by simp), by simp, by simp, L1.out⟩
  · have z1 : ((a.length : Int) != (b.length : Int)) = true := by simp; omega
    have e1 : jnE a b L = 2 := by unfold jnE; rw [if_neg h1]
    have e2 : jnD a b L = [] := by unfold jnD; rw [e1]; rfl
    rw [e1, e2]
    clear e1 e2 h1 ia ib
    go_enter Try.func58, Try.ntmps58
    go_wp2
    go_ret2
    exact ⟨none, 0, rfl, fun h => absurd h (by simp), by simp, by simp, Below.refl _ _⟩
end Go.Proofs.Ytfnpdflapmbnjaa.Sh
