/-
  What rifflelaw06.lives answers. No condition.
-/
import Derived.Test.YthabimjmdnhomaaMoCopyL
import Derived.Test.YthabimjmdnhomaaFrame
namespace Go.Proofs.Ythabimjmdnhomaa.Sh
open Go.RowKit
set_option linter.unusedVariables false

def RetLs (B : Option Addr) (n c : Nat) (w : World) (e : Ending) (w' : World) : Prop := ∃ A1, e = .returned (.agg #[.slice A1 1 1, .slice B n c]) ∧ Ints w' A1 [(n : Int)] ∧ Below w.heap.size w w'
set_option maxHeartbeats 1000000 in
theorem list_n (B : Option Addr) (n c : Nat) (w : World) (hn : n ≤ 1000) : Calls Try.prog 25 #[.slice B n c] w (RetLs B n c w) := by
  go_enter Try.func25, Try.ntmps25
  go_wp2
  refine bodyPost_ret (v := .agg #[.slice (some ⟨w.heap.size + 1, 0, none⟩) 1 1, .slice B n c]) (by simp [results, Try.results25, go_sem]) rfl ?_
  have hm := MineT.new 3 (w.alloc (.cells #[.slice (some ⟨w.heap.size + 1, 0, none⟩) 1 1, .slice B n c] 25)) [(n : Int)] w.heap.size (by simp) (by unfold maxLen; simp)
  rw [show (w.alloc (.cells #[.slice (some ⟨w.heap.size + 1, 0, none⟩) 1 1, .slice B n c] 25)).heap.size = w.heap.size + 1 from by simp] at hm
  exact ⟨_, rfl, hm.ints', below_next (below_new _ _) (below_new _ _)⟩
theorem resh_live (A : Option Addr) (c : Nat) (B : Option Addr) (c2 : Nat) (A' : Option Addr) (c' : Nat) (B' : Option Addr) (c2' : Nat) (w : World) (id : Ints w A [2]) (iv : Ints w B [2, 2]) (ie : Ints w A' [3]) (iu : Ints w B' [1, 2, 3]) :
    Calls Try.prog 18 #[.agg #[.slice A 1 c, .slice B 2 c2], .agg #[.slice A' 1 c', .slice B' 3 c2']] w (RetC w [2, 2] [1, 2, 3, 1] (.int .i64 0)) := by
  have h := reshape_any A c [2] B c2 [2, 2] A' c' [3] B' c2' [1, 2, 3] w id iv ie iu (by simp) (by simp) (by simp) (by simp)
  rw [show rsE [2] [2, 2] [3] [1, 2, 3] = 0 by decide, show rsD [2] [2, 2] [3] [1, 2, 3] = [2, 2] by decide, show rsV [2] [2, 2] [3] [1, 2, 3] = [1, 2, 3, 1] by decide] at h
  exact h
theorem copy_live (A : Option Addr) (c : Nat) (B : Option Addr) (c2 : Nat) (A' : Option Addr) (c' : Nat) (B' : Option Addr) (c2' : Nat) (w : World) (id : Ints w A [3]) (iv : Ints w B [1, 0, 2]) (ie : Ints w A' [3]) (iu : Ints w B' [4, 5, 6]) (hcu : 3 ≤ c2') (hcm : c2' ≤ maxLen) :
    Calls Try.prog 20 #[.agg #[.slice A 1 c, .slice B 3 c2], .agg #[.slice A' 1 c', .slice B' 3 c2'], .bool false] w (RetC w [3] [4, 6, 6] (.int .i64 0)) := by
  have h := copy_last A c [3] B c2 [1, 0, 2] A' c' [3] B' c2' [4, 5, 6] 0 3 1 3 [3] [1, 0, 2] w id iv ie iu hcu hcm
    ⟨by decide, by decide, by decide, by decide, by decide, by decide, .inr (by decide), by decide, by decide, by decide, by decide, by decide⟩ (by decide)
  rw [show withL [3] ((0 : Nat) : Int) (sumL [1, 0, 2]) = [3] by decide, show copV [4, 5, 6] 1 [1, 0, 2] = [4, 6, 6] by decide] at h
  exact h
theorem nums_eq (A : Option Addr) (c : Nat) (a : List Int) (B : Option Addr) (d : Nat) (w : World) (hl : a.length ≤ 1000) (ha : Ints w A a) (hb : Ints w B a) :
    Calls Try.prog 23 #[.slice A a.length c, .slice B a.length d] w fun e w' => e = .returned (.bool true) ∧ Below w.heap.size w w' :=
  (nums_b A c a B d a w (by unfold maxLen; omega) (by unfold maxLen; omega) ha hb).mono fun _ _ ⟨h1, h2⟩ => ⟨by rw [h1]; simp, h2⟩
theorem nums4 (A : Option Addr) (c : Nat) (B : Option Addr) (d : Nat) (w : World) (ha : Ints w A [1, 2, 3, 1]) (hb : Ints w B [1, 2, 3, 1]) :
    Calls Try.prog 23 #[.slice A 4 c, .slice B 4 d] w fun e w' => e = .returned (.bool true) ∧ Below w.heap.size w w' := nums_eq A c [1, 2, 3, 1] B d w (by simp) ha hb
theorem nums3 (A : Option Addr) (c : Nat) (B : Option Addr) (d : Nat) (w : World) (ha : Ints w A [4, 6, 6]) (hb : Ints w B [4, 6, 6]) :
    Calls Try.prog 23 #[.slice A 3 c, .slice B 3 d] w fun e w' => e = .returned (.bool true) ∧ Below w.heap.size w w' := nums_eq A c [4, 6, 6] B d w (by simp) ha hb
theorem row1 (t : TypeId) (w : World) (xs : List Int) (hl : xs.length ≤ 1000) : Ints (w.alloc (.cells (cellsI xs) t)) (some ⟨w.heap.size, 0, none⟩) xs := (MineT.new t w xs 0 (by simp) (by unfold maxLen; omega)).ints'

set_option maxHeartbeats 2000000 in
set_option maxRecDepth 100000 in
theorem lives_any (w : World) : Calls Try.prog 8 #[] w fun e w' => e = .returned (.bool true) ∧ Below w.heap.size w w' := by
  have L := Lib.hid (Below.refl w.heap.size w)
  have KB := Lib.hid (below_new w (.cells (cellsI [2, 2]) 2))
  replace L := Lib.hid (below_next L.out KB.out)
  clear KB
  have R1 := Lib.hid (row1 2 w [2, 2] (by simp))
  go_enter Try.func8, Try.ntmps8
  go_wp2_with fail
  refine (list_n _ _ _ _ (by omega)).mono ?_
  rintro r w1 ⟨A1, rfl, hi, hb⟩
  replace L := Lib.hid (below_next L.out hb)
  replace R1 := Lib.hid (R1.out.below hb)
  clear hb
  have I1 := Lib.hid (hi)
  clear hi
  have KB := Lib.hid (below_new w1 (.cells (cellsI [1, 2, 3]) 2))
  replace L := Lib.hid (below_next L.out KB.out)
  replace R1 := Lib.hid (R1.out.below KB.out)
  replace I1 := Lib.hid (I1.out.below KB.out)
  clear KB
  have R2 := Lib.hid (row1 2 w1 [1, 2, 3] (by simp))
  go_wp2_with fail
  refine (list_n _ _ _ _ (by omega)).mono ?_
  rintro r w2 ⟨A2, rfl, hi, hb⟩
  replace L := Lib.hid (below_next L.out hb)
  replace R1 := Lib.hid (R1.out.below hb)
  replace I1 := Lib.hid (I1.out.below hb)
  replace R2 := Lib.hid (R2.out.below hb)
  clear hb
  have I2 := Lib.hid (hi)
  clear hi
  go_wp2_with fail
  refine (resh_live _ _ _ _ _ _ _ _ _ I1.out R1.out I2.out R2.out).mono ?_
  rintro r w3 ⟨x, rfl, ⟨A3, c3, B3, e3, rfl, j1, j2, -⟩, hb⟩
  replace L := Lib.hid (below_next L.out hb)
  replace R1 := Lib.hid (R1.out.below hb)
  replace I1 := Lib.hid (I1.out.below hb)
  replace R2 := Lib.hid (R2.out.below hb)
  replace I2 := Lib.hid (I2.out.below hb)
  clear hb
  clear I1
  clear R1
  clear I2
  clear R2
  have Q3 := Lib.hid j2.ints
  clear j1 j2
  have KB := Lib.hid (below_new w3 (.cells #[.slice A3 2 c3, .slice B3 4 e3] 25))
  have K3 := Lib.hid (Box.new w3 (.slice A3 2 c3) (.slice B3 4 e3))
  replace L := Lib.hid (below_next L.out KB.out)
  replace Q3 := Lib.hid (Q3.out.below KB.out)
  go_upto_region 2 with (fail)
  clear KB
  generalize hW : w3.alloc (.cells #[.slice A3 2 c3, .slice B3 4 e3] 25) = W3 at *
  clear hW
  generalize w3.heap.size = g3 at *
  have KB := Lib.hid (below_new W3 (.cells (cellsI [1, 0, 2]) 2))
  replace L := Lib.hid (below_next L.out KB.out)
  replace Q3 := Lib.hid (Q3.out.below KB.out)
  replace K3 := Lib.hid (K3.out.next KB.out)
  clear KB
  have R1 := Lib.hid (row1 2 W3 [1, 0, 2] (by simp))
  go_wp2_with fail
  refine (list_n _ _ _ _ (by omega)).mono ?_
  rintro r w4 ⟨A4, rfl, hi, hb⟩
  replace L := Lib.hid (below_next L.out hb)
  replace Q3 := Lib.hid (Q3.out.below hb)
  replace K3 := Lib.hid (K3.out.next hb)
  replace R1 := Lib.hid (R1.out.below hb)
  clear hb
  have I1 := Lib.hid (hi)
  clear hi
  have KB := Lib.hid (below_new w4 (.cells (cellsI [4, 5, 6]) 2))
  replace L := Lib.hid (below_next L.out KB.out)
  replace Q3 := Lib.hid (Q3.out.below KB.out)
  replace K3 := Lib.hid (K3.out.next KB.out)
  replace R1 := Lib.hid (R1.out.below KB.out)
  replace I1 := Lib.hid (I1.out.below KB.out)
  clear KB
  have R2 := Lib.hid (row1 2 w4 [4, 5, 6] (by simp))
  go_wp2_with fail
  refine (list_n _ _ _ _ (by omega)).mono ?_
  rintro r w5 ⟨A5, rfl, hi, hb⟩
  replace L := Lib.hid (below_next L.out hb)
  replace Q3 := Lib.hid (Q3.out.below hb)
  replace K3 := Lib.hid (K3.out.next hb)
  replace R1 := Lib.hid (R1.out.below hb)
  replace I1 := Lib.hid (I1.out.below hb)
  replace R2 := Lib.hid (R2.out.below hb)
  clear hb
  have I2 := Lib.hid (hi)
  clear hi
  go_wp2_with fail
  refine (copy_live _ _ _ _ _ _ _ _ _ I1.out R1.out I2.out R2.out (by omega) (by unfold maxLen; omega)).mono ?_
  rintro r w6 ⟨x, rfl, ⟨A6, c6, B6, e6, rfl, j1, j2, -⟩, hb⟩
  replace L := Lib.hid (below_next L.out hb)
  replace Q3 := Lib.hid (Q3.out.below hb)
  replace K3 := Lib.hid (K3.out.next hb)
  replace R1 := Lib.hid (R1.out.below hb)
  replace I1 := Lib.hid (I1.out.below hb)
  replace R2 := Lib.hid (R2.out.below hb)
  replace I2 := Lib.hid (I2.out.below hb)
  clear hb
  clear I1
  clear R1
  clear I2
  clear R2
  have Q6 := Lib.hid j2.ints
  clear j1 j2
  have KB := Lib.hid (below_new w6 (.cells #[.slice A6 1 c6, .slice B6 3 e6] 25))
  have K6 := Lib.hid (Box.new w6 (.slice A6 1 c6) (.slice B6 3 e6))
  replace L := Lib.hid (below_next L.out KB.out)
  replace Q3 := Lib.hid (Q3.out.below KB.out)
  replace K3 := Lib.hid (K3.out.next KB.out)
  replace Q6 := Lib.hid (Q6.out.below KB.out)
  go_upto_region 3 with (fail)
  clear KB
  generalize hW : w6.alloc (.cells #[.slice A6 1 c6, .slice B6 3 e6] 25) = W6 at *
  clear hW
  generalize w6.heap.size = g6 at *
  have K36 := Lib.hid K3.out.c1
  have KB := Lib.hid (below_new W6 (.cells (cellsI [1, 2, 3, 1]) 2))
  replace L := Lib.hid (below_next L.out KB.out)
  replace Q3 := Lib.hid (Q3.out.below KB.out)
  replace K3 := Lib.hid (K3.out.next KB.out)
  replace Q6 := Lib.hid (Q6.out.below KB.out)
  replace K6 := Lib.hid (K6.out.next KB.out)
  clear KB
  have R1 := Lib.hid (row1 2 W6 [1, 2, 3, 1] (by simp))
  obtain ⟨q0, q1, -, -⟩ := K3.out.all
  have q2 : W6.cell? ⟨g3, 1, none⟩ = some (.slice B3 4 e3) := K36.out
  go_wp2_with fail
  refine (nums4 _ _ _ _ _ Q3.out R1.out).mono ?_
  rintro r w7 ⟨rfl, hb⟩
  replace L := Lib.hid (below_next L.out hb)
  replace Q3 := Lib.hid (Q3.out.below hb)
  replace K3 := Lib.hid (K3.out.next hb)
  replace Q6 := Lib.hid (Q6.out.below hb)
  replace K6 := Lib.hid (K6.out.next hb)
  replace R1 := Lib.hid (R1.out.below hb)
  clear hb
  clear q0 q1 q2 K36
  clear R1
  have K67 := Lib.hid K6.out.c1
  have KB := Lib.hid (below_new w7 (.cells (cellsI [4, 6, 6]) 2))
  replace L := Lib.hid (below_next L.out KB.out)
  replace Q3 := Lib.hid (Q3.out.below KB.out)
  replace K3 := Lib.hid (K3.out.next KB.out)
  replace Q6 := Lib.hid (Q6.out.below KB.out)
  replace K6 := Lib.hid (K6.out.next KB.out)
  clear KB
  have R2 := Lib.hid (row1 2 w7 [4, 6, 6] (by simp))
  obtain ⟨q0, q1, -, -⟩ := K6.out.all
  have q2 : w7.cell? ⟨g6, 1, none⟩ = some (.slice B6 3 e6) := K67.out
  go_wp2_with fail
  refine (nums3 _ _ _ _ _ Q6.out R2.out).mono ?_
  rintro r w8 ⟨rfl, hb⟩
  replace L := Lib.hid (below_next L.out hb)
  replace Q3 := Lib.hid (Q3.out.below hb)
  replace K3 := Lib.hid (K3.out.next hb)
  replace Q6 := Lib.hid (Q6.out.below hb)
  replace K6 := Lib.hid (K6.out.next hb)
  replace R2 := Lib.hid (R2.out.below hb)
  clear hb
  go_wp2
  go_ret
  exact ⟨ret_bool (by first | rfl | simp), L.out⟩
end Go.Proofs.Ythabimjmdnhomaa.Sh
