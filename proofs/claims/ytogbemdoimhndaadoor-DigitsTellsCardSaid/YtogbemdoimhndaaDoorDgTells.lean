/-
  What rifflelaw10.DigitsTells answers: true. Conditions: the table of the powers of ten holds what its text lays; the number fits into 64 bits.
-/
import Derived.Test.YtogbemdoimhndaaDoorDgBackN
import Derived.Test.YtogbemdoimhndaaDoorDgRefR
import Derived.Test.YtogbemdoimhndaaDoorDgRefG
import Derived.Test.YtogbemdoimhndaaDoorDgRefD
set_option maxRecDepth 100000
namespace Go.Proofs.YtogbemdoimhndaaDoor.Dg
open Go.RowKit Go.Proofs.YtogbemdoimhndaaDoor.Sh
set_option linter.unusedVariables false

set_option maxHeartbeats 2000000 in
theorem tells_any (n : Int) (s : ByteArray) (w : World) (hn : InR n) (hs : s.size ≤ maxLen) (hT : Tab w) :
    Calls Tryd.prog 7 #[.int .i64 n, .string s] w fun e w' => e = .returned (.bool true) ∧ Below w.heap.size w w' := by
  have hm : s.size ≤ maxLen := hs
  unfold maxLen at hs
  have G := Lib.hid (fun W => (get_any s.data.toList W (by rw [← size_l]; exact hm) : Calls Tryd.prog 24 #[.string s] W _))
  have RG := Lib.hid (fun W => rget_any s W hm)
  have R := Lib.hid (fun W => read_any s W hm)
  have RR := Lib.hid (fun W => rread_any s W hm)
  have P := Lib.hid (fun W (h : Tab W) => put_any n W hn h)
  have RP := Lib.hid (fun W => rput_any n W hn)
  have H := Lib.hid (fun W (h : Tab W) => high_any n W hn h)
  have RH := Lib.hid (fun W => rhigh_any n W hn)
  have T := Lib.hid hT
  generalize getI s.data.toList = gi at *
  generalize getB s.data.toList = gb at *
  generalize valI (readD s.data.toList) (readS s.data.toList) = vi at *
  generalize valB (readD s.data.toList) (readS s.data.toList) = vb at *
  generalize readN s.data.toList = rn at *
  obtain ⟨p, hp⟩ : ∃ p : ByteArray, (⟨(Lib.itoa n).toArray⟩ : ByteArray) = p := ⟨_, rfl⟩
  obtain ⟨q, hq⟩ : ∃ q : ByteArray, (⟨(highL n).toArray⟩ : ByteArray) = q := ⟨_, rfl⟩
  rw [hp] at P RP
  rw [hq] at H RH
  clear hp hq hT hn hm
  go_enter Tryd.func7, Tryd.ntmps7
  go_wp2_with fail
  refine (G.out _).mono ?_
  rintro r w1 ⟨rfl, hb⟩
  have L1 := Lib.hid hb
  clear hb
  go_wp2_with fail
  refine (RG.out _).mono ?_
  rintro r w2 ⟨rfl, hb⟩
  have L2 := Lib.hid (below_next L1.out hb)
  clear hb
  go_wp2_with fail
  refine (R.out _).mono ?_
  rintro r w3 ⟨rfl, hb⟩
  have L3 := Lib.hid (below_next L2.out hb)
  clear hb
  go_wp2_with fail
  refine (RR.out _).mono ?_
  rintro r w4 ⟨rfl, hb⟩
  have L4 := Lib.hid (below_next L3.out hb)
  clear hb
  go_wp2_with fail
  refine (P.out _ (T.out.below L4.out)).mono ?_
  rintro r w5 ⟨rfl, hb⟩
  have L5 := Lib.hid (below_next L4.out hb)
  clear hb
  go_wp2_with fail
  refine (RP.out _).mono ?_
  rintro r w6 ⟨rfl, hb⟩
  have L6 := Lib.hid (below_next L5.out hb)
  clear hb
  go_wp2_with fail
  refine (H.out _ (T.out.below L6.out)).mono ?_
  rintro r w7 ⟨rfl, hb⟩
  have L7 := Lib.hid (below_next L6.out hb)
  clear hb
  go_wp2_with fail
  refine (RH.out _).mono ?_
  rintro r w8 ⟨rfl, hb⟩
  have L8 := Lib.hid (below_next L7.out hb)
  clear hb
  go_wp2_with fail
  refine (lives_any _ (T.out.below L8.out)).mono ?_
  rintro r w9 ⟨rfl, hb⟩
  have L9 := Lib.hid (below_next L8.out hb)
  clear hb
  go_wp2
  go_ret
  exact ⟨rfl, L9.out⟩
end Go.Proofs.YtogbemdoimhndaaDoor.Dg
