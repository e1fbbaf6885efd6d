/-
  What digits.plain and digits.value answer of digits. Condition: the text is digits alone, no longer than fits into a machine.
-/
import Derived.Test.YtdhpplbopciijaaDoorDgMath
import Derived.Test.YtdhpplbopciijaaDoorDgShelf
import Derived.IntWalk
set_option maxRecDepth 100000
namespace Go.Proofs.YtdhpplbopciijaaDoor.Dg
open Go.RowKit Go.Proofs.YtdhpplbopciijaaDoor.Sh
set_option linter.unusedVariables false

def nought (l : List UInt8) : Bool := Lib.hasPrefix l [48]
theorem nought_iff (l : List UInt8) : nought l = true ↔ l[0]? = some 48 := by
  unfold nought Lib.hasPrefix
  match l with
  | [] => simp
  | c :: r => simp [List.isPrefixOf]; exact eq_comm
def plainB (l : List UInt8) (b : Bool) : Bool := if nought l = true then decide (l.length = 1) && !b else decide (0 < l.length)
theorem pre0 (s : ByteArray) (w : World) : Calls Tryd.prog 40 #[.string s, .string ⟨#[48]⟩] w fun e w' => e = .returned (.bool (nought s.data.toList)) ∧ w = w' :=
  (strings_HasPrefix s ⟨#[48]⟩ w).mono fun _ _ ⟨h1, h2⟩ => ⟨h1, h2.symm⟩
theorem size_l (s : ByteArray) : s.size = s.data.toList.length := by simp
set_option maxHeartbeats 1000000 in
theorem plain_any (s : ByteArray) (b : Bool) (w : World) (hs : s.size ≤ maxLen) : Calls Tryd.prog 57 #[.string s, .bool b] w fun e w' => e = .returned (.bool (plainB s.data.toList b)) ∧ w = w' := by
  have hp := pre0 s w
  unfold maxLen at hs
  by_cases hn : nought s.data.toList = true
  · rw [hn] at hp
    have HP := Lib.hid hp
    have e : plainB s.data.toList b = (decide (s.size = 1) && !b) := by unfold plainB; rw [if_pos hn, ← size_l]
    rw [e]
    clear hp hn e
    by_cases h1 : s.size = 1
    · have t1 : ((s.size : Int) == 1) = true := by simp [h1]
      have e : (decide (s.size = 1) && !b) = !b := by simp [h1]
      rw [e]
      clear h1 e
      go_enter Tryd.func57, Tryd.ntmps57
      go_wp2_with fail
      refine HP.out.mono ?_
      rintro r w1 ⟨rfl, rfl⟩
      go_wp2
      go_ret
      exact ⟨rfl, rfl⟩
    · have t1 : ((s.size : Int) == 1) = false := by simp; omega
      have e : (decide (s.size = 1) && !b) = false := by simp [h1]
      rw [e]
      clear h1 e
      go_enter Tryd.func57, Tryd.ntmps57
      go_wp2_with fail
      refine HP.out.mono ?_
      rintro r w1 ⟨rfl, rfl⟩
      go_wp2
      go_ret
      exact ⟨rfl, rfl⟩
  · have hn' : nought s.data.toList = false := by simpa using hn
    rw [hn'] at hp
    have HP := Lib.hid hp
    have e : plainB s.data.toList b = decide (0 < s.size) := by unfold plainB; rw [if_neg hn, ← size_l]
    rw [e]
    clear hp hn hn' e
    go_enter Tryd.func57, Tryd.ntmps57
    go_wp2_with fail
    refine HP.out.mono ?_
    rintro r w1 ⟨rfl, rfl⟩
    go_wp2
    go_ret
    exact ⟨ret_bool (by first | rfl | simp), rfl⟩

/-- The greatest number below 0, without its sign. -/
def top : Nat := 9223372036854775808
def valB (l : List UInt8) (b : Bool) : Bool := plainB l b && (if b = true then decide (natL l ≤ top) else decide (natL l < top))
def valI (l : List UInt8) (b : Bool) : Int := if valB l b = true then (if b = true then -(natL l : Int) else (natL l : Int)) else 0
def RetV (n : Int) (b : Bool) (w : World) (e : Ending) (w' : World) : Prop := e = .returned (.tuple #[.int .i64 n, .bool b]) ∧ Below w.heap.size w w'
theorem over_iff (a r : Int) (h0 : 48 ≤ r) (h1 : r ≤ 57) : a < (-9223372036854775808 + (r - 48)).tdiv 10 ↔ a * 10 - (r - 48) < -9223372036854775808 := by
  have e : (-9223372036854775808 + (r - 48) : Int) = -(9223372036854775808 - (r - 48)) := by omega
  rw [e, Int.neg_tdiv, Int.tdiv_eq_ediv_of_nonneg (by omega)]
  omega
theorem val_over {l : List UInt8} {b : Bool} {k : Nat} (h : top < natL (l.take k)) : valB l b = false ∧ valI l b = 0 := by
  have hm := natL_mono l k (max k l.length) (Nat.le_max_left _ _)
  rw [List.take_of_length_le (Nat.le_max_right _ _)] at hm
  have e : valB l b = false := by
    unfold valB
    cases b
    · rw [if_neg (by simp), decide_eq_false (by omega), Bool.and_false]
    · rw [if_pos rfl, decide_eq_false (by omega), Bool.and_false]
  exact ⟨e, by unfold valI; rw [if_neg (by simp [e])]⟩
theorem val_below {l : List UInt8} (hp : plainB l true = true) (h : natL l ≤ top) : valB l true = true ∧ valI l true = -(natL l : Int) := by
  have e : valB l true = true := by unfold valB; rw [if_pos rfl, decide_eq_true h, hp]; rfl
  exact ⟨e, by unfold valI; rw [if_pos e, if_pos rfl]⟩
theorem val_above {l : List UInt8} (hp : plainB l false = true) (h : natL l < top) : valB l false = true ∧ valI l false = (natL l : Int) := by
  have e : valB l false = true := by unfold valB; rw [if_neg (by simp), decide_eq_true h, hp]; rfl
  exact ⟨e, by unfold valI; rw [if_pos e, if_neg (by simp)]⟩
theorem val_top {l : List UInt8} (h : natL l = top) : valB l false = false ∧ valI l false = 0 := by
  have e : valB l false = false := by unfold valB; rw [if_neg (by simp), decide_eq_false (by omega), Bool.and_false]
  exact ⟨e, by unfold valI; rw [if_neg (by simp [e])]⟩
set_option maxHeartbeats 4000000 in
theorem value_any (s : ByteArray) (b : Bool) (w : World) (hs : s.size ≤ maxLen) (hd : s.data.toList.all isD = true) : Calls Tryd.prog 52 #[.string s, .bool b] w (RetV (valI s.data.toList b) (valB s.data.toList b) w) := by
  have hp := plain_any s b w hs
  unfold maxLen at hs
  by_cases hpl : plainB s.data.toList b = true
  · rw [hpl] at hp
    have HP := Lib.hid hp
    have HPL := Lib.hid hpl
    have HD := Lib.hid hd
    clear hp hpl hd
    go_enter Tryd.func52, Tryd.ntmps52
    go_wp2_with fail
    refine HP.out.mono ?_
    rintro r w1 ⟨rfl, rfl⟩
    go_wp2
    go_loopw [6] (fun n wr => ∃ (a : Int) (pos : Nat), n = .int .i64 a ∧ pos ≤ s.size ∧ Hid (a = -(natL (s.data.toList.take pos) : Int)) ∧ -9223372036854775808 ≤ a ∧ a ≤ 0 ∧ Hid (wr.heap[w.heap.size]? = some (.stringIter s pos)) ∧ Hid (Below w.heap.size w wr)) (fun _ wr => s.size - wr.iterPos w.heap.size)
    case atStart => exact ⟨0, 0, rfl, Nat.zero_le _, Lib.hid rfl, by omega, by omega, Lib.hid (World.iter_heap w s 0), Lib.hid ((Below.refl _ w).alloc (Nat.le_refl _) _)⟩
    case round =>
      obtain ⟨a, pos, rfl, hpos, HN, ha0, ha1, HK, HB⟩ := hrel
      by_cases hlt : pos < s.size
      · have hc := byte_at s pos hlt
        obtain ⟨c, hce⟩ : ∃ c, s[pos] = c := ⟨_, rfl⟩
        rw [hce] at hc
        have HC := Lib.hid hc
        have hcd := isD_of HD.out (List.mem_of_getElem? hc)
        have HK2 := Lib.hid (Lib.iterAt_heap wr w.heap.size s pos (pos + 1) HK.out)
        have HB2 := Lib.hid (Lib.below_iterAt HB.out (Nat.le_refl w.heap.size) s (pos + 1))
        have HM : Hid (wr.iterPos w.heap.size = pos) := Lib.hid (by simp [World.iterPos, HK.out])
        have HM2 : Hid ((wr.iterAt w.heap.size s (pos + 1)).iterPos w.heap.size = pos + 1) := Lib.hid (by simp [World.iterPos, HK2.out])
        have hnext := fun ty => Lib.run_next_ascii_at (P := Tryd.prog) wr w.heap.size s pos ty HK.out hlt (by rw [hce]; omega)
        rw [hce] at hnext
        obtain ⟨r, hr⟩ : ∃ r : Int, (c.toNat : Int) = r := ⟨_, rfl⟩
        rw [hr] at hnext
        have r0 : 48 ≤ r := by omega
        have r1 : r ≤ 57 := by omega
        have HR := Lib.hid hr
        clear hc hce hcd hr
        generalize wr.iterAt w.heap.size s (pos + 1) = w2 at *
        by_cases hov : a * 10 - (r - 48) < -9223372036854775808
        · have hq : decide (a < (-9223372036854775808 + (r - 48)).tdiv 10) = true := decide_eq_true ((over_iff a r r0 r1).2 hov)
          have HV := Lib.hid (val_over (l := s.data.toList) (b := b) (k := pos + 1) (by
            have h1 := natL_take HC.out
            have h2 := HN.out
            have h3 := HR.out
            unfold top
            omega))
          clear hov
          go_wp2
          go_ret2
          exact ⟨by rw [HV.out.1, HV.out.2]; rfl, HB2.out⟩
        · have hq : decide (a < (-9223372036854775808 + (r - 48)).tdiv 10) = false := decide_eq_false (fun h => hov ((over_iff a r r0 r1).1 h))
          have b1 : -9223372036854775808 ≤ a * 10 - (r - 48) := by omega
          have b2 : -9223372036854775808 ≤ a * 10 := by omega
          have b3 : a * 10 ≤ 0 := by omega
          have HX := Lib.hid (show a * 10 - (r - 48) = -(natL (s.data.toList.take (pos + 1)) : Int) by
            have h1 := natL_take HC.out
            have h2 := HN.out
            have h3 := HR.out
            omega)
          have b4 := b1
          have b5 : a * 10 - (r - 48) ≤ 0 := by omega
          clear hov
          go_wp2
          exact ⟨⟨a * 10 - (r - 48), pos + 1, rfl, by omega, HX, b4, b5, HK2, HB2⟩, by rw [HM.out, HM2.out]; omega⟩
      · obtain rfl : pos = s.size := by omega
        have hnext := fun ty => Lib.run_next_end_at (P := Tryd.prog) wr w.heap.size s s.size ty HK.out (by omega)
        have HE : Hid (a = -(natL s.data.toList : Int)) := Lib.hid (by
          have h := HN.out
          rwa [List.take_of_length_le (by simp)] at h)
        cases b with
        | true =>
          have HV := Lib.hid (val_below HPL.out (by have := HE.out; unfold top; omega))
          go_wp2
          go_ret2
          exact ⟨by rw [HV.out.1, HV.out.2, ← HE.out]; rfl, HB.out⟩
        | false =>
          by_cases ht : a = -9223372036854775808
          · have HV := Lib.hid (val_top (l := s.data.toList) (by have := HE.out; unfold top; omega))
            have t1 : (a == -9223372036854775808) = true := by rw [ht]; rfl
            clear ht
            go_wp2
            go_ret2
            exact ⟨by rw [HV.out.1, HV.out.2]; rfl, HB.out⟩
          · have HV := Lib.hid (val_above HPL.out (by have := HE.out; unfold top; omega))
            have HE2 := Lib.hid (show (natL s.data.toList : Int) = -a by have := HE.out; omega)
            have t1 : (a == -9223372036854775808) = false := by simpa using ht
            have t2 : -9223372036854775807 ≤ a := by omega
            clear ht
            go_wp2
            go_ret2
            exact ⟨by rw [HV.out.1, HV.out.2, HE2.out]; rfl, HB.out⟩
  · have hpl' : plainB s.data.toList b = false := by simpa using hpl
    rw [hpl'] at hp
    have HP := Lib.hid hp
    have e1 : valB s.data.toList b = false := by unfold valB; rw [hpl', Bool.false_and]
    have e2 : valI s.data.toList b = 0 := by unfold valI; rw [if_neg (by simp [e1])]
    unfold RetV
    rw [e1, e2]
    clear hp hpl hpl' e1 e2 hd
    go_enter Tryd.func52, Tryd.ntmps52
    go_wp2_with fail
    refine HP.out.mono ?_
    rintro r w1 ⟨rfl, rfl⟩
    go_wp2
    go_ret2
    exact ⟨rfl, Below.refl _ _⟩
end Go.Proofs.YtdhpplbopciijaaDoor.Dg
