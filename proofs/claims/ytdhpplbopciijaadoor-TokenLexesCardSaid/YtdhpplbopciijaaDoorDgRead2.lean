/-
  What digits.signed and digits.Read answer of any text. Condition: the text is no longer than fits into a machine.
-/
import Derived.Test.YtdhpplbopciijaaDoorDgRead
import Derived.Test.YtdhpplbopciijaaDoorStBase
set_option maxRecDepth 100000
namespace Go.Proofs.YtdhpplbopciijaaDoor.Dg
open Go.RowKit Go.Proofs.YtdhpplbopciijaaDoor.Sh
set_option linter.unusedVariables false

/-- How many bytes the sign has with which a text begins. -/
def signL (l : List UInt8) : Nat := if Lib.hasPrefix l [194, 175] = true then 2 else if Lib.hasPrefix l [95] = true then 1 else 0
theorem pre_le {l p : List UInt8} (h : Lib.hasPrefix l p = true) : p.length ≤ l.length := by
  have : p <+: l := by simpa [Lib.hasPrefix] using h
  exact this.length_le
theorem signL_le (l : List UInt8) : signL l ≤ l.length := by
  unfold signL
  split
  · next h => have := pre_le h; simpa using this
  · split
    · next h => have := pre_le h; simpa using this
    · omega
theorem pre_call (s : ByteArray) (p : ByteArray) (q : List UInt8) (b : Bool) (w : World) (hq : p.data.toList = q) (h : Lib.hasPrefix s.data.toList q = b) : Calls Tryd.prog 40 #[.string s, .string p] w fun e w' => e = .returned (.bool b) ∧ w = w' := by
  subst hq h
  exact (strings_HasPrefix s p w).mono fun _ _ ⟨h1, h2⟩ => ⟨h1, h2.symm⟩
set_option maxHeartbeats 1000000 in
theorem signed_any (s : ByteArray) (w : World) : Calls Tryd.prog 50 #[.string s] w fun e w' => e = .returned (.int .i64 (signL s.data.toList : Nat)) ∧ Below w.heap.size w w' := by
  have L := Lib.hid (below_new w (.cells #[.string ⟨#[194, 175]⟩, .string ⟨#[95]⟩] 9))
  by_cases h1 : Lib.hasPrefix s.data.toList [194, 175] = true
  · have e : signL s.data.toList = 2 := by unfold signL; rw [if_pos h1]
    rw [e]
    have H1 := Lib.hid (fun W => pre_call s ⟨#[194, 175]⟩ [194, 175] true W rfl h1)
    clear e h1
    go_enter Tryd.func50, Tryd.ntmps50
    go_wp2
    go_loop [7] (fun i => i = .int .i64 0) (fun _ => 0)
    case atStart => rfl
    case round =>
      subst hrel
      go_wp2_with fail
      refine (H1.out _).mono ?_
      rintro r w1 ⟨rfl, rfl⟩
      go_wp2
      go_ret
      exact ⟨rfl, L.out⟩
  · have h1' : Lib.hasPrefix s.data.toList [194, 175] = false := by simpa using h1
    have H1 := Lib.hid (fun W => pre_call s ⟨#[194, 175]⟩ [194, 175] false W rfl h1')
    obtain ⟨b, hb⟩ : ∃ b, Lib.hasPrefix s.data.toList [95] = b := ⟨_, rfl⟩
    have H2 := Lib.hid (fun W => pre_call s ⟨#[95]⟩ [95] b W rfl hb)
    obtain ⟨k, hk⟩ : ∃ k : Nat, (if b = true then 1 else 0) = k := ⟨_, rfl⟩
    have e : signL s.data.toList = k := by unfold signL; rw [if_neg h1, hb]; exact hk
    rw [e]
    have HK := Lib.hid hk
    clear e h1 h1' hb hk
    go_enter Tryd.func50, Tryd.ntmps50
    go_wp2
    go_loop [7] (fun i => i = .int .i64 0 ∨ i = .int .i64 1 ∨ (i = .int .i64 2 ∧ b = false)) (fun i => 2 - (intOf i).toNat)
    case atStart => exact .inl rfl
    case round =>
      rcases hrel with rfl | rfl | ⟨rfl, hbf⟩
      · go_wp2_with fail
        refine (H1.out _).mono ?_
        rintro r w1 ⟨rfl, rfl⟩
        go_wp2
        go_round
        case rel => exact .inr (.inl rfl)
        case measure => simp [intOf]
      · cases b with
        | true =>
          obtain rfl : k = 1 := by rw [← HK.out]; rfl
          go_wp2_with fail
          refine (H2.out _).mono ?_
          rintro r w1 ⟨rfl, rfl⟩
          go_wp2
          go_ret
          exact ⟨rfl, L.out⟩
        | false =>
          go_wp2_with fail
          refine (H2.out _).mono ?_
          rintro r w1 ⟨rfl, rfl⟩
          go_wp2
          go_round
          case rel => exact .inr (.inr ⟨rfl, trivial⟩)
          case measure => simp [intOf]
      · subst hbf
        obtain rfl : k = 0 := by rw [← HK.out]; rfl
        go_wp2
        go_ret
        exact ⟨rfl, L.out⟩

/-- What Read tells: how many bytes, which digits. -/
def readN (l : List UInt8) : Nat := signL l + runL (l.drop (signL l))
def readD (l : List UInt8) : List UInt8 := (l.drop (signL l)).take (runL (l.drop (signL l)))
def readS (l : List UInt8) : Bool := decide (0 < signL l)
theorem run_take (l : List UInt8) : l.take (runL l) = l.takeWhile isD := by
  have h := List.takeWhile_append_dropWhile (p := isD) (l := l)
  unfold runL
  conv => lhs; rw [← h]
  rw [List.take_left']
  rw [h]
theorem readD_all (l : List UInt8) : (readD l).all isD = true := by unfold readD; rw [run_take]; exact List.all_takeWhile
theorem ext_list (s : ByteArray) (a b : Nat) : (s.extract a b).data.toList = (s.data.toList.drop a).take (b - a) := by
  rw [← Lib.toList_data, Lib.extract_toList]
theorem ext_size (s : ByteArray) (a b : Nat) (h : b ≤ s.size) : (s.extract a b).size = b - a := by rw [ByteArray.size_extract]; omega
def RetRd (n : Int) (k : Nat) (b : Bool) (w : World) (e : Ending) (w' : World) : Prop := e = .returned (.tuple #[.int .i64 n, .int .i64 k, .bool b]) ∧ Below w.heap.size w w'
set_option maxHeartbeats 2000000 in
theorem read_any (s : ByteArray) (w : World) (hs : s.size ≤ maxLen) : Calls Tryd.prog 41 #[.string s] w (RetRd (valI (readD s.data.toList) (readS s.data.toList)) (readN s.data.toList) (valB (readD s.data.toList) (readS s.data.toList)) w) := by
  obtain ⟨k, hk⟩ : ∃ k, signL s.data.toList = k := ⟨_, rfl⟩
  obtain ⟨m, hm⟩ : ∃ m, runL (s.data.toList.drop k) = m := ⟨_, rfl⟩
  have hkl : k ≤ s.size := by rw [← hk, size_l]; exact signL_le _
  have hml : k + m ≤ s.size := by
    have := runL_le (s.data.toList.drop k)
    rw [hm, List.length_drop, ← size_l] at this
    omega
  have SG := signed_any s w
  rw [hk] at SG
  have e1 : (s.extract k s.size).data.toList = s.data.toList.drop k := by
    rw [ext_list, List.take_of_length_le]
    rw [List.length_drop, ← size_l]; exact Nat.le_refl _
  have RU := fun W => run_any (s.extract k s.size) W (by rw [ext_size s k s.size (Nat.le_refl _)]; omega)
  rw [e1, hm] at RU
  have e2 : (s.extract k (k + m)).data.toList = readD s.data.toList := by
    rw [ext_list]; unfold readD; rw [hk, hm, Nat.add_sub_cancel_left]
  have VA := fun W => value_any (s.extract k (k + m)) (readS s.data.toList) W (by rw [ext_size s k (k + m) hml]; omega) (by rw [e2]; exact readD_all _)
  rw [e2] at VA
  have hN : readN s.data.toList = k + m := by unfold readN; rw [hk, hm]
  have hS : readS s.data.toList = decide (0 < k) := by unfold readS; rw [hk]
  rw [hN]
  rw [hS] at VA ⊢
  have HSG := Lib.hid SG
  have HRU := Lib.hid RU
  have HVA := Lib.hid VA
  generalize valI (readD s.data.toList) (decide (0 < k)) = vi at *
  generalize valB (readD s.data.toList) (decide (0 < k)) = vb at *
  unfold maxLen at hs
  have a0 : (k : Int) ≤ (s.size : Int) := by omega
  have a1 : (k : Int) + (m : Int) ≤ (s.size : Int) := by omega
  clear SG RU VA e1 e2 hN hS hk hm
  go_enter Tryd.func41, Tryd.ntmps41
  go_wp2_with fail
  refine HSG.out.mono ?_
  rintro r w1 ⟨rfl, hb1⟩
  have L1 := Lib.hid hb1
  clear hb1
  go_wp2_with fail
  refine (HRU.out _).mono ?_
  rintro r w2 ⟨rfl, hb2⟩
  have L2 := Lib.hid (below_next L1.out hb2)
  clear hb2
  go_wp2_with fail
  refine (HVA.out _).mono ?_
  rintro r w3 ⟨rfl, hb3⟩
  have L3 := Lib.hid (below_next L2.out hb3)
  clear hb3
  go_wp2
  refine bodyPost_ret (v := .tuple #[.int .i64 vi, .int .i64 ((k : Int) + (m : Int)), .bool vb]) (by simp [results, Tryd.results41, go_sem]) rfl ?_
  exact ⟨by rw [Int.natCast_add], L3.out⟩
end Go.Proofs.YtdhpplbopciijaaDoor.Dg
