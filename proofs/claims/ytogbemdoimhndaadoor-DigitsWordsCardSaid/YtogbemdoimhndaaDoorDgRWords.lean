/-
  What riffleref10.Words and Same answer. Condition: at most 50000 bytes; the words that Same holds against each other are the same.
-/
import Derived.Test.YtogbemdoimhndaaDoorDgWords
import Derived.RegionTactic
import Derived.ChangeAlike
import Derived.IntWalk
import Derived.Test.YtogbemdoimhndaaDoorPkC
import Derived.Deep.QuietTactic
import Derived.BigQuiet
set_option maxRecDepth 100000
namespace Go.Proofs.YtogbemdoimhndaaDoor.Dg
open Go.Proofs.YtogbemdoimhndaaDoor.Sh Go.Proofs.YtogbemdoimhndaaDoor.St
open Go.RowKit
set_option linter.unusedVariables false

theorem mineW_at {w : World} {base : Nat} {V : Value} {ws : List (List UInt8)} (h : MineW w base V ws) {j : Nat} (hj : j < ws.length) : ∃ b cap, V = .slice (some ⟨b, 0, none⟩) ws.length cap ∧ base ≤ b ∧ b < w.heap.size ∧ w.cell? ⟨b, j, none⟩ = some (sv (ws.getD j [])) ∧ w.frozen? ⟨b, j, none⟩ = false := by
  have hc := World.ownsRow.cells h (g := V.ownBlock.getD 0)
  have hlt := own_lt h
  rcases h.2 with ⟨rfl, h0⟩ | ⟨b, cap, cur, rfl, hb, hg, hn, hm, _⟩
  · omega
  · refine ⟨b, cap, rfl, hb, hlt b rfl, ?_, by simp [World.frozen?, hg]⟩
    have := hc rfl j (sv (ws.getD j [])) (by simp [List.getD, hj])
    rw [Go.WideShapes.add_plain] at this
    simp only [Value.ownBlock, Option.getD_some, Nat.zero_add] at this
    exact this
theorem mineW_set {w : World} {base b cap n : Nat} {ws : List (List UInt8)} (h : MineW w base (.slice (some ⟨b, 0, none⟩) n cap) ws) {j : Nat} (hj : j < ws.length) (y : List UInt8) : MineW (w.setCell ⟨b, j, none⟩ (sv y)) base (.slice (some ⟨b, 0, none⟩) n cap) (ws.set j y) := by
  refine ⟨by simp, ?_⟩
  rcases h.2 with ⟨e, h0⟩ | ⟨b', cap', cur, e, hb, hg, hn, hm, hs, ht⟩
  · cases e
  · injection e with e1 e2 e3
    injection e1 with e1
    injection e1 with e1
    subst e1 e2 e3
    refine .inr ⟨b, cap, cur.set! j (sv y), by simp, hb, by simp [World.setCell, Array.getElem?_modify, hg], by simpa using hn, hm, by simpa using hs, ?_⟩
    rw [List.length_set, List.map_set, ← ht]
    simp [List.take_set]
theorem mineW_one (w : World) (y : List UInt8) : MineW (w.alloc (.cells #[sv y] 9)) w.heap.size (.slice (some ⟨w.heap.size, 0, none⟩) 1 1) [y] :=
  ⟨by simp, .inr ⟨w.heap.size, 1, #[sv y], by simp, Nat.le_refl _, heap_alloc_new w _, by simp, by unfold maxLen; omega, by simp, by simp⟩⟩
theorem stW_cur (l : List UInt8) : ∀ k, (stW (l.take k)).2.length ≤ k
  | 0 => by simp [stW]
  | k + 1 => by
    have ih := stW_cur l k
    rcases Nat.lt_or_ge k l.length with hk | hk
    · rw [take_one (List.getElem?_eq_getElem hk), stW_snoc]
      split
      · simp
      · simp; omega
    · rw [List.take_of_length_le (by omega)]
      rw [List.take_of_length_le (by omega)] at ih
      omega
theorem wordsL_len (l : List UInt8) : (wordsL l).length = (stW l).1.length + 1 := by simp [wordsL]
theorem wordsL_blank {l : List UInt8} {k : Nat} (hc : l[k]? = some 32) : wordsL (l.take (k + 1)) = wordsL (l.take k) ++ [[]] := by
  unfold wordsL
  rw [take_one hc, stW_snoc, if_pos rfl]
theorem wordsL_other {l : List UInt8} {k : Nat} {c : UInt8} (hc : l[k]? = some c) (h : ¬ c = 32) : wordsL (l.take (k + 1)) = (wordsL (l.take k)).set (stW (l.take k)).1.length ((stW (l.take k)).2 ++ [c]) := by
  unfold wordsL
  rw [take_one hc, stW_snoc, if_neg h]
  rw [List.set_append_right _ _ (Nat.le_refl _), Nat.sub_self]
  rfl
theorem wordsL_last (l : List UInt8) : (wordsL l).getD (stW l).1.length [] = (stW l).2 := by
  simp [wordsL, List.getD]
theorem one_byte {s : ByteArray} {k : Nat} {c : UInt8} (h : s.data.toList[k]? = some c) : s.extract k (k + 1) = ⟨#[c]⟩ := by
  have e : (s.data.toList.drop k).take (k + 1 - k) = [c] := by
    obtain ⟨hk, e⟩ := List.getElem?_eq_some_iff.1 h
    rw [Nat.add_sub_cancel_left, List.drop_eq_getElem_cons hk]
    simp [e]
  rw [ext_of e]
theorem cat_one (l : List UInt8) (c : UInt8) : (⟨l.toArray⟩ : ByteArray) ++ ⟨#[c]⟩ = ⟨(l ++ [c]).toArray⟩ := by
  have h := cat_pre l [c]
  exact h
set_option maxHeartbeats 2000000 in
theorem rwords_any (s : ByteArray) (w : World) (hs : s.size ≤ 50000) : Calls Tryd.prog 37 #[.string s] w (RetW (wordsL s.data.toList) w) := by
  have M0 := Lib.hid (mineW_one w [])
  have L0 := Lib.hid (below_new w (.cells #[sv []] 9))
  go_enter Tryd.func37, Tryd.ntmps37
  go_wp2
  go_loopw [3, 4] (fun V i wr => ∃ k : Nat, k ≤ s.size ∧ i = .int .i64 k ∧ Hid (MineW wr w.heap.size V (wordsL (s.data.toList.take k))) ∧ Hid (Below w.heap.size w wr)) (fun _ i _ => s.size - (intOf i).toNat)
  case atStart => exact ⟨0, Nat.zero_le _, rfl, M0, L0⟩
  case round =>
    obtain ⟨k, hk, rfl, HM, HL⟩ := hrel
    by_cases hlt : k < s.size
    · have hc := byte_at s k hlt
      obtain ⟨c, hce⟩ : ∃ c, s[k] = c := ⟨_, rfl⟩
      rw [hce] at hc
      have HC := Lib.hid hc
      have SL := Lib.hid (stW_len s.data.toList k)
      have q0 : (0 : Int) ≤ (k : Int) := by omega
      have q1 : (k : Int) < (s.size : Int) := by omega
      clear hc
      by_cases h32 : c = 32
      · subst h32
        have t1 : (((32 : UInt8).toNat : Int) == 32) = true := rfl
        have WB := Lib.hid (wordsL_blank HC.out)
        have O2 := Lib.hid (World.ownsRow.alloc HM.out (.cells #[.string ⟨#[]⟩] 9))
        have TN : Hid ((wordsL (s.data.toList.take k)).length + 1 ≤ 100000) := Lib.hid (by rw [wordsL_len]; have := SL.out; omega)
        have LB : Hid (w.heap.size ≤ (wr.alloc (.cells #[.string ⟨#[]⟩] 9)).heap.size) := Lib.hid (by have := HL.out.size; simp; omega)
        go_wp2_with (at_builtin; go_loud (refine wpList_appS infoS rfl (by decide) (by decide) Tryd.underlying50 rfl (.tmp 16) (.tmp 17) rfl w.heap.size _ _ _ rfl O2.out (fun _ => True) _ 1 1 [Value.string ⟨#[]⟩] rfl rfl (seq1 _ _ _) (one_str _) TN.out LB.out ?_); intro v3 w3 hv3 hg3 ha3; have V3 := Lib.hid hv3; have G3 := Lib.hid hg3; clear hv3 hg3 ha3)
        refine ⟨⟨k + 1, by omega, by go_num, Lib.hid ?_, Lib.hid ((HL.out.alloc HL.out.size _).grown G3.out LB.out (own_base HM.out))⟩, by simp [intOf]; omega⟩
        rw [WB.out]
        unfold MineW
        simpa [sv] using V3.out
      · have t1 : ((c.toNat : Int) == 32) = false := by
          simp
          intro e
          exact h32 (UInt8.toNat_inj.1 (by rw [show (32 : UInt8).toNat = 32 from rfl]; omega))
        have WO := Lib.hid (wordsL_other HC.out h32)
        have WL := Lib.hid (wordsL_last (s.data.toList.take k))
        have WN := Lib.hid (wordsL_len (s.data.toList.take k))
        obtain ⟨b, cap, rfl, hb, hbl, c1, c2⟩ := mineW_at HM.out (j := (stW (s.data.toList.take k)).1.length) (by rw [wordsL_len]; omega)
        rw [WL.out] at c1
        have M3 := Lib.hid (mineW_set HM.out (j := (stW (s.data.toList.take k)).1.length) (by rw [wordsL_len]; omega) ((stW (s.data.toList.take k)).2 ++ [c]))
        rw [← WO.out] at M3
        have WN2 := Lib.hid (wordsL_len (s.data.toList.take (k + 1)))
        rw [WO.out, List.length_set, WN.out] at WN2
        have CU := stW_cur s.data.toList k
        obtain ⟨F, hF⟩ : ∃ F, s.extract k (k + 1) = F := ⟨_, rfl⟩
        obtain ⟨D, hD⟩ : ∃ D : ByteArray, (⟨(stW (s.data.toList.take k)).2.toArray⟩ : ByteArray) = D := ⟨_, rfl⟩
        have CO : Hid (Value.string (D ++ F) = sv ((stW (s.data.toList.take k)).2 ++ [c])) := Lib.hid (by
          rw [← hD, ← hF, one_byte HC.out, cat_one]; rfl)
        have hsum : ¬ (D.size + F.size > 9223372036854775807) := by
          rw [← hD, ← hF, one_byte HC.out]
          show ¬ ((stW (s.data.toList.take k)).2.toArray.size + 1 > _)
          simp; omega
        unfold sv at c1
        rw [hD] at c1
        rw [WN.out] at M3 ⊢
        have SL2 := SL.out
        generalize hN : (stW (s.data.toList.take k)).1.length = N at *
        have j0 : (0 : Int) ≤ (N : Int) := by omega
        have j1 : (N : Int) < (N : Int) + 1 := by omega
        have e1 : IntKind.i64.wrap (N : Int) = (N : Int) := IntWalk.i64_in _ (by omega)
        have q2 : (k : Int) + 1 ≤ (s.size : Int) := by omega
        have q3 : (k : Int) ≤ (k : Int) + 1 := by omega
        clear hD CU
        go_wp2
        go_region
        all_goals
          go_wp2
          refine ⟨⟨k + 1, by omega, by go_num, Lib.hid ?_, Lib.hid (Below.setCell HL.out.drew hb _)⟩, by simp [intOf]; omega⟩
          rw [CO.out]
          exact M3.out
    · obtain rfl : k = s.size := by omega
      have MM := Lib.hid HM.out
      rw [show s.data.toList.take s.size = s.data.toList from List.take_of_length_le (by rw [size_l]; exact Nat.le_refl _)] at MM
      obtain ⟨A, cA, rfl, -⟩ := own_seq MM.out (by decide)
      clear HM
      go_wp2
      go_ret
      exact ⟨A, cA, rfl, MM.out, HL.out⟩
theorem mineW_seq {w : World} {base n c : Nat} {A : Option Addr} {ws : List (List UInt8)} (h : MineW w base (.slice A n c) ws) : Seq (fun _ => True) w A (ws.map sv) := by
  obtain ⟨A', c', e, _, _, hs⟩ := own_seq h (by decide)
  injection e with e1 e2 e3
  subst e1
  exact hs.mono fun _ _ => trivial
set_option maxHeartbeats 2000000 in
theorem rsame_any (A : Option Addr) (cA : Nat) (B : Option Addr) (cB : Nat) (ws : List (List UInt8)) (w : World) (hn : ws.length ≤ 60000) (hA : Seq (fun _ => True) w A (ws.map sv)) (hB : Seq (fun _ => True) w B (ws.map sv)) :
    Calls Tryd.prog 35 #[.slice A ws.length cA, .slice B ws.length cB] w fun e w' => e = .returned (.bool true) ∧ Below w.heap.size w w' := by
  have HA := Lib.hid hA
  have HB := Lib.hid hB
  clear hA hB
  have e0 : ((ws.length : Int) != (ws.length : Int)) = false := by simp
  go_enter Tryd.func35, Tryd.ntmps35
  go_wp2
  go_loopw [5] (fun i wr => ∃ k : Nat, k ≤ ws.length ∧ i = .int .i64 k ∧ Hid (Below w.heap.size w wr)) (fun i _ => ws.length - (intOf i).toNat)
  case atStart => exact ⟨0, Nat.zero_le _, rfl, Lib.hid (Below.refl _ _)⟩
  case round =>
    obtain ⟨k, hk, rfl, HL⟩ := hrel
    by_cases hlt : k < ws.length
    · have q0 : (0 : Int) ≤ (k : Int) := by omega
      have q1 : (k : Int) < (ws.length : Int) := by omega
      have hu : (ws.map sv)[k]? = some (sv (ws.getD k [])) := by simp [List.getD, hlt]
      obtain ⟨b1, o1, rfl, -, -, c1⟩ := (HA.out.next HL.out).one hu
      obtain ⟨b2, o2, rfl, -, -, c2⟩ := (HB.out.next HL.out).one hu
      unfold sv at c1 c2
      obtain ⟨D, hD⟩ : ∃ D : ByteArray, (⟨(ws.getD k []).toArray⟩ : ByteArray) = D := ⟨_, rfl⟩
      rw [hD] at c1 c2
      clear hu hD
      go_wp2_with fail
      go_quiet (fail)
      go_wp2
      refine ⟨⟨k + 1, by omega, by go_num, Lib.hid (Sh.below_drewN HL.out _)⟩, by simp [intOf]; omega⟩
    · obtain rfl : k = ws.length := by omega
      go_wp2
      go_ret
      exact ⟨rfl, HL.out⟩
theorem nums_same (A : Option Addr) (c : Nat) (a : List Int) (B : Option Addr) (d : Nat) (w : World) (hl : a.length ≤ maxLen) (ha : Ints w A a) (hb : Ints w B a) :
    Calls Tryd.prog 38 #[.slice A a.length c, .slice B a.length d] w fun e w' => e = .returned (.bool true) ∧ Below w.heap.size w w' :=
  (Sh.nums_any A c a B d a w hl hl ha hb).mono fun e w' ⟨h1, n, h2⟩ => ⟨by simpa using h1, by rw [h2]; exact Sh.below_drewN (Below.refl _ _) n⟩
set_option maxHeartbeats 2000000 in
theorem dwords_any (s : ByteArray) (A : Option Addr) (cap : Nat) (ss : List ByteArray) (w : World) (hT : Tab w) (hsz : s.size ≤ maxLen) (hs : Strs w A ss) (hz : ∀ s ∈ ss, s.size ≤ maxLen) (hm : ss.length ≤ maxLen) :
    Calls Tryd.prog 8 #[.string s, .slice A ss.length cap] w fun e w' => e = .returned (.bool true) ∧ Below w.heap.size w w' := by
  have LV := Lib.hid (fun W (h : Tab W) => lives_any W h)
  have T := Lib.hid hT
  unfold maxLen at hsz hm
  by_cases h1 : s.size > 2000
  · have t1 : decide ((s.size : Int) > 2000) = true := decide_eq_true (by omega)
    clear hs hz hT
    go_enter Tryd.func8, Tryd.ntmps8
    go_wp2_with fail
    refine (LV.out _ T.out).mono ?_
    rintro r w1 ⟨rfl, hb⟩
    have L1 := Lib.hid hb
    clear hb
    go_wp2
    go_ret
    exact ⟨rfl, L1.out⟩
  have t1 : decide ((s.size : Int) > 2000) = false := decide_eq_false (by omega)
  by_cases h2 : ss.length > 300
  · have t2 : decide ((ss.length : Int) > 300) = true := decide_eq_true (by omega)
    clear hs hz hT
    go_enter Tryd.func8, Tryd.ntmps8
    go_wp2_with fail
    refine (LV.out _ T.out).mono ?_
    rintro r w1 ⟨rfl, hb⟩
    have L1 := Lib.hid hb
    clear hb
    go_wp2
    go_ret
    exact ⟨rfl, L1.out⟩
  have t2 : decide ((ss.length : Int) > 300) = false := decide_eq_false (by omega)
  have GN := Lib.hid (gnums_any A cap ss w hs (by omega) hz)
  have RN := Lib.hid (fun W (h : Strs W A ss) => rnums_any A cap ss W h (by omega) hz)
  have HS := Lib.hid hs
  have NL : (numsI ss).length ≤ 300 := by
    unfold numsI
    split
    · rw [numsV_len]; omega
    · simp
  have GW := Lib.hid (fun W => gwords_any s W (by omega))
  have RW := Lib.hid (fun W => rwords_any s W (by omega))
  have WL : (wordsL s.data.toList).length ≤ 60000 := by
    rw [wordsL_len]
    have := stW_len s.data.toList s.size
    rw [List.take_of_length_le (by rw [size_l]; exact Nat.le_refl _)] at this
    omega
  generalize numsI ss = xs at *
  generalize numsB ss = bs at *
  generalize wordsL s.data.toList = ws at *
  have NLH := Lib.hid NL
  have WLH := Lib.hid WL
  clear hs hz hT NL WL
  go_enter Tryd.func8, Tryd.ntmps8
  go_wp2_with fail
  refine GN.out.mono ?_
  rintro r w1 ⟨A1, c1, rfl, m1, hb⟩
  have L1 := Lib.hid hb
  have M1 := Lib.hid m1
  clear hb m1
  go_wp2_with fail
  refine (RN.out _ (HS.out.next L1.out)).mono ?_
  rintro r w2 ⟨A2, c2, rfl, m2, hb⟩
  have L2 := Lib.hid (below_next L1.out hb)
  have M12 := Lib.hid (M1.out.below hb (Nat.le_refl _))
  have M2 := Lib.hid m2
  clear hb m2
  go_wp2_with fail
  refine (GW.out _).mono ?_
  rintro r w3 ⟨A3, c3, rfl, m3, hb⟩
  have L3 := Lib.hid (below_next L2.out hb)
  have M13 := Lib.hid (M12.out.below hb (Nat.le_refl _))
  have M23 := Lib.hid (M2.out.below hb (Nat.le_refl _))
  have M3 := Lib.hid m3
  clear hb m3
  go_wp2_with fail
  refine (RW.out _).mono ?_
  rintro r w4 ⟨A4, c4, rfl, m4, hb⟩
  have L4 := Lib.hid (below_next L3.out hb)
  have M14 := Lib.hid (M13.out.below hb (Nat.le_refl _))
  have M24 := Lib.hid (M23.out.below hb (Nat.le_refl _))
  have M34 := Lib.hid (show MineW w4 _ (.slice A3 ws.length c3) ws from own_below M3.out hb)
  have M4 := Lib.hid m4
  clear hb m4
  go_wp2_with fail
  refine (rsame_any A3 c3 A4 c4 ws w4 WLH.out (mineW_seq M34.out) (mineW_seq M4.out)).mono ?_
  rintro r w5 ⟨rfl, hb⟩
  have L5 := Lib.hid (below_next L4.out hb)
  have N5 := Lib.hid (nums_same A1 c1 xs A2 c2 w5 (by unfold maxLen; have := NLH.out; omega) (M14.out.below hb (Nat.le_refl _)).ints' (M24.out.below hb (Nat.le_refl _)).ints')
  clear hb
  go_wp2_with fail
  refine N5.out.mono ?_
  rintro r w6 ⟨rfl, hb⟩
  have L6 := Lib.hid (below_next L5.out hb)
  clear hb
  go_wp2_with fail
  refine (LV.out _ (T.out.below L6.out)).mono ?_
  rintro r w7 ⟨rfl, hb⟩
  have L7 := Lib.hid (below_next L6.out hb)
  clear hb
  go_wp2
  go_ret
  exact ⟨rfl, L7.out⟩
end Go.Proofs.YtogbemdoimhndaaDoor.Dg
