/-
  What rifflelaw13.lives and DequePlays answer: true, whatever the room and the deeds; how deeds read that came in. Condition: no more deeds than fit into a machine.
-/
import Derived.Test.YtogbemdoimhndaaDqDo
import Derived.Test.YtogbemdoimhndaaPkC
import Derived.Deep.SlicePairs
set_option maxRecDepth 100000
namespace Go.Proofs.Ytogbemdoimhndaa.Dq
open Go.Proofs.Ytogbemdoimhndaa.Sh Go.Proofs.Ytogbemdoimhndaa.St
open Go.Joins Go.ChangeShapes Go.WideShapes Go.ChangeAt Go.RowKit Go.Deep
set_option linter.unusedVariables false

theorem deq_below {w0 w w' : World} {g : Nat} {V : Value} {ls : Bool} {n f : Nat} {l : List Int} (hb : Below w0.heap.size w0 w) (d : Deq w0.heap.size w g V ls n f l) (t : Turn (Tq g V) w w') : Below w0.heap.size w0 w' :=
  hb.trans (t.below hb.size fun i hi => (d.lt i hi).2)
theorem live_keeps : keptV false [5, 3, 4] = [5, 4] ∧ bestI false [3, 4] = 4 := by decide
set_option maxHeartbeats 4000000 in
theorem lives_any (w : World) : Calls Try.prog 27 #[] w fun e w' => e = .returned (.bool true) ∧ Below w.heap.size w w' := by
  have NW := Lib.hid (new_yes false 5 w (by omega) (by omega))
  have KV := Lib.hid live_keeps
  go_enter Try.func27, Try.ntmps27
  go_wp2_with fail
  refine NW.out.mono ?_
  rintro r w1 ⟨g, rfl, d1, hb1⟩
  have L1 := Lib.hid hb1
  have P1 := Lib.hid (push_room w.heap.size g _ false 5 0 [] 5 w1 d1 (by simp) (by simp))
  have D1 := Lib.hid d1
  clear hb1 d1
  go_wp2_with fail
  refine P1.out.mono ?_
  rintro r w2 ⟨V2, rfl, d2, t2, -⟩
  have L2 := Lib.hid (deq_below L1.out D1.out t2)
  have P2 := Lib.hid (push_room w.heap.size g _ false 5 0 ([] ++ [5]) 3 w2 d2 (by simp) (by simp))
  have D2 := Lib.hid d2
  clear d2 t2
  go_wp2_with fail
  refine P2.out.mono ?_
  rintro r w3 ⟨V3, rfl, d3, t3, -⟩
  have L3 := Lib.hid (deq_below L2.out D2.out t3)
  have P3 := Lib.hid (push_room w.heap.size g _ false 5 0 ([] ++ [5] ++ [3]) 4 w3 d3 (by simp) (by simp))
  have D3 := Lib.hid d3
  clear d3 t3
  go_wp2_with fail
  refine P3.out.mono ?_
  rintro r w4 ⟨V4, rfl, d4, t4, -⟩
  have L4 := Lib.hid (deq_below L3.out D3.out t4)
  have k4 := kept_any w.heap.size g _ false 5 0 [5, 3, 4] w4 d4 (by simp)
  rw [KV.out.1] at k4
  have P4 := Lib.hid k4
  have D4 := Lib.hid d4
  clear d4 t4 k4
  go_wp2_with fail
  refine P4.out.mono ?_
  rintro r w5 ⟨A5, c5, rfl, h5, -, -, hb5⟩
  have b6 := below_new w5 (.cells #[.int .i64 5, .int .i64 4] 2)
  have L6 := Lib.hid (below_next (below_next L4.out hb5) b6)
  have D6 := Lib.hid ((D4.out.next hb5).next b6)
  have N6 := Lib.hid (nums_same A5 c5 [5, 4] (some ⟨w5.heap.size, 0, none⟩) 2 (w5.alloc (.cells #[.int .i64 5, .int .i64 4] 2)) (by unfold maxLen; simp) (SInts.ints (Seq.next h5 b6)) (show Ints (w5.alloc (.cells #[.int .i64 5, .int .i64 4] 2)) (some ⟨w5.heap.size, 0, none⟩) [5, 4] from (MineT.new 2 w5 [5, 4] 0 (Nat.zero_le _) (by unfold maxLen; simp)).ints'))
  clear h5 hb5 b6
  go_wp2_with fail
  refine N6.out.mono ?_
  rintro r w7 ⟨rfl, hb7⟩
  have L7 := Lib.hid (below_next L6.out hb7)
  have D7 := Lib.hid (D6.out.next hb7)
  have P7 := Lib.hid (drop_some w.heap.size g V4 false 5 0 5 [3, 4] w7 (D6.out.next hb7) (by simp))
  clear hb7
  go_wp2_with fail
  refine P7.out.mono ?_
  rintro r w8 ⟨V8, rfl, d8, t8, -⟩
  have L8 := Lib.hid (deq_below L7.out D7.out t8)
  have k8 := best_any w.heap.size g V8 false 5 (0 + 1) [3, 4] w8 d8 (by simp)
  rw [KV.out.2] at k8
  have P8 := Lib.hid k8
  clear d8 t8 k8
  go_wp2_with fail
  refine P8.out.mono ?_
  rintro r w9 ⟨rfl, hb9⟩
  have L9 := Lib.hid (below_next L8.out hb9)
  clear hb9
  go_wp2
  go_ret
  exact ⟨rfl, L9.out⟩
/-- Deeds in memory. -/
def Deeds (w : World) (A : Option Addr) (ds : List Deed) : Prop := 0 < ds.length → ∃ b off, A = some ⟨b, off, none⟩ ∧ b < w.heap.size ∧ ∀ (k : Nat) (d : Deed), ds[k]? = some d → w.cell? ⟨b, off + k * 2, none⟩ = some (.bool d.1) ∧ w.cell? ⟨b, off + k * 2 + 1, none⟩ = some (.int .i64 d.2)
theorem Deeds.next {w w' : World} {A : Option Addr} {ds : List Deed} (h : Deeds w A ds) (hb : Below w.heap.size w w') : Deeds w' A ds := fun hp => by
  obtain ⟨b, off, e, hlt, hc⟩ := h hp
  exact ⟨b, off, e, Nat.lt_of_lt_of_le hlt hb.size, fun k d hd => ⟨(hb.cell (p := ⟨b, _, none⟩) hlt).trans (hc k d hd).1, (hb.cell (p := ⟨b, _, none⟩) hlt).trans (hc k d hd).2⟩⟩
/-- At the head of the loop over deeds: a window, and the document's list with the same numbers. -/
def PlayAt (w0 wr : World) (g : Nat) (ls : Bool) (n k : Nat) (X : Value) : Prop := ∃ V f l A c, X = .slice A (List.length l) c ∧ Deq w0.heap.size wr g V ls n f l ∧ SInts (fun b => ¬ Tq g V b) wr A l ∧ l.length ≤ c ∧ c ≤ maxLen ∧ f + l.length ≤ k ∧ Below w0.heap.size w0 wr
set_option maxHeartbeats 4000000 in
theorem plays_any (ls : Bool) (n : Int) (A : Option Addr) (c : Nat) (ds : List Deed) (w : World) (hl : ds.length ≤ maxLen) (hD : Deeds w A ds) :
    Calls Try.prog 6 #[.bool ls, .int .i64 n, .slice A ds.length c] w fun e w' => e = .returned (.bool true) ∧ Below w.heap.size w w' := by
  unfold maxLen at hl
  by_cases hm : mayB n = true
  · have hm' : 1 ≤ n ∧ n ≤ 64 := by simpa [mayB] using hm
    obtain ⟨n', rfl⟩ : ∃ k : Nat, n = k := ⟨n.toNat, by omega⟩
    have NW := Lib.hid (new_yes ls n' w (by omega) (by omega))
    have t1 : decide ((n' : Int) < 1) = false := decide_eq_false (by omega)
    have t2 : decide ((n' : Int) > 64) = false := decide_eq_false (by omega)
    have hn64 : n' ≤ 64 := by omega
    have HD := Lib.hid hD
    clear hm hm' hD
    by_cases hg : ds.length ≤ 100
    · have t3 : decide ((ds.length : Int) > 100) = false := decide_eq_false (by omega)
      go_enter Try.func6, Try.ntmps6
      go_wp2_with fail
      refine NW.out.mono ?_
      rintro r w1 ⟨g, rfl, d1, hb1⟩
      have PA : Hid (PlayAt w w1 g ls n' 0 (.slice none 0 0)) := Lib.hid ⟨_, 0, [], none, 0, rfl, d1, Seq.nil _ _ _, Nat.le_refl _, by unfold maxLen; omega, Nat.le_refl _, hb1⟩
      clear d1 hb1
      go_wp2
      go_loopw [9, 47] (fun X i wr => ∃ k : Nat, k ≤ ds.length ∧ i = .int .i64 k ∧ Hid (PlayAt w wr g ls n' k X)) (fun _ i _ => ds.length - (intOf i).toNat)
      case atStart => exact ⟨0, Nat.zero_le _, rfl, PA⟩
      case round =>
        obtain ⟨k, hk, rfl, HP⟩ := hrel
        by_cases hlt : k < ds.length
        · obtain ⟨V, f, l, AX, cX, rfl, p1, p2, p3, p4, p5, p6⟩ := HP.out
          obtain ⟨d, hd⟩ : ∃ d, ds[k]? = some d := ⟨_, List.getElem?_eq_getElem hlt⟩
          have i1 : (k : Int) < (ds.length : Int) := by omega
          obtain ⟨b, off, rfl, hb, hc⟩ := (HD.out.next p6) (by omega)
          obtain ⟨c1, c2⟩ := hc k d hd
          have b1 := below_new wr (.cells #[.bool d.1, .int .i64 d.2] 58)
          have DO := Lib.hid (does_any (fun b => ¬ Tq g V b) w.heap.size g V ls n' f l AX cX d _ (p1.next b1) (Seq.next p2 b1) (fun b hb => hb) p3 p4 (by omega))
          have D1 := Lib.hid (p1.next b1)
          have L1 := Lib.hid (below_next p6 b1)
          have hcame := do_came n' f l d
          generalize doF f l d = f' at *
          generalize doL n' l d = l' at *
          clear hc hd HP p1 p2 p6 b1
          go_wp2_with fail
          refine DO.out.mono ?_
          rintro r w2 ⟨A2, c2', V2, rfl, d2, s2, g1, g2, t2, -⟩
          have L2 := Lib.hid (deq_below L1.out D1.out t2)
          have SM := Lib.hid (same_any w.heap.size g V2 ls n' f' l' A2 c2' w2 d2 s2.ints (by omega))
          have D2 := Lib.hid d2
          have S2 := Lib.hid s2
          clear d2 s2 t2
          go_wp2_with fail
          refine SM.out.mono ?_
          rintro r w3 ⟨rfl, hb3⟩
          have PA : Hid (PlayAt w w3 g ls n' (k + 1) (.slice A2 l'.length c2')) := Lib.hid ⟨V2, f', l', A2, c2', rfl, D2.out.next hb3, Seq.mono (Seq.next S2.out hb3) (fun b hb => hb.2), g1, g2, by omega, below_next L2.out hb3⟩
          clear hb3
          go_wp2
          refine ⟨⟨k + 1, by omega, by go_num, PA⟩, by simp [intOf]; omega⟩
        · obtain rfl : k = ds.length := by omega
          obtain ⟨V, f, l, AX, cX, rfl, p1, p2, p3, p4, p5, p6⟩ := HP.out
          have P6 := Lib.hid p6
          clear p1 p2 p6 HP
          go_wp2_with fail
          refine (lives_any _).mono ?_
          rintro r w5 ⟨rfl, hb5⟩
          have L5 := Lib.hid (below_next P6.out hb5)
          clear hb5
          go_wp2
          go_ret
          exact ⟨rfl, L5.out⟩
    · have t3 : decide ((ds.length : Int) > 100) = true := decide_eq_true (by omega)
      go_enter Try.func6, Try.ntmps6
      go_wp2_with fail
      refine NW.out.mono ?_
      rintro r w1 ⟨g, rfl, d1, hb1⟩
      have L1 := Lib.hid hb1
      clear d1 hb1
      go_wp2_with fail
      refine (lives_any _).mono ?_
      rintro r w5 ⟨rfl, hb5⟩
      have L5 := Lib.hid (below_next L1.out hb5)
      clear hb5
      go_wp2
      go_ret
      exact ⟨rfl, L5.out⟩
  · have hm' : mayB n = false := by simpa using hm
    have NN := Lib.hid (fun W => new_no ls n W hm')
    have hno : ¬ (1 ≤ n ∧ n ≤ 64) := by simpa [mayB] using hm
    clear hm hm' hD
    by_cases h1 : n < 1
    · have t1 : decide (n < 1) = true := decide_eq_true h1
      clear hno
      go_enter Try.func6, Try.ntmps6
      go_wp2_with fail
      refine (NN.out w).mono ?_
      rintro r w1 ⟨rfl, rfl⟩
      go_wp2_with fail
      refine (lives_any _).mono ?_
      rintro r w3 ⟨rfl, hb3⟩
      have L3 := Lib.hid hb3
      clear hb3
      go_wp2
      go_ret
      exact ⟨rfl, L3.out⟩
    · have t1 : decide (n < 1) = false := decide_eq_false h1
      have t2 : decide (n > 64) = true := decide_eq_true (by omega)
      clear hno
      go_enter Try.func6, Try.ntmps6
      go_wp2_with fail
      refine (NN.out w).mono ?_
      rintro r w1 ⟨rfl, rfl⟩
      go_wp2_with fail
      refine (lives_any _).mono ?_
      rintro r w3 ⟨rfl, hb3⟩
      have L3 := Lib.hid hb3
      clear hb3
      go_wp2
      go_ret
      exact ⟨rfl, L3.out⟩
end Go.Proofs.Ytogbemdoimhndaa.Dq
