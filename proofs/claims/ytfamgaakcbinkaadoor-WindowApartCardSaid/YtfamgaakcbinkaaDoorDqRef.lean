/-
  What the document's functions of layer 13 answer: riffleref13.Best and Kept. Condition: at most 1000 numbers.
-/
import Derived.Test.YtfamgaakcbinkaaDoorDqOps3
namespace Go.Proofs.YtfamgaakcbinkaaDoor.Dq
open Go.Proofs.YtfamgaakcbinkaaDoor.Sh Go.Proofs.YtfamgaakcbinkaaDoor.St
open Go.RowKit
set_option linter.unusedVariables false

theorem best_step (ls : Bool) {l : List Int} {k : Nat} (h0 : 0 < k) (hk : k < l.length) : bestI ls (l.take (k + 1)) = if bettB ls (l.getD k 0) (bestI ls (l.take k)) then l.getD k 0 else bestI ls (l.take k) := by
  rw [Sh.take_snoc l k hk]
  cases l with
  | nil => simp at hk
  | cons x t =>
    obtain ⟨j, rfl⟩ : ∃ j, k = j + 1 := ⟨k - 1, by omega⟩
    simp only [List.take_succ_cons, List.cons_append, bestI, List.foldl_append, List.foldl_cons, List.foldl_nil]
    rfl
theorem best_yes {ls : Bool} {l : List Int} {k : Nat} {z N : Int} (h0 : 0 < k) (hk : k < l.length) (hz : l.getD k 0 = z) (hN : bestI ls (l.take k) = N) (h : bettB ls z N = true) : bestI ls (l.take (k + 1)) = z := by rw [best_step ls h0 hk, hz, hN, if_pos h]
theorem best_no {ls : Bool} {l : List Int} {k : Nat} {z N : Int} (h0 : 0 < k) (hk : k < l.length) (hz : l.getD k 0 = z) (hN : bestI ls (l.take k) = N) (h : bettB ls z N = false) : bestI ls (l.take (k + 1)) = N := by rw [best_step ls h0 hk, hz, hN, if_neg (by simp [h])]
theorem keptV_at {ls : Bool} {l : List Int} {k : Nat} (hk : k < l.length) : l.drop k = l.getD k 0 :: l.drop (k + 1) := by
  rw [List.drop_eq_getElem_cons hk]; simp [List.getD, hk]
theorem any_step {ls : Bool} {l : List Int} {x : Int} {k m : Nat} (h : k + m < l.length) : ((l.drop k).take (m + 1)).any (fun b => beatB ls b x) = (((l.drop k).take m).any (fun b => beatB ls b x) || beatB ls (l.getD (k + m) 0) x) := by
  have hm : m < (l.drop k).length := by rw [List.length_drop]; omega
  rw [Sh.take_snoc _ m hm, List.any_append]
  congr 1
  have e : (l.drop k).getD m 0 = l.getD (k + m) 0 := by simp [List.getD, List.getElem?_drop]
  rw [e]
  simp
set_option maxHeartbeats 4000000 in
theorem rkept_any (ls : Bool) (A : Option Addr) (c : Nat) (l : List Int) (w : World) (hi : Ints w A l) (hl : l.length ≤ 1000) :
    Calls Tryd.prog 95 #[.slice A l.length c, .bool ls] w (RetVals (keptV ls l) w) := by
  have HI := Lib.hid hi
  clear hi
  go_enter Tryd.func95, Tryd.ntmps95
  go_wp2
  go_loopw [5, 6] (fun V i wr => ∃ (k : Nat) (out : List Int), k ≤ l.length ∧ out.length ≤ k ∧ i = .int .i64 k ∧ Hid (MineT 2 wr w.heap.size V out) ∧ Hid (out ++ keptV ls (l.drop k) = keptV ls l) ∧ Hid (Below w.heap.size w wr)) (fun _ i _ => l.length - (intOf i).toNat)
  case atStart => exact ⟨0, [], Nat.zero_le _, Nat.le_refl _, rfl, Lib.hid (MineT.nil _ _ _), Lib.hid rfl, Lib.hid (Below.refl _ _)⟩
  case round =>
    obtain ⟨k, out, hk, ho, rfl, HM, HO, HB⟩ := hrel
    by_cases hlt : k < l.length
    · obtain ⟨x, hx⟩ : ∃ x, l.getD k 0 = x := ⟨_, rfl⟩
      have HX := Lib.hid hx
      have i1 : (k : Int) < (l.length : Int) := by omega
      have HD : Hid (l.drop k = x :: l.drop (k + 1)) := Lib.hid (by rw [keptV_at (ls := ls) hlt, hx])
      clear hx
      go_wp2
      go_loopw [7, 8] (fun bt j wq => ∃ m : Nat, k + 1 + m ≤ l.length ∧ j = .int .i64 ((k + 1 + m : Nat) : Int) ∧ bt = .bool (((l.drop (k + 1)).take m).any (fun b => beatB ls b x)) ∧ Hid (Below wr.heap.size wr wq)) (fun _ j _ => l.length - (intOf j).toNat)
      case atStart => exact ⟨0, by omega, by first | rfl | go_num, rfl, Lib.hid (Below.refl _ _)⟩
      case round =>
        obtain ⟨m, hm, rfl, rfl, HQ⟩ := hrel
        have IQ := Lib.hid (HI.out.below (below_next HB.out HQ.out))
        obtain ⟨b, off, rfl, hb, hcs⟩ := IQ.out (by omega)
        have qx := hcs k hlt
        rw [HX.out] at qx
        obtain ⟨K, hKe⟩ : ∃ K, k + 1 + m = K := ⟨_, rfl⟩
        by_cases hlt2 : k + 1 + m < l.length
        · obtain ⟨z, hz⟩ : ∃ z, l.getD (k + 1 + m) 0 = z := ⟨_, rfl⟩
          have qz := hcs (k + 1 + m) hlt2
          have AS := Lib.hid (any_step (ls := ls) (x := x) hlt2)
          rw [hz] at qz AS
          obtain ⟨B0, hB0⟩ : ∃ B0, ((l.drop (k + 1)).take m).any (fun b => beatB ls b x) = B0 := ⟨_, rfl⟩
          rw [hB0] at AS ⊢
          rw [hKe] at qz hlt2 ⊢
          have HKE := Lib.hid hKe
          have j1 : (K : Int) < (l.length : Int) := by omega
          have j0 : (0 : Int) ≤ (K : Int) := by omega
          have hKb : (K : Int) ≤ 1000 := by omega
          clear hcs hz hB0 hKe hm
          cases B0 with
          | true =>
            have AT := Lib.hid (AS.out.trans (Bool.true_or _))
            clear qz qx AS
            go_wp2_with fail
            go_quiet (fail)
            go_wp2
            refine ⟨⟨m + 1, by have := HKE.out; omega, by rw [← HKE.out]; first | rfl | go_num | (simp; omega), by rw [AT.out], Lib.hid (below_drewN HQ.out _)⟩, by simp [intOf]; omega⟩
          | false =>
            have AT := Lib.hid (AS.out.trans (Bool.false_or _))
            clear AS
            cases ls with
            | true =>
              by_cases hc : z ≤ x
              · have t1 : decide (z ≤ x) = true := decide_eq_true hc
                have AT2 := Lib.hid (AT.out.trans t1)
                clear AT hc
                go_wp2_with fail
                go_quiet (fail)
                go_wp2
                refine ⟨⟨m + 1, by have := HKE.out; omega, by rw [← HKE.out]; first | rfl | go_num | (simp; omega), by rw [AT2.out], Lib.hid (below_drewN HQ.out _)⟩, by simp [intOf]; omega⟩
              · have t1 : decide (z ≤ x) = false := decide_eq_false hc
                have AT2 := Lib.hid (AT.out.trans t1)
                clear AT hc
                go_wp2_with fail
                go_quiet (fail)
                go_wp2
                refine ⟨⟨m + 1, by have := HKE.out; omega, by rw [← HKE.out]; first | rfl | go_num | (simp; omega), by rw [AT2.out], Lib.hid (below_drewN HQ.out _)⟩, by simp [intOf]; omega⟩
            | false =>
              by_cases hc : z ≥ x
              · have t1 : decide (z ≥ x) = true := decide_eq_true hc
                have AT2 := Lib.hid (AT.out.trans t1)
                clear AT hc
                go_wp2_with fail
                go_quiet (fail)
                go_wp2
                refine ⟨⟨m + 1, by have := HKE.out; omega, by rw [← HKE.out]; first | rfl | go_num | (simp; omega), by rw [AT2.out], Lib.hid (below_drewN HQ.out _)⟩, by simp [intOf]; omega⟩
              · have t1 : decide (z ≥ x) = false := decide_eq_false hc
                have AT2 := Lib.hid (AT.out.trans t1)
                clear AT hc
                go_wp2_with fail
                go_quiet (fail)
                go_wp2
                refine ⟨⟨m + 1, by have := HKE.out; omega, by rw [← HKE.out]; first | rfl | go_num | (simp; omega), by rw [AT2.out], Lib.hid (below_drewN HQ.out _)⟩, by simp [intOf]; omega⟩
        · have hKl : K = l.length := by omega
          have hall : (l.drop (k + 1)).take m = l.drop (k + 1) := List.take_of_length_le (by rw [List.length_drop]; omega)
          rw [hall]
          obtain ⟨B0, hB0⟩ : ∃ B0, (l.drop (k + 1)).any (fun b => beatB ls b x) = B0 := ⟨_, rfl⟩
          rw [hB0, hKe, hKl]
          have KW := Lib.hid (below_next HB.out HQ.out)
          have MQ := Lib.hid (HM.out.below HQ.out (Nat.le_refl _))
          clear hcs hKe hKl hall hm hlt2
          cases B0 with
          | true =>
            have HE : Hid (out ++ keptV ls (l.drop (k + 1)) = keptV ls l) := Lib.hid (by rw [← HO.out, HD.out, keptV_yes hB0])
            clear hB0 qx
            go_wp2
            refine ⟨⟨k + 1, out, by omega, by omega, by go_num, MQ, HE, KW⟩, by simp [intOf]; omega⟩
          | false =>
            have HE : Hid (out ++ [x] ++ keptV ls (l.drop (k + 1)) = keptV ls l) := Lib.hid (by rw [← HO.out, HD.out, keptV_no hB0]; simp)
            clear hB0
            have M1 := Lib.hid (MineT.alloc MQ.out (.cells #[.int .i64 x] 2))
            have Y1 := Lib.hid (MineT.new 2 wr [x] 0 (Nat.zero_le _) (by unfold maxLen; simp)).ints'
            have K1 := Lib.hid (below_next KW.out (below_new wr (.cells #[.int .i64 x] 2)))
            have TL : Hid (out.length + [x].length ≤ 100000) := Lib.hid (by simp; omega)
            go_wp2_with (at_builtin; refine wpList_appI numL Tryd.underlying27 rfl (.tmp 55) (.tmp 60) rfl w.heap.size u5 out rfl M1.out _ 1 [x] rfl Y1.out TL.out K1.out.size ?_; intro v3 w3 hm3 hg3 ha3; have M3 := Lib.hid hm3; have G3 := Lib.hid hg3; clear hm3 hg3 ha3)
            refine ⟨⟨k + 1, out ++ [x], by omega, by simp; omega, by go_num, M3, HE, Lib.hid (K1.out.grown G3.out K1.out.size (fun kk hkk => own_base M1.out kk hkk))⟩, by simp [intOf]; omega⟩
    · obtain rfl : k = l.length := by omega
      have HE : Hid (out = keptV ls l) := Lib.hid (by have h := HO.out; rw [List.drop_length] at h; simpa [keptV] using h)
      clear HO
      go_wp2
      go_ret
      obtain ⟨B, d, rfl, h1, h2, h3⟩ := mine_row HM.out
      rw [← HE.out]
      exact ⟨B, d, rfl, h3, h1, h2, HB.out⟩
end Go.Proofs.YtfamgaakcbinkaaDoor.Dq
