/-
  Proved: for any two numbers and any text rifflelaw02.GlyphBack returns true, and all three read afterwards as they read before: the card, tied to the text that lays the two tables of unicode/utf8. No other condition; the card speaks of the pruned copy of the project that this seat's roots load.
-/
import Derived.Test.YtdjckobbemkhbaaDoorGlyphCard
import Derived.Test.YtdjckobbemkhbaaDoorGlyphRef3
import Derived.SizedLaws
import Derived.Test.YtdjckobbemkhbaaDoorGlyphCode2
namespace Go.Proofs.YtdjckobbemkhbaaDoor.glyphBack
open Go.Proofs.YtdjckobbemkhbaaDoor.Gl
open Go.ChangeShapes Go.WideShapes Go.ChangeAt Go.RowKit
open Go.ChangeMaps (open_string shut_string)
set_option linter.unusedVariables false

theorem first_sign {k : Nat} (h1 : 1 ≤ k) (h2 : k < 44) {t : List UInt8} {c n : Nat} (h : FirstIs (rs k ++ t) c n) : c = k ∧ n = (rs k).length := by
  have hp : rs k <+: rs k ++ t := List.prefix_append _ _
  rcases h with ⟨_, g1, g2⟩ | ⟨h0, _⟩
  · have hc : c ≠ 0 := fun e => (g1.zero_iff.1 e) k h1 h2 hp
    obtain ⟨c1, c2, c3⟩ := g1.at_ hc
    have : c = k := by
      rcases List.prefix_or_prefix_of_prefix c3 hp with g | g
      · exact rs_free k h2 c c2 c1 g
      · exact (rs_free c c2 k h2 h1 g).symm
    subst this
    exact ⟨rfl, g2⟩
  · exact absurd h0 (prefix_head h1 h2 hp)
theorem first_word {k : Nat} (h1 : 1 ≤ k) (h2 : k < 44) (hw : wrd k ≠ []) {t : List UInt8} {c n : Nat} (h : FirstIs (96 :: (wrd k ++ 32 :: t)) c n) : c = k ∧ n = 1 + (wrd k).length := by
  have hwo : wordOf (96 :: (wrd k ++ 32 :: t)) = wrd k := by
    unfold wordOf
    rw [List.drop_one, List.tail_cons, takeWhile_take _ (wrd k).length]
    · simp
    · rw [List.take_append_of_le_length (Nat.le_refl _), List.take_length]
      have := wrd_letters k h2
      rw [List.all_eq_true] at this ⊢
      exact fun x hx => this x hx
    · right
      exact ⟨32, by simp, by decide⟩
  rcases h with ⟨h0, _⟩ | ⟨_, g1, g2⟩
  · simp at h0
  · rw [hwo] at g1 g2
    have hc : c ≠ 0 := fun e => (g1.zero_iff.1 e) k h1 h2 ⟨rfl, hw⟩
    obtain ⟨c1, c2, c3⟩ := g1.at_ hc
    have : c = k := wrd_inj c c2 k h2 (by rw [c3.1]; exact hw) c3.1
    subst this
    rw [if_neg hc] at g2
    exact ⟨rfl, g2⟩
theorem of_sign {k : Nat} (h1 : 1 ≤ k) (h2 : k < 44) {c : Nat} (h : OfIs (rs k) c) : c = k := by
  have hc : c ≠ 0 := fun e => (h.zero_iff.1 e) k h1 h2 ⟨rfl, rs_nil k h1 h2⟩
  obtain ⟨c1, c2, c3⟩ := h.at_ hc
  exact rs_inj c c2 k h2 c1 h1 c3.1
theorem named_word {k : Nat} (h1 : 1 ≤ k) (h2 : k < 44) (hw : wrd k ≠ []) {c : Nat} (h : NamedIs (wrd k) c) : c = k := by
  have hc : c ≠ 0 := fun e => (h.zero_iff.1 e) k h1 h2 ⟨rfl, hw⟩
  obtain ⟨c1, c2, c3⟩ := h.at_ hc
  exact wrd_inj c c2 k h2 (by rw [c3.1]; exact hw) c3.1
theorem append_list (a b : ByteArray) : (a ++ b).data.toList = a.data.toList ++ b.data.toList := by rw [ByteArray.data_append, Array.toList_append]
theorem signB_list (k : Nat) (h1 : 1 ≤ k) (h2 : k < 44) : (signB (k : Int)).data.toList = rs k := by unfold signB; rw [if_pos (by omega), Int.toNat_natCast]
theorem wordB_list (k : Nat) (h1 : 1 ≤ k) (h2 : k < 44) : (wordB (k : Int)).data.toList = wrd k := by unfold wordB; rw [if_pos (by omega), Int.toNat_natCast]
/-- Another code's sign is another one. -/
theorem sign_other {k : Nat} (h1 : 1 ≤ k) (h2 : k < 44) {j : Int} (hj : j ≠ k) : ¬ (signB j).toList = (signB (k : Int)).toList := by
  rw [toList_data, toList_data, signB_list k h1 h2]
  by_cases h : inC j
  · obtain ⟨i, rfl⟩ : ∃ i : Nat, j = i := ⟨j.toNat, by unfold inC at h; omega⟩
    unfold inC at h
    rw [signB_list i (by omega) (by omega)]
    intro e
    have := rs_inj i (by omega) k h2 (by omega) h1 e
    omega
  · rw [signB_no h]
    intro e
    exact rs_nil k h1 h2 e.symm
theorem word_other {k : Nat} (h1 : 1 ≤ k) (h2 : k < 44) (hw : wrd k ≠ []) {j : Int} (hj : j ≠ k) : ¬ (wordB j).toList = (wordB (k : Int)).toList := by
  rw [toList_data, toList_data, wordB_list k h1 h2]
  by_cases h : inC j
  · obtain ⟨i, rfl⟩ : ∃ i : Nat, j = i := ⟨j.toNat, by unfold inC at h; omega⟩
    unfold inC at h
    rw [wordB_list i (by omega) (by omega)]
    intro e
    have := wrd_inj i (by omega) k h2 (by rw [e]; exact hw) e
    omega
  · rw [wordB_no h]
    intro e
    exact hw e.symm

set_option maxHeartbeats 3200000 in
set_option maxRecDepth 100000 in
theorem walk_no (c j : Int) (t : ByteArray) (w : World) (hT : Tabs w) (h : ¬ inC c) : Calls Tryd.prog 6 #[.int .i64 c, .int .i64 j, .string t] w fun e w' => e = .returned (.bool true) ∧ Below w.heap.size w w' := by
  have HT := Lib.hid hT
  clear hT
  have hcl : clsI c = 0 := by unfold inC at h; unfold clsI; rw [if_pos (by omega)]
  have hC : ∀ W, Calls Tryd.prog 15 #[.int .i64 c] W fun e w' => e = .returned (.int .i64 0) ∧ W = w' := fun W => by have := class_any c W; rwa [hcl] at this
  have HC := Lib.hid hC
  have HI := Lib.hid h
  clear hC hcl h
  go_enter Tryd.func6, Tryd.ntmps6
  go_wp2_with fail
  refine (sign_no c HI.out _).mono ?_
  rintro e w1 ⟨rfl, hb1⟩
  have HB1 := Lib.hid hb1
  clear hb1
  go_wp2_with fail
  refine (word_no c HI.out _).mono ?_
  rintro e w2 ⟨rfl, hb2⟩
  have HB2 := Lib.hid (below_next HB1.out hb2)
  clear hb2
  go_wp2_with fail
  refine (HC.out _).mono ?_
  rintro e w3 ⟨rfl, rfl⟩
  have HT2 := Lib.hid (HT.out.below HB2.out)
  go_wp2_with (go_at_call 17; refine (lives_any _ HT2.out).mono ?_; rintro e w10 ⟨rfl, hb10⟩; have HB10 := Lib.hid (below_next HB2.out hb10); clear hb10)
  go_ret
  exact ⟨rfl, HB10.out⟩

set_option maxHeartbeats 3200000 in
set_option maxRecDepth 100000 in
theorem walk_yes (k : Nat) (h1 : 1 ≤ k) (h2 : k < 44) (j : Int) (t : ByteArray) (ht : t.size ≤ 140737488355328) (w : World) (hT : Tabs w) : Calls Tryd.prog 6 #[.int .i64 (k : Int), .int .i64 j, .string t] w fun e w' => e = .returned (.bool true) ∧ Below w.heap.size w w' := by
  have HT := Lib.hid hT
  clear hT
  have hcl : 1 ≤ clsI (k : Int) := by unfold clsI; rw [if_neg (by omega)]; repeat' split
                                      all_goals omega
  have hS : (signB (k : Int)).data.toList = rs k := signB_list k h1 h2
  have hsz : (signB (k : Int)).size = (rs k).length := by rw [← size_list, hS]
  have hs3 : (signB (k : Int)).size ≤ 3 := by rw [hsz]; exact rs_short k h2
  have hne := nonempty_facts (s := signB (k : Int)) (by rw [hsz]; intro e; exact rs_nil k h1 h2 (List.eq_nil_of_length_eq_zero e))
  have hso : ∀ i : Int, i ≠ k → ¬ (signB i).toList = (signB (k : Int)).toList := fun i hi => sign_other h1 h2 hi
  have hsg := fun W => sign_any (k : Int) W
  obtain ⟨S, hSe⟩ : ∃ S, signB (k : Int) = S := ⟨_, rfl⟩
  rw [hSe] at hS hsz hs3 hne hsg hso
  obtain ⟨Z, hZ⟩ : ∃ Z, S ++ t = Z := ⟨_, rfl⟩
  have hadd : ∀ W, Sem.run Tryd.prog (Op.stringOp .add S t) W = .ok (.string Z) W := fun W => by rw [run_string_add_sum _ _ _ (by omega), hZ]
  have hZl : Z.data.toList = rs k ++ t.data.toList := by rw [← hZ, append_list, hS]
  have hZs : Z.size ≤ maxLen := by rw [← size_list, hZl, List.length_append, size_list, ← hsz]; unfold maxLen; omega
  have hF : ∀ W, Tabs W → Calls Tryd.prog 18 #[.string Z] W fun e w' => e = .returned (.tuple #[.int .i64 (k : Int), .int .i64 (S.size : Int)]) ∧ Below W.heap.size W w' := fun W hW => by
    rw [hsz]
    exact first_lit Z k (rs k).length _ hZl (fun _ _ h => first_sign h1 h2 h) W hW hZs
  have hO : ∀ W, Tabs W → Calls Tryd.prog 7 #[.string S] W fun e w' => e = .returned (.tuple #[.int .i64 (k : Int), .bool true]) ∧ Below W.heap.size W w' := fun W hW => by
    refine (of_any S W hW (by unfold maxLen; omega)).mono ?_
    rintro e w' ⟨c, rfl, hf, hb⟩
    rw [hS] at hf
    obtain rfl := of_sign h1 h2 hf
    have : ((c : Int) == 0) = false := by simp; omega
    exact ⟨by rw [this]; rfl, hb⟩
  have HSG := Lib.hid hsg
  have HF := Lib.hid hF
  have HO := Lib.hid hO
  have HSO := Lib.hid hso
  obtain ⟨n1, n2, n3⟩ := hne
  clear hsg hF hO hso hZ hZl hZs hS hsz hSe n3
  have hX : (wordB (k : Int)).data.toList = wrd k := wordB_list k h1 h2
  have hxz : (wordB (k : Int)).size = (wrd k).length := by rw [← size_list, hX]
  have hx5 : (wordB (k : Int)).size ≤ 5 := by rw [hxz]; exact wrd_short k h2
  have hwg := fun W => word_any (k : Int) W
  have hwo : wrd k ≠ [] → ∀ i : Int, i ≠ k → ¬ (wordB i).toList = (wordB (k : Int)).toList := fun hw i hi => word_other h1 h2 hw hi
  obtain ⟨X, hXe⟩ : ∃ X, wordB (k : Int) = X := ⟨_, rfl⟩
  rw [hXe] at hX hxz hx5 hwg hwo
  have HWG := Lib.hid hwg
  have HWO := Lib.hid hwo
  have HX := Lib.hid hX
  have HXZ := Lib.hid hxz
  clear hwg hwo hX hxz hXe
  have hk0 : ((k : Int) == 0) = false := by simp; omega
  have hcz : (clsI (k : Int) == 0) = false := by simp; omega
  have HCL := Lib.hid (class_any (k : Int))
  generalize clsI (k : Int) = q at *
  go_enter Tryd.func6, Tryd.ntmps6
  go_wp2_with fail
  refine (HSG.out _).mono ?_
  rintro e w1 ⟨rfl, hb1⟩
  have HB1 := Lib.hid hb1
  clear hb1
  go_wp2_with fail
  refine (HWG.out _).mono ?_
  rintro e w2 ⟨rfl, hb2⟩
  have HB2 := Lib.hid (below_next HB1.out hb2)
  clear hb2
  go_wp2_with fail
  refine (HCL.out _).mono ?_
  rintro e w3 ⟨rfl, rfl⟩
  go_wp2_with fail
  refine (HF.out _ (HT.out.below HB2.out)).mono ?_
  rintro e w3 ⟨rfl, hb3⟩
  have HB3 := Lib.hid (below_next HB2.out hb3)
  clear hb3
  go_wp2_with fail
  refine (HO.out _ (HT.out.below HB3.out)).mono ?_
  rintro e w4 ⟨rfl, hb4⟩
  have HB4 := Lib.hid (below_next HB3.out hb4)
  clear hb4
  by_cases hj : j = (k : Int)
  · subst hj
    go_wp2_with fail
    refine (HSG.out _).mono ?_
    rintro e w5 ⟨rfl, hb5⟩
    have HB5 := Lib.hid (below_next HB4.out hb5)
    clear hb5
    by_cases hw : wrd k = []
    · have hx0 : X.size = 0 := by rw [HXZ.out, hw]; rfl
      obtain rfl := empty_of_size hx0
      have HBX := HB5
      clear hw hx0 HX HXZ HWO
      go_wp2_with (go_at_call 17; refine (lives_any _ (HT.out.below HBX.out)).mono ?_; rintro e w10 ⟨rfl, hb10⟩; have HB10 := Lib.hid (below_next HBX.out hb10); clear hb10)
      go_ret
      exact ⟨rfl, HB10.out⟩
    · obtain ⟨m1, m2, m3⟩ := nonempty_facts (s := X) (by rw [HXZ.out]; intro e; exact hw (List.eq_nil_of_length_eq_zero e))
      clear m3
      obtain ⟨Y1, hY1⟩ : ∃ Y, (⟨#[96]⟩ : ByteArray) ++ X = Y := ⟨_, rfl⟩
      have hl1 : Y1.data.toList = 96 :: wrd k := by rw [← hY1, append_list, HX.out]; rfl
      have hz1 : Y1.size = 1 + X.size := by rw [← size_list, hl1, HXZ.out]; simp; omega
      have ha1 : ∀ W, Sem.run Tryd.prog (Op.stringOp .add ⟨#[96]⟩ X) W = .ok (.string Y1) W := fun W => by rw [run_string_add_sum _ _ _ (by have : (⟨#[96]⟩ : ByteArray).size = 1 := rfl; omega), hY1]
      obtain ⟨Y2, hY2⟩ : ∃ Y, Y1 ++ (⟨#[32]⟩ : ByteArray) = Y := ⟨_, rfl⟩
      have hl2 : Y2.data.toList = 96 :: (wrd k ++ [32]) := by rw [← hY2, append_list, hl1]; rfl
      have hz2 : Y2.size = 2 + X.size := by rw [← size_list, hl2, HXZ.out]; simp; omega
      have ha2 : ∀ W, Sem.run Tryd.prog (Op.stringOp .add Y1 ⟨#[32]⟩) W = .ok (.string Y2) W := fun W => by rw [run_string_add_sum _ _ _ (by have : (⟨#[32]⟩ : ByteArray).size = 1 := rfl; omega), hY2]
      obtain ⟨Y3, hY3⟩ : ∃ Y, Y2 ++ t = Y := ⟨_, rfl⟩
      have hl3 : Y3.data.toList = 96 :: (wrd k ++ 32 :: t.data.toList) := by rw [← hY3, append_list, hl2]; simp
      have hz3 : Y3.size ≤ maxLen := by rw [← size_list, hl3]; simp only [List.length_cons, List.length_append, size_list, ← HXZ.out]; unfold maxLen; omega
      have ha3 : ∀ W, Sem.run Tryd.prog (Op.stringOp .add Y2 t) W = .ok (.string Y3) W := fun W => by rw [run_string_add_sum _ _ _ (by omega), hY3]
      have HF2 := Lib.hid (fun W hW => first_lit Y3 k (1 + (wrd k).length) _ hl3 (fun _ _ h => first_word h1 h2 hw h) W hW hz3)
      have hN : ∀ W, Calls Tryd.prog 8 #[.string X] W fun e w' => e = .returned (.tuple #[.int .i64 (k : Int), .bool true]) ∧ Below W.heap.size W w' := fun W => by
        refine (named_any X W).mono ?_
        rintro e w' ⟨c, rfl, hf, hb⟩
        rw [HX.out] at hf
        obtain rfl := named_word h1 h2 hw hf
        exact ⟨by rw [hk0]; rfl, hb⟩
      have HN := Lib.hid hN
      have HW := Lib.hid hw
      clear hY1 hY2 hY3 hl1 hl2 hl3 hz1 hz2 hz3 hN hw
      have hmm : ((1 + (wrd k).length : Nat) : Int) = (X.size : Int) + 1 := by rw [HXZ.out]; omega
      rw [hmm] at HF2
      clear hmm
      go_wp2_with fail
      refine (HF2.out _ (HT.out.below HB5.out)).mono ?_
      rintro e w6 ⟨rfl, hb6⟩
      have HB6 := Lib.hid (below_next HB5.out hb6)
      clear hb6
      go_wp2_with fail
      refine (HN.out _).mono ?_
      rintro e w7 ⟨rfl, hb7⟩
      have HB7 := Lib.hid (below_next HB6.out hb7)
      clear hb7
      go_wp2_with fail
      refine (HWG.out _).mono ?_
      rintro e w8 ⟨rfl, hb8⟩
      have HBX := Lib.hid (below_next HB7.out hb8)
      clear hb8
      go_wp2_with (go_at_call 17; refine (lives_any _ (HT.out.below HBX.out)).mono ?_; rintro e w10 ⟨rfl, hb10⟩; have HB10 := Lib.hid (below_next HBX.out hb10); clear hb10)
      go_ret
      exact ⟨rfl, HB10.out⟩
  · have HJ := Lib.hid hj
    have hjk : (j != (k : Int)) = true := by simpa using hj
    have hjk2 : (j == (k : Int)) = false := by simpa using hj
    clear hj
    go_wp2_with fail
    refine (sign_any j _).mono ?_
    rintro e w5 ⟨rfl, hb5⟩
    have HB5 := Lib.hid (below_next HB4.out hb5)
    have hsd : ((signB j).toList == S.toList) = false := by simpa using HSO.out j HJ.out
    clear hb5
    generalize signB j = V0 at *
    by_cases hw : wrd k = []
    · have hx0 : X.size = 0 := by rw [HXZ.out, hw]; rfl
      obtain rfl := empty_of_size hx0
      have HBX := HB5
      clear hw hx0 HX HXZ HWO
      go_wp2_with (go_at_call 17; refine (lives_any _ (HT.out.below HBX.out)).mono ?_; rintro e w10 ⟨rfl, hb10⟩; have HB10 := Lib.hid (below_next HBX.out hb10); clear hb10)
      go_ret
      exact ⟨rfl, HB10.out⟩
    · obtain ⟨m1, m2, m3⟩ := nonempty_facts (s := X) (by rw [HXZ.out]; intro e; exact hw (List.eq_nil_of_length_eq_zero e))
      clear m3
      obtain ⟨Y1, hY1⟩ : ∃ Y, (⟨#[96]⟩ : ByteArray) ++ X = Y := ⟨_, rfl⟩
      have hl1 : Y1.data.toList = 96 :: wrd k := by rw [← hY1, append_list, HX.out]; rfl
      have hz1 : Y1.size = 1 + X.size := by rw [← size_list, hl1, HXZ.out]; simp; omega
      have ha1 : ∀ W, Sem.run Tryd.prog (Op.stringOp .add ⟨#[96]⟩ X) W = .ok (.string Y1) W := fun W => by rw [run_string_add_sum _ _ _ (by have : (⟨#[96]⟩ : ByteArray).size = 1 := rfl; omega), hY1]
      obtain ⟨Y2, hY2⟩ : ∃ Y, Y1 ++ (⟨#[32]⟩ : ByteArray) = Y := ⟨_, rfl⟩
      have hl2 : Y2.data.toList = 96 :: (wrd k ++ [32]) := by rw [← hY2, append_list, hl1]; rfl
      have hz2 : Y2.size = 2 + X.size := by rw [← size_list, hl2, HXZ.out]; simp; omega
      have ha2 : ∀ W, Sem.run Tryd.prog (Op.stringOp .add Y1 ⟨#[32]⟩) W = .ok (.string Y2) W := fun W => by rw [run_string_add_sum _ _ _ (by have : (⟨#[32]⟩ : ByteArray).size = 1 := rfl; omega), hY2]
      obtain ⟨Y3, hY3⟩ : ∃ Y, Y2 ++ t = Y := ⟨_, rfl⟩
      have hl3 : Y3.data.toList = 96 :: (wrd k ++ 32 :: t.data.toList) := by rw [← hY3, append_list, hl2]; simp
      have hz3 : Y3.size ≤ maxLen := by rw [← size_list, hl3]; simp only [List.length_cons, List.length_append, size_list, ← HXZ.out]; unfold maxLen; omega
      have ha3 : ∀ W, Sem.run Tryd.prog (Op.stringOp .add Y2 t) W = .ok (.string Y3) W := fun W => by rw [run_string_add_sum _ _ _ (by omega), hY3]
      have HF2 := Lib.hid (fun W hW => first_lit Y3 k (1 + (wrd k).length) _ hl3 (fun _ _ h => first_word h1 h2 hw h) W hW hz3)
      have hN : ∀ W, Calls Tryd.prog 8 #[.string X] W fun e w' => e = .returned (.tuple #[.int .i64 (k : Int), .bool true]) ∧ Below W.heap.size W w' := fun W => by
        refine (named_any X W).mono ?_
        rintro e w' ⟨c, rfl, hf, hb⟩
        rw [HX.out] at hf
        obtain rfl := named_word h1 h2 hw hf
        exact ⟨by rw [hk0]; rfl, hb⟩
      have HN := Lib.hid hN
      have HW := Lib.hid hw
      clear hY1 hY2 hY3 hl1 hl2 hl3 hz1 hz2 hz3 hN hw
      have hmm : ((1 + (wrd k).length : Nat) : Int) = (X.size : Int) + 1 := by rw [HXZ.out]; omega
      rw [hmm] at HF2
      clear hmm
      go_wp2_with fail
      refine (HF2.out _ (HT.out.below HB5.out)).mono ?_
      rintro e w6 ⟨rfl, hb6⟩
      have HB6 := Lib.hid (below_next HB5.out hb6)
      clear hb6
      go_wp2_with fail
      refine (HN.out _).mono ?_
      rintro e w7 ⟨rfl, hb7⟩
      have HB7 := Lib.hid (below_next HB6.out hb7)
      clear hb7
      go_wp2_with fail
      refine (word_any j _).mono ?_
      rintro e w8 ⟨rfl, hb8⟩
      have HBX := Lib.hid (below_next HB7.out hb8)
      have hdi : ((wordB j).toList != X.toList) = true := by simpa using HWO.out HW.out j HJ.out
      have hdi2 : ((wordB j).toList == X.toList) = false := by simpa using HWO.out HW.out j HJ.out
      clear hb8
      generalize wordB j = V at *
      go_wp2_with (go_at_call 17; refine (lives_any _ (HT.out.below HBX.out)).mono ?_; rintro e w10 ⟨rfl, hb10⟩; have HB10 := Lib.hid (below_next HBX.out hb10); clear hb10)
      go_ret
      exact ⟨rfl, HB10.out⟩

theorem walk (c j : Int) (t : ByteArray) (ht : t.size ≤ 140737488355328) (w : World) (hT : Tabs w) : Calls Tryd.prog 6 #[.int .i64 c, .int .i64 j, .string t] w fun e w' => e = .returned (.bool true) ∧ Below w.heap.size w w' := by
  by_cases h : inC c
  · obtain ⟨k, rfl⟩ : ∃ k : Nat, c = k := ⟨c.toNat, by unfold inC at h; omega⟩
    unfold inC at h
    exact walk_yes k (by omega) (by omega) j t ht w hT
  · exact walk_no c j t w hT h

theorem contract (H : Type) (enc : TypeId × Value → H) (W : World) (base : Nat) (args : Array Value) (ds gs : List (DataW H)) (before : List MemPlace)
    (hval : ∀ (j : Nat) t v, Tryd.f6.params[j]? = some t → args[j]? = some v → Value.okWide Tryd.prog W .any base t v)
    (hW : DataW.Whole enc Tryd.prog Tryd.f6.params.toList Rows.glyphBackSpec.vars false W args.toList ds gs before) (hsz : (DataW.weightsEach Tryd.prog (Tryd.f6.params.toList ++ (OpenSpec.ofChange Rows.glyphBackSpec).bare.plain.varTypes Tryd.prog) (ds ++ gs)).all (· ≤ reachBytes) = true) (hL : laidMetH Tryd.prog Rows.glyphCodesRow.laid W) :
    Calls Tryd.prog 6 args W fun e W' => ∃ v, e = .returned v ∧ Rows.glyphBackSpec.post enc Tryd.prog Tryd.f6 false true false false W args v W' := by
  have hW' := hW
  obtain ⟨p, q, hA0, hV, rfl, hfz, hnd⟩ := hW
  have hA : DataW.TrodAll enc Tryd.prog W 0 (fun _ => true) true Tryd.f6.params.toList args.toList ds p := hA0
  rw [Tryd.params6] at hA hval hsz
  obtain ⟨v0, vs0, d0, ds0, p0, q0, hargs, rfl, rfl, h0, r0⟩ := trodAll_cons hA
  obtain ⟨v1, vs1, d1, ds1, p1, q1, rfl, rfl, rfl, h1, r1⟩ := trodAll_cons r0
  obtain ⟨v2, vs2, d2, ds2, p2, q2, rfl, rfl, rfl, h2, r2⟩ := trodAll_cons r1
  obtain ⟨rfl, rfl, rfl⟩ := trodAll_nil r2
  obtain rfl : args = #[v0, v1, v2] := by cases args; simp_all
  obtain ⟨rfl, rfl⟩ := trodVars_none hV
  obtain ⟨a0, rfl, rfl, rfl, w0⟩ := open_int Tryd.underlying3 (hval 0 3 v0 rfl rfl) h0
  obtain ⟨a1, rfl, rfl, rfl, w1⟩ := open_int Tryd.underlying3 (hval 1 3 v1 rfl rfl) h1
  obtain ⟨s, rfl, rfl, rfl, ws⟩ := open_string Tryd.underlying9 (hval 2 9 v2 rfl rfl) h2
  have hbd : s.data.toList.length ≤ reachBytes := sized_string hsz (j := 2) (t := 9) rfl rfl
  have ht : s.size ≤ 140737488355328 := by rw [← size_list]; unfold reachBytes at hbd; omega
  clear hA0
  refine (walk a0 a1 s ht W (tabs_of hL)).mono fun e W' ⟨he, bel⟩ => ?_
  subst he
  exact ⟨_, rfl, _, _, _, [], [], [], hW', trodAll_mk1 (shut_bool Tryd.underlying4 _), trodAll_cons_mk (shut_int Tryd.underlying3 w0) (trodAll_cons_mk (shut_int Tryd.underlying3 w1) (trodAll_cons_mk (shut_string Tryd.underlying9 ws) trodAll_mk0)), rfl, bel.frame _, fun h => by cases h⟩

theorem witness (os : Os) {H : Type} (enc : TypeId × Value → H) :
    (OpenSpec.ofChange Rows.glyphBackSpec).preRow enc Tryd.prog Tryd.f6 Rows.glyphBackRow.domain false Rows.glyphBackRow.laid ((laidWorld os).forCall (fun _ _ => 0) ⟨#[], #[.int .i64 0, .int .i64 0, .string ⟨#[]⟩], []⟩).memory #[.int .i64 0, .int .i64 0, .string ⟨#[]⟩] := by
  have hw : (DataW.whole enc Tryd.prog ((laidWorld os).forCall (fun _ _ => 0) ⟨#[], #[.int .i64 0, .int .i64 0, .string ⟨#[]⟩], []⟩).memory Tryd.f6.params.toList Rows.glyphBackSpec.vars false (#[.int .i64 0, .int .i64 0, .string ⟨#[]⟩] : Array Value).toList 8).map (fun x => (x.1, x.2.1)) =
      some ([.lit (.int .i64 0), .lit (.int .i64 0), .lit (.string [])], []) := by kernel_rfl
  obtain ⟨⟨x1, x2, x3⟩, hx, hx1⟩ := Option.map_eq_some_iff.1 hw
  simp only [Prod.mk.injEq] at hx1
  obtain ⟨rfl, rfl⟩ := hx1
  exact OpenSpec.preRow_of_cond 8 hx (by kernel_rfl) (fun k hk => by cases hk) (by kernel_rfl) (laid_met os _)

set_option maxRecDepth 100000 in
theorem lifted (os : Os) (started : os.Started) (H : Type) (enc : TypeId × Value → H) (F : Stop.Interp) :
    ReturnsInHanded {} Tryd.checked os 6 .any ((OpenSpec.ofChange Rows.glyphBackSpec).preRow enc Tryd.prog Tryd.f6 Rows.glyphBackRow.domain false Rows.glyphBackRow.laid) (((OpenSpec.ofChange Rows.glyphBackSpec).at F).post enc Tryd.prog Tryd.f6 false true false false) := by
  refine returnsInHanded_of_row (C := Tryd.checked) (s := OpenSpec.ofChange Rows.glyphBackSpec) own started (by kernel_rfl) Tryd.func6
    (witness_row_atRef (enc := enc) (C := Tryd.checked) false (laidWorld os) #[.int .i64 0, .int .i64 0, .string ⟨#[]⟩] rfl (by kernel_rfl) (by kernel_rfl) (by kernel_rfl) (witness os enc)) ?_
  intro W base args ds gs before hval hW _ _ hsz hL _ _
  exact contract H enc W base args ds gs before hval hW hsz hL

theorem said : Rows.GlyphBackSaid :=
  OpenClaim.holds_of_cond 6 Tryd.f6 rfl rfl rfl rfl rfl rfl rfl ⟨rfl, rfl, rfl, rfl, rfl⟩ rfl rfl rfl rfl rfl (by kernel_rfl) Tryd.func6 (by kernel_rfl)
    (of_decide_eq_true (by kernel_rfl)) (by unfold Func.isWrapper; first | (rw [if_pos (by decide +kernel)]; kernel_rfl) | (rw [if_neg (by decide +kernel)]; exact ⟨rfl, rfl⟩))
    (fun os started H enc _ F => by rw [OpenClaim.pre_eq_preRow]; exact lifted os started H enc F)

theorem plain (f : FuncId) (fn : Func) (hf : Tryd.pinned.checked.prog.funcNamed Rows.glyphBackRow.func = some f) (hfn : Tryd.pinned.checked.prog.funcs[f]? = some fn) :
    false = Tryd.pinned.checked.prog.looks [] ∧ ∀ (j : Nat) t, fn.params[j]? = some t → Tryd.pinned.checked.prog.wantsStandIn t = false := by
  obtain rfl : f = 6 := Option.some.inj ((show Tryd.prog.funcNamed Rows.glyphBackRow.func = some 6 by kernel_rfl).symm.trans hf) |>.symm
  obtain rfl : fn = Tryd.f6 := (Option.some.inj (Tryd.func6.symm.trans hfn)).symm
  refine ⟨by kernel_rfl, fun j t ht => ?_⟩
  rw [Tryd.params6] at ht
  have hm := Array.mem_of_getElem? ht
  simp only [List.mem_toArray, List.mem_cons, List.not_mem_nil, or_false] at hm
  rcases hm with rfl | rfl | rfl
  · exact (show Tryd.prog.wantsStandIn 3 = false by kernel_rfl)
  · exact (show Tryd.prog.wantsStandIn 3 = false by kernel_rfl)
  · exact (show Tryd.prog.wantsStandIn 9 = false by kernel_rfl)

theorem proved : Rows.GlyphBackCardSaid :=
  Claim7.holds_tied_plain_at .later [] _ _ _ _ said (fun _ h => by cases h) (by kernel_rfl) (fun _ h => by cases h) glyphBack_row_tie rfl ⟨rfl, rfl⟩ (by kernel_rfl) rfl plain (by kernel_rfl)
end Go.Proofs.YtdjckobbemkhbaaDoor.glyphBack
