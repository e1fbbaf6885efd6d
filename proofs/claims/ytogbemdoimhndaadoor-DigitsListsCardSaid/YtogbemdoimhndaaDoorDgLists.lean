/-
  What rifflelaw10.DigitsLists answers: true. Condition: the table of the powers of ten holds what its text lays; the numbers fit into 64 bits.
-/
import Derived.Test.YtogbemdoimhndaaDoorDgRWords
set_option maxRecDepth 100000
namespace Go.Proofs.YtogbemdoimhndaaDoor.Dg
open Go.Proofs.YtogbemdoimhndaaDoor.Sh Go.Proofs.YtogbemdoimhndaaDoor.St
open Go.RowKit
set_option linter.unusedVariables false

/-- The first k numbers, written with blanks between. -/
def joinK (l : List Int) : Nat → List UInt8
  | 0 => []
  | k + 1 => (if k = 0 then joinK l k else joinK l k ++ [32]) ++ Lib.itoa (l.getD k 0)
theorem itoa_nb (n : Int) : ∀ c ∈ Lib.itoa n, c ≠ 32 := by
  have hd : ∀ m : Nat, ∀ c ∈ Lib.decDigits m, c ≠ 32 := fun m c hc e => by
    have h := isD_of (dec_isD m) hc
    rw [e] at h
    exact absurd h.1 (by decide)
  intro c hc
  unfold Lib.itoa at hc
  split at hc
  · rcases List.mem_cons.1 hc with h | h
    · rw [h]; decide
    · exact hd _ c h
  · exact hd _ c hc
theorem itoa_len {n : Int} (hn : InR n) : (Lib.itoa n).length ≤ 20 := by
  have h := dec_len20 (n := n.natAbs) (by have := hn.1; have := hn.2; omega)
  unfold Lib.itoa
  split
  · simp only [List.length_cons]; omega
  · next hh => rw [show n.toNat = n.natAbs by omega]; omega
theorem stW_join (l : List Int) : ∀ k, k < l.length → stW (joinK l (k + 1)) = ((l.take k).map Lib.itoa, Lib.itoa (l.getD k 0))
  | 0, h => by
    have e := stW_app (Lib.itoa (l.getD 0 0)) [] (itoa_nb _)
    simpa [joinK, stW] using e
  | k + 1, h => by
    have ih := stW_join l k (by omega)
    have e0 : joinK l (k + 1 + 1) = (joinK l (k + 1) ++ [32]) ++ Lib.itoa (l.getD (k + 1) 0) := by rw [joinK, if_neg (by omega)]
    rw [e0, stW_app _ _ (itoa_nb _), stW_snoc, if_pos rfl, ih]
    have e : l.take (k + 1) = l.take k ++ [l.getD k 0] := Sh.take_snoc l k (by omega)
    rw [e, List.map_append]
    simp
theorem words_join {l : List Int} (h : 0 < l.length) : wordsL (joinK l l.length) = l.map Lib.itoa := by
  obtain ⟨k, hk⟩ : ∃ k, l.length = k + 1 := ⟨l.length - 1, by omega⟩
  unfold wordsL
  rw [hk, stW_join l k (by omega)]
  have e : l = l.take k ++ [l.getD k 0] := by
    have := Sh.take_snoc l k (by omega)
    rw [← this, List.take_of_length_le (by omega)]
  show (l.take k).map Lib.itoa ++ [Lib.itoa (l.getD k 0)] = _
  have e2 : l.map Lib.itoa = (l.take k ++ [l.getD k 0]).map Lib.itoa := by rw [← e]
  rw [e2, List.map_append]
  rfl
theorem join_len {l : List Int} (hR : ∀ x ∈ l, InR x) : ∀ k, k ≤ l.length → (joinK l k).length ≤ 21 * k
  | 0, _ => by simp [joinK]
  | k + 1, h => by
    have ih := join_len hR k (by omega)
    have hx : InR (l.getD k 0) := by
      have : l.getD k 0 = l[k] := by simp [List.getD, show k < l.length by omega]
      rw [this]; exact hR _ (List.getElem_mem _)
    have := itoa_len hx
    rw [joinK]
    split <;> simp only [List.length_append, List.length_cons, List.length_nil] <;> omega
theorem bcat (a b : List UInt8) : (⟨a.toArray⟩ : ByteArray) ++ ⟨b.toArray⟩ = ⟨(a ++ b).toArray⟩ := cat_pre a b
theorem bsz (l : List UInt8) : (⟨l.toArray⟩ : ByteArray).size = l.length := by show l.toArray.size = _; simp
/-- The words of a row of the call's own as texts. -/
theorem strs_of {w : World} {base n c : Nat} {A : Option Addr} {ws : List (List UInt8)} (h : MineW w base (.slice A n c) ws) : Strs w A (ws.map fun x => (⟨x.toArray⟩ : ByteArray)) := fun hp => by
  obtain ⟨b, off, rfl, _, hb, hc⟩ := mineW_seq h (by simpa using hp)
  refine ⟨b, off, rfl, hb, fun i hi => ?_⟩
  have hi' : i < ws.length := by simpa using hi
  rw [hc i (sv (ws.getD i [])) (by simp [List.getD, hi'])]
  simp [List.getD, hi', sv]
theorem nums_puts {l : List Int} (hR : ∀ x ∈ l, InR x) : numsB ((l.map Lib.itoa).map fun x => (⟨x.toArray⟩ : ByteArray)) = true ∧ numsI ((l.map Lib.itoa).map fun x => (⟨x.toArray⟩ : ByteArray)) = l := by
  have hb : numsB ((l.map Lib.itoa).map fun x => (⟨x.toArray⟩ : ByteArray)) = true := by
    unfold numsB
    rw [List.all_eq_true]
    intro s hs
    simp only [List.mem_map] at hs
    obtain ⟨y, ⟨n, hn, rfl⟩, rfl⟩ := hs
    exact (get_put (hR n hn)).1
  refine ⟨hb, ?_⟩
  unfold numsI
  rw [if_pos hb]
  unfold numsV
  rw [List.map_map, List.map_map]
  have h : ∀ x ∈ l, (((fun s : ByteArray => getI s.data.toList) ∘ fun x : List UInt8 => (⟨x.toArray⟩ : ByteArray)) ∘ Lib.itoa) x = id x := fun x hx => (get_put (hR x hx)).2
  rw [List.map_congr_left h]
  exact List.map_id l
theorem nums_call {l : List Int} (hR : ∀ x ∈ l, InR x) (hn : l.length ≤ 200) (base : Nat) (A : Option Addr) (c : Nat) (W : World) (h : MineW W base (.slice A l.length c) (l.map Lib.itoa)) : Calls Tryd.prog 33 #[.slice A l.length c] W (RetN l true W) := by
  have hg := gnums_any A c ((l.map Lib.itoa).map fun x => (⟨x.toArray⟩ : ByteArray)) W (strs_of h) (by simp; omega) (fun s hs => by
    simp only [List.mem_map] at hs
    obtain ⟨y, ⟨n, hn, rfl⟩, rfl⟩ := hs
    rw [bsz]
    have := itoa_len (hR n hn)
    unfold maxLen; omega)
  obtain ⟨h1, h2⟩ := nums_puts hR
  rw [h1, h2, List.length_map, List.length_map] at hg
  exact hg
/-- Words of one's own, so many. -/
def RetWn (n : Nat) (ws : List (List UInt8)) (w : World) (e : Ending) (w' : World) : Prop := ∃ A cap, e = .returned (.slice A n cap) ∧ MineW w' w.heap.size (.slice A n cap) ws ∧ Below w.heap.size w w'
theorem words_call {l : List Int} (h : 0 < l.length) {D : ByteArray} (hD : D.data.toList = joinK l l.length) (hs : D.size ≤ 50000) (W : World) : Calls Tryd.prog 36 #[.string D] W (RetWn l.length (l.map Lib.itoa) W) := by
  have hg := gwords_any D W hs
  rw [hD, words_join h] at hg
  refine hg.mono ?_
  rintro e w' ⟨A, c, rfl, m, hb⟩
  rw [List.length_map] at m ⊢
  exact ⟨A, c, rfl, m, hb⟩
set_option maxHeartbeats 2000000 in
theorem lists_any (A : Option Addr) (cap : Nat) (l : List Int) (w : World) (hT : Tab w) (hi : Ints w A l) (hR : ∀ x ∈ l, InR x) (hm : l.length ≤ maxLen) :
    Calls Tryd.prog 9 #[.slice A l.length cap] w fun e w' => e = .returned (.bool true) ∧ Below w.heap.size w w' := by
  have LV := Lib.hid (fun W (h : Tab W) => lives_any W h)
  have T := Lib.hid hT
  unfold maxLen at hm
  by_cases h1 : l.length > 200
  · have t1 : decide ((l.length : Int) > 200) = true := decide_eq_true (by omega)
    clear hi hR hT
    go_enter Tryd.func9, Tryd.ntmps9
    go_wp2_with fail
    refine (LV.out _ T.out).mono ?_
    rintro r w1 ⟨rfl, hb⟩
    have L1 := Lib.hid hb
    clear hb
    go_wp2
    go_ret
    exact ⟨rfl, L1.out⟩
  have t1 : decide ((l.length : Int) > 200) = false := decide_eq_false (by omega)
  by_cases h2 : l.length = 0
  · have t2 : ((l.length : Int) == 0) = true := by simp [h2]
    clear hi hR hT h2
    go_enter Tryd.func9, Tryd.ntmps9
    go_wp2_with fail
    refine (LV.out _ T.out).mono ?_
    rintro r w1 ⟨rfl, hb⟩
    have L1 := Lib.hid hb
    clear hb
    go_wp2
    go_ret
    exact ⟨rfl, L1.out⟩
  have t2 : ((l.length : Int) == 0) = false := by simp; intro h; exact h2 (by simp [h])
  have HI := Lib.hid hi
  have HR := Lib.hid hR
  have JL := Lib.hid (join_len hR)
  have H2 := Lib.hid h2
  clear hi hR hT h2
  go_enter Tryd.func9, Tryd.ntmps9
  go_wp2
  go_loopw [3, 19] (fun V i wr => ∃ (k : Nat) (D : ByteArray), k ≤ l.length ∧ i = .int .i64 k ∧ V = .string D ∧ Hid (D = ⟨(joinK l k).toArray⟩) ∧ Hid (Below w.heap.size w wr)) (fun _ i _ => l.length - (intOf i).toNat)
  case atStart => exact ⟨0, _, Nat.zero_le _, rfl, rfl, Lib.hid rfl, Lib.hid (Below.refl _ _)⟩
  case round =>
    obtain ⟨k, D, hk, rfl, rfl, HD, HL⟩ := hrel
    by_cases hlt : k < l.length
    · obtain ⟨b, off, rfl, hbl, hc⟩ := (HI.out.below HL.out) (by omega)
      have c1 := hc k hlt
      have i1 : (k : Int) < (l.length : Int) := by omega
      have i0 : (0 : Int) ≤ (k : Int) := by omega
      have hx : InR (l.getD k 0) := by
        have : l.getD k 0 = l[k] := by simp [List.getD, hlt]
        rw [this]; exact HR.out _ (List.getElem_mem _)
      have HX := Lib.hid (fun W (h : Tab W) => put_any (l.getD k 0) W hx h)
      have IL := itoa_len hx
      have JK := JL.out k hk
      have DS : D.size = (joinK l k).length := by rw [HD.out, bsz]
      obtain ⟨P, hP⟩ : ∃ P : ByteArray, (⟨(Lib.itoa (l.getD k 0)).toArray⟩ : ByteArray) = P := ⟨_, rfl⟩
      have PS : P.size ≤ 20 := by rw [← hP, bsz]; exact IL
      rw [hP] at HX
      by_cases hk0 : k = 0
      · have t3 : decide ((k : Int) > 0) = false := decide_eq_false (by omega)
        have t4 : decide (0 < k) = false := decide_eq_false (by omega)
        have HE : Hid (D ++ P = ⟨(joinK l (k + 1)).toArray⟩) := Lib.hid (by rw [HD.out, ← hP, bcat, joinK, if_pos hk0])
        have hsum : ¬ (D.size + P.size > 9223372036854775807) := by omega
        generalize l.getD k 0 = x at *
        clear hc hx IL JK DS hP PS hk0
        go_wp2_with fail
        refine (HX.out _ (T.out.below HL.out)).mono ?_
        rintro r w5 ⟨rfl, hb⟩
        have L5 := Lib.hid (below_next HL.out hb)
        clear hb
        go_wp2
        refine ⟨⟨k + 1, D ++ P, by omega, by go_num, rfl, HE, L5⟩, by simp [intOf]; omega⟩
      · have t3 : decide ((k : Int) > 0) = true := decide_eq_true (by omega)
        obtain ⟨B, hB⟩ : ∃ B : ByteArray, (⟨#[32]⟩ : ByteArray) = B := ⟨_, rfl⟩
        obtain ⟨E, hE⟩ : ∃ E : ByteArray, D ++ ⟨#[32]⟩ = E := ⟨_, rfl⟩
        have ES : E.size = D.size + 1 := by
          have e3 : E = ⟨(joinK l k ++ [32]).toArray⟩ := by rw [← hE, HD.out]; exact bcat _ [32]
          rw [e3, bsz, DS]; simp
        have HE : Hid (E ++ P = ⟨(joinK l (k + 1)).toArray⟩) := Lib.hid (by
          have e3 : E = ⟨(joinK l k ++ [32]).toArray⟩ := by rw [← hE, HD.out]; exact bcat _ [32]
          rw [e3, ← hP, bcat, joinK, if_neg hk0])
        have hsum1 : ¬ (D.size + (⟨#[32]⟩ : ByteArray).size > 9223372036854775807) := by
          show ¬ (D.size + 1 > _)
          omega
        have hsum2 : ¬ (D.size + 1 > 9223372036854775807) := by omega
        have hsum : ¬ (E.size + P.size > 9223372036854775807) := by omega
        generalize l.getD k 0 = x at *
        clear hc hx IL JK DS hP PS ES hB
        go_wp2_with fail
        refine (HX.out _ (T.out.below HL.out)).mono ?_
        rintro r w5 ⟨rfl, hb⟩
        have L5 := Lib.hid (below_next HL.out hb)
        clear hb
        go_wp2
        refine ⟨⟨k + 1, E ++ P, by omega, by go_num, by first | rfl | rw [hE], HE, L5⟩, by simp [intOf]; omega⟩
    · obtain rfl : k = l.length := by omega
      have SZ : D.size ≤ 50000 := by rw [HD.out, bsz]; have := JL.out l.length (Nat.le_refl _); omega
      have GW := Lib.hid (fun W => words_call (by have := H2.out; omega) (show D.data.toList = joinK l l.length by rw [HD.out]) SZ W)
      clear HD SZ
      go_wp2_with fail
      refine (GW.out _).mono ?_
      rintro r w5 ⟨A5, c5, rfl, m5, hb⟩
      have L5 := Lib.hid (below_next HL.out hb)
      have NC := Lib.hid (nums_call HR.out (by omega) _ A5 c5 w5 m5)
      clear m5 hb
      go_wp2_with fail
      refine NC.out.mono ?_
      rintro r w6 ⟨A6, c6, rfl, m6, hb⟩
      have L6 := Lib.hid (below_next L5.out hb)
      have N6 := Lib.hid (nums_same A6 c6 l A cap w6 (by unfold maxLen; omega) m6.ints' (HI.out.below L6.out))
      clear m6 hb
      go_wp2_with fail
      refine N6.out.mono ?_
      rintro r w7 ⟨rfl, hb⟩
      have L7 := Lib.hid (below_next L6.out hb)
      clear hb
      go_wp2_with fail
      refine (LV.out _ (T.out.below L7.out)).mono ?_
      rintro r w8 ⟨rfl, hb⟩
      have L8 := Lib.hid (below_next L7.out hb)
      clear hb
      go_wp2
      go_ret
      exact ⟨rfl, L8.out⟩
end Go.Proofs.YtogbemdoimhndaaDoor.Dg
