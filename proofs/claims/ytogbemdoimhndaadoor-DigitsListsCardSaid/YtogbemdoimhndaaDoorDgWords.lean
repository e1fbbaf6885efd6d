/-
  What digits.Words answers: what stands between the blanks. Condition: at most 50000 bytes.
-/
import Derived.Test.YtogbemdoimhndaaDoorDgNums
set_option maxRecDepth 100000
namespace Go.Proofs.YtogbemdoimhndaaDoor.Dg
open Go.Proofs.YtogbemdoimhndaaDoor.Sh Go.Proofs.YtogbemdoimhndaaDoor.St
open Go.RowKit
set_option linter.unusedVariables false

/-- The words that are whole, and the bytes of the one that is begun. -/
def stW (l : List UInt8) : List (List UInt8) × List UInt8 := l.foldl (fun p c => if c = 32 then (p.1 ++ [p.2], []) else (p.1, p.2 ++ [c])) ([], [])
def wordsL (l : List UInt8) : List (List UInt8) := (stW l).1 ++ [(stW l).2]
theorem stW_snoc (l : List UInt8) (c : UInt8) : stW (l ++ [c]) = if c = 32 then ((stW l).1 ++ [(stW l).2], []) else ((stW l).1, (stW l).2 ++ [c]) := by simp [stW, List.foldl_append]
theorem stW_app (m : List UInt8) : ∀ l : List UInt8, (∀ c ∈ m, c ≠ 32) → stW (l ++ m) = ((stW l).1, (stW l).2 ++ m) := by
  induction m with
  | nil => intro l _; simp
  | cons c m ih =>
    intro l h
    have e : l ++ c :: m = (l ++ [c]) ++ m := by simp
    rw [e, ih (l ++ [c]) fun x hx => h x (by simp [hx]), stW_snoc, if_neg (h c (by simp))]
    simp
theorem take_one {l : List UInt8} {k : Nat} {c : UInt8} (h : l[k]? = some c) : l.take (k + 1) = l.take k ++ [c] := by
  obtain ⟨hk, e⟩ := List.getElem?_eq_some_iff.1 h
  rw [List.take_succ_eq_append_getElem hk, e]
theorem stW_len (l : List UInt8) : ∀ k, (stW (l.take k)).1.length ≤ k
  | 0 => by simp [stW]
  | k + 1 => by
    have ih := stW_len l k
    rcases Nat.lt_or_ge k l.length with hk | hk
    · rw [take_one (List.getElem?_eq_getElem hk), stW_snoc]
      split
      · simp; omega
      · simpa using Nat.le_succ_of_le ih
    · rw [List.take_of_length_le (by omega)]
      rw [List.take_of_length_le (by omega)] at ih
      omega
/-- The bytes of a rune behind its first one are no ASCII. -/
theorem decode_cont (s : ByteArray) (pos : Nat) (h : pos < s.size) (ha : 128 ≤ (s[pos]'h).toNat) : 1 ≤ (Utf8.decode s pos).2 ∧ ∀ j, 0 < j → j < (Utf8.decode s pos).2 → pos + j < s.size ∧ 128 ≤ (s.get! (pos + j)).toNat := by
  refine ⟨(decode_high s pos h ha).2, fun j h0 hj => ?_⟩
  have hn : ¬ (s[pos]'h).toNat < 128 := by omega
  revert hj
  simp only [Utf8.decode, get_at s pos h, hn, if_false]
  intro hj
  have key : ∀ k, (decide (pos + k < s.size) && (s.get! (pos + k)).toNat / 64 == 2) = true → pos + k < s.size ∧ 128 ≤ (s.get! (pos + k)).toNat := by
    intro k hk
    simp at hk
    exact ⟨hk.1, by omega⟩
  split at hj
  · next h1 =>
    split at hj
    · obtain rfl : j = 1 := by simp at hj; omega
      simp only [Bool.and_eq_true] at h1
      exact key 1 (by simpa using h1.2)
    · simp at hj; omega
  · split at hj
    · next h2 =>
      split at hj
      · simp only [Bool.and_eq_true] at h2
        have : j = 1 ∨ j = 2 := by simp at hj; omega
        rcases this with rfl | rfl
        · exact key 1 (by simpa using h2.1.2)
        · exact key 2 (by simpa using h2.2)
      · simp at hj; omega
    · split at hj
      · next h3 =>
        split at hj
        · simp only [Bool.and_eq_true] at h3
          have : j = 1 ∨ j = 2 ∨ j = 3 := by simp at hj; omega
          rcases this with rfl | rfl | rfl
          · exact key 1 (by simpa using h3.1.1.2)
          · exact key 2 (by simpa using h3.1.2)
          · exact key 3 (by simpa using h3.2)
        · simp at hj; omega
      · simp at hj; omega
theorem decode_end (s : ByteArray) (pos : Nat) (h : pos < s.size) (ha : 128 ≤ (s[pos]'h).toNat) : pos + (Utf8.decode s pos).2 ≤ s.size := by
  obtain ⟨h1, h2⟩ := decode_cont s pos h ha
  rcases Nat.lt_or_ge 1 (Utf8.decode s pos).2 with h3 | h3
  · have := (h2 ((Utf8.decode s pos).2 - 1) (by omega) (by omega)).1
    omega
  · omega
theorem get_list (s : ByteArray) (k : Nat) (h : k < s.size) : s.data.toList[k]? = some (s.get! k) := by
  rw [byte_at s k h]
  simp [ByteArray.get!, h, getElem!_pos]
  rfl
/-- Words as values. -/
def sv (l : List UInt8) : Value := .string ⟨l.toArray⟩
/-- Words in a row of the call's own. -/
def MineW (w : World) (base : Nat) (V : Value) (ws : List (List UInt8)) : Prop := w.ownsRow base 9 1 V ws.length (ws.map sv)
theorem infoS : (Tryd.prog.info? 9).map (fun i => (i.zero, i.size, i.bytes)) = some (some (.string ⟨#[]⟩), 1, 16) := by kernel_rfl
theorem one_str (s : ByteArray) : ∀ u ∈ [Value.string s], u.oneCell' = true := by intro u hu; simp at hu; subst hu; rfl
theorem ext_of {s : ByteArray} {a b : Nat} {l : List UInt8} (h : (s.data.toList.drop a).take (b - a) = l) : s.extract a b = ⟨l.toArray⟩ := by
  apply ByteArray.ext
  apply Array.ext'
  rw [ext_list, h]
theorem MineW.iter_ne {w : World} {base k : Nat} {V : Value} {ws : List (List UInt8)} {s : ByteArray} {p : Nat} (h : MineW w base V ws) (hk : w.heap[k]? = some (.stringIter s p)) : V.ownBlock ≠ some k := by
  intro e
  rcases h.2 with ⟨rfl, _⟩ | ⟨g, cap, cur, rfl, _, hg, _⟩
  · cases e
  · simp [Value.ownBlock] at e
    subst e
    rw [hk] at hg
    cases hg
/-- At the head of the loop. -/
def WI (w0 wr : World) (s : ByteArray) (V : Value) (pos fr : Nat) : Prop :=
  wr.heap[w0.heap.size]? = some (.stringIter s pos) ∧ MineW wr w0.heap.size V (stW (s.data.toList.take pos)).1 ∧ fr ≤ pos ∧ (s.data.toList.drop fr).take (pos - fr) = (stW (s.data.toList.take pos)).2 ∧ Below w0.heap.size w0 wr
theorem take_more (l : List UInt8) {a b c : Nat} (h1 : a ≤ b) (h2 : b ≤ c) : (l.drop a).take (c - a) = (l.drop a).take (b - a) ++ (l.drop b).take (c - b) := by
  rw [show c - a = (b - a) + (c - b) by omega, List.take_add, List.drop_drop, show a + (b - a) = b by omega]
theorem WI.iter {w0 wr : World} {s : ByteArray} {V : Value} {pos fr : Nat} (h : WI w0 wr s V pos fr) (q : Nat) : (wr.iterAt w0.heap.size s q).heap[w0.heap.size]? = some (.stringIter s q) ∧ MineW (wr.iterAt w0.heap.size s q) w0.heap.size V (stW (s.data.toList.take pos)).1 ∧ Below w0.heap.size w0 (wr.iterAt w0.heap.size s q) :=
  ⟨Lib.iterAt_heap wr w0.heap.size s pos q h.1, own_keep h.2.1 fun g hg => Lib.iterAt_other wr w0.heap.size g s q fun e => h.2.1.iter_ne h.1 (by rw [← e]; exact hg), Lib.below_iterAt h.2.2.2.2 (Nat.le_refl _) s q⟩
theorem WI.other {w0 wr : World} {s : ByteArray} {V : Value} {pos fr q : Nat} (h : WI w0 wr s V pos fr) (hq : pos ≤ q) (hb : ∀ c ∈ (s.data.toList.drop pos).take (q - pos), c ≠ 32) : WI w0 (wr.iterAt w0.heap.size s q) s V q fr := by
  obtain ⟨i1, i2, i3⟩ := h.iter q
  have e : s.data.toList.take q = s.data.toList.take pos ++ (s.data.toList.drop pos).take (q - pos) := by
    have := take_more s.data.toList (a := 0) (b := pos) (c := q) (Nat.zero_le _) hq
    simpa using this
  have e2 := stW_app _ (s.data.toList.take pos) hb
  rw [← e] at e2
  refine ⟨i1, by rw [e2]; exact i2, Nat.le_trans h.2.2.1 hq, ?_, i3⟩
  rw [e2, take_more s.data.toList h.2.2.1 hq, h.2.2.2.1]
theorem WI.blank {w0 w2 w3 : World} {s : ByteArray} {V V' : Value} {pos fr : Nat} {o : Obj} (h1 : w2.heap[w0.heap.size]? = some (.stringIter s (pos + 1))) (h2 : MineW w2 w0.heap.size V (stW (s.data.toList.take pos)).1) (h4 : (s.data.toList.drop fr).take (pos - fr) = (stW (s.data.toList.take pos)).2) (h5 : Below w0.heap.size w0 w2) (hc : s.data.toList[pos]? = some 32)
    (hv : w3.ownsRow w0.heap.size 9 1 V' ((stW (s.data.toList.take pos)).1.length + 1) ((stW (s.data.toList.take pos)).1.map sv ++ [.string (s.extract fr pos)])) (hg : (w2.alloc o).grownBy w3 V.ownBlock) : WI w0 w3 s V' (pos + 1) (pos + 1) := by
  have e : stW (s.data.toList.take (pos + 1)) = ((stW (s.data.toList.take pos)).1 ++ [(stW (s.data.toList.take pos)).2], []) := by rw [take_one hc, stW_snoc, if_pos rfl]
  have hlt : w0.heap.size < w2.heap.size := (Array.getElem?_eq_some_iff.1 h1).1
  have hk : w3.heap[w0.heap.size]? = some (.stringIter s (pos + 1)) := (hg.block w0.heap.size (by simp; omega) (fun e => h2.iter_ne h1 e.symm)).trans ((Below.heap_alloc w2 o _ hlt).trans h1)
  refine ⟨hk, ?_, Nat.le_refl _, by rw [e]; simp, ?_⟩
  · rw [e]
    unfold MineW
    rw [ext_of h4] at hv
    simpa [sv] using hv
  · exact (h5.alloc h5.size o).grown hg (by simp; have := h5.size; omega) (own_base h2)
/-- Words of one's own. -/
def RetW (ws : List (List UInt8)) (w : World) (e : Ending) (w' : World) : Prop := ∃ A cap, e = .returned (.slice A ws.length cap) ∧ MineW w' w.heap.size (.slice A ws.length cap) ws ∧ Below w.heap.size w w'
theorem retW_end {w w2 w3 : World} {s : ByteArray} {V V' : Value} {fr : Nat} {o : Obj} (h : WI w w2 s V s.size fr) (hv : w3.ownsRow w.heap.size 9 1 V' ((stW (s.data.toList.take s.size)).1.length + 1) ((stW (s.data.toList.take s.size)).1.map sv ++ [.string (s.extract fr s.size)])) (hg : (w2.alloc o).grownBy w3 V.ownBlock) : RetW (wordsL s.data.toList) w (.returned V') w3 := by
  have ea : s.data.toList.take s.size = s.data.toList := List.take_of_length_le (by rw [size_l]; exact Nat.le_refl _)
  have h4 := h.2.2.2.1
  rw [ea] at h4 hv
  rw [ext_of h4] at hv
  have hm : MineW w3 w.heap.size V' (wordsL s.data.toList) := by
    unfold MineW wordsL
    simpa [sv] using hv
  obtain ⟨A, c, rfl, -⟩ := own_seq hm (by decide)
  exact ⟨A, c, rfl, hm, (h.2.2.2.2.alloc h.2.2.2.2.size o).grown hg (by simp; have := h.2.2.2.2.size; omega) (own_base h.2.1)⟩
set_option maxHeartbeats 2000000 in
theorem gwords_any (s : ByteArray) (w : World) (hs : s.size ≤ 50000) : Calls Tryd.prog 36 #[.string s] w (RetW (wordsL s.data.toList) w) := by
  go_enter Tryd.func36, Tryd.ntmps36
  go_wp2
  go_loopw [3, 4] (fun V f wr => ∃ pos fr : Nat, pos ≤ s.size ∧ fr ≤ pos ∧ f = .int .i64 fr ∧ Hid (WI w wr s V pos fr)) (fun _ _ wr => s.size - wr.iterPos w.heap.size)
  case atStart => exact ⟨0, 0, Nat.zero_le _, Nat.le_refl _, rfl, Lib.hid ⟨World.iter_heap w s 0, by simp [MineW, stW, World.ownsRow_nil], Nat.le_refl _, by simp [stW], (Below.refl _ w).alloc (Nat.le_refl _) _⟩⟩
  case round =>
    obtain ⟨pos, fr, hp, hfr, rfl, HW⟩ := hrel
    have f0 : (0 : Int) ≤ (fr : Int) := by omega
    have f1 : (fr : Int) ≤ (pos : Int) := by omega
    have f2 : (pos : Int) ≤ (s.size : Int) := by omega
    have f3 : (fr : Int) ≤ (s.size : Int) := by omega
    have HM : Hid (wr.iterPos w.heap.size = pos) := Lib.hid (by simp [World.iterPos, HW.out.1])
    have SL := Lib.hid (stW_len s.data.toList pos)
    by_cases hlt : pos < s.size
    · have hc := byte_at s pos hlt
      obtain ⟨c, hce⟩ : ∃ c, s[pos] = c := ⟨_, rfl⟩
      rw [hce] at hc
      have HC := Lib.hid hc
      by_cases h32 : c = 32
      · subst h32
        have hnext := fun ty => Lib.run_next_ascii_at (P := Tryd.prog) wr w.heap.size s pos ty HW.out.1 hlt (by rw [hce]; decide)
        rw [hce] at hnext
        have t1 : (((32 : UInt8).toNat : Int) == 32) = true := rfl
        obtain ⟨i1, i2, i3⟩ := HW.out.iter (pos + 1)
        have I1 := Lib.hid i1
        have I2 := Lib.hid i2
        have I3 := Lib.hid i3
        have I4 := Lib.hid HW.out.2.2.2.1
        clear hc hce i1 i2 i3 HW
        generalize wr.iterAt w.heap.size s (pos + 1) = w2 at *
        have O2 := Lib.hid (World.ownsRow.alloc I2.out (.cells #[.string (s.extract fr pos)] 9))
        have TN : Hid ((stW (s.data.toList.take pos)).1.length + 1 ≤ 100000) := Lib.hid (by have := SL.out; omega)
        have LB : Hid (w.heap.size ≤ (w2.alloc (.cells #[.string (s.extract fr pos)] 9)).heap.size) := Lib.hid (by have := I3.out.size; simp; omega)
        go_wp2_with (at_builtin; go_loud (refine wpList_appS infoS rfl (by decide) (by decide) Tryd.underlying50 rfl (.tmp 15) (.tmp 20) rfl w.heap.size _ _ _ rfl O2.out (fun _ => True) _ 1 1 [Value.string (s.extract fr pos)] rfl rfl (seq1 _ _ _) (one_str _) TN.out LB.out ?_); intro v3 w3 hv3 hg3 ha3; have V3 := Lib.hid hv3; have G3 := Lib.hid hg3; clear hv3 hg3 ha3)
        have W3 := Lib.hid (WI.blank I1.out I2.out I4.out I3.out HC.out V3.out G3.out)
        exact ⟨⟨pos + 1, pos + 1, by omega, Nat.le_refl _, by go_num, W3⟩, by rw [HM.out]; simp [World.iterPos, W3.out.1]; omega⟩
      · by_cases ha : c.toNat < 128
        · have hnext := fun ty => Lib.run_next_ascii_at (P := Tryd.prog) wr w.heap.size s pos ty HW.out.1 hlt (by rw [hce]; omega)
          rw [hce] at hnext
          have t1 : ((c.toNat : Int) == 32) = false := by
            simp
            intro e
            exact h32 (UInt8.toNat_inj.1 (by rw [show (32 : UInt8).toNat = 32 from rfl]; omega))
          have W3 := Lib.hid (HW.out.other (q := pos + 1) (by omega) (fun x hx => by
            rw [Nat.add_sub_cancel_left] at hx
            have : x = c := by
              rw [List.drop_eq_getElem_cons (by rw [← size_l]; exact hlt)] at hx
              simp at hx
              rw [hx]
              have h2 := (List.getElem?_eq_some_iff.1 HC.out).2
              exact h2
            rw [this]; exact h32))
          clear hc hce HW
          generalize wr.iterAt w.heap.size s (pos + 1) = w2 at *
          go_wp2
          exact ⟨⟨pos + 1, fr, by omega, by omega, rfl, W3⟩, by rw [HM.out]; simp [World.iterPos, W3.out.1]; omega⟩
        · have hnext := fun ty => Lib.run_next_any_at (P := Tryd.prog) wr w.heap.size s pos ty HW.out.1 hlt
          have h128 : 128 ≤ (s[pos]'hlt).toNat := by rw [hce]; omega
          have hh := (decode_high s pos hlt h128).1
          obtain ⟨d1, d2⟩ := decode_cont s pos hlt h128
          have d3 := decode_end s pos hlt h128
          obtain ⟨r, hr⟩ : ∃ r, (Utf8.decode s pos).1 = r := ⟨_, rfl⟩
          obtain ⟨k, hk⟩ : ∃ k, (Utf8.decode s pos).2 = k := ⟨_, rfl⟩
          rw [hk] at d1 d2 d3
          have W3 := Lib.hid (HW.out.other (q := pos + k) (by omega) (fun x hx => by
            rw [Nat.add_sub_cancel_left] at hx
            obtain ⟨j, hj⟩ := List.getElem?_of_mem hx
            rw [List.getElem?_take] at hj
            split at hj
            · next hjk =>
              rw [List.getElem?_drop] at hj
              rcases Nat.eq_zero_or_pos j with h0 | h0
              · subst h0
                rw [Nat.add_zero, HC.out] at hj
                injection hj with hj
                rw [← hj]; exact h32
              · obtain ⟨e1, e2⟩ := d2 j h0 hjk
                rw [get_list s (pos + j) e1] at hj
                injection hj with hj
                rw [← hj]
                intro e
                rw [e] at e2
                exact absurd e2 (by decide)
            · cases hj))
          rw [hr, hk] at hnext
          rw [hr] at hh
          have t1 : ((r : Int) == 32) = false := by simp; omega
          clear hc hce HW d2 hr hk h128
          generalize wr.iterAt w.heap.size s (pos + k) = w2 at *
          go_wp2
          exact ⟨⟨pos + k, fr, by omega, by omega, rfl, W3⟩, by rw [HM.out]; simp [World.iterPos, W3.out.1]; omega⟩
    · obtain rfl : pos = s.size := by omega
      have hnext := fun ty => Lib.run_next_end_at (P := Tryd.prog) wr w.heap.size s s.size ty HW.out.1 (by omega)
      have O2 := Lib.hid (World.ownsRow.alloc HW.out.2.1 (.cells #[.string (s.extract fr s.size)] 9))
      have TN : Hid ((stW (s.data.toList.take s.size)).1.length + 1 ≤ 100000) := Lib.hid (by have := SL.out; omega)
      have LB : Hid (w.heap.size ≤ (wr.alloc (.cells #[.string (s.extract fr s.size)] 9)).heap.size) := Lib.hid (by have := HW.out.2.2.2.2.size; simp; omega)
      go_wp2_with (at_builtin; go_loud (refine wpList_appS infoS rfl (by decide) (by decide) Tryd.underlying50 rfl (.tmp 24) (.tmp 28) rfl w.heap.size _ _ _ rfl O2.out (fun _ => True) _ 1 1 [Value.string (s.extract fr s.size)] rfl rfl (seq1 _ _ _) (one_str _) TN.out LB.out ?_); intro v3 w3 hv3 hg3 ha3; have V3 := Lib.hid hv3; have G3 := Lib.hid hg3; clear hv3 hg3 ha3)
      go_ret
      exact retW_end HW.out V3.out G3.out
end Go.Proofs.YtogbemdoimhndaaDoor.Dg
