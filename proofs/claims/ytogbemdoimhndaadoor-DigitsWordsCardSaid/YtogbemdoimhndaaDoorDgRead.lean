/-
  What digits.Put, High, Get, signed and Read answer. Conditions: the table of the powers of ten holds what its text lays (Put, High); a text is no longer than fits into a machine.
-/
import Derived.Test.YtogbemdoimhndaaDoorDgVal
import Derived.Lib.AppendIntMem
set_option maxRecDepth 100000
namespace Go.Proofs.YtogbemdoimhndaaDoor.Dg
open Go.RowKit Go.Proofs.YtogbemdoimhndaaDoor.Sh
set_option linter.unusedVariables false

/-- The table of the powers of ten. -/
def Tab (w : World) : Prop := Lib.TabIs Tryd.prog w "internal/strconv.uint64pow10" .u64 Lib.pow10Tab
theorem Tab.below {w w' : World} (h : Tab w) (hb : Below w.heap.size w w') : Tab w' := by
  unfold Tab Lib.TabIs World.var? at *
  cases hg : (Tryd.prog).globalNamed "internal/strconv.uint64pow10" with
  | none => simp [hg] at h
  | some g =>
    simp only [hg, Option.bind_some] at h ⊢
    have hlt : g < w.heap.size := by
      rcases Nat.lt_or_ge g w.heap.size with h' | h'
      · exact h'
      · rw [Array.getElem?_eq_none h'] at h; simp at h
    rw [hb.block g hlt]
    exact h
def InR (n : Int) : Prop := -9223372036854775808 ≤ n ∧ n ≤ 9223372036854775807
theorem fmt_any (n : Int) (w : World) (hn : InR n) (hT : Tab w) : Calls Tryd.prog 86 #[.int .i64 n, .int .i64 10] w fun e w' => e = .returned (.string ⟨(Lib.itoa n).toArray⟩) ∧ Below w.heap.size w w' :=
  (strconv_FormatInt_10 n hn.1 hn.2 w hT).mono fun e w' ⟨h1, k, os, h2⟩ => ⟨h1, by rw [h2]; exact Lib.below_grow _ _ (Nat.le_refl _) k os⟩
set_option maxHeartbeats 1000000 in
theorem put_any (n : Int) (w : World) (hn : InR n) (hT : Tab w) : Calls Tryd.prog 28 #[.int .i64 n] w fun e w' => e = .returned (.string ⟨(Lib.itoa n).toArray⟩) ∧ Below w.heap.size w w' := by
  have HF := Lib.hid (fmt_any n w hn hT)
  clear hT
  go_enter Tryd.func28, Tryd.ntmps28
  go_wp2_with fail
  refine HF.out.mono ?_
  rintro r w1 ⟨rfl, hb⟩
  have L := Lib.hid hb
  clear hb
  go_wp2
  go_ret
  exact ⟨rfl, L.out⟩
theorem dec_len : ∀ (k n : Nat), 0 < k → n < 10 ^ k → (Lib.decDigits n).length ≤ k := by
  intro k
  induction k with
  | zero => intro n h; omega
  | succ k ih =>
    intro n _ hn
    unfold Lib.decDigits
    split
    · simp
    · next h =>
      have hk : 0 < k := by
        rcases Nat.eq_zero_or_pos k with h0 | h0
        · subst h0; simp at hn; omega
        · exact h0
      have := ih (n / 10) hk (by rw [Nat.pow_succ] at hn; omega)
      simp; omega
theorem dec_len20 {n : Nat} (h : n ≤ 9223372036854775808) : (Lib.decDigits n).length ≤ 19 := dec_len 19 n (by omega) (by omega)
/-- What High tells. -/
def highL (n : Int) : List UInt8 := if n < 0 then 194 :: 175 :: Lib.decDigits n.natAbs else Lib.decDigits n.toNat
theorem pre45 (u : Nat) : Lib.hasPrefix (Lib.decDigits u) [45] = false := by
  have h1 := dec_pos u
  have h2 := dec_isD u
  match hl : Lib.decDigits u, h1 with
  | c :: r, _ =>
    rw [hl] at h2
    have := isD_of h2 (c := c) (by simp)
    have hne : (45 == c) = false := by
      simp
      rintro rfl
      simp at this
    simp [Lib.hasPrefix, List.isPrefixOf, hne]
theorem cut_below {n : Int} (h : n < 0) : Lib.hasPrefix (Lib.itoa n) [45] = true ∧ Lib.trimPrefix (Lib.itoa n) [45] = Lib.decDigits n.natAbs := by
  have e : Lib.itoa n = 45 :: Lib.decDigits n.natAbs := by unfold Lib.itoa; rw [if_pos h]
  rw [e]
  have hp : Lib.hasPrefix (45 :: Lib.decDigits n.natAbs) [45] = true := by simp [Lib.hasPrefix, List.isPrefixOf]
  exact ⟨hp, by unfold Lib.trimPrefix; rw [if_pos hp]; rfl⟩
theorem cut_above {n : Int} (h : ¬ n < 0) : Lib.hasPrefix (Lib.itoa n) [45] = false ∧ Lib.trimPrefix (Lib.itoa n) [45] = Lib.decDigits n.toNat := by
  have e : Lib.itoa n = Lib.decDigits n.toNat := by unfold Lib.itoa; rw [if_neg h]
  rw [e]
  exact ⟨pre45 _, by unfold Lib.trimPrefix; rw [if_neg (by simp [pre45])]⟩
theorem cut_call (l p : List UInt8) (w : World) : Calls Tryd.prog 80 #[.string ⟨l.toArray⟩, .string ⟨p.toArray⟩] w fun e w' => e = .returned (.tuple #[.string ⟨(Lib.trimPrefix l p).toArray⟩, .bool (Lib.hasPrefix l p)]) ∧ w = w' :=
  (strings_CutPrefix ⟨l.toArray⟩ ⟨p.toArray⟩ w).mono fun _ _ ⟨h1, h2⟩ => ⟨by simpa using h1, h2.symm⟩
theorem cut45 (l : List UInt8) (t : List UInt8) (b : Bool) (w : World) (h1 : Lib.hasPrefix l [45] = b) (h2 : Lib.trimPrefix l [45] = t) : Calls Tryd.prog 80 #[.string ⟨l.toArray⟩, .string ⟨#[45]⟩] w fun e w' => e = .returned (.tuple #[.string ⟨t.toArray⟩, .bool b]) ∧ w = w' := by
  have h := cut_call l [45] w
  rw [h1, h2] at h
  exact h
set_option maxHeartbeats 1000000 in
theorem high_any (n : Int) (w : World) (hn : InR n) (hT : Tab w) : Calls Tryd.prog 30 #[.int .i64 n] w fun e w' => e = .returned (.string ⟨(highL n).toArray⟩) ∧ Below w.heap.size w w' := by
  have HF := Lib.hid (put_any n w hn hT)
  clear hT
  by_cases h0 : n < 0
  · have CC := fun W => cut45 (Lib.itoa n) (Lib.decDigits n.natAbs) true W (cut_below h0).1 (cut_below h0).2
    have HC := Lib.hid CC
    have hlen : (⟨(Lib.decDigits n.natAbs).toArray⟩ : ByteArray).size ≤ 19 := by
      have h := dec_len20 (n := n.natAbs) (by have := hn.1; omega)
      show (Lib.decDigits n.natAbs).toArray.size ≤ 19
      simpa using h
    have e : highL n = [194, 175] ++ Lib.decDigits n.natAbs := by unfold highL; rw [if_pos h0]; rfl
    rw [e]
    clear CC h0 e
    generalize Lib.itoa n = l at *
    generalize Lib.decDigits n.natAbs = t at *
    go_enter Tryd.func30, Tryd.ntmps30
    go_wp2_with fail
    refine HF.out.mono ?_
    rintro r w1 ⟨rfl, hb⟩
    have L := Lib.hid hb
    clear hb
    go_wp2_with fail
    refine (HC.out _).mono ?_
    rintro r w2 ⟨rfl, rfl⟩
    have h2 : (⟨#[194, 175]⟩ : ByteArray).size = 2 := rfl
    have hcat : ¬ ((⟨#[194, 175]⟩ : ByteArray).size + (⟨t.toArray⟩ : ByteArray).size > 9223372036854775807) := by omega
    clear h2
    go_wp2
    go_ret
    refine ⟨?_, L.out⟩
    show Ending.returned (Value.string ((⟨[194, 175].toArray⟩ : ByteArray) ++ ⟨t.toArray⟩)) = _
    rw [ByteArray.mk_append_mk]
    simp
  · have CC := fun W => cut45 (Lib.itoa n) (Lib.decDigits n.toNat) false W (cut_above h0).1 (cut_above h0).2
    have HC := Lib.hid CC
    have e : highL n = Lib.decDigits n.toNat := by unfold highL; rw [if_neg h0]
    rw [e]
    clear CC h0 e
    generalize Lib.itoa n = l at *
    generalize Lib.decDigits n.toNat = t at *
    go_enter Tryd.func30, Tryd.ntmps30
    go_wp2_with fail
    refine HF.out.mono ?_
    rintro r w1 ⟨rfl, hb⟩
    have L := Lib.hid hb
    clear hb
    go_wp2_with fail
    refine (HC.out _).mono ?_
    rintro r w2 ⟨rfl, rfl⟩
    go_wp2
    go_ret
    exact ⟨rfl, L.out⟩

/-- What Get tells. -/
def cutT (l : List UInt8) : List UInt8 := Lib.trimPrefix l [45]
def cutB (l : List UInt8) : Bool := Lib.hasPrefix l [45]
def getB (l : List UInt8) : Bool := (cutT l).all isD && valB (cutT l) (cutB l)
def getI (l : List UInt8) : Int := if getB l = true then valI (cutT l) (cutB l) else 0
theorem cutT_le (l : List UInt8) : (cutT l).length ≤ l.length := by
  unfold cutT Lib.trimPrefix
  split <;> simp
theorem run_lt {l : List UInt8} (h : l.all isD = false) : runL l < l.length := by
  rcases Nat.lt_or_ge (runL l) l.length with h1 | h1
  · exact h1
  · have e : runL l = l.length := Nat.le_antisymm (runL_le l) h1
    have h2 : l.takeWhile isD = l := by
      have hp := List.takeWhile_prefix (p := isD) (l := l)
      exact List.IsPrefix.eq_of_length hp e
    have : l.all isD = true := by
      rw [← h2]
      exact List.all_takeWhile
    rw [this] at h; cases h
set_option maxHeartbeats 1000000 in
theorem get_any (l : List UInt8) (w : World) (hs : l.length ≤ maxLen) : Calls Tryd.prog 24 #[.string ⟨l.toArray⟩] w (RetV (getI l) (getB l) w) := by
  have hsz : ∀ x : List UInt8, (⟨x.toArray⟩ : ByteArray).size = x.length := fun x => by show x.toArray.size = _; simp
  obtain ⟨t, ht⟩ : ∃ t, cutT l = t := ⟨_, rfl⟩
  obtain ⟨b, hb⟩ : ∃ b, cutB l = b := ⟨_, rfl⟩
  have HC := Lib.hid (cut45 l t b w hb ht)
  have htl := cutT_le l
  rw [ht] at htl
  have hts : (⟨t.toArray⟩ : ByteArray).size ≤ maxLen := by rw [hsz]; omega
  have RU := run_any ⟨t.toArray⟩ w hts
  rw [show (⟨t.toArray⟩ : ByteArray).data.toList = t from rfl] at RU
  by_cases hd : t.all isD = true
  · have e : runL t = t.length := runL_all hd
    have hg : getB l = valB t b := by unfold getB; rw [ht, hb, hd, Bool.true_and]
    have hi : getI l = valI t b := by
      unfold getI
      rw [hg, ht, hb]
      split
      · rfl
      · next h => unfold valI; rw [if_neg h]
    rw [hg, hi]
    rw [e, ← hsz t] at RU
    have HRU := Lib.hid RU
    have VA := fun W => value_any ⟨t.toArray⟩ b W hts hd
    rw [show (⟨t.toArray⟩ : ByteArray).data.toList = t from rfl] at VA
    have HVA := Lib.hid VA
    have t1 : decide (((⟨t.toArray⟩ : ByteArray).size : Int) < ((⟨t.toArray⟩ : ByteArray).size : Int)) = false := decide_eq_false (by omega)
    unfold maxLen at hts
    generalize valI t b = vi at *
    generalize valB t b = vb at *
    clear RU VA e hg hi hd ht hb htl hsz
    go_enter Tryd.func24, Tryd.ntmps24
    go_wp2_with fail
    refine HC.out.mono ?_
    rintro r w1 ⟨rfl, rfl⟩
    go_wp2_with fail
    refine HRU.out.mono ?_
    rintro r w2 ⟨rfl, hb2⟩
    have L := Lib.hid hb2
    clear hb2
    go_wp2_with fail
    refine (HVA.out _).mono ?_
    rintro r w3 ⟨rfl, hb3⟩
    have L3 := Lib.hid (below_next L.out hb3)
    clear hb3
    go_wp2
    go_ret2
    exact ⟨rfl, L3.out⟩
  · have hd' : t.all isD = false := by simpa using hd
    have hlt := run_lt hd'
    rw [← hsz t] at hlt
    have hg : getB l = false := by unfold getB; rw [ht, hd', Bool.false_and]
    have hi : getI l = 0 := by unfold getI; rw [if_neg (by simp [hg])]
    rw [hg, hi]
    generalize runL t = k at *
    have HRU := Lib.hid RU
    have t1 : decide ((k : Int) < ((⟨t.toArray⟩ : ByteArray).size : Int)) = true := decide_eq_true (by omega)
    unfold maxLen at hts
    clear RU hg hi hd hd' ht hb htl hsz
    go_enter Tryd.func24, Tryd.ntmps24
    go_wp2_with fail
    refine HC.out.mono ?_
    rintro r w1 ⟨rfl, rfl⟩
    go_wp2_with fail
    refine HRU.out.mono ?_
    rintro r w2 ⟨rfl, hb2⟩
    have L := Lib.hid hb2
    clear hb2
    go_wp2
    go_ret2
    exact ⟨rfl, L.out⟩
end Go.Proofs.YtogbemdoimhndaaDoor.Dg
