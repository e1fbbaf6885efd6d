/-
  Plain facts on texts as lists of bytes: digits ahead; and what digits.run answers of any text. Condition: the text is no longer than fits into a machine.
-/
import Derived.Test.YtdhpplbopciijaaDoorProg
import Derived.Test.YtdhpplbopciijaaDoorPkS
import Derived.WalkKit
import Derived.WalkSpells
import Derived.Lib.Hide
import Derived.Lib.OthersKept
import Derived.Laws.RangeAny
set_option maxRecDepth 100000
namespace Go.Proofs.YtdhpplbopciijaaDoor.Dg
open Go.RowKit Go.Proofs.YtdhpplbopciijaaDoor.Sh
set_option linter.unusedVariables false

/-- Is a byte a digit? -/
def isD (c : UInt8) : Bool := decide (48 ≤ c.toNat) && decide (c.toNat ≤ 57)
/-- With how many digits a text begins. -/
def runL (l : List UInt8) : Nat := (l.takeWhile isD).length
theorem runL_le (l : List UInt8) : runL l ≤ l.length := (List.takeWhile_prefix isD).length_le
theorem runL_hit {l : List UInt8} {k : Nat} {c : UInt8} (h : (l.take k).all isD = true) (hc : l[k]? = some c) (hd : isD c = false) : runL l = k := by
  have hk : k < l.length := (List.getElem?_eq_some_iff.1 hc).1
  have e : l = l.take k ++ c :: l.drop (k + 1) := by
    rw [List.getElem?_eq_getElem hk] at hc
    injection hc with hc
    rw [← hc, ← List.drop_eq_getElem_cons hk, List.take_append_drop]
  have h1 : (l.take k ++ c :: l.drop (k + 1)).takeWhile isD = l.take k := by
    rw [List.takeWhile_append_of_pos (fun a ha => List.all_eq_true.1 h a ha), List.takeWhile_cons, hd]
    simp
  unfold runL
  rw [e, h1]
  simp; omega
theorem runL_all {l : List UInt8} (h : l.all isD = true) : runL l = l.length := by
  unfold runL
  congr 1
  have := List.takeWhile_append_of_pos (p := isD) (l₁ := l) (l₂ := []) (fun a ha => List.all_eq_true.1 h a ha)
  simpa using this
theorem all_snoc {l : List UInt8} {k : Nat} {c : UInt8} (h : (l.take k).all isD = true) (hc : l[k]? = some c) (hd : isD c = true) : (l.take (k + 1)).all isD = true := by
  have hk : k < l.length := (List.getElem?_eq_some_iff.1 hc).1
  rw [List.take_succ_eq_append_getElem hk, List.all_append, h]
  have e : l[k] = c := by rw [List.getElem?_eq_getElem hk] at hc; injection hc
  simp [e, hd]
theorem byte_at (s : ByteArray) (k : Nat) (h : k < s.size) : s.data.toList[k]? = some s[k] := by
  rw [List.getElem?_eq_getElem (by simpa using h)]; rfl
set_option maxHeartbeats 1000000 in
theorem run_any (s : ByteArray) (w : World) (hs : s.size ≤ maxLen) : Calls Tryd.prog 51 #[.string s] w fun e w' => e = .returned (.int .i64 (runL s.data.toList : Nat)) ∧ Below w.heap.size w w' := by
  unfold maxLen at hs
  go_enter Tryd.func51, Tryd.ntmps51
  go_wp2
  go_loopw [] (fun wr => ∃ pos, pos ≤ s.size ∧ Hid (wr.heap[w.heap.size]? = some (.stringIter s pos)) ∧ Hid ((s.data.toList.take pos).all isD = true) ∧ Hid (Below w.heap.size w wr)) (fun wr => s.size - wr.iterPos w.heap.size)
  case atStart => exact ⟨0, Nat.zero_le _, Lib.hid (World.iter_heap w s 0), Lib.hid rfl, Lib.hid ((Below.refl _ w).alloc (Nat.le_refl _) _)⟩
  case round =>
    obtain ⟨pos, hp, HK, HA, HB⟩ := hrel
    by_cases hlt : pos < s.size
    · have hc := byte_at s pos hlt
      obtain ⟨c, hce⟩ : ∃ c, s[pos] = c := ⟨_, rfl⟩
      rw [hce] at hc
      have HC := Lib.hid hc
      have HK2 := Lib.hid (Lib.iterAt_heap wr w.heap.size s pos (pos + 1) HK.out)
      have HB2 := Lib.hid (Lib.below_iterAt HB.out (Nat.le_refl w.heap.size) s (pos + 1))
      have HM : Hid (wr.iterPos w.heap.size = pos) := Lib.hid (by simp [World.iterPos, HK.out])
      have HM2 : Hid ((wr.iterAt w.heap.size s (pos + 1)).iterPos w.heap.size = pos + 1) := Lib.hid (by simp [World.iterPos, HK2.out])
      by_cases hd : isD c = true
      · have hd' : 48 ≤ c.toNat ∧ c.toNat ≤ 57 := by simpa [isD] using hd
        have hnext := fun ty => Lib.run_next_ascii_at (P := Tryd.prog) wr w.heap.size s pos ty HK.out hlt (by rw [hce]; omega)
        rw [hce] at hnext
        have t1 : decide ((c.toNat : Int) < 48) = false := decide_eq_false (by omega)
        have t2 : decide ((c.toNat : Int) > 57) = false := decide_eq_false (by omega)
        have HA2 := Lib.hid (all_snoc HA.out HC.out hd)
        clear hc hce hd hd'
        generalize wr.iterAt w.heap.size s (pos + 1) = w2 at *
        go_wp2
        exact ⟨⟨pos + 1, by omega, HK2, HA2, HB2⟩, by rw [HM.out, HM2.out]; omega⟩
      · have hd' : isD c = false := by simpa using hd
        have HR := Lib.hid (runL_hit HA.out HC.out hd')
        by_cases ha : c.toNat < 128
        · have hnext := fun ty => Lib.run_next_ascii_at (P := Tryd.prog) wr w.heap.size s pos ty HK.out hlt (by rw [hce]; omega)
          rw [hce] at hnext
          have hn : c.toNat < 48 ∨ 57 < c.toNat := by simp [isD] at hd'; omega
          clear hc hce hd hd'
          generalize wr.iterAt w.heap.size s (pos + 1) = w2 at *
          rcases hn with hn | hn
          · have t1 : decide ((c.toNat : Int) < 48) = true := decide_eq_true (by omega)
            go_wp2
            go_ret
            exact ⟨by rw [HR.out]; rfl, HB2.out⟩
          · have t1 : decide ((c.toNat : Int) < 48) = false := decide_eq_false (by omega)
            have t2 : decide ((c.toNat : Int) > 57) = true := decide_eq_true (by omega)
            go_wp2
            go_ret
            exact ⟨by rw [HR.out]; rfl, HB2.out⟩
        · have hnext := fun ty => Lib.run_next_any_at (P := Tryd.prog) wr w.heap.size s pos ty HK.out hlt
          have hh := (decode_high s pos hlt (by rw [hce]; omega)).1
          obtain ⟨r, hr⟩ : ∃ r, (Utf8.decode s pos).1 = r := ⟨_, rfl⟩
          obtain ⟨q, hq⟩ : ∃ q, pos + (Utf8.decode s pos).2 = q := ⟨_, rfl⟩
          rw [hr, hq] at hnext
          rw [hr] at hh
          have HB3 := Lib.hid (Lib.below_iterAt HB.out (Nat.le_refl w.heap.size) s q)
          have t1 : decide ((r : Int) < 48) = false := decide_eq_false (by omega)
          have t2 : decide ((r : Int) > 57) = true := decide_eq_true (by omega)
          clear hc hce hd hd' hr hq HK2 HB2 HM HM2
          generalize wr.iterAt w.heap.size s q = w2 at *
          go_wp2
          go_ret
          exact ⟨by rw [HR.out]; rfl, HB3.out⟩
    · obtain rfl : pos = s.size := by omega
      have hnext := fun ty => Lib.run_next_end_at (P := Tryd.prog) wr w.heap.size s s.size ty HK.out (by omega)
      have HR : Hid (runL s.data.toList = s.size) := Lib.hid (by
        have h := HA.out
        rw [List.take_of_length_le (by simp)] at h
        rw [runL_all h]; simp)
      go_wp2
      go_ret
      exact ⟨by rw [HR.out]; rfl, HB.out⟩
end Go.Proofs.YtdhpplbopciijaaDoor.Dg
