/-
  What riffleref02.First answers for any text; nothing that was there is written. Condition: a text is no longer than an int can say.
-/
import Derived.Test.YtdhpplbopciijaaDoorGlyphRef2
set_option maxRecDepth 100000
namespace Go.Proofs.YtdhpplbopciijaaDoor.Gl
open Go.RowKit
set_option linter.unusedVariables false

def NoSign (l : List UInt8) (k : Nat) : Prop := ∀ t, 1 ≤ t → t < k → ¬ rs t <+: l
theorem cut_list (s : ByteArray) (n : Nat) : (s.extract 0 n).toList = s.data.toList.take n := by rw [toList_data, extract_list, List.drop_zero, Nat.sub_zero]
theorem prefix_of (l : List UInt8) (a : List UInt8) (h : l.take a.length = a) : a <+: l := by rw [← h]; exact List.take_prefix _ _
theorem prefix_head {l : List UInt8} {k : Nat} (h1 : 1 ≤ k) (h2 : k < 44) (h : rs k <+: l) : l.head? ≠ some 96 := by
  obtain ⟨t, rfl⟩ := h
  have hn := rs_nil k h1 h2
  have h9 := rs_96 k h2
  cases hr : rs k with
  | nil => exact absurd hr hn
  | cons x r =>
    rw [hr] at h9
    simpa using h9
theorem first_found {l : List UInt8} {k : Nat} (h1 : 1 ≤ k) (h2 : k < 44) (h : rs k <+: l) (hno : NoSign l k) : FirstIs l k (rs k).length :=
  .inl ⟨prefix_head h1 h2 h, .inr ⟨h1, h2, h, hno⟩, rfl⟩
theorem first_none {l : List UInt8} (hno : NoSign l 44) (hh : l.head? ≠ some 96) : FirstIs l 0 0 := .inl ⟨hh, .inl ⟨rfl, hno⟩, rfl⟩

set_option maxHeartbeats 2000000 in
theorem refFirst_any (s : ByteArray) (w : World) (hs : s.size ≤ maxLen) :
    Calls Tryd.prog 24 #[.string s] w fun e w' => ∃ c n : Nat, e = .returned (.tuple #[.int .i64 c, .int .i64 n]) ∧ FirstIs s.data.toList c n ∧ Below w.heap.size w w' := by
  unfold maxLen at hs
  go_enter Tryd.func24, Tryd.ntmps24
  go_wp2_with fail
  refine (signs_any _).mono ?_
  rintro e w1 ⟨rfl, rfl⟩
  have HX := Lib.hid (texts_sign w)
  have HB := Lib.hid ((Below.refl _ w).alloc (Nat.le_refl _) (.cells signA 9))
  generalize w.alloc (.cells signA 9) = w1 at *
  obtain ⟨g, hg⟩ : ∃ g, w.heap.size = g := ⟨_, rfl⟩
  rw [hg] at HX ⊢
  clear hg
  go_wp2
  go_loopw [5] (fun j wr => ∃ k m : Nat, 1 ≤ k ∧ k ≤ 44 ∧ j = .int .i64 k ∧ NoSign s.data.toList k ∧ wr = w1.drewN m)
    (fun j _ => 44 - (intOf j).toNat)
  case atStart => exact ⟨1, 0, by omega, by omega, rfl, fun t h1 h2 => absurd h2 (by omega), rfl⟩
  case round =>
    obtain ⟨k, m, hk1, hk2, rfl, hno, rfl⟩ := hrel
    have HN := Lib.hid hno
    clear hno
    by_cases hlt : k < 44
    · have hc : (w1.drewN m).cell? ⟨g, k, none⟩ = some (strV (rs k)) := HX.out k hlt
      obtain ⟨b, hb, hbl, hbs⟩ := strV_list (rs k)
      rw [hb] at hc
      have hb3 : b.size ≤ 3 := by rw [hbs]; exact rs_short k hlt
      have HL := Lib.hid hbl
      have HS := Lib.hid hbs
      clear hb hbl hbs
      generalize hw : w1.drewN m = W at *
      have HW := Lib.hid hw
      clear hw
      have i0 : (0 : Int) ≤ (k : Int) := by omega
      have i1 : (k : Int) < 44 := by omega
      by_cases hge : b.size ≤ s.size
      · have hge1 : (b.size : Int) ≤ (s.size : Int) := by omega
        have hge2 : decide ((b.size : Int) ≤ (s.size : Int)) = true := by simpa using hge1
        by_cases he : (s.extract 0 b.size).toList = b.toList
        · have hq : ((s.extract 0 b.size).toList == b.toList) = true := by simpa using he
          have hp : rs k <+: s.data.toList := prefix_of _ _ (by rw [← HS.out, ← cut_list, he, HL.out])
          have HF := Lib.hid (first_found hk1 hlt hp HN.out)
          clear he hp
          go_wp2_with fail
          go_quiet (fail)
          go_wp2
          go_ret2
          exact ⟨k, b.size, rfl, by rw [HS.out]; exact HF.out, by rw [← HW.out]; exact below_drewN (below_drewN HB.out _) _⟩
        · have hq : ((s.extract 0 b.size).toList == b.toList) = false := by simpa using he
          have HP : Hid (¬ rs k <+: s.data.toList) := Lib.hid (fun h => he (by rw [cut_list, HS.out, HL.out]; exact (List.prefix_iff_eq_take.1 h).symm))
          clear he
          go_wp2_with fail
          go_quiet (fail)
          go_wp2
          go_roundw
          case rel => exact ⟨k + 1, m + nq, by omega, by omega, by go_num, fun t h1 h2 => (by
            rcases Nat.lt_or_ge t k with g | g
            · exact HN.out t h1 g
            · have : t = k := by omega
              subst this; exact HP.out), by rw [← HW.out, World.drewN_drewN]⟩
          case measure => simp [intOf]; omega
      · have hge1 : ¬ (b.size : Int) ≤ (s.size : Int) := by omega
        have hge2 : decide ((b.size : Int) ≤ (s.size : Int)) = false := by simpa using hge1
        have hge3 : decide (b.size ≤ s.size) = false := by simpa using hge
        have HP : Hid (¬ rs k <+: s.data.toList) := Lib.hid (fun h => by have := h.length_le; rw [size_list, ← HS.out] at this; omega)
        go_wp2_with fail
        go_quiet (fail)
        go_wp2
        go_roundw
        case rel => exact ⟨k + 1, m + nq, by omega, by omega, by go_num, fun t h1 h2 => (by
          rcases Nat.lt_or_ge t k with g | g
          · exact HN.out t h1 g
          · have : t = k := by omega
            subst this; exact HP.out), by rw [← HW.out, World.drewN_drewN]⟩
        case measure => simp [intOf]; omega
    · obtain rfl : k = 44 := by omega
      have HBD := Lib.hid (below_drewN HB.out m)
      clear hlt
      generalize w1.drewN m = W at *
      by_cases hz : s.size = 0
      · obtain rfl := empty_of_size hz
        clear hz
        go_wp2
        go_ret2
        exact ⟨0, 0, rfl, first_none HN.out (by simp), HBD.out⟩
      · obtain ⟨e1, e2, e3⟩ := nonempty_facts hz
        clear e3
        have h0 : 0 < s.size := by omega
        have hhd := Lib.hid (head_at s h0)
        by_cases h96 : s[0] = 96
        · have ht : ((s[0].toNat : Int) != 96) = false := by rw [h96]; rfl
          have HH : Hid (s.data.toList.head? = some 96) := Lib.hid (by rw [hhd.out, h96])
          clear h96
          go_wp2
          go_loop [7] (fun j => ∃ k : Nat, 1 ≤ k ∧ k ≤ s.size ∧ j = .int .i64 k ∧ ((s.data.toList.drop 1).take (k - 1)).all letterB = true)
            (fun j => s.size - (intOf j).toNat)
          case atStart => exact ⟨1, by omega, by omega, rfl, by simp⟩
          case round =>
            obtain ⟨k, hk1, hk2, rfl, hal⟩ := hrel
            have HA := Lib.hid hal
            clear hal
            by_cases hlt : k < s.size
            · by_cases hlo : (97 : Int) ≤ (s[k].toNat : Int)
              · by_cases hhi : (s[k].toNat : Int) ≤ 122
                · have HM := Lib.hid (all_more s k hk1 hlt HA.out (by simp only [letterB]; simp; omega))
                  go_wp2
                  go_round
                  case rel => exact ⟨k + 1, by omega, by omega, by go_num, HM.out⟩
                  case measure => simp [intOf]; omega
                · have HW := Lib.hid (word_at s k hk1 hk2 HA.out (.inr ⟨hlt, by simp only [letterB]; simp; omega⟩))
                  go_wp2_with fail
                  refine (refNamed_any _ _).mono ?_
                  rintro e w2 ⟨c, rfl, hn, hb⟩
                  have HM : Hid (NamedIs (wordOf s.data.toList) c) := Lib.hid (by rw [HW.out.1]; exact hn)
                  have HB2 := Lib.hid (below_next HBD.out hb)
                  have hc44 := hn.lt
                  clear hn hb
                  by_cases hc : c = 0
                  · subst hc
                    go_wp2
                    go_ret2
                    exact ⟨0, 0, rfl, .inr ⟨HH.out, HM.out, rfl⟩, HB2.out⟩
                  · have hq : ((c : Int) == 0) = false := by simpa using hc
                    have HC := Lib.hid hc
                    clear hc
                    go_wp2
                    go_ret2
                    exact ⟨c, k, rfl, .inr ⟨HH.out, HM.out, by rw [if_neg HC.out, HW.out.2]; omega⟩, HB2.out⟩
              · have HW := Lib.hid (word_at s k hk1 hk2 HA.out (.inr ⟨hlt, by simp only [letterB]; simp; omega⟩))
                go_wp2_with fail
                refine (refNamed_any _ _).mono ?_
                rintro e w2 ⟨c, rfl, hn, hb⟩
                have HM : Hid (NamedIs (wordOf s.data.toList) c) := Lib.hid (by rw [HW.out.1]; exact hn)
                have HB2 := Lib.hid (below_next HBD.out hb)
                have hc44 := hn.lt
                clear hn hb
                by_cases hc : c = 0
                · subst hc
                  go_wp2
                  go_ret2
                  exact ⟨0, 0, rfl, .inr ⟨HH.out, HM.out, rfl⟩, HB2.out⟩
                · have hq : ((c : Int) == 0) = false := by simpa using hc
                  have HC := Lib.hid hc
                  clear hc
                  go_wp2
                  go_ret2
                  exact ⟨c, k, rfl, .inr ⟨HH.out, HM.out, by rw [if_neg HC.out, HW.out.2]; omega⟩, HB2.out⟩
            · have HW := Lib.hid (word_at s k hk1 hk2 HA.out (.inl (by omega)))
              go_wp2_with fail
              refine (refNamed_any _ _).mono ?_
              rintro e w2 ⟨c, rfl, hn, hb⟩
              have HM : Hid (NamedIs (wordOf s.data.toList) c) := Lib.hid (by rw [HW.out.1]; exact hn)
              have HB2 := Lib.hid (below_next HBD.out hb)
              have hc44 := hn.lt
              clear hn hb
              by_cases hc : c = 0
              · subst hc
                go_wp2
                go_ret2
                exact ⟨0, 0, rfl, .inr ⟨HH.out, HM.out, rfl⟩, HB2.out⟩
              · have hq : ((c : Int) == 0) = false := by simpa using hc
                have HC := Lib.hid hc
                clear hc
                go_wp2
                go_ret2
                exact ⟨c, k, rfl, .inr ⟨HH.out, HM.out, by rw [if_neg HC.out, HW.out.2]; omega⟩, HB2.out⟩
        · have ht : ((s[0].toNat : Int) != 96) = true := by
            have : s[0].toNat ≠ 96 := fun e => h96 (UInt8.toNat_inj.1 e)
            simp; omega
          have HH : Hid (s.data.toList.head? ≠ some 96) := Lib.hid (by rw [hhd.out]; intro e; injection e with e; exact h96 e)
          clear h96
          go_wp2
          go_ret2
          exact ⟨0, 0, rfl, first_none HN.out HH.out, HBD.out⟩
end Go.Proofs.YtdhpplbopciijaaDoor.Gl
