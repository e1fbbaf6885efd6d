/-
  Plain facts on the signs and the words: which code is the first that fits; a text begins with a sign exactly if its first rune is that sign's. No condition.
-/
import Derived.Test.YtjmpilmmgfjpmaaDoorGlyphTab
import Derived.Shelf.Unicode.DecodeAny
import Derived.Lib.DecodeN
set_option maxRecDepth 100000
namespace Go.Proofs.YtjmpilmmgfjpmaaDoor.Gl
open Go.RowKit
set_option linter.unusedVariables false

/-- The signs as UTF-8, by code. -/
def signs : List (List UInt8) := [[], [43], [45], [195, 151], [195, 183], [226, 139, 134], [124], [226, 140, 136], [226, 140, 138], [61], [226, 137, 160], [60], [226, 137, 164], [62], [226, 137, 165], [226, 136, 167], [226, 136, 168], [226, 138, 163], [226, 138, 162], [126], [226, 141, 180], [44], [226, 140, 189], [226, 138, 150], [226, 141, 137], [226, 134, 145], [226, 134, 147], [226, 141, 179], [226, 137, 162], [226, 141, 135], [226, 141, 136], [47], [226, 140, 191], [92], [226, 141, 128], [226, 140, 186], [46], [226, 136, 152], [226, 141, 168], [40], [41], [226, 134, 144], [58], [226, 139, 132]]
def sgn (k : Nat) : Int := (ents.getD k (0, [])).1
def wrd (k : Nat) : List UInt8 := (ents.getD k (0, [])).2
def rs (k : Nat) : List UInt8 := signs.getD k []
/-- c is the first code from 1 on that fits; 0, if none does. -/
def IsFirst (p : Nat → Prop) (c : Nat) : Prop := (c = 0 ∧ ∀ k, 1 ≤ k → k < 44 → ¬ p k) ∨ (1 ≤ c ∧ c < 44 ∧ p c ∧ ∀ k, 1 ≤ k → k < c → ¬ p k)
theorem IsFirst.same {p q : Nat → Prop} {c d : Nat} (h : IsFirst p c) (k : IsFirst q d) (e : ∀ j, 1 ≤ j → j < 44 → (p j ↔ q j)) : c = d := by
  rcases h with ⟨rfl, h⟩ | ⟨h1, h2, h3, h4⟩
  · rcases k with ⟨rfl, k⟩ | ⟨k1, k2, k3, k4⟩
    · rfl
    · exact absurd ((e d k1 k2).2 k3) (h d k1 k2)
  · rcases k with ⟨rfl, k⟩ | ⟨k1, k2, k3, k4⟩
    · exact absurd ((e c h1 h2).1 h3) (k c h1 h2)
    · rcases Nat.lt_trichotomy c d with g | g | g
      · exact absurd ((e c h1 h2).1 h3) (k4 c h1 g)
      · exact g
      · exact absurd ((e d k1 k2).2 k3) (h4 d k1 g)
theorem IsFirst.lt {p : Nat → Prop} {c : Nat} (h : IsFirst p c) : c < 44 := by rcases h with ⟨rfl, _⟩ | ⟨_, h, _⟩ <;> omega
theorem IsFirst.zero_iff {p : Nat → Prop} {c : Nat} (h : IsFirst p c) : c = 0 ↔ ∀ k, 1 ≤ k → k < 44 → ¬ p k := by
  rcases h with ⟨rfl, h⟩ | ⟨h1, h2, h3, h4⟩
  · exact ⟨fun _ => h, fun _ => rfl⟩
  · exact ⟨fun e => by omega, fun e => absurd h3 (e c h1 h2)⟩
theorem IsFirst.at_ {p : Nat → Prop} {c : Nat} (h : IsFirst p c) (h0 : c ≠ 0) : 1 ≤ c ∧ c < 44 ∧ p c := by
  rcases h with ⟨rfl, _⟩ | ⟨h1, h2, h3, _⟩
  · exact absurd rfl h0
  · exact ⟨h1, h2, h3⟩

theorem all44 {p : Nat → Prop} (h : ∀ k : Fin 44, p k) : ∀ k, k < 44 → p k := fun k hk => h ⟨k, hk⟩
/-- A rune's bytes, as numbers. -/
def encN (r : Nat) : List Nat := if r < 128 then [r] else if r < 2048 then [192 + r / 64, 128 + r % 64] else [224 + r / 4096, 128 + r / 64 % 64, 128 + r % 64]
theorem sgn_enc : ∀ k, 1 ≤ k → k < 44 → (rs k).map (·.toNat) = encN (sgn k).toNat := by
  have h : ∀ k, k < 44 → (1 ≤ k → (rs k).map (·.toNat) = encN (sgn k).toNat) := all44 (by decide)
  exact fun k h1 h2 => h k h2 h1
theorem sgn_bd : ∀ k, 1 ≤ k → k < 44 → 1 ≤ sgn k ∧ sgn k < 9100 := by
  have h : ∀ k, k < 44 → (1 ≤ k → 1 ≤ sgn k ∧ sgn k < 9100) := all44 (by decide)
  exact fun k h1 h2 => h k h2 h1
theorem rs_96 : ∀ k, k < 44 → (rs k).head? ≠ some 96 := all44 (by decide)
theorem rs_nil : ∀ k, 1 ≤ k → k < 44 → rs k ≠ [] := by
  have h : ∀ k, k < 44 → (1 ≤ k → rs k ≠ []) := all44 (by decide)
  exact fun k h1 h2 => h k h2 h1
theorem rs_inj : ∀ k, k < 44 → ∀ j, j < 44 → 1 ≤ k → 1 ≤ j → rs k = rs j → k = j := by
  have h : ∀ k : Fin 44, ∀ j : Fin 44, 1 ≤ k.1 → 1 ≤ j.1 → rs k.1 = rs j.1 → k.1 = j.1 := by decide
  exact fun k hk j hj => h ⟨k, hk⟩ ⟨j, hj⟩
theorem wrd_inj : ∀ k, k < 44 → ∀ j, j < 44 → wrd k ≠ [] → wrd k = wrd j → k = j := by
  have h : ∀ k : Fin 44, ∀ j : Fin 44, wrd k.1 ≠ [] → wrd k.1 = wrd j.1 → k.1 = j.1 := by decide
  exact fun k hk j hj => h ⟨k, hk⟩ ⟨j, hj⟩
theorem wrd_letters : ∀ k, k < 44 → (wrd k).all (fun c => decide (97 ≤ c.toNat) && decide (c.toNat ≤ 122)) = true := all44 (by decide)
theorem wrd_short : ∀ k, k < 44 → (wrd k).length ≤ 5 := all44 (by decide)
theorem rs_short : ∀ k, k < 44 → (rs k).length ≤ 3 := all44 (by decide)
theorem wrd_zero : wrd 0 = [] := rfl

theorem get!_list (s : ByteArray) (i : Nat) (b : UInt8) (h : s.data.toList[i]? = some b) : s.get! i = b := by
  have hi : i < s.data.toList.length := (List.getElem?_eq_some_iff.1 h).1
  have hs : i < s.size := by simpa using hi
  rw [Utf8W.get!_of_lt s i hs]
  have := (List.getElem?_eq_some_iff.1 h).2
  show s.data[i] = b
  simpa using this
theorem list_get! (s : ByteArray) (i : Nat) (hi : i < s.size) : s.data.toList[i]? = some (s.get! i) := by
  rw [Utf8W.get!_of_lt s i hi, List.getElem?_eq_getElem (by simpa using hi)]
  rfl
theorem size_list (s : ByteArray) : s.data.toList.length = s.size := by simp
/-- What is read off the first bytes. -/
theorem decodeGo_eq (s : ByteArray) (h : s.size ≠ 0) : Lib.decodeGo s = Lib.decodeN s.size (s.get! 0).toNat (s.get! 1).toNat (s.get! 2).toNat (s.get! 3).toNat := by
  unfold Lib.decodeGo
  rw [if_neg h, Lib.decode_at]
  rfl
theorem map_toNat_inj : ∀ a b : List UInt8, a.map (·.toNat) = b.map (·.toNat) → a = b
  | [], [], _ => rfl
  | [], _ :: _, h => by simp at h
  | _ :: _, [], h => by simp at h
  | x :: a, y :: b, h => by
    simp only [List.map_cons, List.cons.injEq] at h
    rw [UInt8.toNat_inj.1 h.1, map_toNat_inj a b h.2]
theorem prefix_map (a l : List UInt8) : a <+: l ↔ a.map (·.toNat) <+: l.map (·.toNat) := by
  constructor
  · intro h; exact h.map _
  · intro h
    rw [List.prefix_iff_eq_take] at h ⊢
    rw [List.length_map, ← List.map_take] at h
    exact map_toNat_inj _ _ h

/-- The bytes that were read are those of the rune. -/
theorem decodeN_out (n b0 b1 b2 b3 R m : Nat) (hn : 0 < n) (h0 : b0 < 256) (h1 : b1 < 256) (h2 : b2 < 256) (h : Lib.decodeN n b0 b1 b2 b3 = (R, m)) (hR : R < 9100) :
    (m = 1 ∧ encN R = [b0]) ∨ (m = 2 ∧ 1 < n ∧ encN R = [b0, b1]) ∨ (m = 3 ∧ 2 < n ∧ encN R = [b0, b1, b2]) := by
  unfold Lib.decodeN at h
  split at h
  · simp only [Prod.mk.injEq] at h
    obtain ⟨rfl, rfl⟩ := h
    left
    exact ⟨rfl, by unfold encN; rw [if_pos (by omega)]⟩
  · split at h
    · split at h
      · simp only [Prod.mk.injEq] at h
        obtain ⟨rfl, rfl⟩ := h
        right; left
        refine ⟨rfl, by omega, ?_⟩
        unfold encN
        rw [if_neg (by omega), if_pos (by omega)]
        congr 1
        · omega
        · congr 1; omega
      · simp only [Prod.mk.injEq] at h; omega
    · split at h
      · split at h
        · simp only [Prod.mk.injEq] at h
          obtain ⟨rfl, rfl⟩ := h
          right; right
          refine ⟨rfl, by omega, ?_⟩
          unfold encN
          rw [if_neg (by omega), if_neg (by omega)]
          congr 1
          · omega
          · congr 1
            · omega
            · congr 1; omega
        · simp only [Prod.mk.injEq] at h; omega
      · split at h
        · split at h
          · simp only [Prod.mk.injEq] at h; omega
          · simp only [Prod.mk.injEq] at h; omega
        · simp only [Prod.mk.injEq] at h; omega
theorem decodeN_in (n b0 b1 b2 b3 R : Nat) (hR : R < 9100) (h : (R < 128 ∧ b0 = R) ∨ (128 ≤ R ∧ R < 2048 ∧ 1 < n ∧ b0 = 192 + R / 64 ∧ b1 = 128 + R % 64) ∨ (2048 ≤ R ∧ 2 < n ∧ b0 = 224 + R / 4096 ∧ b1 = 128 + R / 64 % 64 ∧ b2 = 128 + R % 64)) :
    (Lib.decodeN n b0 b1 b2 b3).1 = R := by
  unfold Lib.decodeN
  rcases h with ⟨h1, rfl⟩ | ⟨h1, h2, h3, rfl, rfl⟩ | ⟨h1, h3, rfl, rfl, rfl⟩
  · rw [if_pos h1]
  · rw [if_neg (by omega), if_pos (by omega), if_pos (by omega)]
    simp only; omega
  · rw [if_neg (by omega), if_neg (by omega), if_pos (by omega), if_pos (by omega)]
    simp only; omega
/-- A text begins with a sign exactly if its first rune is that sign's; the rune has as many bytes as the sign. -/
theorem lead_iff (s : ByteArray) (k : Nat) (h1 : 1 ≤ k) (h2 : k < 44) : (((Lib.decodeGo s).1 : Int) = sgn k ↔ rs k <+: s.data.toList) ∧ (((Lib.decodeGo s).1 : Int) = sgn k → (Lib.decodeGo s).2 = (rs k).length) := by
  have hb := sgn_bd k h1 h2
  have he := sgn_enc k h1 h2
  obtain ⟨R, hR⟩ : ∃ R : Nat, sgn k = R := ⟨(sgn k).toNat, by omega⟩
  rw [hR] at he hb ⊢
  rw [Int.toNat_natCast] at he
  rw [Int.natCast_inj]
  have hlen : (rs k).length = (encN R).length := by rw [← he, List.length_map]
  rw [prefix_map, he, hlen]
  by_cases hz : s.size = 0
  · have hd : Lib.decodeGo s = (65533, 0) := by unfold Lib.decodeGo; rw [if_pos hz]
    have hl : s.data.toList = [] := List.eq_nil_of_length_eq_zero (by rw [size_list]; exact hz)
    rw [hd, hl]
    refine ⟨⟨fun h => by omega, fun h => ?_⟩, fun h => by omega⟩
    exfalso
    have := List.prefix_nil.1 h
    unfold encN at this
    split at this
    · simp at this
    · split at this <;> simp at this
  · rw [decodeGo_eq s hz]
    have l0 := list_get! s 0 (by omega)
    have b0 := UInt8.toNat_lt (s.get! 0)
    have b1 := UInt8.toNat_lt (s.get! 1)
    have b2 := UInt8.toNat_lt (s.get! 2)
    have out : (Lib.decodeN s.size (s.get! 0).toNat (s.get! 1).toNat (s.get! 2).toNat (s.get! 3).toNat).1 = R → encN R <+: s.data.toList.map (·.toNat) ∧ (Lib.decodeN s.size (s.get! 0).toNat (s.get! 1).toNat (s.get! 2).toNat (s.get! 3).toNat).2 = (encN R).length := by
      intro h
      rcases decodeN_out s.size (s.get! 0).toNat (s.get! 1).toNat (s.get! 2).toNat (s.get! 3).toNat R _ (by omega) b0 b1 b2 (Prod.ext h rfl) (by omega) with ⟨hm, e⟩ | ⟨hm, hn, e⟩ | ⟨hm, hn, e⟩
      · refine ⟨?_, by rw [e]; exact hm⟩
        rw [e]
        rw [List.prefix_iff_eq_take]
        apply List.ext_getElem?
        intro i
        match i with
        | 0 => simp [l0]
        | i + 1 => first | (simp; done) | (simp; omega)
      · have l1 := list_get! s 1 (by omega)
        refine ⟨?_, by rw [e]; exact hm⟩
        rw [e, List.prefix_iff_eq_take]
        apply List.ext_getElem?
        intro i
        match i with
        | 0 => simp [l0]
        | 1 => simp [l1]
        | i + 2 => first | (simp; done) | (simp; omega)
      · have l1 := list_get! s 1 (by omega)
        have l2 := list_get! s 2 (by omega)
        refine ⟨?_, by rw [e]; exact hm⟩
        rw [e, List.prefix_iff_eq_take]
        apply List.ext_getElem?
        intro i
        match i with
        | 0 => simp [l0]
        | 1 => simp [l1]
        | 2 => simp [l2]
        | i + 3 => first | (simp; done) | (simp; omega)
    refine ⟨⟨fun h => (out h).1, fun h => ?_⟩, fun h => (out h).2⟩
    have hpl := h.length_le
    rw [List.length_map, size_list] at hpl
    have hat : ∀ i, i < (encN R).length → ∀ x, (encN R)[i]? = some x → (s.get! i).toNat = x := by
      intro i hi x hx
      obtain ⟨t, ht⟩ := h
      have hs : i < s.size := by omega
      have e1 : (s.data.toList.map (·.toNat))[i]? = some x := by rw [← ht, List.getElem?_append_left hi]; exact hx
      rw [List.getElem?_map, list_get! s i hs] at e1
      simpa using e1
    apply decodeN_in _ _ _ _ _ _ (by omega)
    unfold encN at hat hpl
    by_cases c1 : R < 128
    · rw [if_pos c1] at hat
      exact .inl ⟨c1, hat 0 (by simp) _ rfl⟩
    · rw [if_neg c1] at hat hpl
      by_cases c2 : R < 2048
      · rw [if_pos c2] at hat hpl
        exact .inr (.inl ⟨by omega, c2, by simp at hpl; omega, hat 0 (by simp) _ rfl, hat 1 (by simp) _ rfl⟩)
      · rw [if_neg c2] at hat hpl
        exact .inr (.inr ⟨by omega, by simp at hpl; omega, hat 0 (by simp) _ rfl, hat 1 (by simp) _ rfl, hat 2 (by simp) _ rfl⟩)
end Go.Proofs.YtjmpilmmgfjpmaaDoor.Gl
