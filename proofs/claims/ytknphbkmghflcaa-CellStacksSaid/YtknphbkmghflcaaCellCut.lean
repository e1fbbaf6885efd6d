/-
  What cell.cut answers: the i-th piece of a list of pieces of one size; the world is as it was. Condition: the piece lies within the list.
-/
import Derived.Test.YtknphbkmghflcaaCellAt
namespace Go.Proofs.Ytknphbkmghflcaa.Sh
open Go.RowKit
set_option linter.unusedVariables false

theorem MineT.cap {t : TypeId} {w : World} {base : Nat} {A : Option Addr} {n c : Nat} {xs : List Int} (h : MineT t w base (.slice A n c) xs) : n ≤ c ∧ c ≤ maxLen := by
  rcases h.2 with ⟨h0, _⟩ | ⟨g, cap, cur, h1, _, _, h2, h3, _⟩
  · injection h0 with _ h1 h2; subst h1 h2; simp
  · injection h1 with _ h4 h5; subst h5; omega

/-- The i-th piece of a list of pieces of size s. -/
def piece (v : List Int) (i s : Nat) : List Int := (v.drop (i * s)).take s
theorem piece_length {v : List Int} {i s : Nat} (h : (i + 1) * s ≤ v.length) : (piece v i s).length = s := by
  rw [Nat.add_mul, Nat.one_mul] at h
  simp [piece]; omega
theorem ret_slice {A : Option Addr} {m n s : Nat} (h : m = s) (hn : n = s) : Ending.returned (.slice A m m) = .returned (.slice A n s) := by rw [h, hn]
def RetCut (xs : List Int) (s : Nat) (w : World) (e : Ending) (w' : World) : Prop := ∃ A, e = .returned (.slice A xs.length s) ∧ Ints w A xs ∧ w = w'

set_option maxHeartbeats 1000000 in
theorem cut_any (A : Option Addr) (c : Nat) (v : List Int) (i s : Nat) (w : World) (hc : v.length ≤ c) (hcm : c ≤ maxLen) (hv : v.length ≤ 10000) (hi0 : i ≤ 10000) (hi : Ints w A v) (h : (i + 1) * s ≤ v.length) :
    Calls Try.prog 30 #[.slice A v.length c, .int .i64 i, .int .i64 s] w (RetCut (piece v i s) s w) := by
  unfold maxLen at hcm
  have hin : i * s + s ≤ v.length := by rw [Nat.add_mul, Nat.one_mul] at h; exact h
  rcases Nat.eq_zero_or_pos s with h0 | hs
  · subst h0
    have HN : Hid (Ints w A (piece v i 0)) := Lib.hid (fun hp => absurd hp (by simp [piece]))
    clear h hin hi
    rcases A with _ | a
    · go_enter Try.func30, Try.ntmps30
      go_wp2
      go_ret
      exact ⟨none, by simp [piece], HN.out, rfl⟩
    · have HM : ∀ x, Ints w x (piece v i 0) := fun x hp => absurd hp (by simp [piece])
      have HX := Lib.hid HM
      clear HM HN
      go_enter Try.func30, Try.ntmps30
      go_wp2
      go_ret
      exact ⟨_, by simp [piece]; rfl, HX.out _, rfl⟩
  · have hs2 : s ≤ 10000 := by omega
    obtain ⟨b, off, rfl, hb, hcs⟩ := hi (by omega)
    have HX : Hid (Ints w (some ⟨b, off + i * s, none⟩) (piece v i s)) := Lib.hid (fun hp => by
      have hpl := piece_length h
      refine ⟨b, off + i * s, rfl, hb, fun j hj => ?_⟩
      rw [Nat.add_assoc, hcs _ (by omega)]
      have e1 : i * s + j < v.length := by omega
      have e2 : j < s := by omega
      simp [piece, List.getD, e2])
    have hne : ¬ (i + 1) * s = i * s := by rw [Nat.add_mul, Nat.one_mul]; omega
    have hq : (i + 1) * s - i * s = s := by rw [Nat.add_mul, Nat.one_mul]; omega
    have HQ := Lib.hid hq
    have g0 : (0 : Int) ≤ (i : Int) * (s : Int) := Int.mul_nonneg (by omega) (by omega)
    have g1 : (i : Int) * (s : Int) ≤ ((i : Int) + 1) * (s : Int) := Int.mul_le_mul_of_nonneg_right (by omega) (by omega)
    have g2 : ((i : Int) + 1) * (s : Int) ≤ c := by
      have : (((i + 1) * s : Nat) : Int) ≤ c := by omega
      simpa using this
    have HP := Lib.hid (piece_length h)
    clear hcs hi hq h hin
    go_enter Try.func30, Try.ntmps30
    go_wp2
    go_ret
    exact ⟨some ⟨b, off + i * s, none⟩, ret_slice HQ.out HP.out, HX.out, rfl⟩
end Go.Proofs.Ytknphbkmghflcaa.Sh
