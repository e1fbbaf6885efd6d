/-
  Take, Drop and Join of cells with one axis. Arithmetic alone.
-/
import Derived.Test.YtfnpdflapmbnjaaPkW
import Derived.Test.YtfnpdflapmbnjaaPkR
namespace Go.Proofs.Ytfnpdflapmbnjaa.Sh
open Go.RowKit
set_option linter.unusedVariables false

theorem dg_list {m i : Nat} (h : i < m) : dg [(m : Int)] (i : Int) = [(i : Int)] := by
  simp only [dg]
  rw [prod_nil, Int.ediv_one, Int.emod_eq_of_lt (by omega) (by omega)]
theorem list_cellB {l : List Int} (h : l.length ≤ 64) : cellB [(l.length : Int)] l.length = true := by
  unfold cellB
  rw [(list_right h).1, ← (list_right h).2]; simp
theorem atI_list {l : List Int} (h : l.length ≤ 64) {j : Nat} (hj : j < l.length) : atI [(l.length : Int)] l [(j : Int)] = l.getD j 0 := by
  rw [← dg_list hj]; exact atI_dg (list_cellB h) hj
theorem shV_list {l : List Int} {m a : Nat} (hl : l.length ≤ 64) (h : a + m ≤ l.length) : shV [(m : Int)] [(a : Int)] [(l.length : Int)] l = (l.drop a).take m := by
  unfold shV
  rw [← (list_right (n := m) (by omega)).2, Int.toNat_natCast]
  symm
  refine eq_map_of (by simp; omega) fun i hi => ?_
  rw [dg_list hi, show shP [(a : Int)] [(i : Int)] = [((i + a : Nat) : Int)] by simp [shP], atI_list hl (by omega)]
  simp [List.getD, hi, Nat.add_comm]
theorem co_list {x : Int} {l : List Int} (hl : l.length ≤ 64) : coD [x] [(l.length : Int)] = [(l.length : Int)] ∧ coE [1] [x] [(l.length : Int)] l = 0 := by
  have h1 : coD [x] [(l.length : Int)] = [(l.length : Int)] := by unfold coD; rw [if_neg (by simp)]
  refine ⟨h1, ?_⟩
  unfold coE
  rw [if_pos ⟨show cellB [1] 1 = true by decide, list_cellB hl⟩, if_pos (by simp), h1, if_pos (by simp)]
theorem row1_eq (f : Nat → Int) : rowF 1 f = [f 0] := rfl
theorem sm_one {x : Int} (h : absI x ≤ 64) : sm65 x = x := by unfold sm65 absI at *; omega
theorem take_x {x : Int} {l : List Int} {k a : Nat} (hl : l.length ≤ 64) (hx : absI x = k) (hk : k ≤ l.length) (ha : (a : Int) = if x < 0 then (l.length : Int) - k else 0) :
    taE [1] [x] [(l.length : Int)] l = 0 ∧ taD [1] [x] [(l.length : Int)] l = [(k : Int)] ∧ taV [1] [x] [(l.length : Int)] l = (l.drop a).take k := by
  have hs : smL [x] = [x] := by unfold smL; simp; exact sm_one (by omega)
  obtain ⟨c1, c2⟩ := co_list (x := x) hl
  have hr : rowF ([x] : List Int).length (tkF (smL [x])) = [(k : Int)] := by rw [hs]; show rowF 1 _ = _; rw [row1_eq]; simp [tkF, hx]
  have hg : rowF ([x] : List Int).length (tkG (smL [x]) [(l.length : Int)]) = [(a : Int)] := by rw [hs]; show rowF 1 _ = _; rw [row1_eq, ha]; simp [tkG, hx]
  have hE : taE [1] [x] [(l.length : Int)] l = 0 := by unfold taE; rw [c2, if_pos rfl, hr, if_pos (list_right (by omega)).1]
  have ham : a + k ≤ l.length := by split at ha <;> omega
  refine ⟨hE, by unfold taD; rw [hE, oL_0, hr], by unfold taV; rw [hE, oL_0, hr, c1, hg, shV_list hl ham]⟩
theorem drop_x {x : Int} {l : List Int} {k a : Nat} (hl : l.length ≤ 64) (hx : absI x = k) (hk : k ≤ l.length) (ha : (a : Int) = if 0 < x then (k : Int) else 0) :
    coE [1] [x] [(l.length : Int)] l = 0 ∧ drD [1] [x] [(l.length : Int)] l = [((l.length - k : Nat) : Int)] ∧ drV [1] [x] [(l.length : Int)] l = (l.drop a).take (l.length - k) := by
  have hs : smL [x] = [x] := by unfold smL; simp; exact sm_one (by omega)
  obtain ⟨c1, c2⟩ := co_list (x := x) hl
  have hm : min (k : Int) (l.length : Int) = k := by omega
  have hr : rowF ([x] : List Int).length (drF (smL [x]) [(l.length : Int)]) = [((l.length - k : Nat) : Int)] := by rw [hs]; show rowF 1 _ = _; rw [row1_eq]; simp [drF, hx, hm]; omega
  have hg : rowF ([x] : List Int).length (drG (smL [x]) [(l.length : Int)]) = [(a : Int)] := by rw [hs]; show rowF 1 _ = _; rw [row1_eq, ha]; simp [drG, hx, hm]
  have ham : a + (l.length - k) ≤ l.length := by split at ha <;> omega
  refine ⟨c2, by unfold drD; rw [c2, oL_0, c1, hr], by unfold drV; rw [c2, oL_0, c1, hr, hg, shV_list hl ham]⟩
theorem join_x {v u : List Int} (h : v.length + u.length ≤ 64) : joE [(v.length : Int)] v [(u.length : Int)] u = 0 ∧ joD [(v.length : Int)] v [(u.length : Int)] u = [((v.length + u.length : Nat) : Int)] ∧ joV [(v.length : Int)] v [(u.length : Int)] u = v ++ u := by
  have h1 := list_cellB (l := v) (by omega)
  have h2 := list_cellB (l := u) (by omega)
  have b1 : besideL [(v.length : Int)] [(u.length : Int)] = [(v.length : Int)] := beside_self (by simp)
  have b2 : besideL [(u.length : Int)] [(v.length : Int)] = [(u.length : Int)] := beside_self (by simp)
  have hj : jn0 [(v.length : Int)] [(u.length : Int)] 0 = [((v.length + u.length : Nat) : Int)] := by simp [jn0, withL]
  have hE : joE [(v.length : Int)] v [(u.length : Int)] u = 0 := by
    rw [jo_e h1 h2, b1, b2]
    show jnE [(v.length : Int)] [(u.length : Int)] 0 = 0
    unfold jnE
    rw [if_pos (by simp), if_pos (by simp), hj, if_pos (list_right (by omega)).1]
  refine ⟨hE, by unfold joD; rw [if_pos hE, b1, b2]; exact hj, ?_⟩
  unfold joV
  rw [if_pos hE, b1, b2, fillL_self h1, fillL_self h2]
  show joinL v u (v.length : Int).toNat (u.length : Int).toNat 1 = v ++ u
  rw [Int.toNat_natCast, Int.toNat_natCast]
  simp [joinL, piece]
theorem parts_pos {l : List Int} {k : Nat} : (l.drop 0).take k ++ (l.drop k).take (l.length - k) = l := by
  rw [List.drop_zero, show (l.drop k).take (l.length - k) = l.drop k from List.take_of_length_le (by simp), List.take_append_drop]
end Go.Proofs.Ytfnpdflapmbnjaa.Sh
