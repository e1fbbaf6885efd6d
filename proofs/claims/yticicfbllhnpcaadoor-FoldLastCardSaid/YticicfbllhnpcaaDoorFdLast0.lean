/-
  The parts of a scan along the first axis, and of a fold; and that by a function that joins each part is the one ahead and the cell's own, by it. No condition; nothing of the program stands here but what its calls answer.
-/
import Derived.Test.YticicfbllhnpcaaDoorFdRRed
import Derived.Test.YticicfbllhnpcaaDoorScAssoc
import Derived.Test.YticicfbllhnpcaaDoorPkZ
import Derived.Test.YticicfbllhnpcaaDoorPkC
set_option maxRecDepth 100000
namespace Go.Proofs.YticicfbllhnpcaaDoor.Fd
open Go.Proofs.YticicfbllhnpcaaDoor.Sh
open Go.RowKit
set_option linter.unusedVariables false

theorem foldI_snoc {c : Int} (hj : (Sc.trOf c).joins = true) (s : Bool) (x : Int) : ∀ l : List Int, 0 < l.length → foldI c s (l ++ [x]) = Sc.doI c s (foldI c s l) x
  | [], h => by simp at h
  | [y], _ => rfl
  | y :: z :: l, _ => by
    have ih := foldI_snoc hj s x (z :: l) (by simp)
    rw [List.cons_append, foldI_cons _ _ _ (by simp), ih, foldI_cons c s y (l := z :: l) (by simp), Sc.do_assoc hj]
theorem lineL_succ (v : List Int) (f st n : Nat) : lineL v f st (n + 1) = lineL v f st n ++ [v.getD (f + n * st) 0] := by unfold lineL; rw [List.range_succ, List.map_append]; rfl
/-- The part of a scan along the first axis: all that stands up to there, folded. -/
def prt (c : Int) (s : Bool) (v : List Int) (S i : Nat) : List Int := (List.range S).map fun r => foldI c s (lineL v r S (i + 1))
theorem prt_len (c : Int) (s : Bool) (v : List Int) (S i : Nat) : (prt c s v S i).length = S := by simp [prt]
theorem prt_R {c : Int} {s : Bool} {v : List Int} (h : AllR v) (S i : Nat) : AllR (prt c s v S i) := by
  intro x hx
  simp only [prt, List.mem_map] at hx
  obtain ⟨k, _, rfl⟩ := hx
  exact foldI_R c s _ (lineL_R h _ _ _)
theorem piece_is {v : List Int} {i S : Nat} (h : (i + 1) * S ≤ v.length) : piece v i S = (List.range S).map fun r => v.getD (i * S + r) 0 := by
  rw [Nat.add_mul, Nat.one_mul] at h
  apply List.ext_getElem?
  intro r
  rcases Nat.lt_or_ge r S with hr | hr
  · rw [List.getElem?_map, List.getElem?_range hr]
    simp [piece, hr, List.getD, show i * S + r < v.length by omega]
  · rw [List.getElem?_eq_none (by simp [piece]; omega), List.getElem?_eq_none (by simp; omega)]
theorem piece_R {v : List Int} (h : AllR v) (i S : Nat) : AllR (piece v i S) := fun x hx => h x (List.mem_of_mem_drop (List.mem_of_mem_take hx))
theorem rowI_pos (c : Int) (s : Bool) {l : List Int} (h : 0 < l.length) : rowI c s l = foldI c s l := by unfold rowI; rw [if_neg (by omega)]
theorem map_at (F : Nat → Int) (n k : Nat) (h : k < n) : ((List.range n).map F).getD k 0 = F k := by simp [List.getD, h]
section
variable {c : Int} {s : Bool} {v t : List Int} {P S : Nat}
theorem scan_part {i : Nat} (hi : i < P) : piece ((List.range (P * S)).map (scF c s v P S)) i S = prt c s v S i := by
  have hle : (i + 1) * S ≤ P * S := Nat.mul_le_mul_right S hi
  rw [piece_is (by simpa using hle)]
  unfold prt
  refine List.map_congr_left fun r hr => ?_
  have hr2 : r < S := by simpa using hr
  rw [Nat.add_mul, Nat.one_mul] at hle
  rw [map_at _ _ _ (by omega)]
  have e1 : (i * S + r) / S = i := by rw [Nat.mul_comm, Nat.mul_add_div (by omega), Nat.div_eq_of_lt hr2, Nat.add_zero]
  unfold scF
  rw [e1, Nat.mod_eq_of_lt hi, show i * S + r - i * S = r by omega, rowI_pos _ _ (by rw [lineL_len]; omega)]
theorem red_part (hP : 0 < P) : (List.range S).map (rdF c s v P S) = prt c s v S (P - 1) := by
  unfold prt
  refine List.map_congr_left fun r hr => ?_
  have hr2 : r < S := by simpa using hr
  unfold rdF
  rw [Nat.div_eq_of_lt hr2, Nat.zero_mul, Nat.zero_mul, Nat.mod_eq_of_lt hr2, Nat.zero_add, show P - 1 + 1 = P by omega, rowI_pos _ _ (by rw [lineL_len]; omega)]
theorem cellB_mk {d : List Int} {n : Nat} (h : rightB d = true) (hn : sizeI d = n) : cellB d n = true := by
  unfold cellB; rw [h, hn]; simp
theorem two_part (hj : (Sc.trOf c).joins = true) (h2 : Sc.hasB c 2 = true) (hr : rightB t = true) (hS : sizeI t = (S : Int)) {i : Nat} (hi : (i + 1 + 1) * S ≤ v.length) :
    Sp.twoE c t (prt c s v S i).length t (piece v (i + 1) S).length = 0 ∧ Sp.twoD c t (prt c s v S i).length t (piece v (i + 1) S).length = t ∧ Sp.twoV c s t (prt c s v S i) t (piece v (i + 1) S) = prt c s v S (i + 1) := by
  have hf : Sh.fitE t t = 0 := by unfold Sh.fitE; rw [if_pos ⟨hr, hr⟩]; split <;> simp
  have hd : Sh.fitD t t = t := by unfold Sh.fitD; rw [if_pos hf]; split <;> rfl
  have l1 := prt_len c s v S i
  have l2 : (piece v (i + 1) S).length = S := piece_length hi
  obtain ⟨e1, e2, e3⟩ := Sp.two_good (s := s) (v := prt c s v S i) (u := piece v (i + 1) S) (d := t) (e := t) (by rw [l1]; exact cellB_mk hr hS) (by rw [l2]; exact cellB_mk hr hS) h2 hf (n := S) (by rw [hd]; exact hS)
  refine ⟨e1, by rw [e2, hd], ?_⟩
  rw [e3]
  unfold prt
  refine List.map_congr_left fun r hr' => ?_
  have hr2 : r < S := by simpa using hr'
  have hx : (if t.length = 0 then 0 else r) = r := by
    split
    · rename_i h0
      have : t = [] := List.eq_nil_of_length_eq_zero h0
      subst this
      have : S = 1 := by have h1 : sizeI [] = 1 := by decide
                         omega
      omega
    · rfl
  unfold Sp.twoF Sp.numA
  rw [hx, piece_is hi, map_at _ _ _ hr2]
  rw [map_at _ _ _ hr2, lineL_succ v r S (i + 1), foldI_snoc hj _ _ _ (by rw [lineL_len]; omega), Nat.add_comm r]
end
/-- All that FoldLast asks of a cell that has parts. -/
theorem last_all {c : Int} {s : Bool} {d v : List Int} (h : cellB d v.length = true) (h0 : 0 < d.length) (h1 : ¬ d.getD 0 0 = 0) (h2 : Sc.hasB c 2 = true) :
    ∃ (P S : Nat) (t V : List Int), d = (P : Int) :: t ∧ 0 < P ∧ P ≤ 64 ∧ rightB t = true ∧ sizeI t = (S : Int) ∧ v.length = P * S ∧ S ≤ 64 ∧ scE c d v.length = 0 ∧ scD c d v.length = d ∧ scV c s d v true = V ∧ V.length = P * S ∧
      (∀ i, i < P → piece V i S = prt c s v S i) ∧ reE c d v.length true = 0 ∧ reD c d v.length true = t ∧ reV c s d v true = prt c s v S (P - 1) := by
  have hb := (cellB_len h).2.1
  have hax := okAx_bd hb 0 h0
  have hi : itemB d v.length 0 = true := by
    simp only [itemB, h, Bool.true_and, Bool.and_eq_true, decide_eq_true_eq]
    omega
  obtain ⟨P, S, k, t, rfl, hr, hrt, hst, hn, hk0, hk, hks, hn64, hx, hl3⟩ := item_parts hi
  have hS64 : S ≤ 64 := by have := sizeI_bd t; omega
  obtain ⟨a, P', st, ok, hst'⟩ := ax_of true h h0
  have ha : a = 0 := by have := ok.ax; simp at this; omega
  subst ha
  have hP' : P' = P := by have := ok.hP; simp at this; omega
  subst hP'
  have hst2 : st = S := by
    obtain ⟨r1, r2, r3⟩ := rightB_all hrt
    rw [sizeI_mk r1 r2 r3] at hst
    have h3 : (st : Int) = prod t := hst'
    omega
  subst hst2
  have hsc := sc_0 (s := s) (b := true) h h2 (by omega)
  have hV : (List.range v.length).map (scG c s ((P' : Int) :: t) v true) = (List.range (P' * st)).map (scF c s v P' st) := by
    rw [← hn]
    exact List.map_congr_left fun j hj => (scG_is h ok hst' (by simpa using hj)).symm
  have hO : reO ((P' : Int) :: t) true = t := by
    unfold reO axI withoutL
    simp
  have h5 : ¬ (((P' : Int) :: t).getD (axI ((P' : Int) :: t) true).toNat 0 = 0 ∧ (Sc.trOf c).starts = false) := by
    intro ⟨hz, _⟩
    exact h1 (by simpa [axI] using hz)
  have hre := re_0 (s := s) (b := true) h h2 (by omega) h5 (by rw [hO]; exact hrt)
  refine ⟨P', st, t, _, rfl, by omega, hx, hrt, hst, hn, hS64, hsc.1, hsc.2.1, by rw [hsc.2.2, hV], by simp, fun i hi => scan_part hi, hre.1, by rw [hre.2.1, hO], ?_⟩
  rw [hre.2.2, hO, hst, Int.toNat_natCast, ← red_part (by omega)]
  exact List.map_congr_left fun j hj => (reG_is h ok hst' (by rw [hO]; exact hrt) (by rw [hO]; exact hst) (by simpa using hj)).symm
end Go.Proofs.YticicfbllhnpcaaDoor.Fd
