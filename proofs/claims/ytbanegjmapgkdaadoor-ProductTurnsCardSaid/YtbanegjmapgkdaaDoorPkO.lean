/-
  What rifflelaw06.lives answers. No condition. Helpers of the laws of layer 6. No condition. What mold.Dims, Tally, Ravel and the document's own answer for any cell; nothing that was there is written. Condition: at most 100 axes and 1000 numbers. What the document's Dims and Ravel, mold.Count and the document's Count answer for any cell; nothing that was there is written. Condition: at most 100 axes and 1000 numbers. What the document's Ravel answers for any cell; nothing that was there is written. Condition: at most 100 axes and 1000 numbers. What mold.Count and the document's Count answer for any cell; nothing that was there is written. Condition: at most 100 axes and 1000 numbers. What the document's Count answers for any cell; nothing that was there is written. Condition: at most 100 axes and 1000 numbers. Which part stands where in a Copy: the list of the parts' numbers, and the number at each place. No condition beyond those told. What riffleref06.along answers for a cell that may be, beside no axes; nothing that was there is written. Condition: the cell may be. A box of a cell, number by number: what CellBox shows. No condition. Copy once each gives the list again; what mold.beside and mold.joined answer. Conditions: as told in each. shape.With, mold.listed and mold.beside with the room of what they answer; what mold.joined answers. Conditions: as told in each. What mold.joined answers for two lists of axes that have some. Condition: at most 100 axes, from 0 to 64.
-/
import Derived.Test.YtbanegjmapgkdaaDoorPkN
import Derived.Test.YtbanegjmapgkdaaDoorPkC
import Derived.Test.YtbanegjmapgkdaaDoorRows
import Derived.Test.YtbanegjmapgkdaaDoorPkMb
import Derived.Test.YtbanegjmapgkdaaDoorCellBox
set_option maxRecDepth 100000
-- MoLives
namespace Go.Proofs.YtbanegjmapgkdaaDoor.Sh
open Go.RowKit
set_option linter.unusedVariables false

def RetLs (B : Option Addr) (n c : Nat) (w : World) (e : Ending) (w' : World) : Prop := ∃ A1, e = .returned (.agg #[.slice A1 1 1, .slice B n c]) ∧ Ints w' A1 [(n : Int)] ∧ Below w.heap.size w w'
theorem nums_eq (A : Option Addr) (c : Nat) (a : List Int) (B : Option Addr) (d : Nat) (w : World) (hl : a.length ≤ 1000) (ha : Ints w A a) (hb : Ints w B a) :
    Calls Tryd.prog 28 #[.slice A a.length c, .slice B a.length d] w fun e w' => e = .returned (.bool true) ∧ Below w.heap.size w w' :=
  (nums_b A c a B d a w (by unfold maxLen; omega) (by unfold maxLen; omega) ha hb).mono fun _ _ ⟨h1, h2⟩ => ⟨by rw [h1]; simp, h2⟩
theorem nums4 (A : Option Addr) (c : Nat) (B : Option Addr) (d : Nat) (w : World) (ha : Ints w A [1, 2, 3, 1]) (hb : Ints w B [1, 2, 3, 1]) :
    Calls Tryd.prog 28 #[.slice A 4 c, .slice B 4 d] w fun e w' => e = .returned (.bool true) ∧ Below w.heap.size w w' := nums_eq A c [1, 2, 3, 1] B d w (by simp) ha hb
theorem nums3 (A : Option Addr) (c : Nat) (B : Option Addr) (d : Nat) (w : World) (ha : Ints w A [4, 6, 6]) (hb : Ints w B [4, 6, 6]) :
    Calls Tryd.prog 28 #[.slice A 3 c, .slice B 3 d] w fun e w' => e = .returned (.bool true) ∧ Below w.heap.size w w' := nums_eq A c [4, 6, 6] B d w (by simp) ha hb
theorem row1 (t : TypeId) (w : World) (xs : List Int) (hl : xs.length ≤ 1000) : Ints (w.alloc (.cells (cellsI xs) t)) (some ⟨w.heap.size, 0, none⟩) xs := (MineT.new t w xs 0 (by simp) (by unfold maxLen; omega)).ints'

end Go.Proofs.YtbanegjmapgkdaaDoor.Sh
-- MoLaw
namespace Go.Proofs.YtbanegjmapgkdaaDoor.Sh
open Go.RowKit
set_option linter.unusedVariables false

theorem rsame_eq (A : Option Addr) (c : Nat) (d : List Int) (B : Option Addr) (c2 : Nat) (v : List Int) (A' : Option Addr) (c' : Nat) (B' : Option Addr) (c2' : Nat) (w : World) (hd : d.length ≤ 1000) (hv : v.length ≤ 1000) (id : Ints w A d) (iv : Ints w B v) (ie : Ints w A' d) (iu : Ints w B' v) :
    Calls Tryd.prog 14 #[.agg #[.slice A d.length c, .slice B v.length c2], .agg #[.slice A' d.length c', .slice B' v.length c2']] w fun r w' => r = .returned (.bool true) ∧ Below w.heap.size w w' :=
  (rsame_any A c d B c2 v A' c' d B' c2' v w (by unfold maxLen; omega) (by unfold maxLen; omega) (by unfold maxLen; omega) (by unfold maxLen; omega) id iv ie iu).mono fun _ _ ⟨h1, h2⟩ => ⟨by rw [h1]; simp [sameB], h2⟩
theorem rsD_len {d v e u : List Int} (hv : v.length ≤ 200) : (rsD d v e u).length ≤ 200 := by
  unfold rsD; split
  · simpa [lensL] using hv
  · simp
theorem rsV_len {d v e u : List Int} : (rsV d v e u).length ≤ 64 := by
  unfold rsV; split
  · rename_i h
    have hr : rightB (lensL v) = true := by
      unfold rsE at h
      split at h
      · split at h
        · split at h
          · omega
          · split at h
            · assumption
            · omega
        · omega
      · omega
    obtain ⟨n, hn, h64⟩ := sizeI_nat _ hr
    rw [hn]; simpa using h64
  · simp
end Go.Proofs.YtbanegjmapgkdaaDoor.Sh
-- MoTell
namespace Go.Proofs.YtbanegjmapgkdaaDoor.Sh
open Go.RowKit
set_option linter.unusedVariables false

/-- The boxes of a cell and of the answer. -/
theorem w1_all (w : World) (x y : Value) :
    Box ((w.alloc (.cells #[x, y] 29)).alloc (.cells #[.slice none 0 0, .slice none 0 0] 29)) w.heap.size x y ∧
    Box ((w.alloc (.cells #[x, y] 29)).alloc (.cells #[.slice none 0 0, .slice none 0 0] 29)) (w.heap.size + 1) (.slice none 0 0) (.slice none 0 0) ∧
    Below w.heap.size w ((w.alloc (.cells #[x, y] 29)).alloc (.cells #[.slice none 0 0, .slice none 0 0] 29)) := by
  refine ⟨(Box.new w x y).alloc _, ?_, below_next (below_new w _) (below_new _ _)⟩
  have := Box.new (w.alloc (.cells #[x, y] 29)) (.slice none 0 0) (.slice none 0 0)
  rw [show (w.alloc (.cells #[x, y] 29)).heap.size = w.heap.size + 1 from by simp] at this
  exact this
def okE (d : List Int) (n : Nat) : Int := if cellB d n = true then 0 else 1
def okL (d : List Int) (n : Nat) (l : List Int) : List Int := if cellB d n = true then l else []
theorem ok_yes {d : List Int} {n : Nat} (h : cellB d n = true) (l : List Int) : okE d n = 0 ∧ okL d n l = l := by simp [okE, okL, h]
theorem ok_no {d : List Int} {n : Nat} (h : cellB d n = false) (l : List Int) : okE d n = 1 ∧ okL d n l = [] := by simp [okE, okL, h]
theorem getD_range (d : List Int) : (List.range d.length).map (fun i => d.getD i 0) = d := by
  apply List.ext_getElem
  · simp
  · intro i h1 h2
    simp [List.getD, h2]

theorem listed_getD (d : List Int) (x : Int) (h : (listedL d).getD 0 0 = x) (hz : ¬ d.length = 0) : d.getD 0 0 = x := by
  unfold listedL at h; rw [if_neg hz] at h; exact h

end Go.Proofs.YtbanegjmapgkdaaDoor.Sh
-- MoTell2
namespace Go.Proofs.YtbanegjmapgkdaaDoor.Sh
open Go.RowKit
set_option linter.unusedVariables false


end Go.Proofs.YtbanegjmapgkdaaDoor.Sh
-- MoTell3
namespace Go.Proofs.YtbanegjmapgkdaaDoor.Sh
open Go.RowKit
set_option linter.unusedVariables false

theorem keepRS {W : World} {g gR : Nat} {x : Value} (h : W.cell? ⟨g, 1, none⟩ = some x) (hne : g ≠ gR) (a b : Value) : ((W.setCell ⟨gR, 0, none⟩ a).setCell ⟨gR, 1, none⟩ b).cell? ⟨g, 1, none⟩ = some x :=
  (World.cell?_setCell_other _ ⟨gR, 1, none⟩ ⟨g, 1, none⟩ b (fun e => by injection e with e1; omega)).trans ((World.cell?_setCell_other W ⟨gR, 0, none⟩ ⟨g, 1, none⟩ a (fun e => by injection e with e1; omega)).trans h)
theorem keepAl {W : World} {g : Nat} {x : Value} (h : W.cell? ⟨g, 1, none⟩ = some x) (o : Obj) : (W.alloc o).cell? ⟨g, 1, none⟩ = some x :=
  ((below_new W o).cell (p := ⟨g, 1, none⟩) (World.block_lt_of_cell? W ⟨g, 1, none⟩ h)).trans h
theorem keepRA {W : World} {g gR : Nat} {x : Value} (h : W.cell? ⟨g, 1, none⟩ = some x) (hne : g ≠ gR) (a b : Value) (o : Obj) : (((W.setCell ⟨gR, 0, none⟩ a).setCell ⟨gR, 1, none⟩ b).alloc o).cell? ⟨g, 1, none⟩ = some x := keepAl (keepRS h hne a b) o
/-- Behind the answer's making. -/
def CutR (w : World) (g : Nat) (n : Nat) (v : List Int) (wx : World) : Prop := ∃ A6 B6 e6, Box wx g (.slice A6 1 1) (.slice B6 v.length e6) ∧ IsCell wx w.heap.size [(n : Int)] v (.agg #[.slice A6 1 1, .slice B6 v.length e6]) ∧ Below g w wx
theorem cutR_mk {w w9 : World} {gR b n : Nat} {v : List Int} {A9 : Option Addr} {c9 : Nat} {x y : Value} (hm : MineT 2 w9 w.heap.size (.slice A9 v.length c9) v) (hi : MineT 3 w9 w.heap.size (.slice (some ⟨b, 0, none⟩) 1 1) [(n : Int)]) (hb : Below w.heap.size w w9) (bx : Box w9 gR x y) (hg : gR < w.heap.size) :
    CutR w gR n v ((w9.setCell ⟨gR, 0, none⟩ (.slice (some ⟨b, 0, none⟩) 1 1)).setCell ⟨gR, 1, none⟩ (.slice A9 v.length c9)) :=
  ⟨_, _, _, (bx.set0 _).set1 _, isCell_of (d := [(n : Int)]) (hi.box hg _ _) (hm.box hg _ _) (Nat.le_refl _) (Nat.le_refl _), ((hb.mono (Nat.le_of_lt hg)).setCell (Nat.le_refl _) _).setCell (Nat.le_refl _) _⟩
theorem cutR_a {w w9 : World} {gR n : Nat} {v : List Int} {A9 : Option Addr} {c9 : Nat} {x y : Value} (hm : MineT 2 w9 w.heap.size (.slice A9 v.length c9) v) (hb : Below w.heap.size w w9) (bx : Box w9 gR x y) (hg : gR < w.heap.size) :
    CutR w gR n v (((w9.setCell ⟨gR, 0, none⟩ (.slice (some ⟨w9.heap.size, 0, none⟩) 1 1)).setCell ⟨gR, 1, none⟩ (.slice A9 v.length c9)).alloc (.cells #[.int .i64 (n : Int)] 3)) := by
  have hsz : ((w9.setCell ⟨gR, 0, none⟩ (.slice (some ⟨w9.heap.size, 0, none⟩) 1 1)).setCell ⟨gR, 1, none⟩ (.slice A9 v.length c9)).heap.size = w9.heap.size := by simp [World.setCell]
  have hi := MineT.new 3 ((w9.setCell ⟨gR, 0, none⟩ (.slice (some ⟨w9.heap.size, 0, none⟩) 1 1)).setCell ⟨gR, 1, none⟩ (.slice A9 v.length c9)) [(n : Int)] w.heap.size (by rw [hsz]; exact hb.size) (by unfold maxLen; simp)
  rw [hsz] at hi
  exact ⟨_, _, _, ((bx.set0 _).set1 _).alloc _, isCell_of (d := [(n : Int)]) hi ((hm.box hg _ _).alloc _) (Nat.le_refl _) (Nat.le_refl _), (((hb.mono (Nat.le_of_lt hg)).setCell (Nat.le_refl _) _).setCell (Nat.le_refl _) _).alloc (by rw [hsz]; have := hb.size; omega) _⟩

end Go.Proofs.YtbanegjmapgkdaaDoor.Sh
-- MoTell4
namespace Go.Proofs.YtbanegjmapgkdaaDoor.Sh
open Go.RowKit
set_option linter.unusedVariables false

/-- What Count answers. -/
def cnE (d v : List Int) : Int := if cellB d v.length = true then (if v.length = 1 then (if v.getD 0 0 < 0 then 5 else if 64 < v.getD 0 0 then 4 else 0) else 2) else 1
def cnD (d v : List Int) : List Int := if cnE d v = 0 then [v.getD 0 0] else []
def idN (i : Nat) : Int := (i : Int)
def cnV (d v : List Int) : List Int := if cnE d v = 0 then (List.range (v.getD 0 0).toNat).map idN else []
section
variable {d v : List Int}
theorem cn_1 (h : cellB d v.length = false) : cnE d v = 1 ∧ cnD d v = [] ∧ cnV d v = [] := by simp [cnD, cnV, cnE, h]
theorem cn_2 (h1 : cellB d v.length = true) (h : ¬ v.length = 1) : cnE d v = 2 ∧ cnD d v = [] ∧ cnV d v = [] := by simp [cnD, cnV, cnE, h1, h]
theorem cn_3 (h1 : cellB d v.length = true) (h2 : v.length = 1) (h : v.getD 0 0 < 0) : cnE d v = 5 ∧ cnD d v = [] ∧ cnV d v = [] := by
  have hE : cnE d v = 5 := by unfold cnE; rw [if_pos h1, if_pos h2, if_pos h]
  exact ⟨hE, by unfold cnD; rw [hE]; rfl, by unfold cnV; rw [hE]; rfl⟩
theorem cn_4 (h1 : cellB d v.length = true) (h2 : v.length = 1) (h3 : ¬ v.getD 0 0 < 0) (h : 64 < v.getD 0 0) : cnE d v = 4 ∧ cnD d v = [] ∧ cnV d v = [] := by
  have hE : cnE d v = 4 := by unfold cnE; rw [if_pos h1, if_pos h2, if_neg h3, if_pos h]
  exact ⟨hE, by unfold cnD; rw [hE]; rfl, by unfold cnV; rw [hE]; rfl⟩
theorem cn_5 (h1 : cellB d v.length = true) (h2 : v.length = 1) (h3 : ¬ v.getD 0 0 < 0) (h : ¬ 64 < v.getD 0 0) {n : Nat} (hn : v.getD 0 0 = n) : cnE d v = 0 ∧ cnD d v = [(n : Int)] ∧ cnV d v = (List.range n).map idN := by
  have hE : cnE d v = 0 := by unfold cnE; rw [if_pos h1, if_pos h2, if_neg h3, if_neg h]
  exact ⟨hE, by unfold cnD; rw [if_pos hE, hn], by unfold cnV; rw [if_pos hE, hn, Int.toNat_natCast]⟩
end
theorem one_of {v : List Int} (h : v.length = 1) : v = [v.getD 0 0] := by
  match v, h with
  | [x], _ => rfl

end Go.Proofs.YtbanegjmapgkdaaDoor.Sh
-- MoTell5
namespace Go.Proofs.YtbanegjmapgkdaaDoor.Sh
open Go.RowKit
set_option linter.unusedVariables false

theorem idN_succ (k : Nat) : (List.range (k + 1)).map idN = (List.range k).map idN ++ [(k : Int)] := by rw [List.range_succ]; simp [idN]

end Go.Proofs.YtbanegjmapgkdaaDoor.Sh
-- MoSeq
namespace Go.Proofs.YtbanegjmapgkdaaDoor.Sh
open Go.RowKit
set_option linter.unusedVariables false

/-- The numbers of the first k parts, each as often as it is copied. -/
def seqL (T : List Int) : Nat → List Nat
  | 0 => []
  | k + 1 => seqL T k ++ List.replicate (tk T k) k
theorem seqL_len (T : List Int) (k : Nat) : (seqL T k).length = tot T k := by
  induction k with
  | zero => rfl
  | succ k ih => rw [seqL, List.length_append, ih, List.length_replicate, tot]
theorem flatMap_rep (i : Nat) (x : Nat) (f : Nat → List Int) : (List.replicate i x).flatMap f = (List.replicate i (f x)).flatten := by
  induction i with
  | zero => rfl
  | succ i ih => rw [List.replicate_succ, List.flatMap_cons, ih, List.replicate_succ, List.flatten_cons]
theorem cpL_seq (u : List Int) (s : Nat) (T : List Int) (k : Nat) : cpL u s T k = (seqL T k).flatMap (fun j => piece u j s) := by
  induction k with
  | zero => rfl
  | succ k ih => rw [cpL, seqL, List.flatMap_append, ← ih, flatMap_rep]
theorem seqL_add (T : List Int) (A j : Nat) : seqL T (A * T.length + j) = seqL T (A * T.length) ++ (seqL T j).map (· + A * T.length) := by
  induction j with
  | zero => simp [seqL]
  | succ j ih =>
    rw [← Nat.add_assoc, seqL, ih, tk_mod, seqL, List.map_append, List.append_assoc, List.map_replicate, Nat.add_comm j]
/-- The parts of a second round are those of the first one, further on. -/
theorem seqL_at (T : List Int) (A : Nat) (q : Nat) (hq : q < A * tot T T.length) : (seqL T (A * T.length))[q]? = (seqL T T.length)[q % tot T T.length]?.map (· + q / tot T T.length * T.length) := by
  have hS : 0 < tot T T.length := by
    rcases Nat.eq_zero_or_pos (tot T T.length) with h | h
    · rw [h] at hq; simp at hq
    · exact h
  induction A with
  | zero => simp at hq
  | succ A ih =>
    have e : (A + 1) * T.length = A * T.length + T.length := by rw [Nat.add_mul, Nat.one_mul]
    rw [e, seqL_add]
    have hl : (seqL T (A * T.length)).length = A * tot T T.length := by rw [seqL_len, tot_mul]
    by_cases hlt : q < A * tot T T.length
    · rw [List.getElem?_append_left (by rw [hl]; exact hlt)]
      exact ih hlt
    · rw [List.getElem?_append_right (by rw [hl]; omega), hl, List.getElem?_map]
      rw [Nat.add_mul, Nat.one_mul] at hq
      have h1 : q / tot T T.length = A := by
        apply Nat.div_eq_of_lt_le
        · omega
        · rw [Nat.add_mul, Nat.one_mul]; omega
      have h2 : q % tot T T.length = q - A * tot T T.length := by
        have := Nat.div_add_mod q (tot T T.length)
        rw [h1, Nat.mul_comm] at this
        omega
      rw [h1, h2]
theorem flatMap_at (f : Nat → List Int) (s : Nat) (hs : 0 < s) (l : List Nat) (hf : ∀ x ∈ l, (f x).length = s) (i : Nat) : (l.flatMap f)[i]? = l[i / s]?.bind fun j => (f j)[i % s]? := by
  induction l generalizing i with
  | nil => simp
  | cons x l ih =>
    rw [List.flatMap_cons]
    have hx := hf x (by simp)
    by_cases hi : i < s
    · rw [List.getElem?_append_left (by rw [hx]; exact hi), Nat.div_eq_of_lt hi, Nat.mod_eq_of_lt hi]
      simp
    · have h1 : i / s = (i - s) / s + 1 := by
        have : i = (i - s) + s := by omega
        conv => lhs; rw [this]
        exact Nat.add_div_right _ hs
      have h2 : i % s = (i - s) % s := by
        have : i = (i - s) + s := by omega
        conv => lhs; rw [this]
        exact Nat.add_mod_right _ _
      rw [List.getElem?_append_right (by rw [hx]; omega), hx, ih (fun y hy => hf y (List.mem_cons_of_mem _ hy)), h1, h2, List.getElem?_cons_succ]
theorem seqL_lt (T : List Int) (k : Nat) : ∀ x ∈ seqL T k, x < k := by
  induction k with
  | zero => intro x hx; cases hx
  | succ k ih =>
    intro x hx
    rw [seqL, List.mem_append] at hx
    rcases hx with h | h
    · have := ih x h; omega
    · have := (List.mem_replicate.1 h).2; omega
/-- The number at a place of what is copied. -/
theorem cpL_at {u : List Int} {s A : Nat} {T : List Int} (hs : 0 < s) (hu : u.length = A * T.length * s) (i : Nat) (hi : i < A * tot T T.length * s) :
    ∃ j, (seqL T T.length)[i / s % tot T T.length]? = some j ∧ j < T.length ∧ (cpL u s T (A * T.length)).getD i 0 = u.getD ((i / s / tot T T.length * T.length + j) * s + i % s) 0 := by
  have hq : i / s < A * tot T T.length := Nat.div_lt_of_lt_mul (by rw [Nat.mul_comm]; exact hi)
  have hS : 0 < tot T T.length := by
    rcases Nat.eq_zero_or_pos (tot T T.length) with h | h
    · rw [h] at hq; simp at hq
    · exact h
  have hr : i / s % tot T T.length < (seqL T T.length).length := by rw [seqL_len]; exact Nat.mod_lt _ hS
  refine ⟨(seqL T T.length)[i / s % tot T T.length], List.getElem?_eq_getElem hr, seqL_lt T _ _ (List.getElem_mem hr), ?_⟩
  have hpl : ∀ x ∈ seqL T (A * T.length), (piece u x s).length = s := fun x hx => by
    apply piece_length
    rw [hu]
    exact Nat.mul_le_mul_right s (seqL_lt T _ x hx)
  have h1 := flatMap_at (fun j => piece u j s) s hs (seqL T (A * T.length)) hpl i
  rw [← cpL_seq, seqL_at T A _ hq, List.getElem?_eq_getElem hr] at h1
  simp only [Option.map_some, Option.bind_some] at h1
  have hj := seqL_lt T _ _ (List.getElem_mem hr)
  have hms : i % s < s := Nat.mod_lt _ hs
  unfold List.getD
  rw [h1, Nat.add_comm (i / s / tot T T.length * T.length)]
  congr 1
  unfold piece
  rw [List.getElem?_take_of_lt hms, List.getElem?_drop]
end Go.Proofs.YtbanegjmapgkdaaDoor.Sh
-- MoAlong
namespace Go.Proofs.YtbanegjmapgkdaaDoor.Sh
open Go.RowKit
set_option linter.unusedVariables false

/-- A cell, wherever it lies. -/
def RetAl (w : World) (d v : List Int) (e : Ending) (w' : World) : Prop := ∃ A c B c2, e = .returned (.agg #[.slice A d.length c, .slice B v.length c2]) ∧ Ints w' A d ∧ Ints w' B v ∧ Below w.heap.size w w'
end Go.Proofs.YtbanegjmapgkdaaDoor.Sh
-- MoBox
namespace Go.Proofs.YtbanegjmapgkdaaDoor.Sh
end Go.Proofs.YtbanegjmapgkdaaDoor.Sh
-- MoJoin0
namespace Go.Proofs.YtbanegjmapgkdaaDoor.Sh
open Go.RowKit
set_option linter.unusedVariables false

theorem tk_one {P : Nat} (hP : 0 < P) (k : Nat) : tk (List.replicate P 1) k = 1 := by
  unfold tk
  rw [List.length_replicate]
  have : k % P < P := Nat.mod_lt _ hP
  simp [List.getD, this]
theorem cpL_one {u : List Int} {s P : Nat} (hP : 0 < P) (k : Nat) : cpL u s (List.replicate P 1) k = u.take (k * s) := by
  induction k with
  | zero => simp [cpL]
  | succ k ih =>
    rw [cpL, ih, tk_one hP, Nat.add_mul, Nat.one_mul, List.take_add]
    simp [piece]
theorem sum_ones (P : Nat) : sumL (List.replicate P 1) = P := by
  have h : SmallT (List.replicate P 1) := fun i hi => by
    rw [List.length_replicate] at hi
    simp [List.getD, hi]
  have h1 : ∀ k, k ≤ P → tot (List.replicate P 1) k = k := fun k => by
    induction k with
    | zero => intro _; rfl
    | succ k ih => intro hk; rw [tot, ih (by omega), tk_one (by omega)]
  have h2 := tot_sum h P (by simp)
  rw [h1 P (Nat.le_refl _)] at h2
  rw [h2, List.take_of_length_le (by simp)]
/-- Copied once each, the numbers are what they were. -/
theorem copV_one {d v e u : List Int} {a P s N : Nat} {D : List Int} (h : CopyOk d v e u a P s N D (List.replicate P 1)) : copV u s (List.replicate P 1) = u ∧ withL D (a : Int) (sumL (List.replicate P 1)) = D := by
  constructor
  · unfold copV
    rcases h.room with ⟨h1, h2, h3⟩ | ⟨h1, h2⟩
    · by_cases hs : s = 0
      · rw [if_pos hs]
        rw [hs] at h1
        simp at h1
        exact h1.symm
      · rw [if_neg hs]
        rcases Nat.eq_zero_or_pos (u.length / s) with h0 | h0
        · rw [h0] at h1
          have : u = [] := List.eq_nil_of_length_eq_zero (by simpa using h1)
          rw [h0, cpL, this]
        · have hP := h3 h0
          rw [List.length_replicate] at hP
          rw [cpL_one hP, ← h1, List.take_length]
    · rw [if_pos h1]
      obtain ⟨hTl, hsm, hP, hDr, hD3, hu, hv, hN64, hS0⟩ := h.small
      have hu2 := (cellB_parts h.right2).2
      obtain ⟨h3, hall, h64⟩ := rightB_all hDr
      have : (u.length : Int) = 0 := by
        rw [hu2, ← listed_size (cellB_parts h.right2).1, h.hD, sizeI_mk h3 hall h64, prod_split D a h.ha, h.hs, h1]
        simp
      exact (List.eq_nil_of_length_eq_zero (by omega)).symm
  · rw [sum_ones, ← h.hP, withL_at D a h.ha]
    exact (split_at D a h.ha).symm

/-- The axes that count in a join. -/
def besideL (a b : List Int) : List Int := if a.length = 0 ∧ 0 < b.length then withL b ((b.length : Int) - 1) 1 else listedL a
end Go.Proofs.YtbanegjmapgkdaaDoor.Sh
-- MoJoin1
namespace Go.Proofs.YtbanegjmapgkdaaDoor.Sh
open Go.RowKit
set_option linter.unusedVariables false

/-- A list of axes, with its room. -/
def RetIC (w : World) (xs : List Int) (e : Ending) (w' : World) : Prop := ∃ A c, e = .returned (.slice A xs.length c) ∧ Ints w' A xs ∧ xs.length ≤ c ∧ c ≤ maxLen ∧ Below w.heap.size w w'
end Go.Proofs.YtbanegjmapgkdaaDoor.Sh
-- MoJoin2
namespace Go.Proofs.YtbanegjmapgkdaaDoor.Sh
open Go.RowKit
set_option linter.unusedVariables false

/-- The axes of a join. -/
def jn0 (a b : List Int) (L : Nat) : List Int := withL a (L : Int) (a.getD L 0 + b.getD L 0)
def jnE (a b : List Int) (L : Nat) : Int := if a.length = b.length then (if a.take L = b.take L then (if rightB (jn0 a b L) = true then 0 else 4) else 3) else 2
def jnD (a b : List Int) (L : Nat) : List Int := if jnE a b L = 0 then jn0 a b L else []
/-- Axes, with their room, and an error. -/
def RetJ (w : World) (d : List Int) (x : Int) (e : Ending) (w' : World) : Prop := ∃ A c, e = .returned (.tuple #[.slice A d.length c, .int .i64 x]) ∧ Ints w' A d ∧ d.length ≤ c ∧ c ≤ maxLen ∧ Below w.heap.size w w'
theorem Ints.take {w : World} {A : Option Addr} {l : List Int} (h : Ints w A l) (k : Nat) (hk : k ≤ l.length) : Ints w A (l.take k) := fun hp => by
  rw [List.length_take] at hp
  obtain ⟨b, off, e, hb, hc⟩ := h (by omega)
  refine ⟨b, off, e, hb, fun i hi => ?_⟩
  rw [List.length_take] at hi
  rw [hc i (by omega)]
  simp [List.getD, show i < k by omega]
theorem same_v (A : Option Addr) (c : Nat) (a : List Int) (B : Option Addr) (c2 : Nat) (b : List Int) (n : Nat) (t : Bool) (w : World) (ht : decide (a = b) = t) (ha : a.length = n) (hb : b.length = n) (hn : n ≤ 100) (ia : Ints w A a) (ib : Ints w B b) :
    Calls Tryd.prog 80 #[.slice A n c, .slice B n c2] w fun e w' => e = .returned (.bool t) ∧ Below w.heap.size w w' := by
  have h := same_any A c a B c2 b w (by unfold maxLen; omega) (by unfold maxLen; omega) ia ib
  rw [ha, hb, ht] at h
  exact h.mono fun _ _ ⟨h1, k, h2⟩ => ⟨h1, by rw [h2]; exact below_drewN (Below.refl _ _) k⟩
end Go.Proofs.YtbanegjmapgkdaaDoor.Sh
