/-
  What spread.made answers for any axes that may be and any function value that answers a number at each place and writes nothing that was there. Condition: the axes may be.
-/
import Derived.Test.YthabimjmdnhomaaDoorCellCopy
import Derived.Test.YthabimjmdnhomaaDoorCellStack
namespace Go.Proofs.YthabimjmdnhomaaDoor.Sh
open Go.RowKit
set_option linter.unusedVariables false

theorem turned_below {a w w' : World} {row : Option Nat} (h : a.grownBy w row) (k : Below w.heap.size w w') : a.grownBy w' row :=
  ⟨k.os.trans h.os, k.tape.trans h.tape, k.output.trans h.output, Nat.le_trans h.size k.size, fun i hi hne => (k.block i (Nat.lt_of_lt_of_le hi h.size)).trans (h.block i hi hne)⟩
theorem turned_refl (a : World) (row : Option Nat) : a.grownBy a row := World.grownBy.refl a row
/-- Block g is just these numbers. -/
def Row64 (w : World) (g : Nat) (xs : List Int) : Prop := w.heap[g]? = some (.cells (cellsI xs) 2 (0, 0))
section
variable {w w' : World} {g : Nat} {xs : List Int}
theorem Row64.lt (h : Row64 w g xs) : g < w.heap.size := by
  rcases Nat.lt_or_ge g w.heap.size with hlt | hge
  · exact hlt
  · unfold Row64 at h; rw [Array.getElem?_eq_none hge] at h; cases h
theorem Row64.cell (h : Row64 w g xs) {i : Nat} (hi : i < xs.length) : w.cell? ⟨g, i, none⟩ = some (.int .i64 (xs.getD i 0)) := by
  rw [cell_of_row w g i _ _ _ h]; simp [cellsI, List.getD, hi]
theorem Row64.frozen (h : Row64 w g xs) (i : Nat) : w.frozen? ⟨g, i, none⟩ = false := by unfold Row64 at h; simp [World.frozen?, h]
theorem Row64.drew (h : Row64 w g xs) : Row64 w.drew g xs := h
theorem Row64.drewN (h : Row64 w g xs) (n : Nat) : Row64 (w.drewN n) g xs := h
theorem Row64.alloc (h : Row64 w g xs) (o : Obj) : Row64 (w.alloc o) g xs := (Below.heap_alloc w o g h.lt).trans h
theorem Row64.next (h : Row64 w g xs) (hb : Below w.heap.size w w') : Row64 w' g xs := (hb.block g h.lt).trans h
theorem Row64.far (h : Row64 w g xs) {p : Addr} (hp : g ≠ p.block) (u : Value) : Row64 (w.setCell p u) g xs := (Below.heap_setCell w p u g hp).trans h
theorem Row64.set_ (h : Row64 w g xs) (i : Nat) (x : Int) : Row64 (w.setCell ⟨g, i, none⟩ (.int .i64 x)) g (xs.set i x) := by
  unfold Row64 at h ⊢
  simp [World.setCell, Array.getElem?_modify, h, cellsI, List.map_set]
theorem Row64.ints (h : Row64 w g xs) : Ints w (some ⟨g, 0, none⟩) xs := fun _ => ⟨g, 0, rfl, h.lt, fun i hi => by rw [Nat.zero_add]; exact h.cell hi⟩
end
/-- The numbers of the first k places, noughts behind. -/
def fillK (f : Nat → Int) (n k : Nat) : List Int := (List.range n).map fun i => if i < k then f i else 0
theorem fillK_length (f : Nat → Int) (n k : Nat) : (fillK f n k).length = n := by simp [fillK]
theorem fillK_0 (f : Nat → Int) (n : Nat) : fillK f n 0 = List.replicate n 0 := by
  apply List.ext_getElem <;> simp [fillK]
theorem fillK_n (f : Nat → Int) (n : Nat) : fillK f n n = (List.range n).map f := by
  apply List.map_congr_left
  intro i hi
  rw [if_pos (List.mem_range.1 hi)]
theorem fillK_succ (f : Nat → Int) (n k : Nat) (h : k < n) : (fillK f n k).set k (f k) = fillK f n (k + 1) := by
  apply List.ext_getElem
  · simp [fillK]
  · intro i h1 h2
    rw [List.getElem_set]
    simp only [fillK, List.getElem_map, List.getElem_range]
    by_cases hik : k = i
    · subst hik; simp
    · rw [if_neg hik]
      by_cases hlt : i < k
      · rw [if_pos hlt, if_pos (by omega)]
      · rw [if_neg hlt, if_neg (by omega)]

set_option maxHeartbeats 4000000 in
theorem made_two (p1 p2 p3 : Value) (A : Option Addr) (c : Nat) (d : List Int) (f : Nat → Int) (n : Nat) (w : World) (hd : d.length ≤ 100) (id : Ints w A d) (hR : rightB d = true) (hn : sizeI d = n)
    (hf : ∀ i, i < n → ∀ W, Below w.heap.size w W → Calls Tryd.prog 24 #[.int .i64 (i : Int), p1, p2, p3] W fun r W' => r = .returned (.int .i64 (f i)) ∧ Below W.heap.size W W') :
    Calls Tryd.prog 23 #[.slice A d.length c, .func (.func 24) #[] #[p1, p2, p3]] w (RetC1 w d ((List.range n).map f)) := by
  obtain ⟨h3, hall, h64⟩ := rightB_all hR
  have hn64 : n ≤ 64 := by have : sizeI d = prod d := sizeI_mk h3 hall h64; omega
  have hz := fun W iW => zero_m A c d W hd iW hR
  rw [hn, Int.toNat_natCast] at hz
  have HZ := Lib.hid hz
  have HF := Lib.hid hf
  have B0 := Lib.hid (Box.new w (.slice none 0 0) (.slice none 0 0))
  have L0 := Lib.hid (show Below w.heap.size w (w.alloc (.cells #[.slice none 0 0, .slice none 0 0] 32)) from below_box (Below.refl _ _))
  have I0 := Lib.hid (id.below L0.out)
  clear hz hf hR hall h64 h3 hn id
  go_enter Tryd.func23, Tryd.ntmps23
  go_wp2_with fail
  refine (HZ.out _ I0.out).mono ?_
  rintro r w1 ⟨A1, c1, g, rfl, hm1, hr1, hg1, hb1⟩
  have L1 := Lib.hid (below_next L0.out hb1)
  have B1 := Lib.hid (B0.out.next hb1)
  have M1 := Lib.hid hm1
  have R1 := Lib.hid (show Row64 w1 g (List.replicate n 0) from hr1)
  have hgs : w.heap.size < g := by have : w.heap.size + 1 ≤ g := by simpa using hg1
                                   omega
  have hg1' : g < w1.heap.size := R1.out.lt
  clear hm1 hr1 hg1 hb1
  have B2 := Lib.hid (Box.new w1 (.slice A1 d.length c1) (.slice (some ⟨g, 0, none⟩) n n))
  have K2 := Lib.hid (show Below w1.heap.size w1 (w1.alloc (.cells #[.slice A1 d.length c1, .slice (some ⟨g, 0, none⟩) n n] 32)) from below_box (Below.refl _ _))

  go_wp2
  go_loopw [12] (fun j wr => ∃ k : Nat, k ≤ n ∧ j = .int .i64 (k : Int) ∧ (w1.alloc (.cells #[.slice A1 d.length c1, .slice (some ⟨g, 0, none⟩) n n] 32)).grownBy wr (some g) ∧ Row64 wr g (fillK f n k)) (fun j _ => n - (intOf j).toNat)
  case atStart => exact ⟨0, Nat.zero_le _, rfl, turned_refl _ _, by rw [fillK_0]; exact R1.out.alloc _⟩
  case round =>
    obtain ⟨k, hk, rfl, hgr, hrw⟩ := hrel
    have GR := Lib.hid hgr
    have RW := Lib.hid hrw
    have BB := Lib.hid (B2.out.grown hgr (fun e => by injection e with e; omega))
    have LB := Lib.hid (below_turned (below_next L1.out K2.out) hgr (Nat.le_of_lt hgs))
    clear hgr hrw
    by_cases hlt : k < n
    · have hfk := HF.out k hlt wr.drew LB.out.drew
      have HFK := Lib.hid hfk
      have q1 := BB.out.c1
      have i0 : (0 : Int) ≤ (k : Int) := by omega
      have i1 : (k : Int) < (n : Int) := by omega
      clear hfk
      go_wp2
      go_region_held3 (fun w' => w'.cell? ⟨w1.heap.size, 1, none⟩ = some (.slice (some ⟨g, 0, none⟩) n n))
        (first
          | go_keep
          | exact q1
          | exact keep1 hb2 (by go_keep)
          | exact (World.cell?_setCell_other _ _ _ _ (fun e => by injection e with e1; omega)).trans (keep1 hb2 q1))
        (first
          | (go_at_call 24; (with_reducible refine (HFK.out).mono ?_); rintro r w2 ⟨rfl, hb2⟩; have R2 := Lib.hid (RW.out.drew.next hb2); have f2 := R2.out.frozen k; have x2 := R2.out.cell (i := k) (by rw [fillK_length]; exact hlt); have G2 := Lib.hid (turned_below (turned_drew GR.out) hb2)))
      go_wp2
      go_roundw
      case rel => exact ⟨k + 1, by omega, by go_num, turned_set G2.out k _, by rw [← fillK_succ f n k hlt]; exact R2.out.set_ k _⟩
      case measure => simp [intOf]; omega
    · obtain rfl : k = n := by omega
      have B3 := Lib.hid ((B1.out.alloc (.cells #[.slice A1 d.length c1, .slice (some ⟨g, 0, none⟩) k k] 32)).grown GR.out (fun e => by injection e with e; omega))
      obtain ⟨s0, s1, _, _⟩ := BB.out.all
      obtain ⟨y0, y1, y2, y3⟩ := B3.out.all
      go_wp2
      have T := (B3.out.set0 (.slice A1 d.length c1)).set1 (.slice (some ⟨g, 0, none⟩) k k)
      obtain ⟨t0, t1, _, _⟩ := T.all
      refine bodyPost_ret (v := .agg #[.slice A1 d.length c1, .slice (some ⟨g, 0, none⟩) k k]) (by simp [results, Tryd.results23, go_sem, t0, t1]) rfl ?_
      have hrn := RW.out
      rw [fillK_n] at hrn
      have hl : ((List.range k).map f).length = k := by simp
      have m1 := mine_turned (M1.out.alloc (.cells #[.slice A1 d.length c1, .slice (some ⟨g, 0, none⟩) k k] 32)) (R1.out.alloc _) (by decide) GR.out
      have m2 := mine_block (base := g) hrn (Nat.le_refl _) (by rw [hl]; unfold maxLen; omega)
      have hic := isCell_of (base := w.heap.size) (m1.box (by simp) (.slice A1 d.length c1) (.slice (some ⟨g, 0, none⟩) k k)) (m2.box hgs (.slice A1 d.length c1) (.slice (some ⟨g, 0, none⟩) k k)) (by simp) (Nat.le_of_lt hgs)
      rw [hl] at hic
      exact ⟨_, rfl, hic, (LB.out.setCell (Nat.le_refl _) _).setCell (Nat.le_refl _) _⟩
set_option maxHeartbeats 4000000 in
theorem made_one (p1 p2 : Value) (A : Option Addr) (c : Nat) (d : List Int) (f : Nat → Int) (n : Nat) (w : World) (hd : d.length ≤ 100) (id : Ints w A d) (hR : rightB d = true) (hn : sizeI d = n)
    (hf : ∀ i, i < n → ∀ W, Below w.heap.size w W → Calls Tryd.prog 32 #[.int .i64 (i : Int), p1, p2] W fun r W' => r = .returned (.int .i64 (f i)) ∧ Below W.heap.size W W') :
    Calls Tryd.prog 23 #[.slice A d.length c, .func (.func 32) #[] #[p1, p2]] w (RetC1 w d ((List.range n).map f)) := by
  obtain ⟨h3, hall, h64⟩ := rightB_all hR
  have hn64 : n ≤ 64 := by have : sizeI d = prod d := sizeI_mk h3 hall h64; omega
  have hz := fun W iW => zero_m A c d W hd iW hR
  rw [hn, Int.toNat_natCast] at hz
  have HZ := Lib.hid hz
  have HF := Lib.hid hf
  have B0 := Lib.hid (Box.new w (.slice none 0 0) (.slice none 0 0))
  have L0 := Lib.hid (show Below w.heap.size w (w.alloc (.cells #[.slice none 0 0, .slice none 0 0] 32)) from below_box (Below.refl _ _))
  have I0 := Lib.hid (id.below L0.out)
  clear hz hf hR hall h64 h3 hn id
  go_enter Tryd.func23, Tryd.ntmps23
  go_wp2_with fail
  refine (HZ.out _ I0.out).mono ?_
  rintro r w1 ⟨A1, c1, g, rfl, hm1, hr1, hg1, hb1⟩
  have L1 := Lib.hid (below_next L0.out hb1)
  have B1 := Lib.hid (B0.out.next hb1)
  have M1 := Lib.hid hm1
  have R1 := Lib.hid (show Row64 w1 g (List.replicate n 0) from hr1)
  have hgs : w.heap.size < g := by have : w.heap.size + 1 ≤ g := by simpa using hg1
                                   omega
  have hg1' : g < w1.heap.size := R1.out.lt
  clear hm1 hr1 hg1 hb1
  have B2 := Lib.hid (Box.new w1 (.slice A1 d.length c1) (.slice (some ⟨g, 0, none⟩) n n))
  have K2 := Lib.hid (show Below w1.heap.size w1 (w1.alloc (.cells #[.slice A1 d.length c1, .slice (some ⟨g, 0, none⟩) n n] 32)) from below_box (Below.refl _ _))

  go_wp2
  go_loopw [12] (fun j wr => ∃ k : Nat, k ≤ n ∧ j = .int .i64 (k : Int) ∧ (w1.alloc (.cells #[.slice A1 d.length c1, .slice (some ⟨g, 0, none⟩) n n] 32)).grownBy wr (some g) ∧ Row64 wr g (fillK f n k)) (fun j _ => n - (intOf j).toNat)
  case atStart => exact ⟨0, Nat.zero_le _, rfl, turned_refl _ _, by rw [fillK_0]; exact R1.out.alloc _⟩
  case round =>
    obtain ⟨k, hk, rfl, hgr, hrw⟩ := hrel
    have GR := Lib.hid hgr
    have RW := Lib.hid hrw
    have BB := Lib.hid (B2.out.grown hgr (fun e => by injection e with e; omega))
    have LB := Lib.hid (below_turned (below_next L1.out K2.out) hgr (Nat.le_of_lt hgs))
    clear hgr hrw
    by_cases hlt : k < n
    · have hfk := HF.out k hlt wr.drew LB.out.drew
      have HFK := Lib.hid hfk
      have q1 := BB.out.c1
      have i0 : (0 : Int) ≤ (k : Int) := by omega
      have i1 : (k : Int) < (n : Int) := by omega
      clear hfk
      go_wp2
      go_region_held3 (fun w' => w'.cell? ⟨w1.heap.size, 1, none⟩ = some (.slice (some ⟨g, 0, none⟩) n n))
        (first
          | go_keep
          | exact q1
          | exact keep1 hb2 (by go_keep)
          | exact (World.cell?_setCell_other _ _ _ _ (fun e => by injection e with e1; omega)).trans (keep1 hb2 q1))
        (first
          | (go_at_call 32; (with_reducible refine (HFK.out).mono ?_); rintro r w2 ⟨rfl, hb2⟩; have R2 := Lib.hid (RW.out.drew.next hb2); have f2 := R2.out.frozen k; have x2 := R2.out.cell (i := k) (by rw [fillK_length]; exact hlt); have G2 := Lib.hid (turned_below (turned_drew GR.out) hb2)))
      go_wp2
      go_roundw
      case rel => exact ⟨k + 1, by omega, by go_num, turned_set G2.out k _, by rw [← fillK_succ f n k hlt]; exact R2.out.set_ k _⟩
      case measure => simp [intOf]; omega
    · obtain rfl : k = n := by omega
      have B3 := Lib.hid ((B1.out.alloc (.cells #[.slice A1 d.length c1, .slice (some ⟨g, 0, none⟩) k k] 32)).grown GR.out (fun e => by injection e with e; omega))
      obtain ⟨s0, s1, _, _⟩ := BB.out.all
      obtain ⟨y0, y1, y2, y3⟩ := B3.out.all
      go_wp2
      have T := (B3.out.set0 (.slice A1 d.length c1)).set1 (.slice (some ⟨g, 0, none⟩) k k)
      obtain ⟨t0, t1, _, _⟩ := T.all
      refine bodyPost_ret (v := .agg #[.slice A1 d.length c1, .slice (some ⟨g, 0, none⟩) k k]) (by simp [results, Tryd.results23, go_sem, t0, t1]) rfl ?_
      have hrn := RW.out
      rw [fillK_n] at hrn
      have hl : ((List.range k).map f).length = k := by simp
      have m1 := mine_turned (M1.out.alloc (.cells #[.slice A1 d.length c1, .slice (some ⟨g, 0, none⟩) k k] 32)) (R1.out.alloc _) (by decide) GR.out
      have m2 := mine_block (base := g) hrn (Nat.le_refl _) (by rw [hl]; unfold maxLen; omega)
      have hic := isCell_of (base := w.heap.size) (m1.box (by simp) (.slice A1 d.length c1) (.slice (some ⟨g, 0, none⟩) k k)) (m2.box hgs (.slice A1 d.length c1) (.slice (some ⟨g, 0, none⟩) k k)) (by simp) (Nat.le_of_lt hgs)
      rw [hl] at hic
      exact ⟨_, rfl, hic, (LB.out.setCell (Nat.le_refl _) _).setCell (Nat.le_refl _) _⟩
end Go.Proofs.YthabimjmdnhomaaDoor.Sh
