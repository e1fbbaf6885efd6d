/-
  What cell.Of, cell.List, cell.Zero, cell.Scalar, riffleref03.Zero and riffleref03.Scalar answer for any axes and numbers; nothing that was there is written. Condition: at most 100 axes and 1000 numbers.
-/
import Derived.Test.YthabimjmdnhomaaCellCut
namespace Go.Proofs.Ythabimjmdnhomaa.Sh
open Go.RowKit
set_option linter.unusedVariables false

/-- A slice of numbers, nil let in, in blocks from base on. -/
def Fr (w : World) (base : Nat) (A : Option Addr) (l : List Int) : Prop :=
  0 < l.length → ∃ b off, A = some ⟨b, off, none⟩ ∧ base ≤ b ∧ b < w.heap.size ∧ ∀ i, i < l.length → w.cell? ⟨b, off + i, none⟩ = some (.int .i64 (l.getD i 0))
section
variable {w w' : World} {base : Nat} {A : Option Addr} {l : List Int}
theorem Fr.ints (h : Fr w base A l) : Ints w A l := fun hp => by obtain ⟨b, off, e, _, h1, h2⟩ := h hp; exact ⟨b, off, e, h1, h2⟩
theorem Fr.nil (w : World) (base : Nat) (A : Option Addr) : Fr w base A [] := fun h => absurd h (by simp)
theorem Fr.below (h : Fr w base A l) (hb : Below w.heap.size w w') : Fr w' base A l := fun hp => by
  obtain ⟨b, off, e, hle, hlt, hc⟩ := h hp
  exact ⟨b, off, e, hle, Nat.lt_of_lt_of_le hlt hb.size, fun i hi => (hb.cell (p := ⟨b, off + i, none⟩) hlt).trans (hc i hi)⟩
theorem Fr.mono {b' : Nat} (h : Fr w base A l) (hb : b' ≤ base) : Fr w b' A l := fun hp => by
  obtain ⟨b, off, e, hle, hlt, hc⟩ := h hp
  exact ⟨b, off, e, by omega, hlt, hc⟩
theorem Fr.set_ (h : Fr w base A l) {p : Addr} (hp : p.block < base) (u : Value) : Fr (w.setCell p u) base A l := fun hl => by
  obtain ⟨b, off, e, hle, hlt, hc⟩ := h hl
  exact ⟨b, off, e, hle, by simpa [World.setCell] using hlt, fun i hi => (World.cell?_setCell_other w p ⟨b, off + i, none⟩ u (fun e => by rw [e] at hp; simp at hp; omega)).trans (hc i hi)⟩
theorem Fr.alloc (h : Fr w base A l) (o : Obj) : Fr (w.alloc o) base A l := h.below ((Below.refl _ w).alloc (Nat.le_refl _) _)
end
theorem MineT.fr {t : TypeId} {base : Nat} {A : Option Addr} {w : World} {n c : Nat} {xs : List Int} (h : MineT t w base (.slice A n c) xs) : Fr w base A xs := fun hp => by
  obtain ⟨A', c', e, hi⟩ := h.ints
  injection e with e1
  subst e1
  obtain ⟨b, off, e2, h1, h2⟩ := hi hp
  subst e2
  exact ⟨b, off, rfl, h.block b rfl, h1, h2⟩

/-- A cell of these axes and numbers lies behind two slices, in blocks from base on. -/
def IsCell (w : World) (base : Nat) (d v : List Int) (x : Value) : Prop := ∃ A c B c2, x = .agg #[.slice A d.length c, .slice B v.length c2] ∧ Fr w base A d ∧ Fr w base B v ∧ v.length ≤ c2 ∧ c2 ≤ maxLen
section
variable {w w' : World} {base : Nat} {d v : List Int} {x : Value}
theorem IsCell.below (h : IsCell w base d v x) (hb : Below w.heap.size w w') : IsCell w' base d v x := by
  obtain ⟨A, c, B, c2, e, h1, h2, h3⟩ := h
  exact ⟨A, c, B, c2, e, h1.below hb, h2.below hb, h3⟩
theorem IsCell.mono {b' : Nat} (h : IsCell w base d v x) (hb : b' ≤ base) : IsCell w b' d v x := by
  obtain ⟨A, c, B, c2, e, h1, h2, h3⟩ := h
  exact ⟨A, c, B, c2, e, h1.mono hb, h2.mono hb, h3⟩
theorem IsCell.set2 (h : IsCell w base d v x) {g : Nat} (hg : g < base) (y z : Value) : IsCell ((w.setCell ⟨g, 0, none⟩ y).setCell ⟨g, 1, none⟩ z) base d v x := by
  obtain ⟨A, c, B, c2, e, h1, h2, h3⟩ := h
  exact ⟨A, c, B, c2, e, (h1.set_ (p := ⟨g, 0, none⟩) hg y).set_ (p := ⟨g, 1, none⟩) hg z, (h2.set_ (p := ⟨g, 0, none⟩) hg y).set_ (p := ⟨g, 1, none⟩) hg z, h3⟩
theorem IsCell.none (w : World) (base : Nat) : IsCell w base [] [] (.agg #[.slice none 0 0, .slice none 0 0]) := ⟨.none, 0, .none, 0, rfl, Fr.nil _ _ _, Fr.nil _ _ _, by simp, by simp⟩
theorem isCell_of {t t' : TypeId} {b b' : Nat} {A B : Option Addr} {c c2 : Nat} (h : MineT t w b (.slice A d.length c) d) (h' : MineT t' w b' (.slice B v.length c2) v) (hb : base ≤ b) (hb' : base ≤ b') : IsCell w base d v (.agg #[.slice A d.length c, .slice B v.length c2]) :=
  ⟨A, c, B, c2, rfl, h.fr.mono hb, h'.fr.mono hb', h'.cap.1, h'.cap.2⟩
end
/-- A cell and another answer. -/
def RetC (w : World) (d v : List Int) (y : Value) (e : Ending) (w' : World) : Prop := ∃ x, e = .returned (.tuple #[x, y]) ∧ IsCell w' w.heap.size d v x ∧ Below w.heap.size w w'
/-- A cell alone. -/
def RetC1 (w : World) (d v : List Int) (e : Ending) (w' : World) : Prop := ∃ x, e = .returned x ∧ IsCell w' w.heap.size d v x ∧ Below w.heap.size w w'

/-- Block g is the box of a cell, with these two slices. -/
def Box (w : World) (g : Nat) (x y : Value) : Prop := w.heap[g]? = some (.cells #[x, y] 25 (0, 0))
section
variable {w w' : World} {g : Nat} {x y : Value}
theorem Box.lt (h : Box w g x y) : g < w.heap.size := by
  rcases Nat.lt_or_ge g w.heap.size with hlt | hge
  · exact hlt
  · unfold Box at h; rw [Array.getElem?_eq_none hge] at h; cases h
theorem Box.new (w : World) (x y : Value) : Box (w.alloc (.cells #[x, y] 25)) w.heap.size x y := heap_alloc_new w _
theorem Box.c0 (h : Box w g x y) : w.cell? ⟨g, 0, none⟩ = some x := by rw [cell_of_row w g 0 _ _ _ h]; rfl
theorem Box.c1 (h : Box w g x y) : w.cell? ⟨g, 1, none⟩ = some y := by rw [cell_of_row w g 1 _ _ _ h]; rfl
theorem Box.f (h : Box w g x y) (i : Nat) : w.frozen? ⟨g, i, none⟩ = false := by unfold Box at h; simp [World.frozen?, h]
theorem Box.all (h : Box w g x y) : w.cell? ⟨g, 0, none⟩ = some x ∧ w.cell? ⟨g, 1, none⟩ = some y ∧ w.frozen? ⟨g, 0, none⟩ = false ∧ w.frozen? ⟨g, 1, none⟩ = false := ⟨h.c0, h.c1, h.f 0, h.f 1⟩
theorem Box.drewN (h : Box w g x y) (n : Nat) : Box (w.drewN n) g x y := h
theorem Box.drew (h : Box w g x y) : Box w.drew g x y := h
theorem Box.alloc (h : Box w g x y) (o : Obj) : Box (w.alloc o) g x y := (Below.heap_alloc w o g h.lt).trans h
theorem Box.below {B : Nat} (h : Box w g x y) (hb : Below B w w') (hg : g < B) : Box w' g x y := (hb.block g hg).trans h
theorem Box.next (h : Box w g x y) (hb : Below w.heap.size w w') : Box w' g x y := h.below hb h.lt
theorem Box.far (h : Box w g x y) {p : Addr} (hp : g ≠ p.block) (u : Value) : Box (w.setCell p u) g x y := (Below.heap_setCell w p u g hp).trans h
theorem Box.set0 (h : Box w g x y) (u : Value) : Box (w.setCell ⟨g, 0, none⟩ u) g u y := by
  unfold Box at h ⊢
  simp [World.setCell, Array.getElem?_modify, h]
theorem Box.set1 (h : Box w g x y) (u : Value) : Box (w.setCell ⟨g, 1, none⟩ u) g x u := by
  unfold Box at h ⊢
  simp [World.setCell, Array.getElem?_modify, h]
theorem Box.grown {row : Option Nat} (h : Box w g x y) (hb : w.grownBy w' row) (hg : some g ≠ row) : Box w' g x y := (hb.block g h.lt hg).trans h
end

theorem MineT.ints' {t : TypeId} {base : Nat} {A : Option Addr} {w : World} {n c : Nat} {xs : List Int} (h : MineT t w base (.slice A n c) xs) : Ints w A xs := by
  obtain ⟨A', c', e, hi⟩ := h.ints
  injection e with e1
  rw [e1]; exact hi
theorem MineT.box {t : TypeId} {base : Nat} {w : World} {v : Value} {xs : List Int} {g : Nat} (h : MineT t w base v xs) (hg : g < base) (x y : Value) : MineT t ((w.setCell ⟨g, 0, none⟩ x).setCell ⟨g, 1, none⟩ y) base v xs := by
  have hp : v.ownBlock ≠ some g := fun e => by have := h.block g e; omega
  exact (h.setCell (p := ⟨g, 0, none⟩) hp x).setCell (p := ⟨g, 1, none⟩) hp y
theorem MineT.made (t : TypeId) (w : World) (n base : Nat) (hb : base ≤ w.heap.size) (hl : n ≤ maxLen) : MineT t (w.alloc (.cells (madeCells #[Value.int .i64 0] n) t)) base (.slice (some ⟨w.heap.size, 0, none⟩) n n) (List.replicate n 0) := by
  have := MineT.new t w (List.replicate n 0) base hb (by simpa using hl)
  rw [cells_made]
  simpa using this

/-- What Of answers. -/
def ofE (d : List Int) (n : Nat) : Int := if rightB d = true then (if (n : Int) = sizeI d then 0 else 3) else 1
def ofD (d : List Int) (n : Nat) : List Int := if ofE d n = 0 then d else []
def ofV (d v : List Int) : List Int := if ofE d v.length = 0 then v else []
theorem of_arg {d v : List Int} (h : rightB d = false) : ofE d v.length = 1 ∧ ofD d v.length = [] ∧ ofV d v = [] := by simp [ofE, ofD, ofV, h]
theorem of_len {d v : List Int} (h : rightB d = true) (hn : ¬ (v.length : Int) = sizeI d) : ofE d v.length = 3 ∧ ofD d v.length = [] ∧ ofV d v = [] := by simp [ofE, ofD, ofV, h, hn]
theorem of_ok {d v : List Int} (h : rightB d = true) (hn : (v.length : Int) = sizeI d) : ofE d v.length = 0 ∧ ofD d v.length = d ∧ ofV d v = v := by simp [ofE, ofD, ofV, h, hn]

set_option maxHeartbeats 1000000 in
theorem of_any (A : Option Addr) (c : Nat) (d : List Int) (B : Option Addr) (c2 : Nat) (v : List Int) (w : World) (hd : d.length ≤ 100) (hv : v.length ≤ 1000) (id : Ints w A d) (iv : Ints w B v) :
    Calls Try.prog 54 #[.slice A d.length c, .slice B v.length c2] w (RetC w (ofD d v.length) (ofV d v) (.int .i64 (ofE d v.length))) := by
  have hb0 : Below w.heap.size w (w.alloc (.cells #[.slice none 0 0, .slice none 0 0] 25)) := (Below.refl _ w).alloc (Nat.le_refl _) _
  have ID := Lib.hid (id.below hb0)
  have IV := Lib.hid iv
  have ID0 := Lib.hid id
  have HS := Lib.hid (Box.new w (.slice none 0 0) (.slice none 0 0))
  clear hb0 id iv
  by_cases hR : rightB d = true
  · have HR := Lib.hid hR
    by_cases hn : (v.length : Int) = sizeI d
    · obtain ⟨e1, e2, e3⟩ := of_ok hR hn
      rw [e1, e2, e3]
      have hne : ((v.length : Int) != sizeI d) = false := by simp [hn]
      clear e1 e2 e3 hR hn
      go_enter Try.func54, Try.ntmps54
      go_wp2_with fail
      refine (right_yes _ _ d _ HR.out (by unfold maxLen; omega) ID.out).mono ?_
      rintro r w1 ⟨rfl, hb1⟩
      have S1 := Lib.hid (HS.out.next hb1)
      have H1 := Lib.hid (below_box hb1)
      have I1 := Lib.hid (ID0.out.below H1.out)
      clear hb1
      go_wp2_with fail
      refine (size_any _ _ d _ (by unfold maxLen; omega) I1.out).mono ?_
      rintro r w2 ⟨rfl, hb2⟩
      have S2 := Lib.hid (S1.out.next hb2)
      have H2 := Lib.hid (below_next H1.out hb2)
      have I2 := Lib.hid (ID0.out.below H2.out)
      clear hb2
      go_wp2_with fail
      refine (clone_t _ _ d _ hd I2.out).mono ?_
      rintro r w3 ⟨A3, c3, rfl, hm3, hb3⟩
      have S3 := Lib.hid (S2.out.next hb3)
      have H3 := Lib.hid (below_next H2.out hb3)
      have I3 := Lib.hid (IV.out.below H3.out)
      have M3 := Lib.hid hm3
      clear hb3 hm3
      go_wp2_with fail
      refine (clone64_any _ _ v _ hv I3.out).mono ?_
      rintro r w4 ⟨A4, c4, rfl, hm4, hb4⟩
      have S4 := Lib.hid (S3.out.next hb4)
      have H4 := Lib.hid (below_next H3.out hb4)
      have M4 := Lib.hid hm4
      have M3' := Lib.hid (M3.out.below hb4 (Nat.le_refl _))
      clear hb4 hm4
      obtain ⟨s0, s1, s2, s3⟩ := S4.out.all
      go_wp2
      have T := (S4.out.set0 (.slice A3 d.length c3)).set1 (.slice A4 v.length c4)
      obtain ⟨t0, t1, _, _⟩ := T.all
      refine bodyPost_ret (v := .tuple #[.agg #[.slice A3 d.length c3, .slice A4 v.length c4], .int .i64 0]) (by simp [results, Try.results54, go_sem, t0, t1]) rfl ?_
      have hg2 := S2.out.lt
      have hg3 := S3.out.lt
      exact ⟨_, rfl, isCell_of (M3'.out.box hg2 _ _) (M4.out.box hg3 _ _) H2.out.size H3.out.size, (H4.out.setCell (Nat.le_refl _) _).setCell (Nat.le_refl _) _⟩
    · obtain ⟨e1, e2, e3⟩ := of_len hR hn
      rw [e1, e2, e3]
      have hne : ((v.length : Int) != sizeI d) = true := by simpa using hn
      clear e1 e2 e3 hR hn
      go_enter Try.func54, Try.ntmps54
      go_wp2_with fail
      refine (right_yes _ _ d _ HR.out (by unfold maxLen; omega) ID.out).mono ?_
      rintro r w1 ⟨rfl, hb1⟩
      have S1 := Lib.hid (HS.out.next hb1)
      have H1 := Lib.hid (below_box hb1)
      have I1 := Lib.hid (ID0.out.below H1.out)
      clear hb1
      go_wp2_with fail
      refine (size_any _ _ d _ (by unfold maxLen; omega) I1.out).mono ?_
      rintro r w2 ⟨rfl, hb2⟩
      have S2 := Lib.hid (S1.out.next hb2)
      have H2 := Lib.hid (below_next H1.out hb2)
      clear hb2
      obtain ⟨s0, s1, s2, s3⟩ := S2.out.all
      go_wp2
      have T := (S2.out.set0 (.slice none 0 0)).set1 (.slice none 0 0)
      obtain ⟨t0, t1, _, _⟩ := T.all
      refine bodyPost_ret (v := .tuple #[.agg #[.slice none 0 0, .slice none 0 0], .int .i64 3]) (by simp [results, Try.results54, go_sem, t0, t1]) rfl ?_
      exact ⟨_, rfl, IsCell.none _ _, (H2.out.setCell (Nat.le_refl _) _).setCell (Nat.le_refl _) _⟩
  · have HR := Lib.hid (show rightB d = false by simpa using hR)
    obtain ⟨e1, e2, e3⟩ := of_arg (v := v) HR.out
    rw [e1, e2, e3]
    clear e1 e2 e3 hR
    go_enter Try.func54, Try.ntmps54
    go_wp2_with fail
    refine (right_no _ _ d _ HR.out (by unfold maxLen; omega) ID.out).mono ?_
    rintro r w1 ⟨rfl, hb1⟩
    obtain ⟨s0, s1, s2, s3⟩ := (HS.out.next hb1).all
    have S1 := Lib.hid (HS.out.next hb1)
    have H1 := Lib.hid (below_box hb1)
    clear hb1
    go_wp2
    have T := (S1.out.set0 (.slice none 0 0)).set1 (.slice none 0 0)
    obtain ⟨t0, t1, _, _⟩ := T.all
    refine bodyPost_ret (v := .tuple #[.agg #[.slice none 0 0, .slice none 0 0], .int .i64 1]) (by simp [results, Try.results54, go_sem, t0, t1]) rfl ?_
    exact ⟨_, rfl, IsCell.none _ _, (H1.out.setCell (Nat.le_refl _) _).setCell (Nat.le_refl _) _⟩

theorem list_right {n : Nat} (h : n ≤ 64) : rightB [(n : Int)] = true ∧ ((n : Nat) : Int) = sizeI [(n : Int)] := by
  have h1 : rightB [(n : Int)] = true := by simp [rightB, okAx, prod]; omega
  exact ⟨h1, by simp [sizeI, h1, prod]⟩

set_option maxHeartbeats 1000000 in
theorem list_ok (B : Option Addr) (c2 : Nat) (v : List Int) (w : World) (hv : v.length ≤ 64) (iv : Ints w B v) :
    Calls Try.prog 26 #[.slice B v.length c2] w (RetC w [(v.length : Int)] v (.int .i64 0)) := by
  have hof := fun W A c h1 h2 => of_any A c [(v.length : Int)] B c2 v W (by simp) (by omega) h1 h2
  obtain ⟨e1, e2, e3⟩ := of_ok (v := v) (list_right hv).1 (list_right hv).2
  rw [e1, e2, e3] at hof
  have HO := Lib.hid hof
  have HS := Lib.hid (Box.new w (.slice none 0 0) (.slice none 0 0))
  have IV := Lib.hid iv
  clear hof e1 e2 e3 iv
  go_enter Try.func26, Try.ntmps26
  go_wp2_with fail
  have hn := Own.new (w.alloc (.cells #[.slice none 0 0, .slice none 0 0] 25)) [(v.length : Int)]
  rw [show (w.alloc (.cells #[.slice none 0 0, .slice none 0 0] 25)).heap.size = w.heap.size + 1 from by simp] at hn
  refine (HO.out _ _ _ hn.ints (IV.out.below (below_box (below_box (Below.refl _ _))))).mono ?_
  rintro r w1 ⟨x, rfl, ⟨A1, c1, B1, c3, rfl, j1, j2, j3⟩, hb1⟩
  have S1 := Lib.hid ((HS.out.alloc _).next hb1)
  have H1 := Lib.hid (below_box (below_box hb1))
  have J1 := Lib.hid j1
  have J2 := Lib.hid j2
  have J3 := Lib.hid j3
  clear hb1 j1 j2 j3 hn
  obtain ⟨s0, s1, s2, s3⟩ := S1.out.all
  go_wp2
  have T := (S1.out.set0 (.slice A1 1 c1)).set1 (.slice B1 v.length c3)
  obtain ⟨t0, t1, _, _⟩ := T.all
  refine bodyPost_ret (v := .tuple #[.agg #[.slice A1 1 c1, .slice B1 v.length c3], .int .i64 0]) (by simp [results, Try.results26, go_sem, t0, t1]) rfl ?_
  have hc : IsCell w1 (w.heap.size + 1) [(v.length : Int)] v (.agg #[.slice A1 1 c1, .slice B1 v.length c3]) := ⟨A1, c1, B1, c3, rfl, J1.out.mono (by simp), J2.out.mono (by simp), J3.out⟩
  exact ⟨_, rfl, (hc.set2 (Nat.lt_succ_self _) _ _).mono (Nat.le_succ _), (H1.out.setCell (Nat.le_refl _) _).setCell (Nat.le_refl _) _⟩

set_option maxHeartbeats 1000000 in
theorem list_big (B : Option Addr) (c2 : Nat) (n : Nat) (w : World) (hv : 64 < n) :
    Calls Try.prog 26 #[.slice B n c2] w (RetC w [] [] (.int .i64 4)) := by
  have HS := Lib.hid (Box.new w (.slice none 0 0) (.slice none 0 0))
  go_enter Try.func26, Try.ntmps26
  go_wp2
  obtain ⟨t0, t1, _, _⟩ := HS.out.all
  refine bodyPost_ret (v := .tuple #[.agg #[.slice none 0 0, .slice none 0 0], .int .i64 4]) (by simp [results, Try.results26, go_sem]) rfl ?_
  exact ⟨_, rfl, IsCell.none _ _, (Below.refl _ _).alloc (Nat.le_refl _) _⟩

set_option maxHeartbeats 1000000 in
theorem scalar_any (n : Int) (w : World) :
    Calls Try.prog 28 #[.int .i64 n] w (RetC1 w [] [n]) := by
  go_enter Try.func28, Try.ntmps28
  go_wp2
  refine bodyPost_ret (v := .agg #[.slice none 0 0, .slice (some ⟨w.heap.size + 1, 0, none⟩) 1 1]) (by simp [results, Try.results28, go_sem]) rfl ?_
  have hm := MineT.new 2 (w.alloc (.cells #[.slice none 0 0, .slice (some ⟨w.heap.size + 1, 0, none⟩) 1 1] 25)) [n] w.heap.size (by simp) (by unfold maxLen; simp)
  rw [show (w.alloc (.cells #[.slice none 0 0, .slice (some ⟨w.heap.size + 1, 0, none⟩) 1 1] 25)).heap.size = w.heap.size + 1 from by simp] at hm
  exact ⟨_, rfl, ⟨none, 0, _, 1, rfl, Fr.nil _ _ _, hm.fr, by simp, by unfold maxLen; simp⟩, ((Below.refl _ _).alloc (Nat.le_refl _) _).alloc (by simp) _⟩

set_option maxHeartbeats 1000000 in
theorem rscalar_any (n : Int) (w : World) :
    Calls Try.prog 30 #[.int .i64 n] w (RetC1 w [] [n]) := by
  go_enter Try.func30, Try.ntmps30
  go_wp2
  refine bodyPost_ret (v := .agg #[.slice none 0 0, .slice (some ⟨w.heap.size + 1, 0, none⟩) 1 1]) (by simp [results, Try.results30, go_sem]) rfl ?_
  have hm := MineT.new 2 (w.alloc (.cells #[.slice none 0 0, .slice (some ⟨w.heap.size + 1, 0, none⟩) 1 1] 25)) [n] w.heap.size (by simp) (by unfold maxLen; simp)
  rw [show (w.alloc (.cells #[.slice none 0 0, .slice (some ⟨w.heap.size + 1, 0, none⟩) 1 1] 25)).heap.size = w.heap.size + 1 from by simp] at hm
  exact ⟨_, rfl, ⟨none, 0, _, 1, rfl, Fr.nil _ _ _, hm.fr, by simp, by unfold maxLen; simp⟩, ((Below.refl _ _).alloc (Nat.le_refl _) _).alloc (by simp) _⟩

/-- What Zero answers. -/
def zeroD (d : List Int) : List Int := if rightB d = true then d else []
def zeroV (d : List Int) : List Int := List.replicate (sizeI d).toNat 0

set_option maxHeartbeats 1000000 in
theorem zero_any (A : Option Addr) (c : Nat) (d : List Int) (w : World) (hd : d.length ≤ 100) (id : Ints w A d) :
    Calls Try.prog 32 #[.slice A d.length c] w (RetC1 w (zeroD d) (zeroV d)) := by
  have ID := Lib.hid (id.below (w' := w.alloc (.cells #[.slice none 0 0, .slice none 0 0] 25)) (below_box (Below.refl _ _)))
  have ID0 := Lib.hid id
  have HS := Lib.hid (Box.new w (.slice none 0 0) (.slice none 0 0))
  clear id
  by_cases hR : rightB d = true
  · have HR := Lib.hid hR
    obtain ⟨h3, hall, h64⟩ := rightB_all hR
    have hp0 := (prod_bd d hall).1
    obtain ⟨n, hn⟩ : ∃ n : Nat, sizeI d = n := ⟨(prod d).toNat, by rw [sizeI_mk h3 hall h64]; omega⟩
    have hn64 : n ≤ 64 := by have : sizeI d = prod d := sizeI_mk h3 hall h64; omega
    have hz : zeroD d = d ∧ zeroV d = List.replicate n 0 := by simp [zeroD, zeroV, hR, hn]
    rw [hz.1, hz.2]
    have HN := Lib.hid hn
    clear hR hall hz hn hp0 h64 h3
    have hmk := fun W => run_make_row' (P := Try.prog) 23 2 (.int .i64 0) 8 Try.underlying23 numL rfl .i64 .i64 n (by omega) (by omega) W
    go_enter Try.func32, Try.ntmps32
    go_wp2_with fail
    refine (right_yes _ _ d _ HR.out (by unfold maxLen; omega) ID.out).mono ?_
    rintro r w1 ⟨rfl, hb1⟩
    have S1 := Lib.hid (HS.out.next hb1)
    have H1 := Lib.hid (below_box hb1)
    have I1 := Lib.hid (ID0.out.below H1.out)
    clear hb1
    go_wp2_with fail
    refine (clone_t _ _ d _ hd I1.out).mono ?_
    rintro r w2 ⟨A2, c2, rfl, hm2, hb2⟩
    have S2 := Lib.hid (S1.out.next hb2)
    have H2 := Lib.hid (below_next H1.out hb2)
    have I2 := Lib.hid (ID0.out.below H2.out)
    have M2 := Lib.hid hm2
    clear hb2 hm2
    go_wp2_with fail
    refine (size_any _ _ d _ (by unfold maxLen; omega) I2.out).mono ?_
    rintro r w3 ⟨rfl, hb3⟩
    have S3 := Lib.hid (S2.out.next hb3)
    have H3 := Lib.hid (below_next H2.out hb3)
    have M3 := Lib.hid (M2.out.below hb3 (Nat.le_refl _))
    clear hb3
    rw [HN.out]
    have S4 := Lib.hid (S3.out.alloc (.cells (madeCells #[Value.int .i64 0] n) 2))
    obtain ⟨s0, s1, s2, s3⟩ := S4.out.all
    go_wp2
    have T := (S4.out.set0 (.slice A2 d.length c2)).set1 (.slice (some ⟨w3.heap.size, 0, none⟩) n n)
    obtain ⟨t0, t1, _, _⟩ := T.all
    refine bodyPost_ret (v := .agg #[.slice A2 d.length c2, .slice (some ⟨w3.heap.size, 0, none⟩) n n]) (by simp [results, Try.results32, go_sem, t0, t1]) rfl ?_
    have m3 := (M3.out.alloc (.cells (madeCells #[Value.int .i64 0] n) 2)).box S1.out.lt (.slice A2 d.length c2) (.slice (some ⟨w3.heap.size, 0, none⟩) n n)
    have m4 := (MineT.made 2 w3 n w3.heap.size (Nat.le_refl _) (by unfold maxLen; omega)).box S3.out.lt (.slice A2 d.length c2) (.slice (some ⟨w3.heap.size, 0, none⟩) n n)
    have hc := isCell_of (base := w.heap.size) (v := List.replicate n 0) (c2 := n) m3 (by rw [List.length_replicate]; exact m4) H1.out.size H3.out.size
    rw [List.length_replicate] at hc
    exact ⟨_, rfl, hc, (((H3.out.alloc H3.out.size _).setCell (Nat.le_refl _) _).setCell (Nat.le_refl _) _)⟩
  · have HR := Lib.hid (show rightB d = false by simpa using hR)
    have hz : zeroD d = [] ∧ zeroV d = [] := by simp [zeroD, zeroV, hR, sizeI]
    rw [hz.1, hz.2]
    clear hR hz
    go_enter Try.func32, Try.ntmps32
    go_wp2_with fail
    refine (right_no _ _ d _ HR.out (by unfold maxLen; omega) ID.out).mono ?_
    rintro r w1 ⟨rfl, hb1⟩
    have S1 := Lib.hid (HS.out.next hb1)
    have H1 := Lib.hid (below_box hb1)
    obtain ⟨s0, s1, s2, s3⟩ := S1.out.all
    clear hb1
    go_wp2
    have T := (S1.out.set0 (.slice none 0 0)).set1 (.slice none 0 0)
    obtain ⟨t0, t1, _, _⟩ := T.all
    refine bodyPost_ret (v := .agg #[.slice none 0 0, .slice none 0 0]) (by simp [results, Try.results32, go_sem, t0, t1]) rfl ?_
    exact ⟨_, rfl, IsCell.none _ _, (H1.out.setCell (Nat.le_refl _) _).setCell (Nat.le_refl _) _⟩

set_option maxHeartbeats 1000000 in
theorem rzero_any (A : Option Addr) (c : Nat) (d : List Int) (w : World) (hd : d.length ≤ 100) (id : Ints w A d) :
    Calls Try.prog 39 #[.slice A d.length c] w (RetC1 w (zeroD d) (zeroV d)) := by
  have ID := Lib.hid (id.below (w' := w.alloc (.cells #[.slice none 0 0, .slice none 0 0] 25)) (below_box (Below.refl _ _)))
  have ID0 := Lib.hid id
  have HS := Lib.hid (Box.new w (.slice none 0 0) (.slice none 0 0))
  clear id
  by_cases hR : rightB d = true
  · have HR := Lib.hid hR
    obtain ⟨h3, hall, h64⟩ := rightB_all hR
    have hp0 := (prod_bd d hall).1
    obtain ⟨n, hn⟩ : ∃ n : Nat, sizeI d = n := ⟨(prod d).toNat, by rw [sizeI_mk h3 hall h64]; omega⟩
    have hn64 : n ≤ 64 := by have : sizeI d = prod d := sizeI_mk h3 hall h64; omega
    have hz : zeroD d = d ∧ zeroV d = List.replicate n 0 := by simp [zeroD, zeroV, hR, hn]
    rw [hz.1, hz.2]
    have HN := Lib.hid hn
    clear hR hall hz hn hp0 h64 h3
    have hmk := fun W => run_make_row' (P := Try.prog) 23 2 (.int .i64 0) 8 Try.underlying23 numL rfl .i64 .i64 n (by omega) (by omega) W
    go_enter Try.func39, Try.ntmps39
    go_wp2_with fail
    refine (refRightB_yes _ _ d _ HR.out (by unfold maxLen; omega) ID.out).mono ?_
    rintro r w1 ⟨rfl, hb1⟩
    have S1 := Lib.hid (HS.out.next hb1)
    have H1 := Lib.hid (below_box hb1)
    have I1 := Lib.hid (ID0.out.below H1.out)
    clear hb1
    go_wp2_with (at_builtin; refine wpList_copyI numI Try.underlying22 rfl (.tmp 7) (.tmp 8) rfl rfl _ _ d rfl I1.out (by omega) ?_; intro A2 c2 w2 hm2 hb2)
    have S2 := Lib.hid (S1.out.next hb2)
    have H2 := Lib.hid (below_next H1.out hb2)
    have I2 := Lib.hid (ID0.out.below H2.out)
    have M2 := Lib.hid hm2
    clear hb2 hm2
    go_wp2_with fail
    refine (refSizeB _ _ d _ (by unfold maxLen; omega) I2.out).mono ?_
    rintro r w3 ⟨rfl, hb3⟩
    have S3 := Lib.hid (S2.out.next hb3)
    have H3 := Lib.hid (below_next H2.out hb3)
    have M3 := Lib.hid (M2.out.below hb3 (Nat.le_refl _))
    clear hb3
    rw [HN.out]
    have S4 := Lib.hid (S3.out.alloc (.cells (madeCells #[Value.int .i64 0] n) 2))
    obtain ⟨s0, s1, s2, s3⟩ := S4.out.all
    go_wp2
    have T := (S4.out.set0 (.slice A2 d.length c2)).set1 (.slice (some ⟨w3.heap.size, 0, none⟩) n n)
    obtain ⟨t0, t1, _, _⟩ := T.all
    refine bodyPost_ret (v := .agg #[.slice A2 d.length c2, .slice (some ⟨w3.heap.size, 0, none⟩) n n]) (by simp [results, Try.results39, go_sem, t0, t1]) rfl ?_
    have m3 := (M3.out.alloc (.cells (madeCells #[Value.int .i64 0] n) 2)).box S1.out.lt (.slice A2 d.length c2) (.slice (some ⟨w3.heap.size, 0, none⟩) n n)
    have m4 := (MineT.made 2 w3 n w3.heap.size (Nat.le_refl _) (by unfold maxLen; omega)).box S3.out.lt (.slice A2 d.length c2) (.slice (some ⟨w3.heap.size, 0, none⟩) n n)
    have hc := isCell_of (base := w.heap.size) (v := List.replicate n 0) (c2 := n) m3 (by rw [List.length_replicate]; exact m4) H1.out.size H3.out.size
    rw [List.length_replicate] at hc
    exact ⟨_, rfl, hc, (((H3.out.alloc H3.out.size _).setCell (Nat.le_refl _) _).setCell (Nat.le_refl _) _)⟩
  · have HR := Lib.hid (show rightB d = false by simpa using hR)
    have hz : zeroD d = [] ∧ zeroV d = [] := by simp [zeroD, zeroV, hR, sizeI]
    rw [hz.1, hz.2]
    clear hR hz
    go_enter Try.func39, Try.ntmps39
    go_wp2_with fail
    refine (refRightB_no _ _ d _ HR.out (by unfold maxLen; omega) ID.out).mono ?_
    rintro r w1 ⟨rfl, hb1⟩
    have S1 := Lib.hid (HS.out.next hb1)
    have H1 := Lib.hid (below_box hb1)
    obtain ⟨s0, s1, s2, s3⟩ := S1.out.all
    clear hb1
    go_wp2
    have T := (S1.out.set0 (.slice none 0 0)).set1 (.slice none 0 0)
    obtain ⟨t0, t1, _, _⟩ := T.all
    refine bodyPost_ret (v := .agg #[.slice none 0 0, .slice none 0 0]) (by simp [results, Try.results39, go_sem, t0, t1]) rfl ?_
    exact ⟨_, rfl, IsCell.none _ _, (H1.out.setCell (Nat.le_refl _) _).setCell (Nat.le_refl _) _⟩

end Go.Proofs.Ythabimjmdnhomaa.Sh
