/-
  What the parts of an outer product are, and contracts for the law on them. Conditions: the table of traits holds what its text lays; the numbers are int64.
-/
import Derived.Test.YtbanegjmapgkdaaDoorPrCard
import Derived.Test.YtbanegjmapgkdaaDoorPrOuterC
import Derived.Test.YtbanegjmapgkdaaDoorPrRefM
import Derived.Test.YtbanegjmapgkdaaDoorCellTells1
set_option maxRecDepth 100000
namespace Go.Proofs.YtbanegjmapgkdaaDoor.Pr
open Go.Proofs.YtbanegjmapgkdaaDoor.Sh Go.Proofs.YtbanegjmapgkdaaDoor.St
open Go.Proofs.YtbanegjmapgkdaaDoor.Fd
open Go.RowKit
set_option linter.unusedVariables false

theorem piece_flat (f : Int → Int → Int) (l u : List Int) {k : Nat} (hk : k < l.length) : piece (l.flatMap fun x => u.map fun y => f x y) k u.length = u.map fun y => f (l.getD k 0) y := by
  induction l generalizing k with
  | nil => simp at hk
  | cons x t ih =>
    unfold piece at *
    cases k with
    | zero =>
      simp
    | succ n =>
      have h := ih (k := n) (by simpa using hk)
      have e : ((u.map fun y => f x y) ++ t.flatMap fun x => u.map fun y => f x y).drop u.length = t.flatMap fun x => u.map fun y => f x y := List.drop_left' (by simp)
      rw [List.flatMap_cons, Nat.add_mul, Nat.one_mul, Nat.add_comm (n * u.length), ← List.drop_drop, e, h]
      simp [List.getD]
theorem piece_out (c : Int) (s : Bool) (l u : List Int) {k : Nat} (hk : k < l.length) : piece (outV c s l u) k u.length = u.map fun y => Sc.doI c s (l.getD k 0) y := piece_flat (Sc.doI c s) l u hk
theorem right_nil : rightB [] = true := by decide
theorem cellB_mk {d : List Int} {n : Nat} (h : rightB d = true) (hn : sizeI d = n) : cellB d n = true := by
  unfold cellB; rw [h, hn]; simp
theorem cell_sc (x : Int) : cellB [] ([x] : List Int).length = true := cellB_mk right_nil (by simp [sizeI, right_nil, prod_nil])
/-- One number with any cell. -/
theorem two_sc {c : Int} {s : Bool} {e u : List Int} (x : Int) (h2 : Sc.hasB c 2 = true) (h : cellB e u.length = true) : Sp.twoE c [] ([x] : List Int).length e u.length = 0 ∧ Sp.twoD c [] ([x] : List Int).length e u.length = e ∧ Sp.twoV c s [] [x] e u = u.map fun y => Sc.doI c s x y := by
  obtain ⟨h1, h3⟩ := cellB_parts h
  have f0 : Sh.fitE [] e = 0 := by unfold Sh.fitE; rw [if_pos ⟨right_nil, h1⟩, if_pos (.inl rfl)]
  have f1 : Sh.fitD [] e = e := by unfold Sh.fitD; rw [if_pos f0, if_pos List.length_nil]
  have e0 : Sp.twoE c [] ([x] : List Int).length e u.length = 0 := by unfold Sp.twoE; rw [if_pos ⟨cell_sc x, h⟩, if_pos h2, f0]
  refine ⟨e0, by unfold Sp.twoD; rw [if_pos e0, f1], ?_⟩
  unfold Sp.twoV
  rw [if_pos e0, f1, ← h3, Int.toNat_natCast]
  apply List.ext_getElem
  · simp
  · intro i h1 h2
    have hi : i < u.length := by simpa using h2
    have hu : 0 < u.length := by omega
    by_cases he : e.length = 0
    · obtain rfl := List.eq_nil_of_length_eq_zero he
      have : (u.length : Int) = 1 := by rw [(cellB_len h).1, prod_nil]
      have hi0 : i = 0 := by omega
      subst hi0
      simp [Sp.twoF, Sp.numA, List.getD, hu]
    · simp [Sp.twoF, Sp.numA, List.getD, hi, he]
/-- What the law wants of its outer product. -/
theorem out_parts {c : Int} {s : Bool} {l d' v' : List Int} (h : outE c s [(l.length : Int)] l.length d' v'.length = 0) : Sc.hasB c 2 = true ∧ cellB d' v'.length = true ∧ rightB ((l.length : Int) :: d') = true ∧ (outV c s l v').length = l.length * v'.length ∧ sizeI ((l.length : Int) :: d') = ((outV c s l v').length : Int) ∧ sizeI d' = (v'.length : Int) := by
  unfold outE at h
  split at h
  · rename_i h1
    obtain ⟨h2, h3, h4⟩ := pfit_cells h1
    split at h
    · rename_i h5
      obtain ⟨r2, p2, m2⟩ := cell_prod h3
      refine ⟨by simpa [hasAll] using h4, h3, h5, outV_len _ _ _ _, ?_, by simp [sizeI, r2, p2]⟩
      have e : sizeI ((l.length : Int) :: d') = prod ((l.length : Int) :: d') := by
        have h6 : rightB ((l.length : Int) :: d') = true := h5
        simp [sizeI, h6]
      rw [e, prod_cons, outV_len, ← p2, Int.natCast_mul]
    · cases h
  · rename_i h1
    exact absurd h h1
/-- A cell and an error are answered; there is room for the numbers. -/
def RetO (w : World) (D V : List Int) (E : Int) (e : Ending) (w' : World) : Prop := ∃ A c B k, e = .returned (.tuple #[.agg #[.slice A D.length c, .slice B V.length k], .int .i64 E]) ∧ Ints w' A D ∧ Ints w' B V ∧ (E = 0 → V.length ≤ k ∧ k ≤ maxLen) ∧ Below w.heap.size w w'
theorem outer_o (c : Int) (s : Bool) (A : Option Addr) (c1 : Nat) (d : List Int) (B : Option Addr) (c2 : Nat) (v : List Int) (A' : Option Addr) (c1' : Nat) (d' : List Int) (B' : Option Addr) (c2' : Nat) (v' : List Int) (w : World) (n : Nat) (hn : d.length = n) (m : Nat) (hm : v.length = m) (D V : List Int) (E : Int) (hE : outE c s d v.length d' v'.length = E) (hD : (if E = 0 then d ++ d' else []) = D) (hV : (if E = 0 then outV c s v v' else []) = V)
    (hT : Sc.Tab w) (id : Ints w A d) (id' : Ints w A' d') (hd : d.length ≤ 40) (hd' : d'.length ≤ 40) (rv : AllR v) (rv' : AllR v') (iv : Ints w B v) (iv' : Ints w B' v') :
    Calls Tryd.prog 15 #[.agg #[.int .i64 c, .bool s], .agg #[.slice A n c1, .slice B m c2], .agg #[.slice A' d'.length c1', .slice B' v'.length c2']] w (RetO w D V E) := by
  subst hn hm
  by_cases h0 : E = 0
  · rw [if_pos h0] at hD hV
    subst hD hV h0
    unfold outE at hE
    by_cases h : pfitE d v.length d' v'.length [(c, s)] = 0
    · rw [if_pos h] at hE
      obtain ⟨h1, h2, h3⟩ := pfit_cells h
      obtain ⟨r1, p1, m1⟩ := cell_prod h1
      obtain ⟨r2, p2, m2⟩ := cell_prod h2
      by_cases hR : rightB (d ++ d') = true
      · have key := outer_0c c s A c1 d B c2 v A' c1' d' B' c2' v' w hT id id' (by omega) (by omega) h hR (v.length * v'.length) (by rw [rou_size h1 h2 hR, Int.toNat_natCast]) rfl m1 m2 h2 rv rv' iv iv'
        exact key.mono fun e w' ⟨A3, c3, B3, e1, e2, e3, e4⟩ => ⟨A3, c3, B3, _, e1, e2, e3, fun _ => ⟨Nat.le_refl _, by rw [outV_len]; have := Nat.mul_le_mul m1 m2; unfold maxLen; omega⟩, e4⟩
      · rw [if_neg hR] at hE; cases hE
    · rw [if_neg h] at hE; exact absurd hE h
  · rw [if_neg h0] at hD hV
    subst hD hV
    have key := outer_any c s A c1 d B c2 v A' c1' d' B' c2' v' w hT id id' hd hd' rv rv' iv iv' E hE
    rw [if_neg h0, if_neg h0] at key
    exact key.mono fun e w' ⟨A3, c3, B3, k3, e1, e2, e3, e4⟩ => ⟨A3, c3, B3, k3, e1, e2, e3, fun h => absurd h h0, e4⟩
theorem item_w (A : Option Addr) (c : Nat) (d : List Int) (B : Option Addr) (c2 : Nat) (v : List Int) (x : Int) (k P S : Nat) (t pv : List Int) (w : World) (hx : x = (k : Int)) (hd : d = (P : Int) :: t) (hr : rightB d = true) (hk : k < P) (hl : v.length = P * S) (hs : sizeI d = (v.length : Int)) (hS : sizeI t = (S : Int)) (hp : piece v k S = pv) (hc : v.length ≤ c2 ∧ c2 ≤ maxLen) (id : Ints w A d) (iv : Ints w B v) :
    Calls Tryd.prog 18 #[.agg #[.slice A d.length c, .slice B v.length c2], .int .i64 x] w (RetCI w t pv (.bool true)) := by
  subst hx hp
  have hi : itemB d v.length (k : Int) = true := by
    have h1 : cellB d v.length = true := cellB_mk hr hs
    simp only [itemB, h1, Bool.true_and, Bool.and_eq_true, decide_eq_true_eq]
    subst hd
    exact ⟨⟨by simp, by omega⟩, by simp; omega⟩
  have h := item_yes A c d B c2 v (k : Int) w hc.1 hc.2 id iv hi
  rw [show d.tail = t by rw [hd]; rfl, hS, Int.toNat_natCast, Int.toNat_natCast] at h
  exact h.mono fun _ _ x => x.ci
theorem two_x (c : Int) (s : Bool) (B : Option Addr) (x : Int) (A' : Option Addr) (c1' : Nat) (e : List Int) (B' : Option Addr) (c2' : Nat) (u z : List Int) (w : World) (h2 : Sc.hasB c 2 = true) (h : cellB e u.length = true) (hz : (u.map fun y => Sc.doI c s x y) = z) (hT : Sc.Tab w) (i2 : Ints w B [x]) (i3 : Ints w A' e) (i4 : Ints w B' u) (he : e.length ≤ 100) (hu : u.length ≤ 1000) (rx : Sc.InR x) (ru : AllR u) :
    Calls Tryd.prog 19 #[.agg #[.int .i64 c, .bool s], .agg #[.slice none 0 0, .slice B 1 1], .agg #[.slice A' e.length c1', .slice B' u.length c2']] w (RetCI w e z (.int .i64 0)) := by
  obtain ⟨e1, e2, e3⟩ := two_sc (s := s) x h2 h
  have h' := Sp.two_any c s none 0 [] B 1 [x] A' c1' e B' c2' u w hT (Ints.nil _ _) i2 i3 i4 (by simp) (by simp) he hu (fun y hy => by simp at hy; rw [hy]; exact rx) ru
  rw [e1, e2, e3, hz] at h'
  exact h'.mono fun _ _ x => x.ci
/-- A cell in a box, whatever its number. -/
def CutO (w : World) (t v : List Int) (P : Nat → Prop) (s8' s7 s8 : Value) (wx : World) : Prop := ∃ g A k B e, s7 = .pointer (some ⟨g, 0, none⟩) ∧ s8 = s8' ∧ Box wx g (.slice A t.length k) (.slice B v.length e) ∧ Ints wx A t ∧ Ints wx B v ∧ P e ∧ w.heap.size ≤ g ∧ Below w.heap.size w wx
section
variable {w W : World} {t v : List Int} {P : Nat → Prop} {A B : Option Addr} {k e n m : Nat} (hL : Below w.heap.size w W) (j1 : Ints W A t) (j2 : Ints W B v) (hP : P e) (hn : t.length = n) (hm : v.length = m) (s : Value)
include hL j1 j2 hP hn hm
theorem co1 : CutO w t v P s (.pointer (some ⟨W.heap.size, 0, none⟩)) s (W.alloc (.cells #[.slice A n k, .slice B m e] 29)) := by
  subst hn hm
  have b1 := below_new W (.cells #[.slice A t.length k, .slice B v.length e] 29)
  exact ⟨_, A, k, B, e, rfl, rfl, Box.new W _ _, j1.below b1, j2.below b1, hP, hL.size, below_next hL b1⟩
theorem co2 {g : Nat} (bx : Box W g (.slice none 0 0) (.slice none 0 0)) (hg : w.heap.size ≤ g) : CutO w t v P s (.pointer (some ⟨g, 0, none⟩)) s ((W.setCell ⟨g, 0, none⟩ (.slice A n k)).setCell ⟨g, 1, none⟩ (.slice B m e)) := by
  subst hn hm
  exact ⟨_, A, k, B, e, rfl, rfl, (bx.set0 _).set1 _, j1.set_box bx _ _, j2.set_box bx _ _, hP, hg, (hL.setCell (p := ⟨g, 0, none⟩) hg _).setCell (p := ⟨g, 1, none⟩) hg _⟩
end
theorem box_sz (w : World) (o : Obj) (x y : Value) : Box ((w.alloc o).alloc (.cells #[x, y] 29)) (w.heap.size + 1) x y := by
  have := Box.new (w.alloc o) x y
  rw [show (w.alloc o).heap.size = w.heap.size + 1 from by simp] at this
  exact this
end Go.Proofs.YtbanegjmapgkdaaDoor.Pr
