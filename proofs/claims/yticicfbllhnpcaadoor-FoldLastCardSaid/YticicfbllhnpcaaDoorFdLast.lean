/-
  Proved: for any function and any cell rifflelaw08.FoldLast returns true, and each argument reads afterwards as it read before. The card is tied to the text that lays scalar.traits; it speaks of the pruned copy of the project that this seat's roots load. No other condition.
-/
import Derived.Test.YticicfbllhnpcaaDoorFdLives
import Derived.Test.YticicfbllhnpcaaDoorFdLast0
import Derived.Test.YticicfbllhnpcaaDoorPkC
set_option maxRecDepth 100000
namespace Go.Proofs.YticicfbllhnpcaaDoor.foldLast
open Go.Proofs.YticicfbllhnpcaaDoor.Sh Go.Proofs.YticicfbllhnpcaaDoor.Fd
open Go.Joins Go.ChangeShapes Go.WideShapes Go.ChangeAt Go.RowKit Go.Deep
set_option linter.unusedVariables false

theorem rsame_eq (A : Option Addr) (c : Nat) (d : List Int) (B : Option Addr) (c2 : Nat) (v : List Int) (A' : Option Addr) (c' : Nat) (B' : Option Addr) (c2' : Nat) (w : World) (hd : d.length ≤ 1000) (hv : v.length ≤ 1000) (id : Ints w A d) (iv : Ints w B v) (ie : Ints w A' d) (iu : Ints w B' v) :
    Calls Tryd.prog 18 #[.agg #[.slice A d.length c, .slice B v.length c2], .agg #[.slice A' d.length c', .slice B' v.length c2']] w fun r w' => r = .returned (.bool true) ∧ Below w.heap.size w w' :=
  (rsame_any A c d B c2 v A' c' d B' c2' v w (by unfold maxLen; omega) (by unfold maxLen; omega) (by unfold maxLen; omega) (by unfold maxLen; omega) id iv ie iu).mono fun _ _ ⟨h1, h2⟩ => ⟨by rw [h1]; simp [sameB], h2⟩
def RetCap (w : World) (d v : List Int) (y : Value) (e : Ending) (w' : World) : Prop := ∃ A c B c2, e = .returned (.tuple #[.agg #[.slice A d.length c, .slice B v.length c2], y]) ∧ Ints w' A d ∧ Ints w' B v ∧ (v.length ≤ c2 ∧ c2 ≤ maxLen) ∧ Below w.heap.size w w'
theorem RetC.cap {w : World} {d v : List Int} {y : Value} {e : Ending} {w' : World} (h : RetC w d v y e w') : RetCap w d v y e w' := by
  obtain ⟨x, rfl, ⟨A, c, B, c2, rfl, h1, h2, h3, h4, -⟩, hb⟩ := h
  exact ⟨A, c, B, c2, rfl, h1.ints, h2.ints, ⟨h3, h4⟩, hb⟩
theorem scan_w (c : Int) (s : Bool) (A : Option Addr) (c1 : Nat) (d : List Int) (B : Option Addr) (c2 : Nat) (v V : List Int) (w : World) (hE : scE c d v.length = 0) (hD : scD c d v.length = d) (hV : scV c s d v true = V) (hT : Sc.Tab w) (id : Ints w A d) (iv : Ints w B v) (hd : d.length ≤ 100) (hv : v.length ≤ 1000) (rv : AllR v) :
    Calls Tryd.prog 19 #[.agg #[.int .i64 c, .bool s], .agg #[.slice A d.length c1, .slice B v.length c2], .bool true] w (RetCap w d V (.int .i64 0)) := by
  have h := scan_any c s A c1 d B c2 v true w hT id iv hd hv rv
  rw [hE, hD, hV] at h
  exact h.mono fun _ _ x => RetC.cap x
theorem red_w (c : Int) (s : Bool) (A : Option Addr) (c1 : Nat) (d : List Int) (B : Option Addr) (c2 : Nat) (v t V : List Int) (w : World) (hE : reE c d v.length true = 0) (hD : reD c d v.length true = t) (hV : reV c s d v true = V) (hT : Sc.Tab w) (id : Ints w A d) (iv : Ints w B v) (hd : d.length ≤ 100) (hv : v.length ≤ 1000) (rv : AllR v) :
    Calls Tryd.prog 16 #[.agg #[.int .i64 c, .bool s], .agg #[.slice A d.length c1, .slice B v.length c2], .bool true] w (RetCI w t V (.int .i64 0)) := by
  have h := red_any c s A c1 d B c2 v true w hT id iv hd hv rv
  rw [hE, hD, hV] at h
  exact h.mono fun _ _ x => x.ci
theorem item_w (A : Option Addr) (c : Nat) (d : List Int) (B : Option Addr) (c2 : Nat) (v : List Int) (x : Int) (k P S : Nat) (t pv : List Int) (w : World) (hx : x = (k : Int)) (hd : d = (P : Int) :: t) (hr : rightB d = true) (hk : k < P) (hl : v.length = P * S) (hs : sizeI d = (v.length : Int)) (hS : sizeI t = (S : Int)) (hp : piece v k S = pv) (hc : v.length ≤ c2 ∧ c2 ≤ maxLen) (id : Ints w A d) (iv : Ints w B v) :
    Calls Tryd.prog 23 #[.agg #[.slice A d.length c, .slice B v.length c2], .int .i64 x] w (RetCI w t pv (.bool true)) := by
  subst hx hp
  have hi : itemB d v.length (k : Int) = true := by
    have h1 : cellB d v.length = true := cellB_mk hr hs
    simp only [itemB, h1, Bool.true_and, Bool.and_eq_true, decide_eq_true_eq]
    subst hd
    exact ⟨⟨by simp, by omega⟩, by simp; omega⟩
  have h := item_yes A c d B c2 v (k : Int) w hc.1 hc.2 id iv hi
  rw [show d.tail = t by rw [hd]; rfl, hS, Int.toNat_natCast, Int.toNat_natCast] at h
  exact h.mono fun _ _ x => x.ci
theorem two_w (c : Int) (s : Bool) (A : Option Addr) (c1 : Nat) (B : Option Addr) (c2 : Nat) (A' : Option Addr) (c1' : Nat) (B' : Option Addr) (c2' : Nat) (t x y z : List Int) (w : World) (h : Sp.twoE c t x.length t y.length = 0 ∧ Sp.twoD c t x.length t y.length = t ∧ Sp.twoV c s t x t y = z) (hT : Sc.Tab w) (i1 : Ints w A t) (i2 : Ints w B x) (i3 : Ints w A' t) (i4 : Ints w B' y) (ht : t.length ≤ 100) (hx : x.length ≤ 1000) (hy : y.length ≤ 1000) (rx : AllR x) (ry : AllR y) :
    Calls Tryd.prog 25 #[.agg #[.int .i64 c, .bool s], .agg #[.slice A t.length c1, .slice B x.length c2], .agg #[.slice A' t.length c1', .slice B' y.length c2']] w (RetCI w t z (.int .i64 0)) := by
  have h' := Sp.two_any c s A c1 t B c2 x A' c1' t B' c2' y w hT i1 i2 i3 i4 ht hx ht hy rx ry
  rw [h.1, h.2.1, h.2.2] at h'
  exact h'.mono fun _ _ x => x.ci
theorem joins_w (c : Int) (t : Bool) (w : World) (ht : (Sc.trOf c).joins = t) (hT : Sc.Tab w) : Calls Tryd.prog 24 #[.int .i64 c] w fun e w' => e = .returned (.bool t) ∧ Below w.heap.size w w' := by
  subst ht; exact Sc.joins_any c w hT
def CutI (w : World) (t v : List Int) (s7 s8 : Value) (wx : World) : Prop := ∃ g A k B e, s7 = .pointer (some ⟨g, 0, none⟩) ∧ s8 = .bool true ∧ Box wx g (.slice A t.length k) (.slice B v.length e) ∧ Ints wx A t ∧ Ints wx B v ∧ w.heap.size ≤ g ∧ Below w.heap.size w wx
section
variable {w W : World} {t v : List Int} {A B : Option Addr} {k e : Nat} (hL : Below w.heap.size w W) (j1 : Ints W A t) (j2 : Ints W B v)
include hL j1 j2
theorem ci1 : CutI w t v (.pointer (some ⟨W.heap.size, 0, none⟩)) (.bool true) (W.alloc (.cells #[.slice A t.length k, .slice B v.length e] 27)) :=
  have b1 := below_new W (.cells #[.slice A t.length k, .slice B v.length e] 27)
  ⟨_, A, k, B, e, rfl, rfl, Box.new W _ _, j1.below b1, j2.below b1, hL.size, below_next hL b1⟩
theorem ci2 {g : Nat} (bx : Box W g (.slice none 0 0) (.slice none 0 0)) (hg : w.heap.size ≤ g) : CutI w t v (.pointer (some ⟨g, 0, none⟩)) (.bool true) ((W.setCell ⟨g, 0, none⟩ (.slice A t.length k)).setCell ⟨g, 1, none⟩ (.slice B v.length e)) :=
  ⟨_, A, k, B, e, rfl, rfl, (bx.set0 _).set1 _, j1.set_box bx _ _, j2.set_box bx _ _, hg, (hL.setCell (p := ⟨g, 0, none⟩) hg _).setCell (p := ⟨g, 1, none⟩) hg _⟩
end
set_option maxHeartbeats 4000000 in
theorem walk_1 (c : Int) (s : Bool) (A : Option Addr) (c1 : Nat) (d : List Int) (B : Option Addr) (c2 : Nat) (v : List Int) (w : World) (hT : Sc.Tab w) (id : Ints w A d) (iv : Ints w B v) (h1 : ¬ (d.length ≤ 10 ∧ v.length ≤ 200)) :
    Calls Tryd.prog 5 #[.agg #[.int .i64 c, .bool s], .agg #[.slice A d.length c1, .slice B v.length c2]] w fun e w' => e = .returned (.bool true) ∧ Below w.heap.size w w' := by
  have b1 := below_new w (.cells #[.int .i64 c, .bool s] 23)
  have b2 := below_new (w.alloc (.cells #[.int .i64 c, .bool s] 23)) (.cells #[.slice A d.length c1, .slice B v.length c2] 27)
  have bb0 := Box.new (w.alloc (.cells #[.int .i64 c, .bool s] 23)) (.slice A d.length c1) (.slice B v.length c2)
  rw [show (w.alloc (.cells #[.int .i64 c, .bool s] 23)).heap.size = w.heap.size + 1 from by simp] at bb0
  have BA := Lib.hid (bb0)
  have L := Lib.hid (below_next b1 b2)
  have T := Lib.hid (hT.below L.out)
  clear b1 b2 bb0 hT id iv
  go_enter Tryd.func5, Tryd.ntmps5
  obtain ⟨qBA0, qBA1, -, -⟩ := BA.out.all
  go_wp2_with fail
  refine (great_yes _ _ _ _ _ _ _ h1).mono ?_
  rintro r w1 ⟨rfl, hb⟩
  clear qBA0 qBA1
  replace BA := Lib.hid (BA.out.next hb)
  replace L := Lib.hid (below_next L.out hb)
  replace T := Lib.hid (T.out.below hb)
  clear hb
  go_wp2_with fail
  refine (lives_any _ T.out).mono ?_
  rintro r w2 ⟨rfl, hb⟩
  replace BA := Lib.hid (BA.out.next hb)
  replace L := Lib.hid (below_next L.out hb)
  replace T := Lib.hid (T.out.below hb)
  clear hb
  go_wp2
  go_ret
  exact ⟨rfl, L.out⟩
set_option maxHeartbeats 4000000 in
theorem walk_2 (c : Int) (s : Bool) (A : Option Addr) (c1 : Nat) (d : List Int) (B : Option Addr) (c2 : Nat) (v : List Int) (w : World) (hT : Sc.Tab w) (id : Ints w A d) (iv : Ints w B v) (h1 : d.length ≤ 10 ∧ v.length ≤ 200) (h : cellB d v.length = false) :
    Calls Tryd.prog 5 #[.agg #[.int .i64 c, .bool s], .agg #[.slice A d.length c1, .slice B v.length c2]] w fun e w' => e = .returned (.bool true) ∧ Below w.heap.size w w' := by
  have b1 := below_new w (.cells #[.int .i64 c, .bool s] 23)
  have b2 := below_new (w.alloc (.cells #[.int .i64 c, .bool s] 23)) (.cells #[.slice A d.length c1, .slice B v.length c2] 27)
  have bb0 := Box.new (w.alloc (.cells #[.int .i64 c, .bool s] 23)) (.slice A d.length c1) (.slice B v.length c2)
  rw [show (w.alloc (.cells #[.int .i64 c, .bool s] 23)).heap.size = w.heap.size + 1 from by simp] at bb0
  have BA := Lib.hid (bb0)
  have L := Lib.hid (below_next b1 b2)
  have T := Lib.hid (hT.below L.out)
  have FF := Lib.hid (show FnAt _ w.heap.size c s from bx2 ((Bx.new 23 w #[.int .i64 c, .bool s]).alloc (.cells #[.slice A d.length c1, .slice B v.length c2] 27)))
  have ID := Lib.hid (id.below L.out)
  have IV := Lib.hid (iv.below L.out)
  clear b1 b2 bb0 hT id iv
  go_enter Tryd.func5, Tryd.ntmps5
  obtain ⟨qBA0, qBA1, -, -⟩ := BA.out.all
  go_wp2_with fail
  refine (great_no _ _ _ _ _ _ _ h1.1 h1.2).mono ?_
  rintro r w1 ⟨rfl, hb⟩
  clear qBA0 qBA1
  replace BA := Lib.hid (BA.out.next hb)
  replace L := Lib.hid (below_next L.out hb)
  replace T := Lib.hid (T.out.below hb)
  replace FF := Lib.hid (FF.out.below hb)
  replace ID := Lib.hid (ID.out.below hb)
  replace IV := Lib.hid (IV.out.below hb)
  clear hb
  obtain ⟨qBA0, qBA1, -, -⟩ := BA.out.all
  go_wp2_with fail
  refine (cright_no _ _ d _ _ _ _ (by have := h1.1; unfold maxLen; omega) ID.out h).mono ?_
  rintro r w2 ⟨rfl, hb⟩
  clear qBA0 qBA1
  replace BA := Lib.hid (BA.out.next hb)
  replace L := Lib.hid (below_next L.out hb)
  replace T := Lib.hid (T.out.below hb)
  replace FF := Lib.hid (FF.out.below hb)
  replace ID := Lib.hid (ID.out.below hb)
  replace IV := Lib.hid (IV.out.below hb)
  clear hb
  go_wp2_with fail
  refine (lives_any _ T.out).mono ?_
  rintro r w3 ⟨rfl, hb⟩
  replace BA := Lib.hid (BA.out.next hb)
  replace L := Lib.hid (below_next L.out hb)
  replace T := Lib.hid (T.out.below hb)
  replace FF := Lib.hid (FF.out.below hb)
  replace ID := Lib.hid (ID.out.below hb)
  replace IV := Lib.hid (IV.out.below hb)
  clear hb
  go_wp2
  go_ret
  exact ⟨rfl, L.out⟩
set_option maxHeartbeats 4000000 in
theorem walk_3 (c : Int) (s : Bool) (A : Option Addr) (c1 : Nat) (d : List Int) (B : Option Addr) (c2 : Nat) (v : List Int) (w : World) (hT : Sc.Tab w) (id : Ints w A d) (iv : Ints w B v) (h1 : d.length ≤ 10 ∧ v.length ≤ 200) (h : cellB d v.length = true) (h0 : d.length = 0) :
    Calls Tryd.prog 5 #[.agg #[.int .i64 c, .bool s], .agg #[.slice A d.length c1, .slice B v.length c2]] w fun e w' => e = .returned (.bool true) ∧ Below w.heap.size w w' := by
  have b1 := below_new w (.cells #[.int .i64 c, .bool s] 23)
  have b2 := below_new (w.alloc (.cells #[.int .i64 c, .bool s] 23)) (.cells #[.slice A d.length c1, .slice B v.length c2] 27)
  have bb0 := Box.new (w.alloc (.cells #[.int .i64 c, .bool s] 23)) (.slice A d.length c1) (.slice B v.length c2)
  rw [show (w.alloc (.cells #[.int .i64 c, .bool s] 23)).heap.size = w.heap.size + 1 from by simp] at bb0
  have BA := Lib.hid (bb0)
  have L := Lib.hid (below_next b1 b2)
  have T := Lib.hid (hT.below L.out)
  have FF := Lib.hid (show FnAt _ w.heap.size c s from bx2 ((Bx.new 23 w #[.int .i64 c, .bool s]).alloc (.cells #[.slice A d.length c1, .slice B v.length c2] 27)))
  have ID := Lib.hid (id.below L.out)
  have IV := Lib.hid (iv.below L.out)
  clear b1 b2 bb0 hT id iv
  have hz : ((d.length : Int) == 0) = true := by simp; exact List.eq_nil_of_length_eq_zero h0
  clear h0
  go_enter Tryd.func5, Tryd.ntmps5
  obtain ⟨qBA0, qBA1, -, -⟩ := BA.out.all
  go_wp2_with fail
  refine (great_no _ _ _ _ _ _ _ h1.1 h1.2).mono ?_
  rintro r w1 ⟨rfl, hb⟩
  clear qBA0 qBA1
  replace BA := Lib.hid (BA.out.next hb)
  replace L := Lib.hid (below_next L.out hb)
  replace T := Lib.hid (T.out.below hb)
  replace FF := Lib.hid (FF.out.below hb)
  replace ID := Lib.hid (ID.out.below hb)
  replace IV := Lib.hid (IV.out.below hb)
  clear hb
  obtain ⟨qBA0, qBA1, -, -⟩ := BA.out.all
  go_wp2_with fail
  refine (cright_yes _ _ d _ _ _ _ (by have := h1.1; unfold maxLen; omega) ID.out h).mono ?_
  rintro r w2 ⟨rfl, hb⟩
  clear qBA0 qBA1
  replace BA := Lib.hid (BA.out.next hb)
  replace L := Lib.hid (below_next L.out hb)
  replace T := Lib.hid (T.out.below hb)
  replace FF := Lib.hid (FF.out.below hb)
  replace ID := Lib.hid (ID.out.below hb)
  replace IV := Lib.hid (IV.out.below hb)
  clear hb
  obtain ⟨qBA0, qBA1, -, -⟩ := BA.out.all
  go_wp2_with fail
  refine (lives_any _ T.out).mono ?_
  rintro r w3 ⟨rfl, hb⟩
  clear qBA0 qBA1
  replace BA := Lib.hid (BA.out.next hb)
  replace L := Lib.hid (below_next L.out hb)
  replace T := Lib.hid (T.out.below hb)
  replace FF := Lib.hid (FF.out.below hb)
  replace ID := Lib.hid (ID.out.below hb)
  replace IV := Lib.hid (IV.out.below hb)
  clear hb
  go_wp2
  go_ret
  exact ⟨rfl, L.out⟩
set_option maxHeartbeats 4000000 in
theorem walk_4 (c : Int) (s : Bool) (A : Option Addr) (c1 : Nat) (d : List Int) (B : Option Addr) (c2 : Nat) (v : List Int) (w : World) (hT : Sc.Tab w) (id : Ints w A d) (iv : Ints w B v) (h1 : d.length ≤ 10 ∧ v.length ≤ 200) (h : cellB d v.length = true) (h0 : 0 < d.length) (h3 : d.getD 0 0 = 0) :
    Calls Tryd.prog 5 #[.agg #[.int .i64 c, .bool s], .agg #[.slice A d.length c1, .slice B v.length c2]] w fun e w' => e = .returned (.bool true) ∧ Below w.heap.size w w' := by
  have b1 := below_new w (.cells #[.int .i64 c, .bool s] 23)
  have b2 := below_new (w.alloc (.cells #[.int .i64 c, .bool s] 23)) (.cells #[.slice A d.length c1, .slice B v.length c2] 27)
  have bb0 := Box.new (w.alloc (.cells #[.int .i64 c, .bool s] 23)) (.slice A d.length c1) (.slice B v.length c2)
  rw [show (w.alloc (.cells #[.int .i64 c, .bool s] 23)).heap.size = w.heap.size + 1 from by simp] at bb0
  have BA := Lib.hid (bb0)
  have L := Lib.hid (below_next b1 b2)
  have T := Lib.hid (hT.below L.out)
  have FF := Lib.hid (show FnAt _ w.heap.size c s from bx2 ((Bx.new 23 w #[.int .i64 c, .bool s]).alloc (.cells #[.slice A d.length c1, .slice B v.length c2] 27)))
  have ID := Lib.hid (id.below L.out)
  have IV := Lib.hid (iv.below L.out)
  clear b1 b2 bb0 hT id iv
  have hz : ((d.length : Int) == 0) = false := by simp; intro e; rw [e] at h0; simp at h0
  have i1 : (0 : Int) < (d.length : Int) := by omega
  go_enter Tryd.func5, Tryd.ntmps5
  obtain ⟨qBA0, qBA1, -, -⟩ := BA.out.all
  go_wp2_with fail
  refine (great_no _ _ _ _ _ _ _ h1.1 h1.2).mono ?_
  rintro r w1 ⟨rfl, hb⟩
  clear qBA0 qBA1
  replace BA := Lib.hid (BA.out.next hb)
  replace L := Lib.hid (below_next L.out hb)
  replace T := Lib.hid (T.out.below hb)
  replace FF := Lib.hid (FF.out.below hb)
  replace ID := Lib.hid (ID.out.below hb)
  replace IV := Lib.hid (IV.out.below hb)
  clear hb
  obtain ⟨qBA0, qBA1, -, -⟩ := BA.out.all
  go_wp2_with fail
  refine (cright_yes _ _ d _ _ _ _ (by have := h1.1; unfold maxLen; omega) ID.out h).mono ?_
  rintro r w2 ⟨rfl, hb⟩
  clear qBA0 qBA1
  replace BA := Lib.hid (BA.out.next hb)
  replace L := Lib.hid (below_next L.out hb)
  replace T := Lib.hid (T.out.below hb)
  replace FF := Lib.hid (FF.out.below hb)
  replace ID := Lib.hid (ID.out.below hb)
  replace IV := Lib.hid (IV.out.below hb)
  clear hb
  obtain ⟨qBA0, qBA1, -, -⟩ := BA.out.all
  obtain ⟨bd, od, rfl, hbd, hcd⟩ := ID.out h0
  have xd := hcd 0 h0
  rw [Nat.add_zero] at xd
  clear hcd
  have hz2 : (d.getD 0 0 == 0) = true := by rw [h3]; rfl
  generalize d.getD 0 0 = x at *
  go_wp2_with fail
  refine (lives_any _ T.out).mono ?_
  rintro r w3 ⟨rfl, hb⟩
  clear qBA0 qBA1
  replace BA := Lib.hid (BA.out.next hb)
  replace L := Lib.hid (below_next L.out hb)
  replace T := Lib.hid (T.out.below hb)
  replace FF := Lib.hid (FF.out.below hb)
  replace ID := Lib.hid (ID.out.below hb)
  replace IV := Lib.hid (IV.out.below hb)
  clear hb
  go_wp2
  go_ret
  exact ⟨rfl, L.out⟩
set_option maxHeartbeats 4000000 in
theorem walk_5 (c : Int) (s : Bool) (A : Option Addr) (c1 : Nat) (d : List Int) (B : Option Addr) (c2 : Nat) (v : List Int) (w : World) (hT : Sc.Tab w) (id : Ints w A d) (iv : Ints w B v) (h1 : d.length ≤ 10 ∧ v.length ≤ 200) (h : cellB d v.length = true) (h0 : 0 < d.length) (h3 : ¬ d.getD 0 0 = 0) (h2 : Sc.hasB c 2 = false) :
    Calls Tryd.prog 5 #[.agg #[.int .i64 c, .bool s], .agg #[.slice A d.length c1, .slice B v.length c2]] w fun e w' => e = .returned (.bool true) ∧ Below w.heap.size w w' := by
  have b1 := below_new w (.cells #[.int .i64 c, .bool s] 23)
  have b2 := below_new (w.alloc (.cells #[.int .i64 c, .bool s] 23)) (.cells #[.slice A d.length c1, .slice B v.length c2] 27)
  have bb0 := Box.new (w.alloc (.cells #[.int .i64 c, .bool s] 23)) (.slice A d.length c1) (.slice B v.length c2)
  rw [show (w.alloc (.cells #[.int .i64 c, .bool s] 23)).heap.size = w.heap.size + 1 from by simp] at bb0
  have BA := Lib.hid (bb0)
  have L := Lib.hid (below_next b1 b2)
  have T := Lib.hid (hT.below L.out)
  have FF := Lib.hid (show FnAt _ w.heap.size c s from bx2 ((Bx.new 23 w #[.int .i64 c, .bool s]).alloc (.cells #[.slice A d.length c1, .slice B v.length c2] 27)))
  have ID := Lib.hid (id.below L.out)
  have IV := Lib.hid (iv.below L.out)
  clear b1 b2 bb0 hT id iv
  have hz : ((d.length : Int) == 0) = false := by simp; intro e; rw [e] at h0; simp at h0
  have i1 : (0 : Int) < (d.length : Int) := by omega
  go_enter Tryd.func5, Tryd.ntmps5
  obtain ⟨qBA0, qBA1, -, -⟩ := BA.out.all
  go_wp2_with fail
  refine (great_no _ _ _ _ _ _ _ h1.1 h1.2).mono ?_
  rintro r w1 ⟨rfl, hb⟩
  clear qBA0 qBA1
  replace BA := Lib.hid (BA.out.next hb)
  replace L := Lib.hid (below_next L.out hb)
  replace T := Lib.hid (T.out.below hb)
  replace FF := Lib.hid (FF.out.below hb)
  replace ID := Lib.hid (ID.out.below hb)
  replace IV := Lib.hid (IV.out.below hb)
  clear hb
  obtain ⟨qBA0, qBA1, -, -⟩ := BA.out.all
  go_wp2_with fail
  refine (cright_yes _ _ d _ _ _ _ (by have := h1.1; unfold maxLen; omega) ID.out h).mono ?_
  rintro r w2 ⟨rfl, hb⟩
  clear qBA0 qBA1
  replace BA := Lib.hid (BA.out.next hb)
  replace L := Lib.hid (below_next L.out hb)
  replace T := Lib.hid (T.out.below hb)
  replace FF := Lib.hid (FF.out.below hb)
  replace ID := Lib.hid (ID.out.below hb)
  replace IV := Lib.hid (IV.out.below hb)
  clear hb
  obtain ⟨qBA0, qBA1, -, -⟩ := BA.out.all
  obtain ⟨bd, od, rfl, hbd, hcd⟩ := ID.out h0
  have xd := hcd 0 h0
  rw [Nat.add_zero] at xd
  clear hcd
  have hz2 : (d.getD 0 0 == 0) = false := by simpa using h3
  generalize d.getD 0 0 = x at *
  obtain ⟨qFF0, qFF1⟩ := FF.out
  go_wp2_with fail
  refine (Sc.has_b c 2 false _ h2 T.out).mono ?_
  rintro r w3 ⟨rfl, hb⟩
  clear qBA0 qBA1 qFF0 qFF1
  replace BA := Lib.hid (BA.out.next hb)
  replace L := Lib.hid (below_next L.out hb)
  replace T := Lib.hid (T.out.below hb)
  replace FF := Lib.hid (FF.out.below hb)
  replace ID := Lib.hid (ID.out.below hb)
  replace IV := Lib.hid (IV.out.below hb)
  clear hb
  go_wp2_with fail
  refine (lives_any _ T.out).mono ?_
  rintro r w4 ⟨rfl, hb⟩
  replace BA := Lib.hid (BA.out.next hb)
  replace L := Lib.hid (below_next L.out hb)
  replace T := Lib.hid (T.out.below hb)
  replace FF := Lib.hid (FF.out.below hb)
  replace ID := Lib.hid (ID.out.below hb)
  replace IV := Lib.hid (IV.out.below hb)
  clear hb
  go_wp2
  go_ret
  exact ⟨rfl, L.out⟩
set_option maxHeartbeats 8000000 in
theorem walk_6 (c : Int) (s : Bool) (A : Option Addr) (c1 : Nat) (d : List Int) (B : Option Addr) (c2 : Nat) (v : List Int) (w : World) (hT : Sc.Tab w) (id : Ints w A d) (iv : Ints w B v) (rv : AllR v) (hcv : v.length ≤ c2 ∧ c2 ≤ maxLen) (h1 : d.length ≤ 10 ∧ v.length ≤ 200) (h : cellB d v.length = true) (h0 : 0 < d.length) (h3 : ¬ d.getD 0 0 = 0) (h2 : Sc.hasB c 2 = true) :
    Calls Tryd.prog 5 #[.agg #[.int .i64 c, .bool s], .agg #[.slice A d.length c1, .slice B v.length c2]] w fun e w' => e = .returned (.bool true) ∧ Below w.heap.size w w' := by
  have b1 := below_new w (.cells #[.int .i64 c, .bool s] 23)
  have b2 := below_new (w.alloc (.cells #[.int .i64 c, .bool s] 23)) (.cells #[.slice A d.length c1, .slice B v.length c2] 27)
  have bb0 := Box.new (w.alloc (.cells #[.int .i64 c, .bool s] 23)) (.slice A d.length c1) (.slice B v.length c2)
  rw [show (w.alloc (.cells #[.int .i64 c, .bool s] 23)).heap.size = w.heap.size + 1 from by simp] at bb0
  have BA := Lib.hid (bb0)
  have L := Lib.hid (below_next b1 b2)
  have T := Lib.hid (hT.below L.out)
  have FF := Lib.hid (show FnAt _ w.heap.size c s from bx2 ((Bx.new 23 w #[.int .i64 c, .bool s]).alloc (.cells #[.slice A d.length c1, .slice B v.length c2] 27)))
  have ID := Lib.hid (id.below L.out)
  have IV := Lib.hid (iv.below L.out)
  clear b1 b2 bb0 hT id iv
  obtain ⟨P, S, t, V, hdt, hP, hP64, hrt, hst, hlv, hS64, m1, m2, m3, hlV, m5, m6, m7, m8⟩ := last_all (s := s) h h0 h3 h2
  have HDT' := Lib.hid hdt
  have HRT' := Lib.hid hrt
  have HST' := Lib.hid hst
  have HLV' := Lib.hid hlv
  have M5' := Lib.hid m5
  have M1 := Lib.hid m1
  have M2 := Lib.hid m2
  have M3 := Lib.hid m3
  have M6 := Lib.hid m6
  have M7 := Lib.hid m7
  have M8 := Lib.hid m8
  have RV := Lib.hid rv
  have HLVV := Lib.hid hlV
  have HSV := Lib.hid (show sizeI d = (V.length : Int) by rw [hlV, ← hlv]; exact (cellB_parts h).2.symm)
  have HCV := Lib.hid hcv
  have HR := Lib.hid (cellB_parts h).1
  have HSZ := Lib.hid (cellB_parts h).2.symm
  have hdP : d.getD 0 0 = (P : Int) := by rw [hdt]; rfl
  have hz2 : ((P : Int) == 0) = false := by simp; omega
  have ht10 : t.length ≤ 10 := by have := h1.1; rw [hdt] at this; simp at this; omega
  have hV64 : V.length ≤ 200 := by rw [hlV, ← hlv]; exact h1.2
  have hPt : ∀ i, (prt c s v S i).length ≤ 200 := fun i => by rw [prt_len]; omega
  clear rv hcv hdt hrt hst hlv hlV m1 m2 m3 m5 m6 m7 m8
  have hz : ((d.length : Int) == 0) = false := by simp; intro e; rw [e] at h0; simp at h0
  have i1 : (0 : Int) < (d.length : Int) := by omega
  go_enter Tryd.func5, Tryd.ntmps5
  obtain ⟨qBA0, qBA1, -, -⟩ := BA.out.all
  go_wp2_with fail
  refine (great_no _ _ _ _ _ _ _ h1.1 h1.2).mono ?_
  rintro r w1 ⟨rfl, hb⟩
  clear qBA0 qBA1
  replace BA := Lib.hid (BA.out.next hb)
  replace L := Lib.hid (below_next L.out hb)
  replace T := Lib.hid (T.out.below hb)
  replace FF := Lib.hid (FF.out.below hb)
  replace ID := Lib.hid (ID.out.below hb)
  replace IV := Lib.hid (IV.out.below hb)
  clear hb
  obtain ⟨qBA0, qBA1, -, -⟩ := BA.out.all
  go_wp2_with fail
  refine (cright_yes _ _ d _ _ _ _ (by have := h1.1; unfold maxLen; omega) ID.out h).mono ?_
  rintro r w2 ⟨rfl, hb⟩
  clear qBA0 qBA1
  replace BA := Lib.hid (BA.out.next hb)
  replace L := Lib.hid (below_next L.out hb)
  replace T := Lib.hid (T.out.below hb)
  replace FF := Lib.hid (FF.out.below hb)
  replace ID := Lib.hid (ID.out.below hb)
  replace IV := Lib.hid (IV.out.below hb)
  clear hb
  obtain ⟨qBA0, qBA1, -, -⟩ := BA.out.all
  obtain ⟨bd, od, rfl, hbd, hcd⟩ := ID.out h0
  have xd := hcd 0 h0
  rw [Nat.add_zero] at xd
  clear hcd
  rw [hdP] at xd
  have XD := Lib.hid xd
  clear xd
  obtain ⟨qFF0, qFF1⟩ := FF.out
  have xd := XD.out
  go_wp2_with fail
  refine (Sc.has_b c 2 true _ h2 T.out).mono ?_
  rintro r w3 ⟨rfl, hb⟩
  clear qBA0 qBA1 qFF0 qFF1 xd
  replace BA := Lib.hid (BA.out.next hb)
  replace L := Lib.hid (below_next L.out hb)
  replace T := Lib.hid (T.out.below hb)
  replace FF := Lib.hid (FF.out.below hb)
  replace ID := Lib.hid (ID.out.below hb)
  replace IV := Lib.hid (IV.out.below hb)
  replace XD := Lib.hid (keepB hb XD.out)
  clear hb
  obtain ⟨qFF0, qFF1⟩ := FF.out
  obtain ⟨qBA0, qBA1, -, -⟩ := BA.out.all
  go_wp2_with fail
  refine (scan_w c s _ _ d _ _ v V _ M1.out M2.out M3.out T.out ID.out IV.out (by omega) (by omega) RV.out).mono ?_
  rintro r w4 ⟨A5, c5, B5, e5, rfl, j1, j2, hcap5, hb⟩
  clear qFF0 qFF1 qBA0 qBA1
  replace BA := Lib.hid (BA.out.next hb)
  replace L := Lib.hid (below_next L.out hb)
  replace T := Lib.hid (T.out.below hb)
  replace FF := Lib.hid (FF.out.below hb)
  replace ID := Lib.hid (ID.out.below hb)
  replace IV := Lib.hid (IV.out.below hb)
  replace XD := Lib.hid (keepB hb XD.out)
  clear hb
  have P5 := Lib.hid j1
  have Q5 := Lib.hid j2
  clear j1 j2
  have KB := Lib.hid (below_new w4 (.cells #[.slice A5 d.length c5, .slice B5 V.length e5] 27))
  have K5 := Lib.hid (Box.new w4 (.slice A5 d.length c5) (.slice B5 V.length e5))
  replace BA := Lib.hid (BA.out.next KB.out)
  replace L := Lib.hid (below_next L.out KB.out)
  replace T := Lib.hid (T.out.below KB.out)
  replace FF := Lib.hid (FF.out.below KB.out)
  replace ID := Lib.hid (ID.out.below KB.out)
  replace IV := Lib.hid (IV.out.below KB.out)
  replace XD := Lib.hid (keepB KB.out XD.out)
  replace P5 := Lib.hid (P5.out.below KB.out)
  replace Q5 := Lib.hid (Q5.out.below KB.out)
  go_upto_region 4 with (fail)
  clear KB
  generalize hW : w4.alloc (.cells #[.slice A5 d.length c5, .slice B5 V.length e5] 27) = W5 at *
  clear hW
  generalize w4.heap.size = g5 at *
  have HCP := Lib.hid hcap5
  clear hcap5
  obtain ⟨qFF0, qFF1⟩ := FF.out
  obtain ⟨qBA0, qBA1, -, -⟩ := BA.out.all
  go_wp2_with fail
  refine (red_w c s _ _ d _ _ v t (prt c s v S (P - 1)) _ M6.out M7.out M8.out T.out ID.out IV.out (by omega) (by omega) RV.out).mono ?_
  rintro r w5 ⟨A7, c7, B7, e7, rfl, j1, j2, hb⟩
  clear qFF0 qFF1 qBA0 qBA1
  replace BA := Lib.hid (BA.out.next hb)
  replace L := Lib.hid (below_next L.out hb)
  replace T := Lib.hid (T.out.below hb)
  replace FF := Lib.hid (FF.out.below hb)
  replace ID := Lib.hid (ID.out.below hb)
  replace IV := Lib.hid (IV.out.below hb)
  replace XD := Lib.hid (keepB hb XD.out)
  replace P5 := Lib.hid (P5.out.below hb)
  replace Q5 := Lib.hid (Q5.out.below hb)
  replace K5 := Lib.hid (K5.out.next hb)
  clear hb
  obtain ⟨PL, hPL⟩ : ∃ x, prt c s v S (P - 1) = x := ⟨_, rfl⟩
  rw [hPL] at j2 ⊢
  have HPL := Lib.hid hPL
  have hPL2 : PL.length ≤ 200 := by rw [← hPL]; exact hPt _
  clear hPL
  have P7 := Lib.hid j1
  have Q7 := Lib.hid j2
  clear j1 j2
  have KB := Lib.hid (below_new w5 (.cells #[.slice A7 t.length c7, .slice B7 PL.length e7] 27))
  have K7 := Lib.hid (Box.new w5 (.slice A7 t.length c7) (.slice B7 PL.length e7))
  replace BA := Lib.hid (BA.out.next KB.out)
  replace L := Lib.hid (below_next L.out KB.out)
  replace T := Lib.hid (T.out.below KB.out)
  replace FF := Lib.hid (FF.out.below KB.out)
  replace ID := Lib.hid (ID.out.below KB.out)
  replace IV := Lib.hid (IV.out.below KB.out)
  replace XD := Lib.hid (keepB KB.out XD.out)
  replace P5 := Lib.hid (P5.out.below KB.out)
  replace Q5 := Lib.hid (Q5.out.below KB.out)
  replace K5 := Lib.hid (K5.out.next KB.out)
  replace P7 := Lib.hid (P7.out.below KB.out)
  replace Q7 := Lib.hid (Q7.out.below KB.out)
  go_upto_region 5 with (fail)
  clear KB
  generalize hW : w5.alloc (.cells #[.slice A7 t.length c7, .slice B7 PL.length e7] 27) = W7 at *
  clear hW
  generalize w5.heap.size = g7 at *
  obtain ⟨qK50, qK51, -, -⟩ := K5.out.all
  obtain ⟨qBA0, qBA1, -, -⟩ := BA.out.all
  have xd := XD.out
  have hg5 := K5.out.lt
  have hgb := BA.out.lt
  have hgx : bd < W7.heap.size := World.block_lt_of_cell? W7 _ xd
  have u1 : IntKind.i64.wrap ((P : Int) - 1) = (P : Int) - 1 := IntWalk.i64_in _ (by omega)
  have q1 : ¬ g5 = W7.heap.size := by omega
  have q2 : ¬ W7.heap.size = g5 := by omega
  have q3 : ¬ w.heap.size + 1 = W7.heap.size := by omega
  have q4 : ¬ W7.heap.size = w.heap.size + 1 := by omega
  have q5 : ¬ bd = W7.heap.size := by omega
  have q6 : ¬ W7.heap.size = bd := by omega
  have LA0 := Lib.hid ((Below.refl W7.heap.size W7).drew)
  have LA1 := Lib.hid (show Below W7.heap.size W7 (W7.alloc (.cells #[.slice none 0 0, .slice none 0 0] 27)).drew from (below_new W7 (.cells #[.slice none 0 0, .slice none 0 0] 27)).drew)
  have IT := Lib.hid (fun W i1 i2 => item_w A5 c5 d B5 e5 V ((P : Int) - 1) (P - 1) P S t PL W (by omega) HDT'.out HR.out (by omega) HLVV.out HSV.out HST'.out (by rw [← HPL.out]; exact M5'.out _ (by omega)) HCP.out i1 i2)
  
  go_cut [9, 10] (fun sa sb wx => CutI W7 t PL sa sb wx)
  case first =>
    go_region_held3 (fun w' => w'.cell? ⟨g5, 0, none⟩ = some (.slice A5 d.length c5) ∧ w'.cell? ⟨g5, 1, none⟩ = some (.slice B5 V.length e5) ∧ w'.cell? ⟨w.heap.size + 1, 0, none⟩ = some (.slice (some ⟨bd, od, none⟩) d.length c1) ∧ w'.cell? ⟨bd, od, none⟩ = some (.int .i64 (P : Int)))
      (first
        | with_reducible exact KK.out
        | go_keep)
      (first
        | (go_at_call 23; (with_reducible refine (IT.out _ (P5.out.below LA0.out) (Q5.out.below LA0.out)).mono ?_); rintro r wA ⟨A9, k9, B9, e9, rfl, j1, j2, hb⟩; have LB := Lib.hid (below_next LA0.out hb); have J1' := Lib.hid j1; have J2' := Lib.hid j2; clear hb j1 j2; have hwA : g5 < wA.heap.size := Nat.lt_of_lt_of_le hg5 LB.out.size; have hwB : w.heap.size + 1 < wA.heap.size := Nat.lt_of_lt_of_le hgb LB.out.size; have hwC : bd < wA.heap.size := Nat.lt_of_lt_of_le hgx LB.out.size; have y1 : ¬ g5 = wA.heap.size := (by omega); have y2 : ¬ wA.heap.size = g5 := (by omega); have y3 : ¬ w.heap.size + 1 = wA.heap.size := (by omega); have y4 : ¬ wA.heap.size = w.heap.size + 1 := (by omega); have y5 : ¬ bd = wA.heap.size := (by omega); have y6 : ¬ wA.heap.size = bd := (by omega); have KK := Lib.hid (show wA.cell? ⟨g5, 0, none⟩ = some (.slice A5 d.length c5) ∧ wA.cell? ⟨g5, 1, none⟩ = some (.slice B5 V.length e5) ∧ wA.cell? ⟨w.heap.size + 1, 0, none⟩ = some (.slice (some ⟨bd, od, none⟩) d.length c1) ∧ wA.cell? ⟨bd, od, none⟩ = some (.int .i64 (P : Int)) from ⟨(K5.out.next LB.out).c0, (K5.out.next LB.out).c1, (BA.out.next LB.out).c0, keepB LB.out XD.out⟩); obtain ⟨kA1, kA2, kA3, kA4⟩ := KK.out)
        | (go_at_call 23; (with_reducible refine (IT.out _ (P5.out.below LA1.out) (Q5.out.below LA1.out)).mono ?_); rintro r wA ⟨A9, k9, B9, e9, rfl, j1, j2, hb⟩; have BX := Lib.hid ((Box.new W7 (.slice none 0 0) (.slice none 0 0)).drew.next hb); obtain ⟨x10, x11, x12, x13⟩ := BX.out.all; have lx := BX.out.lt; have LB := Lib.hid (below_next LA1.out hb); have J1' := Lib.hid j1; have J2' := Lib.hid j2; clear hb j1 j2; have hwA : g5 < wA.heap.size := Nat.lt_of_lt_of_le hg5 LB.out.size; have hwB : w.heap.size + 1 < wA.heap.size := Nat.lt_of_lt_of_le hgb LB.out.size; have hwC : bd < wA.heap.size := Nat.lt_of_lt_of_le hgx LB.out.size; have y1 : ¬ g5 = wA.heap.size := (by omega); have y2 : ¬ wA.heap.size = g5 := (by omega); have y3 : ¬ w.heap.size + 1 = wA.heap.size := (by omega); have y4 : ¬ wA.heap.size = w.heap.size + 1 := (by omega); have y5 : ¬ bd = wA.heap.size := (by omega); have y6 : ¬ wA.heap.size = bd := (by omega); have KK := Lib.hid (show wA.cell? ⟨g5, 0, none⟩ = some (.slice A5 d.length c5) ∧ wA.cell? ⟨g5, 1, none⟩ = some (.slice B5 V.length e5) ∧ wA.cell? ⟨w.heap.size + 1, 0, none⟩ = some (.slice (some ⟨bd, od, none⟩) d.length c1) ∧ wA.cell? ⟨bd, od, none⟩ = some (.int .i64 (P : Int)) from ⟨(K5.out.next LB.out).c0, (K5.out.next LB.out).c1, (BA.out.next LB.out).c0, keepB LB.out XD.out⟩); obtain ⟨kA1, kA2, kA3, kA4⟩ := KK.out))
    all_goals (go_wp2_with fail; go_meet; (first | with_reducible exact ci1 LB.out J1'.out J2'.out | with_reducible exact ci2 LB.out J1'.out J2'.out BX.out (by omega)))
  case rest =>
    obtain ⟨g9, A9, k9, B9, e9, rfl, rfl, b1, j1, j2, hgg, hb⟩ := hcut
    clear qK50 qK51 qBA0 qBA1 xd
    replace BA := Lib.hid (BA.out.next hb)
    replace L := Lib.hid (below_next L.out hb)
    replace T := Lib.hid (T.out.below hb)
    replace FF := Lib.hid (FF.out.below hb)
    replace ID := Lib.hid (ID.out.below hb)
    replace IV := Lib.hid (IV.out.below hb)
    replace XD := Lib.hid (keepB hb XD.out)
    replace P5 := Lib.hid (P5.out.below hb)
    replace Q5 := Lib.hid (Q5.out.below hb)
    replace K5 := Lib.hid (K5.out.next hb)
    replace P7 := Lib.hid (P7.out.below hb)
    replace Q7 := Lib.hid (Q7.out.below hb)
    replace K7 := Lib.hid (K7.out.next hb)
    have K9 := Lib.hid b1
    have P9 := Lib.hid j1
    have Q9 := Lib.hid j2
    clear b1 j1 j2 hb hg5 hgb hgx LA0 LA1 IT q1 q2 q3 q4 q5 q6
    obtain ⟨W9, hws⟩ : ∃ W, W = wc := ⟨_, rfl⟩
    subst hws
    obtain ⟨qK70, qK71, -, -⟩ := K7.out.all
    obtain ⟨qK90, qK91, -, -⟩ := K9.out.all
    go_wp2_with fail
    refine (rsame_eq _ _ t _ _ PL _ _ _ _ _ (by omega) (by omega) P7.out Q7.out P9.out Q9.out).mono ?_
    rintro r w21 ⟨rfl, hb⟩
    clear qK70 qK71 qK90 qK91
    replace BA := Lib.hid (BA.out.next hb)
    replace L := Lib.hid (below_next L.out hb)
    replace T := Lib.hid (T.out.below hb)
    replace FF := Lib.hid (FF.out.below hb)
    replace ID := Lib.hid (ID.out.below hb)
    replace IV := Lib.hid (IV.out.below hb)
    replace XD := Lib.hid (keepB hb XD.out)
    replace P5 := Lib.hid (P5.out.below hb)
    replace Q5 := Lib.hid (Q5.out.below hb)
    replace K5 := Lib.hid (K5.out.next hb)
    replace P7 := Lib.hid (P7.out.below hb)
    replace Q7 := Lib.hid (Q7.out.below hb)
    replace K7 := Lib.hid (K7.out.next hb)
    replace K9 := Lib.hid (K9.out.next hb)
    replace P9 := Lib.hid (P9.out.below hb)
    replace Q9 := Lib.hid (Q9.out.below hb)
    clear hb
    clear K7
    clear K9
    clear P7
    clear Q7
    clear P9
    clear Q9
    go_wp2
    go_loopw [11] (fun j wr => ∃ i : Nat, 1 ≤ i ∧ i ≤ P ∧ j = .int .i64 (i : Int) ∧ Below w21.heap.size w21 wr) (fun j _ => P - (intOf j).toNat)
    case atStart => exact ⟨1, Nat.le_refl _, by omega, rfl, Below.refl _ _⟩
    case round =>
      obtain ⟨i, hi1, hiP, rfl, hB⟩ := hrel
      have LBk := Lib.hid hB
      clear hB
      replace BA := Lib.hid (BA.out.next LBk.out)
      replace L := Lib.hid (below_next L.out LBk.out)
      replace T := Lib.hid (T.out.below LBk.out)
      replace FF := Lib.hid (FF.out.below LBk.out)
      replace ID := Lib.hid (ID.out.below LBk.out)
      replace IV := Lib.hid (IV.out.below LBk.out)
      replace XD := Lib.hid (keepB LBk.out XD.out)
      replace P5 := Lib.hid (P5.out.below LBk.out)
      replace Q5 := Lib.hid (Q5.out.below LBk.out)
      replace K5 := Lib.hid (K5.out.next LBk.out)
      obtain ⟨qBA0, qBA1, -, -⟩ := BA.out.all
      have xd := XD.out
      by_cases hlt : i < P
      rotate_left
      · have hx : ¬ (i : Int) < (P : Int) := by omega
        go_wp2_with fail
        refine (lives_any _ T.out).mono ?_
        rintro r w22 ⟨rfl, hb⟩
        clear qBA0 qBA1 xd
        replace BA := Lib.hid (BA.out.next hb)
        replace L := Lib.hid (below_next L.out hb)
        replace T := Lib.hid (T.out.below hb)
        replace FF := Lib.hid (FF.out.below hb)
        replace ID := Lib.hid (ID.out.below hb)
        replace IV := Lib.hid (IV.out.below hb)
        replace XD := Lib.hid (keepB hb XD.out)
        replace P5 := Lib.hid (P5.out.below hb)
        replace Q5 := Lib.hid (Q5.out.below hb)
        replace K5 := Lib.hid (K5.out.next hb)
        replace LBk := Lib.hid (below_next LBk.out hb)
        clear hb
        go_wp2
        go_ret
        exact ⟨rfl, L.out⟩
      have hx : (i : Int) < (P : Int) := by omega
      obtain ⟨qFF0, qFF1⟩ := FF.out
      by_cases hj : (Sc.trOf c).joins = true
      rotate_left
      · have hj' : (Sc.trOf c).joins = false := by simpa using hj
        go_wp2_with fail
        refine (joins_w c false _ hj' T.out).mono ?_
        rintro r w22 ⟨rfl, hb⟩
        clear qBA0 qBA1 xd qFF0 qFF1
        replace BA := Lib.hid (BA.out.next hb)
        replace L := Lib.hid (below_next L.out hb)
        replace T := Lib.hid (T.out.below hb)
        replace FF := Lib.hid (FF.out.below hb)
        replace ID := Lib.hid (ID.out.below hb)
        replace IV := Lib.hid (IV.out.below hb)
        replace XD := Lib.hid (keepB hb XD.out)
        replace P5 := Lib.hid (P5.out.below hb)
        replace Q5 := Lib.hid (Q5.out.below hb)
        replace K5 := Lib.hid (K5.out.next hb)
        replace LBk := Lib.hid (below_next LBk.out hb)
        clear hb
        go_wp2_with fail
        refine (lives_any _ T.out).mono ?_
        rintro r w23 ⟨rfl, hb⟩
        replace BA := Lib.hid (BA.out.next hb)
        replace L := Lib.hid (below_next L.out hb)
        replace T := Lib.hid (T.out.below hb)
        replace FF := Lib.hid (FF.out.below hb)
        replace ID := Lib.hid (ID.out.below hb)
        replace IV := Lib.hid (IV.out.below hb)
        replace XD := Lib.hid (keepB hb XD.out)
        replace P5 := Lib.hid (P5.out.below hb)
        replace Q5 := Lib.hid (Q5.out.below hb)
        replace K5 := Lib.hid (K5.out.next hb)
        replace LBk := Lib.hid (below_next LBk.out hb)
        clear hb
        go_wp2
        go_ret
        exact ⟨rfl, L.out⟩
      have HJ := Lib.hid hj
      clear hj
      go_wp2_with fail
      refine (joins_w c true _ HJ.out T.out).mono ?_
      rintro r w22 ⟨rfl, hb⟩
      clear qBA0 qBA1 xd qFF0 qFF1
      replace BA := Lib.hid (BA.out.next hb)
      replace L := Lib.hid (below_next L.out hb)
      replace T := Lib.hid (T.out.below hb)
      replace FF := Lib.hid (FF.out.below hb)
      replace ID := Lib.hid (ID.out.below hb)
      replace IV := Lib.hid (IV.out.below hb)
      replace XD := Lib.hid (keepB hb XD.out)
      replace P5 := Lib.hid (P5.out.below hb)
      replace Q5 := Lib.hid (Q5.out.below hb)
      replace K5 := Lib.hid (K5.out.next hb)
      replace LBk := Lib.hid (below_next LBk.out hb)
      clear hb
      obtain ⟨q, hq⟩ : ∃ q, i = q + 1 := ⟨i - 1, by omega⟩
      have HQ := Lib.hid hq
      clear hq
      obtain ⟨XA, hXA⟩ : ∃ x, prt c s v S q = x := ⟨_, rfl⟩
      obtain ⟨XB, hXB⟩ : ∃ x, piece v i S = x := ⟨_, rfl⟩
      obtain ⟨XC, hXC⟩ : ∃ x, prt c s v S i = x := ⟨_, rfl⟩
      have hle : (q + 1 + 1) * S ≤ v.length := by rw [HLV'.out]; exact Nat.mul_le_mul_right S (by have := HQ.out; omega)
      have TW := Lib.hid (two_part (s := s) HJ.out h2 HRT'.out HST'.out hle)
      rw [← HQ.out, hXA, hXB, hXC] at TW
      have RA := Lib.hid (show AllR XA by rw [← hXA]; exact prt_R RV.out _ _)
      have RB := Lib.hid (show AllR XB by rw [← hXB]; exact piece_R RV.out _ _)
      have la : XA.length ≤ 200 := by rw [← hXA]; exact hPt _
      have lc : XC.length ≤ 200 := by rw [← hXC]; exact hPt _
      have lb : XB.length ≤ 200 := by rw [← hXB]; have := h1.2; simp [piece]; omega
      have HXA := Lib.hid hXA
      have HXB := Lib.hid hXB
      have HXC := Lib.hid hXC
      clear hXA hXB hXC hle
      obtain ⟨qK50, qK51, -, -⟩ := K5.out.all
      go_wp2_with fail
      refine (item_w _ _ d _ _ V _ q P S t XA _ (by have := HQ.out; omega) HDT'.out HR.out (by have := HQ.out; omega) HLVV.out HSV.out HST'.out (by rw [← HXA.out]; exact M5'.out _ (by have := HQ.out; omega)) HCP.out P5.out Q5.out).mono ?_
      rintro r w23 ⟨A12, k12, B12, e12, rfl, j1, j2, hb⟩
      clear qK50 qK51
      replace BA := Lib.hid (BA.out.next hb)
      replace L := Lib.hid (below_next L.out hb)
      replace T := Lib.hid (T.out.below hb)
      replace FF := Lib.hid (FF.out.below hb)
      replace ID := Lib.hid (ID.out.below hb)
      replace IV := Lib.hid (IV.out.below hb)
      replace XD := Lib.hid (keepB hb XD.out)
      replace P5 := Lib.hid (P5.out.below hb)
      replace Q5 := Lib.hid (Q5.out.below hb)
      replace K5 := Lib.hid (K5.out.next hb)
      replace LBk := Lib.hid (below_next LBk.out hb)
      clear hb
      have P12 := Lib.hid j1
      have Q12 := Lib.hid j2
      clear j1 j2
      have KB := Lib.hid (below_new w23 (.cells #[.slice A12 t.length k12, .slice B12 XA.length e12] 27))
      have K12 := Lib.hid (Box.new w23 (.slice A12 t.length k12) (.slice B12 XA.length e12))
      replace BA := Lib.hid (BA.out.next KB.out)
      replace L := Lib.hid (below_next L.out KB.out)
      replace T := Lib.hid (T.out.below KB.out)
      replace FF := Lib.hid (FF.out.below KB.out)
      replace ID := Lib.hid (ID.out.below KB.out)
      replace IV := Lib.hid (IV.out.below KB.out)
      replace XD := Lib.hid (keepB KB.out XD.out)
      replace P5 := Lib.hid (P5.out.below KB.out)
      replace Q5 := Lib.hid (Q5.out.below KB.out)
      replace K5 := Lib.hid (K5.out.next KB.out)
      replace LBk := Lib.hid (below_next LBk.out KB.out)
      replace P12 := Lib.hid (P12.out.below KB.out)
      replace Q12 := Lib.hid (Q12.out.below KB.out)
      go_upto_region 12 with (fail)
      clear KB
      generalize hW : w23.alloc (.cells #[.slice A12 t.length k12, .slice B12 XA.length e12] 27) = W12 at *
      clear hW
      generalize w23.heap.size = g12 at *
      obtain ⟨qBA0, qBA1, -, -⟩ := BA.out.all
      go_wp2_with fail
      refine (item_w _ _ d _ _ v _ i P S t XB _ (by have := HQ.out; omega) HDT'.out HR.out (by have := HQ.out; omega) HLV'.out HSZ.out HST'.out HXB.out HCV.out ID.out IV.out).mono ?_
      rintro r w31 ⟨A14, k14, B14, e14, rfl, j1, j2, hb⟩
      clear qBA0 qBA1
      replace BA := Lib.hid (BA.out.next hb)
      replace L := Lib.hid (below_next L.out hb)
      replace T := Lib.hid (T.out.below hb)
      replace FF := Lib.hid (FF.out.below hb)
      replace ID := Lib.hid (ID.out.below hb)
      replace IV := Lib.hid (IV.out.below hb)
      replace XD := Lib.hid (keepB hb XD.out)
      replace P5 := Lib.hid (P5.out.below hb)
      replace Q5 := Lib.hid (Q5.out.below hb)
      replace K5 := Lib.hid (K5.out.next hb)
      replace LBk := Lib.hid (below_next LBk.out hb)
      replace P12 := Lib.hid (P12.out.below hb)
      replace Q12 := Lib.hid (Q12.out.below hb)
      replace K12 := Lib.hid (K12.out.next hb)
      clear hb
      have P14 := Lib.hid j1
      have Q14 := Lib.hid j2
      clear j1 j2
      have KB := Lib.hid (below_new w31 (.cells #[.slice A14 t.length k14, .slice B14 XB.length e14] 27))
      have K14 := Lib.hid (Box.new w31 (.slice A14 t.length k14) (.slice B14 XB.length e14))
      replace BA := Lib.hid (BA.out.next KB.out)
      replace L := Lib.hid (below_next L.out KB.out)
      replace T := Lib.hid (T.out.below KB.out)
      replace FF := Lib.hid (FF.out.below KB.out)
      replace ID := Lib.hid (ID.out.below KB.out)
      replace IV := Lib.hid (IV.out.below KB.out)
      replace XD := Lib.hid (keepB KB.out XD.out)
      replace P5 := Lib.hid (P5.out.below KB.out)
      replace Q5 := Lib.hid (Q5.out.below KB.out)
      replace K5 := Lib.hid (K5.out.next KB.out)
      replace LBk := Lib.hid (below_next LBk.out KB.out)
      replace P12 := Lib.hid (P12.out.below KB.out)
      replace Q12 := Lib.hid (Q12.out.below KB.out)
      replace K12 := Lib.hid (K12.out.next KB.out)
      replace P14 := Lib.hid (P14.out.below KB.out)
      replace Q14 := Lib.hid (Q14.out.below KB.out)
      go_upto_region 13 with (fail)
      clear KB
      generalize hW : w31.alloc (.cells #[.slice A14 t.length k14, .slice B14 XB.length e14] 27) = W14 at *
      clear hW
      generalize w31.heap.size = g14 at *
      obtain ⟨qFF0, qFF1⟩ := FF.out
      obtain ⟨qK120, qK121, -, -⟩ := K12.out.all
      obtain ⟨qK140, qK141, -, -⟩ := K14.out.all
      go_wp2_with fail
      refine (two_w c s _ _ _ _ _ _ _ _ t XA XB XC _ TW.out T.out P12.out Q12.out P14.out Q14.out (by omega) (by omega) (by omega) RA.out RB.out).mono ?_
      rintro r w32 ⟨A16, k16, B16, e16, rfl, j1, j2, hb⟩
      clear qFF0 qFF1 qK120 qK121 qK140 qK141
      replace BA := Lib.hid (BA.out.next hb)
      replace L := Lib.hid (below_next L.out hb)
      replace T := Lib.hid (T.out.below hb)
      replace FF := Lib.hid (FF.out.below hb)
      replace ID := Lib.hid (ID.out.below hb)
      replace IV := Lib.hid (IV.out.below hb)
      replace XD := Lib.hid (keepB hb XD.out)
      replace P5 := Lib.hid (P5.out.below hb)
      replace Q5 := Lib.hid (Q5.out.below hb)
      replace K5 := Lib.hid (K5.out.next hb)
      replace LBk := Lib.hid (below_next LBk.out hb)
      replace P12 := Lib.hid (P12.out.below hb)
      replace Q12 := Lib.hid (Q12.out.below hb)
      replace K12 := Lib.hid (K12.out.next hb)
      replace P14 := Lib.hid (P14.out.below hb)
      replace Q14 := Lib.hid (Q14.out.below hb)
      replace K14 := Lib.hid (K14.out.next hb)
      clear hb
      have P16 := Lib.hid j1
      have Q16 := Lib.hid j2
      clear j1 j2
      have KB := Lib.hid (below_new w32 (.cells #[.slice A16 t.length k16, .slice B16 XC.length e16] 27))
      have K16 := Lib.hid (Box.new w32 (.slice A16 t.length k16) (.slice B16 XC.length e16))
      replace BA := Lib.hid (BA.out.next KB.out)
      replace L := Lib.hid (below_next L.out KB.out)
      replace T := Lib.hid (T.out.below KB.out)
      replace FF := Lib.hid (FF.out.below KB.out)
      replace ID := Lib.hid (ID.out.below KB.out)
      replace IV := Lib.hid (IV.out.below KB.out)
      replace XD := Lib.hid (keepB KB.out XD.out)
      replace P5 := Lib.hid (P5.out.below KB.out)
      replace Q5 := Lib.hid (Q5.out.below KB.out)
      replace K5 := Lib.hid (K5.out.next KB.out)
      replace LBk := Lib.hid (below_next LBk.out KB.out)
      replace P12 := Lib.hid (P12.out.below KB.out)
      replace Q12 := Lib.hid (Q12.out.below KB.out)
      replace K12 := Lib.hid (K12.out.next KB.out)
      replace P14 := Lib.hid (P14.out.below KB.out)
      replace Q14 := Lib.hid (Q14.out.below KB.out)
      replace K14 := Lib.hid (K14.out.next KB.out)
      replace P16 := Lib.hid (P16.out.below KB.out)
      replace Q16 := Lib.hid (Q16.out.below KB.out)
      go_upto_region 14 with (fail)
      clear KB
      generalize hW : w32.alloc (.cells #[.slice A16 t.length k16, .slice B16 XC.length e16] 27) = W16 at *
      clear hW
      generalize w32.heap.size = g16 at *
      obtain ⟨qK50, qK51, -, -⟩ := K5.out.all
      go_wp2_with fail
      refine (item_w _ _ d _ _ V _ i P S t XC _ (by have := HQ.out; omega) HDT'.out HR.out (by have := HQ.out; omega) HLVV.out HSV.out HST'.out (by rw [← HXC.out]; exact M5'.out _ hlt) HCP.out P5.out Q5.out).mono ?_
      rintro r w33 ⟨A18, k18, B18, e18, rfl, j1, j2, hb⟩
      clear qK50 qK51
      replace BA := Lib.hid (BA.out.next hb)
      replace L := Lib.hid (below_next L.out hb)
      replace T := Lib.hid (T.out.below hb)
      replace FF := Lib.hid (FF.out.below hb)
      replace ID := Lib.hid (ID.out.below hb)
      replace IV := Lib.hid (IV.out.below hb)
      replace XD := Lib.hid (keepB hb XD.out)
      replace P5 := Lib.hid (P5.out.below hb)
      replace Q5 := Lib.hid (Q5.out.below hb)
      replace K5 := Lib.hid (K5.out.next hb)
      replace LBk := Lib.hid (below_next LBk.out hb)
      replace P12 := Lib.hid (P12.out.below hb)
      replace Q12 := Lib.hid (Q12.out.below hb)
      replace K12 := Lib.hid (K12.out.next hb)
      replace P14 := Lib.hid (P14.out.below hb)
      replace Q14 := Lib.hid (Q14.out.below hb)
      replace K14 := Lib.hid (K14.out.next hb)
      replace P16 := Lib.hid (P16.out.below hb)
      replace Q16 := Lib.hid (Q16.out.below hb)
      replace K16 := Lib.hid (K16.out.next hb)
      clear hb
      have P18 := Lib.hid j1
      have Q18 := Lib.hid j2
      clear j1 j2
      have KB := Lib.hid (below_new w33 (.cells #[.slice A18 t.length k18, .slice B18 XC.length e18] 27))
      have K18 := Lib.hid (Box.new w33 (.slice A18 t.length k18) (.slice B18 XC.length e18))
      replace BA := Lib.hid (BA.out.next KB.out)
      replace L := Lib.hid (below_next L.out KB.out)
      replace T := Lib.hid (T.out.below KB.out)
      replace FF := Lib.hid (FF.out.below KB.out)
      replace ID := Lib.hid (ID.out.below KB.out)
      replace IV := Lib.hid (IV.out.below KB.out)
      replace XD := Lib.hid (keepB KB.out XD.out)
      replace P5 := Lib.hid (P5.out.below KB.out)
      replace Q5 := Lib.hid (Q5.out.below KB.out)
      replace K5 := Lib.hid (K5.out.next KB.out)
      replace LBk := Lib.hid (below_next LBk.out KB.out)
      replace P12 := Lib.hid (P12.out.below KB.out)
      replace Q12 := Lib.hid (Q12.out.below KB.out)
      replace K12 := Lib.hid (K12.out.next KB.out)
      replace P14 := Lib.hid (P14.out.below KB.out)
      replace Q14 := Lib.hid (Q14.out.below KB.out)
      replace K14 := Lib.hid (K14.out.next KB.out)
      replace P16 := Lib.hid (P16.out.below KB.out)
      replace Q16 := Lib.hid (Q16.out.below KB.out)
      replace K16 := Lib.hid (K16.out.next KB.out)
      replace P18 := Lib.hid (P18.out.below KB.out)
      replace Q18 := Lib.hid (Q18.out.below KB.out)
      go_upto_region 15 with (fail)
      clear KB
      generalize hW : w33.alloc (.cells #[.slice A18 t.length k18, .slice B18 XC.length e18] 27) = W18 at *
      clear hW
      generalize w33.heap.size = g18 at *
      obtain ⟨qK160, qK161, -, -⟩ := K16.out.all
      obtain ⟨qK180, qK181, -, -⟩ := K18.out.all
      go_wp2_with fail
      refine (rsame_eq _ _ t _ _ XC _ _ _ _ _ (by omega) (by omega) P16.out Q16.out P18.out Q18.out).mono ?_
      rintro r w34 ⟨rfl, hb⟩
      clear qK160 qK161 qK180 qK181
      replace BA := Lib.hid (BA.out.next hb)
      replace L := Lib.hid (below_next L.out hb)
      replace T := Lib.hid (T.out.below hb)
      replace FF := Lib.hid (FF.out.below hb)
      replace ID := Lib.hid (ID.out.below hb)
      replace IV := Lib.hid (IV.out.below hb)
      replace XD := Lib.hid (keepB hb XD.out)
      replace P5 := Lib.hid (P5.out.below hb)
      replace Q5 := Lib.hid (Q5.out.below hb)
      replace K5 := Lib.hid (K5.out.next hb)
      replace LBk := Lib.hid (below_next LBk.out hb)
      replace P12 := Lib.hid (P12.out.below hb)
      replace Q12 := Lib.hid (Q12.out.below hb)
      replace K12 := Lib.hid (K12.out.next hb)
      replace P14 := Lib.hid (P14.out.below hb)
      replace Q14 := Lib.hid (Q14.out.below hb)
      replace K14 := Lib.hid (K14.out.next hb)
      replace P16 := Lib.hid (P16.out.below hb)
      replace Q16 := Lib.hid (Q16.out.below hb)
      replace K16 := Lib.hid (K16.out.next hb)
      replace P18 := Lib.hid (P18.out.below hb)
      replace Q18 := Lib.hid (Q18.out.below hb)
      replace K18 := Lib.hid (K18.out.next hb)
      clear hb
      go_wp2
      go_roundw
      case rel => exact ⟨i + 1, by omega, by omega, by go_num, LBk.out⟩
      case measure => simp [intOf]; omega
theorem walk (c : Int) (s : Bool) (A : Option Addr) (c1 : Nat) (d : List Int) (B : Option Addr) (c2 : Nat) (v : List Int) (w : World) (hT : Sc.Tab w) (id : Ints w A d) (iv : Ints w B v) (rv : AllR v) (hcv : v.length ≤ c2 ∧ c2 ≤ maxLen) :
    Calls Tryd.prog 5 #[.agg #[.int .i64 c, .bool s], .agg #[.slice A d.length c1, .slice B v.length c2]] w fun e w' => e = .returned (.bool true) ∧ Below w.heap.size w w' := by
  by_cases h1 : d.length ≤ 10 ∧ v.length ≤ 200
  rotate_left
  · exact walk_1 c s A c1 d B c2 v w hT id iv h1
  by_cases h : cellB d v.length = true
  rotate_left
  · exact walk_2 c s A c1 d B c2 v w hT id iv h1 (by simpa using h)
  by_cases h0 : d.length = 0
  · exact walk_3 c s A c1 d B c2 v w hT id iv h1 h h0
  by_cases h3 : d.getD 0 0 = 0
  · exact walk_4 c s A c1 d B c2 v w hT id iv h1 h (by omega) h3
  by_cases h2 : Sc.hasB c 2 = true
  · exact walk_6 c s A c1 d B c2 v w hT id iv rv hcv h1 h (by omega) h3 h2
  · exact walk_5 c s A c1 d B c2 v w hT id iv h1 h (by omega) h3 (by simpa using h2)

theorem contract (H : Type) (enc : TypeId × Value → H) (W : World) (base : Nat) (args : Array Value) (ds gs : List (DataW H)) (before : List MemPlace)
    (hval : ∀ (j : Nat) t v, Tryd.f5.params[j]? = some t → args[j]? = some v → Value.okWide Tryd.prog W .any base t v)
    (hW : DataW.Whole enc Tryd.prog Tryd.f5.params.toList Rows.foldLastSpec.vars false W args.toList ds gs before) (hL : laidMetH Tryd.prog Rows.foldReducesRow.laid W) :
    Calls Tryd.prog 5 args W fun e W' => ∃ v, e = .returned v ∧ Rows.foldLastSpec.post enc Tryd.prog Tryd.f5 false true false false W args v W' := by
  have hW' := hW
  obtain ⟨p, q, hA0, hV, rfl, hfz, hnd⟩ := hW
  have hA : DataW.TrodAll enc Tryd.prog W 0 (fun _ => true) true Tryd.f5.params.toList args.toList ds p := hA0
  rw [Tryd.params5] at hA hval
  obtain ⟨v0, vs0, dd0, ds0, p0, q0, hargs, rfl, rfl, h0, r0⟩ := trodAll_cons hA
  obtain ⟨v1, vs1, dd1, ds1, p1, q1, rfl, rfl, rfl, h1, r1⟩ := trodAll_cons r0
  obtain ⟨rfl, rfl, rfl⟩ := trodAll_nil r1
  obtain rfl : args = #[v0, v1] := by cases args; simp_all
  obtain ⟨rfl, rfl⟩ := trodVars_none hV
  have k0 := h0
  have lt0 : ∀ x ∈ p0, x.block < W.heap.size := by obtain ⟨m, hm⟩ := k0; exact DataW.trod_lt m _ _ _ hm
  obtain ⟨c0, s0, rfl, wf0⟩ := fn_arg (hval 0 23 v0 rfl rfl) h0
  have k1 := h1
  have lt1 : ∀ x ∈ p1, x.block < W.heap.size := by obtain ⟨m, hm⟩ := k1; exact DataW.trod_lt m _ _ _ hm
  obtain ⟨A1, c1, l1, B1, e1, m1, rfl, hl1, hm1⟩ := cell_arg (hval 1 27 v1 rfl rfl) h1
  clear hA0
  refine (walk c0 s0 A1 c1 l1 B1 e1 m1 W (tab_met hL) hl1.1 hm1.1 (allR_of hm1.2.2.2.2) ⟨hm1.2.1, hm1.2.2.1⟩).mono fun e W' ⟨he, bel⟩ => ?_
  subst he
  exact ⟨_, rfl, _, _, _, [], _, [], hW', trodAll_mk1 (shut_bool Tryd.underlying4 _), (trodAll_cons_mk (Below.trod laidOut (by kernel_rfl) (of_decide_eq_true (by kernel_rfl)) k0 bel lt0) (trodAll_cons_mk (Below.trod laidOut (by kernel_rfl) (of_decide_eq_true (by kernel_rfl)) k1 bel lt1) trodAll_mk0)), rfl, bel.frame _, fun h => by cases h⟩

theorem witness (os : Os) {H : Type} (enc : TypeId × Value → H) :
    (OpenSpec.ofChange Rows.foldLastSpec).preRow enc Tryd.prog Tryd.f5 Rows.foldLastRow.domain false Rows.foldLastRow.laid ((laidWorld os).forCall (fun _ _ => 0) ⟨#[], #[.agg #[.int .i64 0, .bool false], .agg #[.slice none 0 0, .slice none 0 0]], []⟩).memory #[.agg #[.int .i64 0, .bool false], .agg #[.slice none 0 0, .slice none 0 0]] := by
  have hw : (DataW.whole enc Tryd.prog ((laidWorld os).forCall (fun _ _ => 0) ⟨#[], #[.agg #[.int .i64 0, .bool false], .agg #[.slice none 0 0, .slice none 0 0]], []⟩).memory Tryd.f5.params.toList Rows.foldLastSpec.vars false (#[.agg #[.int .i64 0, .bool false], .agg #[.slice none 0 0, .slice none 0 0]] : Array Value).toList 8).map (fun x => (x.1, x.2.1)) =
      some ([.agg [.lit (.int .i64 0), .lit (.bool false)], .agg [.nil, .nil]], []) := by kernel_rfl
  obtain ⟨⟨x1, x2, x3⟩, hx, hx1⟩ := Option.map_eq_some_iff.1 hw
  simp only [Prod.mk.injEq] at hx1
  obtain ⟨rfl, rfl⟩ := hx1
  exact OpenSpec.preRow_of_cond 8 hx (by kernel_rfl) (fun k hk => by cases hk) (by kernel_rfl) (laid_met os _)

set_option maxRecDepth 100000 in
theorem lifted (os : Os) (started : os.Started) (H : Type) (enc : TypeId × Value → H) (F : Stop.Interp) :
    ReturnsInHanded {} Tryd.checked os 5 .any ((OpenSpec.ofChange Rows.foldLastSpec).preRow enc Tryd.prog Tryd.f5 Rows.foldLastRow.domain false Rows.foldLastRow.laid) (((OpenSpec.ofChange Rows.foldLastSpec).at F).post enc Tryd.prog Tryd.f5 false true false false) := by
  refine returnsInHanded_of_row (C := Tryd.checked) (s := OpenSpec.ofChange Rows.foldLastSpec) own started (by kernel_rfl) Tryd.func5
    (witness_row_atRef (enc := enc) (C := Tryd.checked) false (laidWorld os) #[.agg #[.int .i64 0, .bool false], .agg #[.slice none 0 0, .slice none 0 0]] rfl (by kernel_rfl) (by kernel_rfl) (by kernel_rfl) (witness os enc)) ?_
  intro W base args ds gs before hval hW _ _ _ hL _ _
  exact contract H enc W base args ds gs before hval hW hL

theorem said : Rows.FoldLastSaid :=
  OpenClaim.holds_of_cond 5 Tryd.f5 rfl rfl rfl rfl rfl rfl rfl ⟨rfl, rfl, rfl, rfl, rfl⟩ rfl rfl rfl rfl rfl (by kernel_rfl) Tryd.func5 (by kernel_rfl)
    (of_decide_eq_true (by kernel_rfl)) (by unfold Func.isWrapper; first | (rw [if_pos (by decide +kernel)]; kernel_rfl) | (rw [if_neg (by decide +kernel)]; exact ⟨rfl, rfl⟩))
    (fun os started H enc _ F => by rw [OpenClaim.pre_eq_preRow]; exact lifted os started H enc F)

theorem plain (f : FuncId) (fn : Func) (hf : Tryd.pinned.checked.prog.funcNamed Rows.foldLastRow.func = some f) (hfn : Tryd.pinned.checked.prog.funcs[f]? = some fn) :
    false = Tryd.pinned.checked.prog.looks [] ∧ ∀ (j : Nat) t, fn.params[j]? = some t → Tryd.pinned.checked.prog.wantsStandIn t = false := by
  obtain rfl : f = 5 := Option.some.inj ((show Tryd.prog.funcNamed Rows.foldLastRow.func = some 5 by kernel_rfl).symm.trans hf) |>.symm
  obtain rfl : fn = Tryd.f5 := (Option.some.inj (Tryd.func5.symm.trans hfn)).symm
  refine ⟨by kernel_rfl, fun j t ht => ?_⟩
  rw [Tryd.params5] at ht
  have hm := Array.mem_of_getElem? ht
  simp only [List.mem_toArray, List.mem_cons, List.not_mem_nil, or_false] at hm
  rcases hm with rfl | rfl
  · exact (show Tryd.prog.wantsStandIn 23 = false by kernel_rfl)
  · exact (show Tryd.prog.wantsStandIn 27 = false by kernel_rfl)

theorem proved : Rows.FoldLastCardSaid :=
  Claim7.holds_tied_plain_at .later [] _ _ _ _ said (fun _ h => by cases h) (by kernel_rfl) (fun _ h => by cases h) foldLast_row_tie rfl ⟨rfl, rfl⟩ (by kernel_rfl) rfl plain (by kernel_rfl)
end Go.Proofs.YticicfbllhnpcaaDoor.foldLast
