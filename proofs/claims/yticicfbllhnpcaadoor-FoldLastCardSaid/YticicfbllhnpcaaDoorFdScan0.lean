/-
  What fold.Scan answers, in all its ways; nothing that was there is written. Conditions: the table of traits holds what its text lays; the numbers are int64.
-/
import Derived.Test.YticicfbllhnpcaaDoorFdFit
set_option maxRecDepth 100000
namespace Go.Proofs.YticicfbllhnpcaaDoor.Fd
open Go.Proofs.YticicfbllhnpcaaDoor.Sh
open Go.RowKit
set_option linter.unusedVariables false

theorem far5 {W : World} {p a1 a2 a3 a4 a5 : Addr} {u x1 x2 x3 x4 x5 : Value} (h : W.cell? a1 = some x1 ∧ W.cell? a2 = some x2 ∧ W.cell? a3 = some x3 ∧ W.cell? a4 = some x4 ∧ W.cell? a5 = some x5) (n1 : a1.block ≠ p.block) (n2 : a2.block ≠ p.block) (n3 : a3.block ≠ p.block) (n4 : a4.block ≠ p.block) (n5 : a5.block ≠ p.block) :
    (W.setCell p u).cell? a1 = some x1 ∧ (W.setCell p u).cell? a2 = some x2 ∧ (W.setCell p u).cell? a3 = some x3 ∧ (W.setCell p u).cell? a4 = some x4 ∧ (W.setCell p u).cell? a5 = some x5 := by
  have k : ∀ a x, W.cell? a = some x → a.block ≠ p.block → (W.setCell p u).cell? a = some x := fun a x h n => (World.cell?_setCell_other _ _ _ _ (fun e => by first | exact n (congrArg Addr.block e) | exact n (congrArg Addr.block e).symm)).trans h
  exact ⟨k _ _ h.1 n1, k _ _ h.2.1 n2, k _ _ h.2.2.1 n3, k _ _ h.2.2.2.1 n4, k _ _ h.2.2.2.2 n5⟩
theorem keepB {W w1 : World} {p : Addr} {x : Value} (hb : Below W.heap.size W w1) (h : W.cell? p = some x) : w1.cell? p = some x := (hb.cell (p := p) (World.block_lt_of_cell? W p h)).trans h
theorem of_yes (A : Option Addr) (c : Nat) (d : List Int) (B : Option Addr) (c2 : Nat) (v : List Int) (w : World) (hd : d.length ≤ 100) (hv : v.length ≤ 1000) (id : Ints w A d) (iv : Ints w B v) (h : rightB d = true) (hn : (v.length : Int) = sizeI d) : Calls Tryd.prog 50 #[.slice A d.length c, .slice B v.length c2] w (RetC w d v (.int .i64 0)) := by
  have h0 := of_any A c d B c2 v w hd hv id iv
  obtain ⟨e1, e2, e3⟩ := of_ok h hn
  rwa [e1, e2, e3] at h0
theorem along_x (A : Option Addr) (n c : Nat) (b : Bool) (x : Int) (w : World) (hn : n ≤ 1000) (hx : (if b = true then 0 else (n : Int) - 1) = x) : Calls Tryd.prog 51 #[.slice A n c, .bool b] w fun e w' => e = .returned (.int .i64 x) ∧ Below w.heap.size w w' :=
  (along_any A n c b w hn).mono fun e w' ⟨h1, h2⟩ => ⟨by rw [h1, hx], by rw [← h2]; exact Below.refl _ _⟩
/-- The axis that is meant, its length, its stride. -/
structure AxOk (d : List Int) (b : Bool) (a P st : Nat) : Prop where
  ax : (if b = true then 0 else (d.length : Int) - 1) = (a : Int)
  lt : a < d.length
  hP : d.getD a 0 = (P : Int)
  hst : (strB d).getD a 0 = (st : Int)
  sl : (strB d).length = d.length
  P64 : P ≤ 64
set_option maxHeartbeats 2000000 in
theorem scan_1 (c : Int) (s : Bool) (A : Option Addr) (c1 : Nat) (d : List Int) (B : Option Addr) (c2 : Nat) (v : List Int) (b : Bool) (w : World) (hT : Sc.Tab w) (id : Ints w A d) (iv : Ints w B v) (hd : d.length ≤ 100) (h : cellB d v.length = false) :
    Calls Tryd.prog 19 #[.agg #[.int .i64 c, .bool s], .agg #[.slice A d.length c1, .slice B v.length c2], .bool b] w (RetC w [] [] (.int .i64 1)) := by
  obtain ⟨f0, b0, r0, hb0⟩ := red_all w c s (.slice A d.length c1) (.slice B v.length c2)
  have FN := Lib.hid (f0)
  have BC := Lib.hid (b0)
  have BR := Lib.hid (r0)
  have L := Lib.hid (hb0)
  have T := Lib.hid (hT.below L.out)
  have ID := Lib.hid (id.below L.out)
  have IV := Lib.hid (iv.below L.out)
  clear f0 b0 r0 hb0 hT id iv
  go_enter Tryd.func19, Tryd.ntmps19
  obtain ⟨qFN0, qFN1⟩ := FN.out
  obtain ⟨qBC0, qBC1, -, -⟩ := BC.out.all
  go_wp2_with fail
  refine (fit_1 c s _ _ d _ _ v _ T.out ID.out IV.out hd h).mono ?_
  rintro r w1 ⟨rfl, hb⟩
  clear qFN0 qFN1 qBC0 qBC1
  replace FN := Lib.hid (FN.out.below hb)
  replace BC := Lib.hid (BC.out.next hb)
  replace BR := Lib.hid (BR.out.next hb)
  replace L := Lib.hid (below_next L.out hb)
  replace T := Lib.hid (T.out.below hb)
  replace ID := Lib.hid (ID.out.below hb)
  replace IV := Lib.hid (IV.out.below hb)
  clear hb
  have KB := Lib.hid (below_new w1 (.cells #[.nilFunc, .int .i64 0, .bool false] 68))
  replace FN := Lib.hid (FN.out.below KB.out)
  replace BC := Lib.hid (BC.out.next KB.out)
  replace BR := Lib.hid (BR.out.next KB.out)
  replace L := Lib.hid (below_next L.out KB.out)
  replace T := Lib.hid (T.out.below KB.out)
  replace ID := Lib.hid (ID.out.below KB.out)
  replace IV := Lib.hid (IV.out.below KB.out)
  obtain ⟨qBR0, qBR1, fBR0, fBR1⟩ := BR.out.all
  go_wp2
  obtain ⟨t0, t1, _, _⟩ := ((BR.out.set0 (.slice none 0 0)).set1 (.slice none 0 0)).all
  refine bodyPost_ret (v := .tuple #[.agg #[.slice none 0 0, .slice none 0 0], .int .i64 1]) (by simp [results, Tryd.results19, go_sem, t0, t1]) rfl ?_
  exact ⟨_, rfl, IsCell.none _ _, (L.out.setCell (by simp; try omega) _).setCell (by simp; try omega) _⟩
set_option maxHeartbeats 2000000 in
theorem scan_13 (c : Int) (s : Bool) (A : Option Addr) (c1 : Nat) (d : List Int) (B : Option Addr) (c2 : Nat) (v : List Int) (b : Bool) (w : World) (hT : Sc.Tab w) (id : Ints w A d) (iv : Ints w B v) (hd : d.length ≤ 100) (h : cellB d v.length = true) (h2 : Sc.hasB c 2 = false) :
    Calls Tryd.prog 19 #[.agg #[.int .i64 c, .bool s], .agg #[.slice A d.length c1, .slice B v.length c2], .bool b] w (RetC w [] [] (.int .i64 13)) := by
  obtain ⟨f0, b0, r0, hb0⟩ := red_all w c s (.slice A d.length c1) (.slice B v.length c2)
  have FN := Lib.hid (f0)
  have BC := Lib.hid (b0)
  have BR := Lib.hid (r0)
  have L := Lib.hid (hb0)
  have T := Lib.hid (hT.below L.out)
  have ID := Lib.hid (id.below L.out)
  have IV := Lib.hid (iv.below L.out)
  clear f0 b0 r0 hb0 hT id iv
  go_enter Tryd.func19, Tryd.ntmps19
  obtain ⟨qFN0, qFN1⟩ := FN.out
  obtain ⟨qBC0, qBC1, -, -⟩ := BC.out.all
  go_wp2_with fail
  refine (fit_13 c s _ _ d _ _ v _ T.out ID.out IV.out hd h h2).mono ?_
  rintro r w1 ⟨rfl, hb⟩
  clear qFN0 qFN1 qBC0 qBC1
  replace FN := Lib.hid (FN.out.below hb)
  replace BC := Lib.hid (BC.out.next hb)
  replace BR := Lib.hid (BR.out.next hb)
  replace L := Lib.hid (below_next L.out hb)
  replace T := Lib.hid (T.out.below hb)
  replace ID := Lib.hid (ID.out.below hb)
  replace IV := Lib.hid (IV.out.below hb)
  clear hb
  have KB := Lib.hid (below_new w1 (.cells #[.nilFunc, .int .i64 0, .bool false] 68))
  replace FN := Lib.hid (FN.out.below KB.out)
  replace BC := Lib.hid (BC.out.next KB.out)
  replace BR := Lib.hid (BR.out.next KB.out)
  replace L := Lib.hid (below_next L.out KB.out)
  replace T := Lib.hid (T.out.below KB.out)
  replace ID := Lib.hid (ID.out.below KB.out)
  replace IV := Lib.hid (IV.out.below KB.out)
  obtain ⟨qBR0, qBR1, fBR0, fBR1⟩ := BR.out.all
  go_wp2
  obtain ⟨t0, t1, _, _⟩ := ((BR.out.set0 (.slice none 0 0)).set1 (.slice none 0 0)).all
  refine bodyPost_ret (v := .tuple #[.agg #[.slice none 0 0, .slice none 0 0], .int .i64 13]) (by simp [results, Tryd.results19, go_sem, t0, t1]) rfl ?_
  exact ⟨_, rfl, IsCell.none _ _, (L.out.setCell (by simp; try omega) _).setCell (by simp; try omega) _⟩
set_option maxHeartbeats 2000000 in
theorem scan_none (c : Int) (s : Bool) (A : Option Addr) (c1 : Nat) (d : List Int) (B : Option Addr) (c2 : Nat) (v : List Int) (b : Bool) (w : World) (hT : Sc.Tab w) (id : Ints w A d) (iv : Ints w B v) (hd : d.length ≤ 100) (hv : v.length ≤ 1000) (h : cellB d v.length = true) (h2 : Sc.hasB c 2 = true) (h0 : d.length = 0) :
    Calls Tryd.prog 19 #[.agg #[.int .i64 c, .bool s], .agg #[.slice A d.length c1, .slice B v.length c2], .bool b] w (RetC w d v (.int .i64 0)) := by
  obtain ⟨f0, b0, r0, hb0⟩ := red_all w c s (.slice A d.length c1) (.slice B v.length c2)
  have FN := Lib.hid (f0)
  have BC := Lib.hid (b0)
  have BR := Lib.hid (r0)
  have L := Lib.hid (hb0)
  have T := Lib.hid (hT.below L.out)
  have ID := Lib.hid (id.below L.out)
  have IV := Lib.hid (iv.below L.out)
  clear f0 b0 r0 hb0 hT id iv
  have hz : ((d.length : Int) == 0) = true := by simp; exact List.eq_nil_of_length_eq_zero h0
  clear h0
  go_enter Tryd.func19, Tryd.ntmps19
  obtain ⟨qFN0, qFN1⟩ := FN.out
  obtain ⟨qBC0, qBC1, -, -⟩ := BC.out.all
  go_wp2_with fail
  refine (fit_0 c s _ _ d _ _ v _ T.out ID.out IV.out hd h h2).mono ?_
  rintro r w1 ⟨g, rfl, hf, hgl, hb⟩
  clear qFN0 qFN1 qBC0 qBC1
  replace FN := Lib.hid (FN.out.below hb)
  replace BC := Lib.hid (BC.out.next hb)
  replace BR := Lib.hid (BR.out.next hb)
  replace L := Lib.hid (below_next L.out hb)
  replace T := Lib.hid (T.out.below hb)
  replace ID := Lib.hid (ID.out.below hb)
  replace IV := Lib.hid (IV.out.below hb)
  clear hb
  have FG := Lib.hid hf
  clear hf hgl
  have KB := Lib.hid (below_new w1 (.cells #[(.func (.func 114) #[] #[.pointer (some ⟨g, 0, none⟩)]), .int .i64 (Sc.trOf c).unit, .bool (Sc.trOf c).starts] 68))
  have BF := Lib.hid (Bx.new 68 w1 #[(.func (.func 114) #[] #[.pointer (some ⟨g, 0, none⟩)]), .int .i64 (Sc.trOf c).unit, .bool (Sc.trOf c).starts])
  have hg8 := BR.out.lt
  replace FN := Lib.hid (FN.out.below KB.out)
  replace BC := Lib.hid (BC.out.next KB.out)
  replace BR := Lib.hid (BR.out.next KB.out)
  replace L := Lib.hid (below_next L.out KB.out)
  replace T := Lib.hid (T.out.below KB.out)
  replace ID := Lib.hid (ID.out.below KB.out)
  replace IV := Lib.hid (IV.out.below KB.out)
  replace FG := Lib.hid (FG.out.below KB.out)
  go_upto_region 2 with (fail)
  clear KB
  generalize hW : w1.alloc (.cells #[(.func (.func 114) #[] #[.pointer (some ⟨g, 0, none⟩)]), .int .i64 (Sc.trOf c).unit, .bool (Sc.trOf c).starts] 68) = W1 at *
  clear hW
  generalize w1.heap.size = g8 at *
  clear FN
  obtain ⟨qBC0, qBC1, -, -⟩ := BC.out.all
  have hg9 := BR.out.lt
  have HLW := Lib.hid L.out.size
  have OF := Lib.hid (fun W i1 i2 => of_yes A c1 d B c2 v W hd hv i1 i2 (cellB_parts h).1 (cellB_parts h).2)
  go_wp2_with fail
  refine (OF.out _ ID.out IV.out).mono ?_
  rintro r w2 ⟨x, rfl, ⟨A7, k7, B7, e7, rfl, j⟩, hb⟩
  clear qBC0 qBC1
  replace BC := Lib.hid (BC.out.next hb)
  replace BR := Lib.hid (BR.out.next hb)
  replace L := Lib.hid (below_next L.out hb)
  replace T := Lib.hid (T.out.below hb)
  replace ID := Lib.hid (ID.out.below hb)
  replace IV := Lib.hid (IV.out.below hb)
  replace FG := Lib.hid (FG.out.below hb)
  replace BF := Lib.hid (BF.out.next hb)
  clear hb
  have J := Lib.hid (show IsCell w2 W1.heap.size d v (.agg #[.slice A7 d.length k7, .slice B7 v.length e7]) from ⟨A7, k7, B7, e7, rfl, j⟩)
  clear j
  obtain ⟨qBR0, qBR1, fBR0, fBR1⟩ := BR.out.all
  go_wp2
  obtain ⟨t0, t1, _, _⟩ := ((BR.out.set0 (.slice A7 d.length k7)).set1 (.slice B7 v.length e7)).all
  refine bodyPost_ret (v := .tuple #[.agg #[.slice A7 d.length k7, .slice B7 v.length e7], .int .i64 0]) (by simp [results, Tryd.results19, go_sem, t0, t1]) rfl ?_
  exact ⟨_, rfl, (J.out.set2 hg9 _ _).mono (by have := HLW.out; omega), (L.out.setCell (by simp; try omega) _).setCell (by simp; try omega) _⟩
end Go.Proofs.YticicfbllhnpcaaDoor.Fd
