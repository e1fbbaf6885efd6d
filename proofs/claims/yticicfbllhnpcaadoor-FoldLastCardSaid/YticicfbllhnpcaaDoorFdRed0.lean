/-
  What fold.Reduce answers, in all its ways; nothing that was there is written. Conditions: the table of traits holds what its text lays; the numbers are int64.
-/
import Derived.Test.YticicfbllhnpcaaDoorFdScan0
set_option maxRecDepth 100000
namespace Go.Proofs.YticicfbllhnpcaaDoor.Fd
open Go.Proofs.YticicfbllhnpcaaDoor.Sh
open Go.RowKit
set_option linter.unusedVariables false

set_option maxHeartbeats 2000000 in
theorem red_1 (c : Int) (s : Bool) (A : Option Addr) (c1 : Nat) (d : List Int) (B : Option Addr) (c2 : Nat) (v : List Int) (b : Bool) (w : World) (hT : Sc.Tab w) (id : Ints w A d) (iv : Ints w B v) (hd : d.length ≤ 100) (h : cellB d v.length = false) :
    Calls Tryd.prog 16 #[.agg #[.int .i64 c, .bool s], .agg #[.slice A d.length c1, .slice B v.length c2], .bool b] w (RetC w [] [] (.int .i64 1)) := by
  obtain ⟨f0, b0, r0, hb0⟩ := red_all w c s (.slice A d.length c1) (.slice B v.length c2)
  have FN := Lib.hid (f0)
  have BC := Lib.hid (b0)
  have BR := Lib.hid (r0)
  have L := Lib.hid (hb0)
  have T := Lib.hid (hT.below L.out)
  have ID := Lib.hid (id.below L.out)
  have IV := Lib.hid (iv.below L.out)
  clear f0 b0 r0 hb0 hT id iv
  go_enter Tryd.func16, Tryd.ntmps16
  obtain ⟨qFN0, qFN1⟩ := FN.out
  obtain ⟨qBC0, qBC1, -, -⟩ := BC.out.all
  go_wp2_with fail
  refine (fit_1 c s _ _ d _ _ v _ T.out ID.out IV.out hd h).mono ?_
  rintro r w1 ⟨rfl, hb⟩
  clear qFN0 qFN1 qBC0 qBC1
  replace FN := Lib.hid (FN.out.below hb)
  replace BC := Lib.hid (BC.out.next hb)
  replace BR := Lib.hid (BR.out.next hb)
  replace L := Lib.hid (below_next L.out hb)
  replace T := Lib.hid (T.out.below hb)
  replace ID := Lib.hid (ID.out.below hb)
  replace IV := Lib.hid (IV.out.below hb)
  clear hb
  have KB := Lib.hid (below_new w1 (.cells #[.nilFunc, .int .i64 0, .bool false] 68))
  replace FN := Lib.hid (FN.out.below KB.out)
  replace BC := Lib.hid (BC.out.next KB.out)
  replace BR := Lib.hid (BR.out.next KB.out)
  replace L := Lib.hid (below_next L.out KB.out)
  replace T := Lib.hid (T.out.below KB.out)
  replace ID := Lib.hid (ID.out.below KB.out)
  replace IV := Lib.hid (IV.out.below KB.out)
  obtain ⟨qBR0, qBR1, fBR0, fBR1⟩ := BR.out.all
  go_wp2
  obtain ⟨t0, t1, _, _⟩ := ((BR.out.set0 (.slice none 0 0)).set1 (.slice none 0 0)).all
  refine bodyPost_ret (v := .tuple #[.agg #[.slice none 0 0, .slice none 0 0], .int .i64 1]) (by simp [results, Tryd.results16, go_sem, t0, t1]) rfl ?_
  exact ⟨_, rfl, IsCell.none _ _, (L.out.setCell (by simp; try omega) _).setCell (by simp; try omega) _⟩
set_option maxHeartbeats 2000000 in
theorem red_13 (c : Int) (s : Bool) (A : Option Addr) (c1 : Nat) (d : List Int) (B : Option Addr) (c2 : Nat) (v : List Int) (b : Bool) (w : World) (hT : Sc.Tab w) (id : Ints w A d) (iv : Ints w B v) (hd : d.length ≤ 100) (h : cellB d v.length = true) (h2 : Sc.hasB c 2 = false) :
    Calls Tryd.prog 16 #[.agg #[.int .i64 c, .bool s], .agg #[.slice A d.length c1, .slice B v.length c2], .bool b] w (RetC w [] [] (.int .i64 13)) := by
  obtain ⟨f0, b0, r0, hb0⟩ := red_all w c s (.slice A d.length c1) (.slice B v.length c2)
  have FN := Lib.hid (f0)
  have BC := Lib.hid (b0)
  have BR := Lib.hid (r0)
  have L := Lib.hid (hb0)
  have T := Lib.hid (hT.below L.out)
  have ID := Lib.hid (id.below L.out)
  have IV := Lib.hid (iv.below L.out)
  clear f0 b0 r0 hb0 hT id iv
  go_enter Tryd.func16, Tryd.ntmps16
  obtain ⟨qFN0, qFN1⟩ := FN.out
  obtain ⟨qBC0, qBC1, -, -⟩ := BC.out.all
  go_wp2_with fail
  refine (fit_13 c s _ _ d _ _ v _ T.out ID.out IV.out hd h h2).mono ?_
  rintro r w1 ⟨rfl, hb⟩
  clear qFN0 qFN1 qBC0 qBC1
  replace FN := Lib.hid (FN.out.below hb)
  replace BC := Lib.hid (BC.out.next hb)
  replace BR := Lib.hid (BR.out.next hb)
  replace L := Lib.hid (below_next L.out hb)
  replace T := Lib.hid (T.out.below hb)
  replace ID := Lib.hid (ID.out.below hb)
  replace IV := Lib.hid (IV.out.below hb)
  clear hb
  have KB := Lib.hid (below_new w1 (.cells #[.nilFunc, .int .i64 0, .bool false] 68))
  replace FN := Lib.hid (FN.out.below KB.out)
  replace BC := Lib.hid (BC.out.next KB.out)
  replace BR := Lib.hid (BR.out.next KB.out)
  replace L := Lib.hid (below_next L.out KB.out)
  replace T := Lib.hid (T.out.below KB.out)
  replace ID := Lib.hid (ID.out.below KB.out)
  replace IV := Lib.hid (IV.out.below KB.out)
  obtain ⟨qBR0, qBR1, fBR0, fBR1⟩ := BR.out.all
  go_wp2
  obtain ⟨t0, t1, _, _⟩ := ((BR.out.set0 (.slice none 0 0)).set1 (.slice none 0 0)).all
  refine bodyPost_ret (v := .tuple #[.agg #[.slice none 0 0, .slice none 0 0], .int .i64 13]) (by simp [results, Tryd.results16, go_sem, t0, t1]) rfl ?_
  exact ⟨_, rfl, IsCell.none _ _, (L.out.setCell (by simp; try omega) _).setCell (by simp; try omega) _⟩
set_option maxHeartbeats 2000000 in
theorem red_none (c : Int) (s : Bool) (A : Option Addr) (c1 : Nat) (d : List Int) (B : Option Addr) (c2 : Nat) (v : List Int) (b : Bool) (w : World) (hT : Sc.Tab w) (id : Ints w A d) (iv : Ints w B v) (hd : d.length ≤ 100) (hv : v.length ≤ 1000) (h : cellB d v.length = true) (h2 : Sc.hasB c 2 = true) (h0 : d.length = 0) :
    Calls Tryd.prog 16 #[.agg #[.int .i64 c, .bool s], .agg #[.slice A d.length c1, .slice B v.length c2], .bool b] w (RetC w d v (.int .i64 0)) := by
  obtain ⟨f0, b0, r0, hb0⟩ := red_all w c s (.slice A d.length c1) (.slice B v.length c2)
  have FN := Lib.hid (f0)
  have BC := Lib.hid (b0)
  have BR := Lib.hid (r0)
  have L := Lib.hid (hb0)
  have T := Lib.hid (hT.below L.out)
  have ID := Lib.hid (id.below L.out)
  have IV := Lib.hid (iv.below L.out)
  clear f0 b0 r0 hb0 hT id iv
  have hz : ((d.length : Int) == 0) = true := by simp; exact List.eq_nil_of_length_eq_zero h0
  clear h0
  go_enter Tryd.func16, Tryd.ntmps16
  obtain ⟨qFN0, qFN1⟩ := FN.out
  obtain ⟨qBC0, qBC1, -, -⟩ := BC.out.all
  go_wp2_with fail
  refine (fit_0 c s _ _ d _ _ v _ T.out ID.out IV.out hd h h2).mono ?_
  rintro r w1 ⟨g, rfl, hf, hgl, hb⟩
  clear qFN0 qFN1 qBC0 qBC1
  replace FN := Lib.hid (FN.out.below hb)
  replace BC := Lib.hid (BC.out.next hb)
  replace BR := Lib.hid (BR.out.next hb)
  replace L := Lib.hid (below_next L.out hb)
  replace T := Lib.hid (T.out.below hb)
  replace ID := Lib.hid (ID.out.below hb)
  replace IV := Lib.hid (IV.out.below hb)
  clear hb
  have FG := Lib.hid hf
  clear hf hgl
  have KB := Lib.hid (below_new w1 (.cells #[(.func (.func 114) #[] #[.pointer (some ⟨g, 0, none⟩)]), .int .i64 (Sc.trOf c).unit, .bool (Sc.trOf c).starts] 68))
  have BF := Lib.hid (Bx.new 68 w1 #[(.func (.func 114) #[] #[.pointer (some ⟨g, 0, none⟩)]), .int .i64 (Sc.trOf c).unit, .bool (Sc.trOf c).starts])
  have hg8 := BR.out.lt
  replace FN := Lib.hid (FN.out.below KB.out)
  replace BC := Lib.hid (BC.out.next KB.out)
  replace BR := Lib.hid (BR.out.next KB.out)
  replace L := Lib.hid (below_next L.out KB.out)
  replace T := Lib.hid (T.out.below KB.out)
  replace ID := Lib.hid (ID.out.below KB.out)
  replace IV := Lib.hid (IV.out.below KB.out)
  replace FG := Lib.hid (FG.out.below KB.out)
  go_upto_region 2 with (fail)
  clear KB
  generalize hW : w1.alloc (.cells #[(.func (.func 114) #[] #[.pointer (some ⟨g, 0, none⟩)]), .int .i64 (Sc.trOf c).unit, .bool (Sc.trOf c).starts] 68) = W1 at *
  clear hW
  generalize w1.heap.size = g8 at *
  clear FN
  obtain ⟨qBC0, qBC1, -, -⟩ := BC.out.all
  have hg9 := BR.out.lt
  have HLW := Lib.hid L.out.size
  have OF := Lib.hid (fun W i1 i2 => of_yes A c1 d B c2 v W hd hv i1 i2 (cellB_parts h).1 (cellB_parts h).2)
  go_wp2_with fail
  refine (OF.out _ ID.out IV.out).mono ?_
  rintro r w2 ⟨x, rfl, ⟨A7, k7, B7, e7, rfl, j⟩, hb⟩
  clear qBC0 qBC1
  replace BC := Lib.hid (BC.out.next hb)
  replace BR := Lib.hid (BR.out.next hb)
  replace L := Lib.hid (below_next L.out hb)
  replace T := Lib.hid (T.out.below hb)
  replace ID := Lib.hid (ID.out.below hb)
  replace IV := Lib.hid (IV.out.below hb)
  replace FG := Lib.hid (FG.out.below hb)
  replace BF := Lib.hid (BF.out.next hb)
  clear hb
  have J := Lib.hid (show IsCell w2 W1.heap.size d v (.agg #[.slice A7 d.length k7, .slice B7 v.length e7]) from ⟨A7, k7, B7, e7, rfl, j⟩)
  clear j
  obtain ⟨qBR0, qBR1, fBR0, fBR1⟩ := BR.out.all
  go_wp2
  obtain ⟨t0, t1, _, _⟩ := ((BR.out.set0 (.slice A7 d.length k7)).set1 (.slice B7 v.length e7)).all
  refine bodyPost_ret (v := .tuple #[.agg #[.slice A7 d.length k7, .slice B7 v.length e7], .int .i64 0]) (by simp [results, Tryd.results16, go_sem, t0, t1]) rfl ?_
  exact ⟨_, rfl, (J.out.set2 hg9 _ _).mono (by have := HLW.out; omega), (L.out.setCell (by simp; try omega) _).setCell (by simp; try omega) _⟩
theorem without_o (A : Option Addr) (c : Nat) (d O : List Int) (a : Int) (w : World) (hO : withoutL d a = O) (hl : d.length ≤ 100) (hi : Ints w A d) : Calls Tryd.prog 53 #[.slice A d.length c, .int .i64 a] w (RetInts w O) := by
  subst hO; exact without_any A c d a w hl hi
theorem right_x (A : Option Addr) (c : Nat) (d : List Int) (t : Bool) (w : World) (ht : rightB d = t) (hl : d.length ≤ 1000) (hi : Ints w A d) : Calls Tryd.prog 54 #[.slice A d.length c] w fun e w' => e = .returned (.bool t) ∧ Below w.heap.size w w' := by
  subst ht; exact right_any A c d w (by unfold maxLen; omega) hi
/-- What a fold reads stands there. -/
structure RdOk (v : List Int) (P st n : Nat) : Prop where
  n64 : n ≤ 64
  v64 : v.length ≤ 64
  pos : 0 < n → 0 < st ∧ st ≤ 64
  at_ : ∀ k, k < n → ∀ j, j < P → k / st * st * P + k % st + j * st < v.length
def rdF (c : Int) (s : Bool) (v : List Int) (P st k : Nat) : Int := rowI c s (lineL v (k / st * st * P + k % st) st P)
set_option maxHeartbeats 8000000 in
set_option maxRecDepth 100000 in
theorem red_5 (c : Int) (s : Bool) (A : Option Addr) (c1 : Nat) (d : List Int) (B : Option Addr) (c2 : Nat) (v : List Int) (b : Bool) (a P st : Nat) (w : World) (hT : Sc.Tab w) (id : Ints w A d) (iv : Ints w B v) (hd : d.length ≤ 100) (h : cellB d v.length = true) (h2 : Sc.hasB c 2 = true) (ok : AxOk d b a P st) (hP0 : P = 0) (hs5 : (Sc.trOf c).starts = false) :
    Calls Tryd.prog 16 #[.agg #[.int .i64 c, .bool s], .agg #[.slice A d.length c1, .slice B v.length c2], .bool b] w (RetC w [] [] (.int .i64 5)) := by
  obtain ⟨f0, b0, r0, hb0⟩ := red_all w c s (.slice A d.length c1) (.slice B v.length c2)
  have FN := Lib.hid (f0)
  have BC := Lib.hid (b0)
  have BR := Lib.hid (r0)
  have L := Lib.hid (hb0)
  have T := Lib.hid (hT.below L.out)
  have ID := Lib.hid (id.below L.out)
  have IV := Lib.hid (iv.below L.out)
  clear f0 b0 r0 hb0 hT id iv
  have HS5 := Lib.hid hs5
  have HP0 := Lib.hid hP0
  clear hs5 hP0
  have OK := Lib.hid ok
  have P64 := ok.P64
  clear ok
  have hz : ((d.length : Int) == 0) = false := by
    have := OK.out.lt
    simp; intro h0; rw [h0] at this; simp at this
  go_enter Tryd.func16, Tryd.ntmps16
  obtain ⟨qFN0, qFN1⟩ := FN.out
  obtain ⟨qBC0, qBC1, -, -⟩ := BC.out.all
  go_wp2_with fail
  refine (fit_0 c s _ _ d _ _ v _ T.out ID.out IV.out hd h h2).mono ?_
  rintro r w1 ⟨g, rfl, hf, hgl, hb⟩
  clear qFN0 qFN1 qBC0 qBC1
  replace FN := Lib.hid (FN.out.below hb)
  replace BC := Lib.hid (BC.out.next hb)
  replace BR := Lib.hid (BR.out.next hb)
  replace L := Lib.hid (below_next L.out hb)
  replace T := Lib.hid (T.out.below hb)
  replace ID := Lib.hid (ID.out.below hb)
  replace IV := Lib.hid (IV.out.below hb)
  clear hb
  have FG := Lib.hid hf
  clear hf hgl
  have KB := Lib.hid (below_new w1 (.cells #[(.func (.func 114) #[] #[.pointer (some ⟨g, 0, none⟩)]), .int .i64 (Sc.trOf c).unit, .bool (Sc.trOf c).starts] 68))
  have BF := Lib.hid (Bx.new 68 w1 #[(.func (.func 114) #[] #[.pointer (some ⟨g, 0, none⟩)]), .int .i64 (Sc.trOf c).unit, .bool (Sc.trOf c).starts])
  have hg8 := BR.out.lt
  replace FN := Lib.hid (FN.out.below KB.out)
  replace BC := Lib.hid (BC.out.next KB.out)
  replace BR := Lib.hid (BR.out.next KB.out)
  replace L := Lib.hid (below_next L.out KB.out)
  replace T := Lib.hid (T.out.below KB.out)
  replace ID := Lib.hid (ID.out.below KB.out)
  replace IV := Lib.hid (IV.out.below KB.out)
  replace FG := Lib.hid (FG.out.below KB.out)
  go_upto_region 2 with (fail)
  clear KB
  generalize hW : w1.alloc (.cells #[(.func (.func 114) #[] #[.pointer (some ⟨g, 0, none⟩)]), .int .i64 (Sc.trOf c).unit, .bool (Sc.trOf c).starts] 68) = W1 at *
  clear hW
  generalize w1.heap.size = g8 at *
  clear FN
  obtain ⟨qBC0, qBC1, -, -⟩ := BC.out.all
  go_wp2_with fail
  refine (along_x _ d.length _ b (a : Int) _ (by omega) OK.out.ax).mono ?_
  rintro r w2 ⟨rfl, hb⟩
  clear qBC0 qBC1
  replace BC := Lib.hid (BC.out.next hb)
  replace BR := Lib.hid (BR.out.next hb)
  replace L := Lib.hid (below_next L.out hb)
  replace T := Lib.hid (T.out.below hb)
  replace ID := Lib.hid (ID.out.below hb)
  replace IV := Lib.hid (IV.out.below hb)
  replace FG := Lib.hid (FG.out.below hb)
  replace BF := Lib.hid (BF.out.next hb)
  clear hb
  obtain ⟨qBC0, qBC1, -, -⟩ := BC.out.all
  obtain ⟨bd, od, rfl, hbd, hcd⟩ := ID.out (by have := OK.out.lt; omega)
  have xd := hcd a OK.out.lt
  rw [OK.out.hP] at xd
  have hal := OK.out.lt
  have a0 : (0 : Int) ≤ (a : Int) := by omega
  have a1 : (a : Int) < (d.length : Int) := by omega
  have ST := Lib.hid (strides_any (some ⟨bd, od, none⟩) c1 d w2.drew (by unfold maxLen; omega) (ID.out.below ((Below.refl _ w2).drew)))
  have HSL := Lib.hid OK.out.sl
  have haS : a < (strB d).length := by rw [HSL.out]; omega
  have a2 : (a : Int) < ((strB d).length : Int) := by omega
  clear hcd
  go_upto_region 7 with (fail)
  go_cut [11, 12] (fun s11 s12 wx => s11 = .int .i64 (P : Int) ∧ s12 = .int .i64 (st : Int) ∧ Below w2.heap.size w2 wx)
  case first =>
    go_region_with
      (first
        | (go_at_call 52; (with_reducible refine (ST.out).mono ?_); rintro r w10 ⟨A10, c10, rfl, hi10, hb10⟩; obtain ⟨b10, o10, rfl, hb10', hc10⟩ := hi10 (by omega); have s10 := hc10 a haS; rw [OK.out.hst] at s10; have xd2 := keepC hb10 xd; have qc2 := keepC hb10 qBC0; have qc3 := keepC hb10 qBC1; have LS := Lib.hid (below_next ((Below.refl w2.heap.size w2).drew) hb10); clear hc10 hb10 hb10'))
    all_goals (go_wp2_with fail; go_meet; exact ⟨rfl, rfl, LS.out⟩)
  case rest =>
    obtain ⟨rfl, rfl, hb⟩ := hcut
    clear xd haS a2 hbd ST HSL
    clear qBC0 qBC1
    replace BC := Lib.hid (BC.out.next hb)
    replace BR := Lib.hid (BR.out.next hb)
    replace L := Lib.hid (below_next L.out hb)
    replace T := Lib.hid (T.out.below hb)
    replace ID := Lib.hid (ID.out.below hb)
    replace IV := Lib.hid (IV.out.below hb)
    replace FG := Lib.hid (FG.out.below hb)
    replace BF := Lib.hid (BF.out.next hb)
    clear hb
    obtain ⟨w3, hws⟩ : ∃ W, W = wc := ⟨_, rfl⟩
    subst hws
    obtain ⟨qBF0, qBF1, qBF2, -, -, -⟩ := bx3 BF.out
    have hzp : ((P : Int) == 0) = true := by rw [HP0.out]; rfl
    rw [HS5.out] at qBF2
    obtain ⟨y0, y1, y2, y3⟩ := BR.out.all
    go_wp2
    obtain ⟨t0, t1, _, _⟩ := ((BR.out.set0 (.slice none 0 0)).set1 (.slice none 0 0)).all
    refine bodyPost_ret (v := .tuple #[.agg #[.slice none 0 0, .slice none 0 0], .int .i64 5]) (by simp [results, Tryd.results16, go_sem, t0, t1]) rfl ?_
    exact ⟨_, rfl, IsCell.none _ _, (L.out.setCell (by simp; try omega) _).setCell (by simp; try omega) _⟩
set_option maxHeartbeats 8000000 in
set_option maxRecDepth 100000 in
theorem red_4 (c : Int) (s : Bool) (A : Option Addr) (c1 : Nat) (d : List Int) (B : Option Addr) (c2 : Nat) (v : List Int) (b : Bool) (a P st : Nat) (O : List Int) (w : World) (hT : Sc.Tab w) (id : Ints w A d) (iv : Ints w B v) (hd : d.length ≤ 100) (h : cellB d v.length = true) (h2 : Sc.hasB c 2 = true) (ok : AxOk d b a P st) (hpass : P = 0 → (Sc.trOf c).starts = true) (hO : withoutL d (a : Int) = O) (hdO : O.length ≤ 100) (hR : rightB O = false) :
    Calls Tryd.prog 16 #[.agg #[.int .i64 c, .bool s], .agg #[.slice A d.length c1, .slice B v.length c2], .bool b] w (RetC w [] [] (.int .i64 4)) := by
  obtain ⟨f0, b0, r0, hb0⟩ := red_all w c s (.slice A d.length c1) (.slice B v.length c2)
  have FN := Lib.hid (f0)
  have BC := Lib.hid (b0)
  have BR := Lib.hid (r0)
  have L := Lib.hid (hb0)
  have T := Lib.hid (hT.below L.out)
  have ID := Lib.hid (id.below L.out)
  have IV := Lib.hid (iv.below L.out)
  clear f0 b0 r0 hb0 hT id iv
  have HO := Lib.hid hO
  clear hO
  have OK := Lib.hid ok
  have P64 := ok.P64
  clear ok
  have hz : ((d.length : Int) == 0) = false := by
    have := OK.out.lt
    simp; intro h0; rw [h0] at this; simp at this
  go_enter Tryd.func16, Tryd.ntmps16
  obtain ⟨qFN0, qFN1⟩ := FN.out
  obtain ⟨qBC0, qBC1, -, -⟩ := BC.out.all
  go_wp2_with fail
  refine (fit_0 c s _ _ d _ _ v _ T.out ID.out IV.out hd h h2).mono ?_
  rintro r w1 ⟨g, rfl, hf, hgl, hb⟩
  clear qFN0 qFN1 qBC0 qBC1
  replace FN := Lib.hid (FN.out.below hb)
  replace BC := Lib.hid (BC.out.next hb)
  replace BR := Lib.hid (BR.out.next hb)
  replace L := Lib.hid (below_next L.out hb)
  replace T := Lib.hid (T.out.below hb)
  replace ID := Lib.hid (ID.out.below hb)
  replace IV := Lib.hid (IV.out.below hb)
  clear hb
  have FG := Lib.hid hf
  clear hf hgl
  have KB := Lib.hid (below_new w1 (.cells #[(.func (.func 114) #[] #[.pointer (some ⟨g, 0, none⟩)]), .int .i64 (Sc.trOf c).unit, .bool (Sc.trOf c).starts] 68))
  have BF := Lib.hid (Bx.new 68 w1 #[(.func (.func 114) #[] #[.pointer (some ⟨g, 0, none⟩)]), .int .i64 (Sc.trOf c).unit, .bool (Sc.trOf c).starts])
  have hg8 := BR.out.lt
  replace FN := Lib.hid (FN.out.below KB.out)
  replace BC := Lib.hid (BC.out.next KB.out)
  replace BR := Lib.hid (BR.out.next KB.out)
  replace L := Lib.hid (below_next L.out KB.out)
  replace T := Lib.hid (T.out.below KB.out)
  replace ID := Lib.hid (ID.out.below KB.out)
  replace IV := Lib.hid (IV.out.below KB.out)
  replace FG := Lib.hid (FG.out.below KB.out)
  go_upto_region 2 with (fail)
  clear KB
  generalize hW : w1.alloc (.cells #[(.func (.func 114) #[] #[.pointer (some ⟨g, 0, none⟩)]), .int .i64 (Sc.trOf c).unit, .bool (Sc.trOf c).starts] 68) = W1 at *
  clear hW
  generalize w1.heap.size = g8 at *
  clear FN
  obtain ⟨qBC0, qBC1, -, -⟩ := BC.out.all
  go_wp2_with fail
  refine (along_x _ d.length _ b (a : Int) _ (by omega) OK.out.ax).mono ?_
  rintro r w2 ⟨rfl, hb⟩
  clear qBC0 qBC1
  replace BC := Lib.hid (BC.out.next hb)
  replace BR := Lib.hid (BR.out.next hb)
  replace L := Lib.hid (below_next L.out hb)
  replace T := Lib.hid (T.out.below hb)
  replace ID := Lib.hid (ID.out.below hb)
  replace IV := Lib.hid (IV.out.below hb)
  replace FG := Lib.hid (FG.out.below hb)
  replace BF := Lib.hid (BF.out.next hb)
  clear hb
  obtain ⟨qBC0, qBC1, -, -⟩ := BC.out.all
  obtain ⟨bd, od, rfl, hbd, hcd⟩ := ID.out (by have := OK.out.lt; omega)
  have xd := hcd a OK.out.lt
  rw [OK.out.hP] at xd
  have hal := OK.out.lt
  have a0 : (0 : Int) ≤ (a : Int) := by omega
  have a1 : (a : Int) < (d.length : Int) := by omega
  have ST := Lib.hid (strides_any (some ⟨bd, od, none⟩) c1 d w2.drew (by unfold maxLen; omega) (ID.out.below ((Below.refl _ w2).drew)))
  have HSL := Lib.hid OK.out.sl
  have haS : a < (strB d).length := by rw [HSL.out]; omega
  have a2 : (a : Int) < ((strB d).length : Int) := by omega
  clear hcd
  go_upto_region 7 with (fail)
  go_cut [11, 12] (fun s11 s12 wx => s11 = .int .i64 (P : Int) ∧ s12 = .int .i64 (st : Int) ∧ Below w2.heap.size w2 wx)
  case first =>
    go_region_with
      (first
        | (go_at_call 52; (with_reducible refine (ST.out).mono ?_); rintro r w10 ⟨A10, c10, rfl, hi10, hb10⟩; obtain ⟨b10, o10, rfl, hb10', hc10⟩ := hi10 (by omega); have s10 := hc10 a haS; rw [OK.out.hst] at s10; have xd2 := keepC hb10 xd; have qc2 := keepC hb10 qBC0; have qc3 := keepC hb10 qBC1; have LS := Lib.hid (below_next ((Below.refl w2.heap.size w2).drew) hb10); clear hc10 hb10 hb10'))
    all_goals (go_wp2_with fail; go_meet; exact ⟨rfl, rfl, LS.out⟩)
  case rest =>
    obtain ⟨rfl, rfl, hb⟩ := hcut
    clear xd haS a2 hbd ST HSL
    clear qBC0 qBC1
    replace BC := Lib.hid (BC.out.next hb)
    replace BR := Lib.hid (BR.out.next hb)
    replace L := Lib.hid (below_next L.out hb)
    replace T := Lib.hid (T.out.below hb)
    replace ID := Lib.hid (ID.out.below hb)
    replace IV := Lib.hid (IV.out.below hb)
    replace FG := Lib.hid (FG.out.below hb)
    replace BF := Lib.hid (BF.out.next hb)
    clear hb
    obtain ⟨w3, hws⟩ : ∃ W, W = wc := ⟨_, rfl⟩
    subst hws
    obtain ⟨qBF0, qBF1, qBF2, -, -, -⟩ := bx3 BF.out
    go_upto_region 8 with (fail)
    go_cut [59] (fun s59 wx => s59 = .bool false ∧ w3 = wx)
    case first =>
      by_cases hP0 : P = 0
      · have hzp : ((P : Int) == 0) = true := by rw [hP0]; rfl
        rw [hpass hP0] at qBF2
        clear hP0
        go_wp2
        go_meet
        exact ⟨rfl, rfl⟩
      · have hzp : ((P : Int) == 0) = false := by simp; omega
        go_wp2
        go_meet
        exact ⟨rfl, rfl⟩
    case rest =>
      obtain ⟨rfl, rfl⟩ := hcut
      clear qBF0 qBF1 qBF2
      obtain ⟨qBC0, qBC1, -, -⟩ := BC.out.all
      go_wp2_with fail
      refine (without_o _ _ d O (a : Int) _ HO.out hd ID.out).mono ?_
      rintro r w4 ⟨AO, cO, rfl, hiO, hb⟩
      clear qBC0 qBC1
      replace BC := Lib.hid (BC.out.next hb)
      replace BR := Lib.hid (BR.out.next hb)
      replace L := Lib.hid (below_next L.out hb)
      replace T := Lib.hid (T.out.below hb)
      replace ID := Lib.hid (ID.out.below hb)
      replace IV := Lib.hid (IV.out.below hb)
      replace FG := Lib.hid (FG.out.below hb)
      replace BF := Lib.hid (BF.out.next hb)
      clear hb
      have IO := Lib.hid hiO
      clear hiO
      go_wp2_with fail
      refine (right_x _ _ O false _ hR (by omega) IO.out).mono ?_
      rintro r w5 ⟨rfl, hb⟩
      replace BC := Lib.hid (BC.out.next hb)
      replace BR := Lib.hid (BR.out.next hb)
      replace L := Lib.hid (below_next L.out hb)
      replace T := Lib.hid (T.out.below hb)
      replace ID := Lib.hid (ID.out.below hb)
      replace IV := Lib.hid (IV.out.below hb)
      replace FG := Lib.hid (FG.out.below hb)
      replace BF := Lib.hid (BF.out.next hb)
      replace IO := Lib.hid (IO.out.below hb)
      clear hb
      obtain ⟨qBR0, qBR1, fBR0, fBR1⟩ := BR.out.all
      go_wp2
      obtain ⟨t0, t1, _, _⟩ := ((BR.out.set0 (.slice none 0 0)).set1 (.slice none 0 0)).all
      refine bodyPost_ret (v := .tuple #[.agg #[.slice none 0 0, .slice none 0 0], .int .i64 4]) (by simp [results, Tryd.results16, go_sem, t0, t1]) rfl ?_
      exact ⟨_, rfl, IsCell.none _ _, (L.out.setCell (by simp; try omega) _).setCell (by simp; try omega) _⟩
end Go.Proofs.YticicfbllhnpcaaDoor.Fd
