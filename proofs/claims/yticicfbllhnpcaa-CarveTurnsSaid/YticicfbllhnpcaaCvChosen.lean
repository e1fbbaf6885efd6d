/-
  What riffleref07.chosen answers: the parts of a cell along an axis, by their places; nothing that was there is written. Conditions: at most 100 axes and 1000 numbers; what is chosen along the axis is there.
-/
import Derived.Test.YticicfbllhnpcaaCvMeant
set_option maxRecDepth 100000
namespace Go.Proofs.Yticicfbllhnpcaa.Sh
open Go.RowKit
set_option linter.unusedVariables false

/-- A cell alone, wherever it lies. -/
def RetI1 (w : World) (d v : List Int) (e : Ending) (w' : World) : Prop := ∃ A c B c2, e = .returned (.agg #[.slice A d.length c, .slice B v.length c2]) ∧ Ints w' A d ∧ Ints w' B v ∧ Below w.heap.size w w'
/-- The number at a place whose number at the axis is chosen by a list. -/
def chF (d v l : List Int) (a : Nat) (O : List Int) (k : Nat) : Int := atI d v ((dg O (k : Int)).set a (l.getD ((dg O (k : Int)).getD a 0).toNat 0))
theorem chz_all (w : World) (x y : Value) :
    Box ((w.alloc (.cells #[x, y] 25)).alloc (.cells #[.slice none 0 0, .slice none 0 0] 25)) w.heap.size x y ∧ Box ((w.alloc (.cells #[x, y] 25)).alloc (.cells #[.slice none 0 0, .slice none 0 0] 25)) (w.heap.size + 1) (.slice none 0 0) (.slice none 0 0) ∧ Below w.heap.size w ((w.alloc (.cells #[x, y] 25)).alloc (.cells #[.slice none 0 0, .slice none 0 0] 25)) := by
  have e1 : (w.alloc (.cells #[x, y] 25)).heap.size = w.heap.size + 1 := by simp
  have b2 := Box.new (w.alloc (.cells #[x, y] 25)) (.slice none 0 0) (.slice none 0 0)
  rw [e1] at b2
  exact ⟨(Box.new w x y).alloc _, b2, below_next (below_new w _) (below_new _ _)⟩
theorem with_o (A : Option Addr) (c : Nat) (d O : List Int) (x n : Int) (w : World) (hO : withL d x n = O) (hl : d.length ≤ 100) (hi : Ints w A d) :
    Calls Try.prog 52 #[.slice A d.length c, .int .i64 x, .int .i64 n] w (RetInts w O) := by
  subst hO; exact refWith_any A c d x n w hl hi
set_option maxHeartbeats 8000000 in
theorem chosen_any (A : Option Addr) (c : Nat) (d : List Int) (B : Option Addr) (c2 : Nat) (v : List Int) (a : Nat) (Lp : Option Addr) (cl : Nat) (l O : List Int) (n : Nat) (w : World) (hd : d.length ≤ 100) (hv : v.length ≤ 1000) (ha : a < d.length) (hlb : l.length ≤ 64) (hO : withL d (a : Int) (l.length : Int) = O) (hn : sizeI O = (n : Int)) (id : Ints w A d) (iv : Ints w B v) (il : Ints w Lp l) :
    Calls Try.prog 28 #[.agg #[.slice A d.length c, .slice B v.length c2], .int .i64 (a : Int), .slice Lp l.length cl] w (RetI1 w O ((List.range n).map (chF d v l a O))) := by
  obtain ⟨b0, r0, hb0⟩ := chz_all w (.slice A d.length c) (.slice B v.length c2)
  have BC := Lib.hid (b0)
  have BR := Lib.hid (r0)
  have L := Lib.hid (hb0)
  have ID := Lib.hid (id.below hb0)
  have IV := Lib.hid (iv.below hb0)
  have IL := Lib.hid (il.below hb0)
  clear b0 r0 hb0 id iv il
  have HO := Lib.hid hO
  have HN := Lib.hid hn
  have HLB := Lib.hid hlb
  have n64 : n ≤ 64 := by have := sizeI_bd O; omega
  have hOl : O.length = d.length := by rw [← hO, withL_len]
  have HOL := Lib.hid hOl
  have hO100 : O.length ≤ 100 := by omega
  have HOA := Lib.hid (show O.getD a 0 = (l.length : Int) by rw [← hO]; unfold withL; rw [if_pos ⟨by omega, by omega⟩, Int.toNat_natCast]; simp [List.getD, ha])
  clear hO hn hlb hOl
  go_enter Try.func28, Try.ntmps28
  obtain ⟨qBC0, qBC1, -, -⟩ := BC.out.all
  go_wp2_with fail
  refine (with_o _ _ d O (a : Int) (l.length : Int) _ HO.out hd ID.out).mono ?_
  rintro r w1 ⟨AO, cO, rfl, hiO, hb⟩
  clear qBC0 qBC1
  replace BC := Lib.hid (BC.out.next hb)
  replace BR := Lib.hid (BR.out.next hb)
  replace L := Lib.hid (below_next L.out hb)
  replace ID := Lib.hid (ID.out.below hb)
  replace IV := Lib.hid (IV.out.below hb)
  replace IL := Lib.hid (IL.out.below hb)
  clear hb
  have IO := Lib.hid hiO
  clear hiO
  have hgC := BC.out.lt
  have hgR := BR.out.lt
  have hgW := L.out.size
  have IO1 := Lib.hid IO.out
  have ID1 := Lib.hid ID.out
  have IV1 := Lib.hid IV.out
  have IL1 := Lib.hid IL.out
  have L1 := Lib.hid (Below.refl w1.heap.size w1)
  have KB := Lib.hid (below_new w1 (.cells #[.slice AO O.length cO, .slice none 0 0] 25))
  have BX := Lib.hid (Box.new w1 (.slice AO O.length cO) (.slice none 0 0))
  replace BC := Lib.hid (BC.out.next KB.out)
  replace BR := Lib.hid (BR.out.next KB.out)
  replace L := Lib.hid (below_next L.out KB.out)
  replace ID := Lib.hid (ID.out.below KB.out)
  replace IV := Lib.hid (IV.out.below KB.out)
  replace IL := Lib.hid (IL.out.below KB.out)
  replace IO := Lib.hid (IO.out.below KB.out)
  replace L1 := Lib.hid (below_next L1.out KB.out)
  clear KB
  have hgo := BX.out.lt
  go_wp2_with fail
  refine (places_p _ _ O n _ HN.out hO100 IO.out).mono ?_
  rintro r w2 ⟨AP, cP8, rfl, hp8, hb⟩
  replace BC := Lib.hid (BC.out.next hb)
  replace BR := Lib.hid (BR.out.next hb)
  replace L := Lib.hid (below_next L.out hb)
  replace ID := Lib.hid (ID.out.below hb)
  replace IV := Lib.hid (IV.out.below hb)
  replace IL := Lib.hid (IL.out.below hb)
  replace IO := Lib.hid (IO.out.below hb)
  replace L1 := Lib.hid (below_next L1.out hb)
  replace BX := Lib.hid (BX.out.next hb)
  clear hb
  have PL := Lib.hid hp8
  clear hp8
  generalize hW7 : w1.alloc (.cells #[.slice AO O.length cO, .slice none 0 0] 25) = W7 at *
  clear hW7
  have O0 := Lib.hid (show OutSt w2 w2 w1.heap.size (.slice AO O.length cO) (.slice none 0 0) [] from ⟨turned_refl _ _, BX.out, MineT.nil _ _ _, BX.out.lt⟩)
  obtain ⟨FF, hF⟩ : ∃ F, chF d v l a O = F := ⟨_, rfl⟩
  have HF := Lib.hid hF
  clear hF
  go_wp2
  go_loopw [9] (fun j wr => ∃ (k : Nat) (V : Value), k ≤ n ∧ j = .int .i64 (k : Int) ∧ OutSt w2 wr w1.heap.size (.slice AO O.length cO) V ((List.range k).map FF)) (fun j _ => n - (intOf j).toNat)
  case atStart => exact ⟨0, _, Nat.zero_le _, rfl, O0.out⟩
  case round =>
    obtain ⟨k, V, hk, rfl, hO⟩ := hrel
    have Q := Lib.hid hO
    have PLr := Lib.hid (PL.out.grown hO.1 hgo)
    clear hO O0
    have BCr := Lib.hid (BC.out.grown Q.out.1 (fun e => by injection e with e; omega))
    have BRr := Lib.hid (BR.out.grown Q.out.1 (fun e => by injection e with e; omega))
    have LWr := Lib.hid (below_turned L.out Q.out.1 (by omega))
    have L1r := Lib.hid (show Below w1.heap.size w1 wr from below_turned L1.out Q.out.1 (Nat.le_refl _))
    have IOr := Lib.hid (IO1.out.below L1r.out)
    have IDr := Lib.hid (ID1.out.below L1r.out)
    have IVr := Lib.hid (IV1.out.below L1r.out)
    have ILr := Lib.hid (IL1.out.below L1r.out)
    by_cases hlt : k < n
    · obtain ⟨bp, At, ct, rfl, hbp1, hbp2, hcp, hfp⟩ := PLr.out k hlt
      have HPL := Lib.hid (show posL O from (sizeI_pos (d := O) (i := (k : Int)) (by omega) (by rw [HN.out]; omega)).2.2)
      have HMX := Lib.hid (show (List.range (k + 1)).map FF = (List.range k).map FF ++ [FF k] by rw [List.range_succ, List.map_append]; rfl)
      have LQ := Lib.hid (show ((List.range k).map FF).length = k by simp)
      have HFK := Lib.hid (show atI d v ((dg O (k : Int)).set a (l.getD ((dg O (k : Int)).getD a 0).toNat 0)) = FF k by rw [← HF.out]; rfl)
      have haO : a < O.length := by rw [HOL.out]; exact ha
      have HQA := Lib.hid (show 0 ≤ (dg O (k : Int)).getD a 0 ∧ (dg O (k : Int)).getD a 0 < (l.length : Int) by
        rw [dg_at O k a haO, HOA.out]
        have h1 := posL_at HPL.out haO
        rw [HOA.out] at h1
        exact ⟨Int.emod_nonneg _ (by omega), Int.emod_lt_of_pos _ (by omega)⟩)
      have HQL := Lib.hid (dg_length O (k : Int))
      generalize FF k = x at *
      generalize hys : (List.range k).map FF = ys at *
      clear hys
      generalize dg O (k : Int) = q at *
      rw [← HQL.out] at hcp
      have IQ := Lib.hid hfp.ints
      clear hfp
      obtain ⟨tn, htn⟩ : ∃ tn : Nat, q.getD a 0 = (tn : Int) := ⟨(q.getD a 0).toNat, by have := HQA.out; omega⟩
      have htl : tn < l.length := by have := HQA.out; omega
      rw [htn, Int.toNat_natCast] at HFK
      have HTN := Lib.hid htn
      clear htn
      obtain ⟨bf, of, rfl, hbf, hcf⟩ := ILr.out (by omega)
      have hzf := hcf tn htl
      clear hcf
      have haq : a < q.length := by rw [HQL.out]; exact haO
      have k0 : (0 : Int) ≤ (k : Int) := by omega
      have k1 : (k : Int) < (n : Int) := by omega
      have t0 : (0 : Int) ≤ (tn : Int) := by omega
      have t1 : (tn : Int) < (l.length : Int) := by omega
      have a0 : (0 : Int) ≤ (a : Int) := by omega
      have a1 : (a : Int) < (q.length : Int) := by omega
      have hq100 : q.length ≤ 100 := by rw [HQL.out]; exact hO100
      generalize l.getD tn 0 = z at *
      go_wp2_with (at_builtin; refine wpList_copyI numI Try.underlying22 rfl (.tmp 29) (.tmp 33) rfl rfl At ct q rfl IQ.out (by omega) ?_; intro A9 c9 w9 hm9 hb9; obtain ⟨g9, rfl, hg9, hg9l, hz9, hc9⟩ := hm9.has (by omega); have hqa9 := hc9 a haq; rw [HTN.out] at hqa9; have hzf9 := (hb9.cell (p := ⟨bf, of + tn, none⟩) hbf).trans hzf; have hfz9 := hz9 a; have M9 := Lib.hid hm9; have L10 := Lib.hid (hb9.setCell (p := ⟨g9, a, none⟩) hg9 (.int .i64 z)); obtain ⟨x0, x1, -, -⟩ := (BCr.out.next L10.out).all; clear hc9 hz9 hm9 hb9)
      have M10 := Lib.hid (M9.out.set_ a z haq)
      have HP10 := Lib.hid (show (q.set a z).length = q.length by simp)
      refine (rat_n _ _ d _ _ v _ q.length c9 (q.set a z) x _ HP10.out HFK.out hd hv hq100 (IDr.out.below L10.out) (IVr.out.below L10.out) M10.out.ints').mono ?_
      rintro r w11 ⟨tb, rfl, hb⟩
      have O7 := Lib.hid ((Q.out.next L10.out).next hb)
      have O8 := Lib.hid (O7.out.alloc (.cells #[.int .i64 x] 2))
      have X8 := Lib.hid (one_new w11 x)
      have c7 := O7.out.box.c1
      clear hb x0 x1 hqa9 hzf9 hfz9 M10 M9
      go_wp2_with (at_builtin; refine wpList_appI numL Try.underlying23 rfl (.tmp 52) (.tmp 54) rfl w2.heap.size V ys (by rfl) O8.out.mine (some ⟨w11.heap.size, 0, none⟩) 1 [x] rfl X8.out (by rw [LQ.out]; simp; omega) O8.out.size ?_; intro V' w12 hm8 hg8 ha8; obtain ⟨A8, c8, rfl, -⟩ := hm8.ints; obtain ⟨y0', y1', y2', y3'⟩ := (O8.out.mid hg8).all)
      go_roundw
      case rel => exact ⟨k + 1, _, by omega, by go_num, by rw [HMX.out]; have hm9 := hm8; rw [List.length_append] at hm9; exact O8.out.app hm9 hg8⟩
      case measure => simp [intOf]; omega
    · obtain rfl : k = n := by omega
      generalize hys : (List.range k).map FF = ys at *
      have HY := Lib.hid (show (List.range k).map (chF d v l a O) = ys by rw [HF.out]; exact hys)
      clear hys
      obtain ⟨AV, cV, rfl, -⟩ := Q.out.mine.ints
      obtain ⟨q0, q1, -, -⟩ := Q.out.box.all
      obtain ⟨r0, r1, r2, r3⟩ := BRr.out.all
      have hlr := LWr.out.size
      go_wp2
      have T9 := (BRr.out.set0 (.slice AO O.length cO)).set1 (.slice AV ys.length cV)
      obtain ⟨t0, t1, _, _⟩ := T9.all
      refine bodyPost_ret (v := .agg #[.slice AO O.length cO, .slice AV ys.length cV]) (by simp [results, Try.results28, go_sem, t0, t1]) rfl ?_
      rw [HY.out]
      exact ⟨AO, cO, AV, cV, rfl, IOr.out.set_box BRr.out _ _, Q.out.mine.ints'.set_box BRr.out _ _, (LWr.out.setCell (by first | (simp; done) | (simp; omega)) _).setCell (by first | (simp; done) | (simp; omega)) _⟩
end Go.Proofs.Yticicfbllhnpcaa.Sh
