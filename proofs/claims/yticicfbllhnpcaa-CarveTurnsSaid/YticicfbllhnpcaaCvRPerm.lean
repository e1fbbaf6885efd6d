/-
  What riffleref07.Turn and riffleref07.Permute answer; nothing that was there is written. Condition: at most 100 axes and 1000 numbers.
-/
import Derived.Test.YticicfbllhnpcaaCvPerm
import Derived.Test.YticicfbllhnpcaaCvChosen
import Derived.Test.YticicfbllhnpcaaPkV
import Derived.Deep.RegionLaw
import Derived.Deep.QuietTactic
set_option maxRecDepth 100000
namespace Go.Proofs.Yticicfbllhnpcaa.Sh
open Go.RowKit
set_option linter.unusedVariables false

theorem keepC9 {W w1 : World} {p : Addr} {x : Value} (hb : Below W.drew.heap.size W.drew w1) (h : W.cell? p = some x) : w1.cell? p = some x := (hb.cell (p := p) (World.block_lt_of_cell? W p h)).trans h
theorem rback_v (A : Option Addr) (c : Nat) (l r : List Int) (n : Nat) (w : World) (hr : l.reverse = r) (hn : l.length = n) (hl : n ≤ 100) (hi : Ints w A l) :
    Calls Try.prog 32 #[.slice A n c] w (RetInts w r) := by
  subst hr hn
  have HI := Lib.hid hi
  clear hi
  go_enter Try.func32, Try.ntmps32
  go_wp2_with fail
  refine (refTurned_any A c l w hl HI.out).mono ?_
  rintro e w1 ⟨B, c', rfl, hi, hb⟩
  have H1 := Lib.hid hi
  have H2 := Lib.hid hb
  clear hi hb
  go_wp2
  go_ret
  exact ⟨B, c', by rw [List.length_reverse]; rfl, H1.out, H2.out⟩
theorem perm_same {p : List Int} (hl : p.length ≤ 3) (h : permB (smL p) = true) : smL p = p ∧ ∀ i, i < p.length → 0 ≤ p.getD i 0 ∧ p.getD i 0 ≤ 2 := by
  have key : ∀ i, i < p.length → 0 ≤ p.getD i 0 ∧ p.getD i 0 ≤ 2 ∧ sm65 (p.getD i 0) = p.getD i 0 := fun i hi => by
    have h1 := perm_at h i (by rw [smL_len]; exact hi)
    rw [smL_at p i hi, smL_len] at h1
    unfold sm65 at h1 ⊢
    omega
  refine ⟨?_, fun i hi => ⟨(key i hi).1, (key i hi).2.1⟩⟩
  apply List.ext_getElem (smL_len p)
  intro i h1 h2
  have e1 : (smL p)[i] = (smL p).getD i 0 := by simp [List.getD, h1]
  have e2 : p[i] = p.getD i 0 := by simp [List.getD, h2]
  rw [e1, e2, smL_at p i h2]
  exact (key i h2).2.2
theorem small_same {p : List Int} (h : ∀ i, i < p.length → 0 ≤ p.getD i 0 ∧ p.getD i 0 ≤ 2) : smL p = p := by
  apply List.ext_getElem (smL_len p)
  intro i h1 h2
  have e1 : (smL p)[i] = (smL p).getD i 0 := by simp [List.getD, h1]
  have e2 : p[i] = p.getD i 0 := by simp [List.getD, h2]
  rw [e1, e2, smL_at p i h2]
  have := h i h2
  unfold sm65; omega
theorem perm_not {p : List Int} {i : Nat} (hl : p.length ≤ 3) (hi : i < p.length) (h : ¬ (0 ≤ p.getD i 0 ∧ p.getD i 0 ≤ 2)) : permB (smL p) = false := by
  cases hp : permB (smL p)
  · rfl
  · exact absurd ((perm_same hl hp).2 i hi) h
/-- A place whose first numbers are picked. -/
def ptK (tq p : List Int) (k : Nat) : List Int := (List.range k).map fun i => p.getD (tq.getD i 0).toNat 0
theorem ptK_len (tq p : List Int) (k : Nat) : (ptK tq p k).length = k := by simp [ptK]
theorem ptK_succ (tq p : List Int) (k : Nat) : ptK tq p (k + 1) = ptK tq p k ++ [p.getD (tq.getD k 0).toNat 0] := by unfold ptK; rw [List.range_succ, List.map_append]; rfl
theorem refPerm_t (A : Option Addr) (c : Nat) (p : List Int) (b : Bool) (w : World) (hp : permB p = b) (hl : p.length ≤ 100) (hi : Ints w A p) :
    Calls Try.prog 39 #[.slice A p.length c] w fun e w' => e = .returned (.bool b) ∧ Below w.heap.size w w' := by
  subst hp; exact (refPerm_any A c p w hl hi).mono fun _ _ ⟨h1, h2⟩ => ⟨h1, by rw [← h2]; exact Below.refl _ _⟩
theorem refPicked_t (A : Option Addr) (c : Nat) (d : List Int) (B : Option Addr) (c2 : Nat) (p : List Int) (O : List Int) (w : World) (hO : pickB d p = O) (hl : d.length ≤ 100) (hl2 : p.length ≤ 100) (ha : Ints w A d) (hb : Ints w B p) :
    Calls Try.prog 40 #[.slice A d.length c, .slice B p.length c2] w (RetInts w O) := by
  subst hO; exact refPicked_any A c d B c2 p w hl hl2 ha hb
set_option maxHeartbeats 4000000 in
theorem rturn_1 (A : Option Addr) (c : Nat) (d : List Int) (B : Option Addr) (c2 : Nat) (v : List Int) (w : World) (id : Ints w A d) (iv : Ints w B v) (hd : d.length ≤ 100) (hv : v.length ≤ 1000) (h : cellB d v.length = false) :
    Calls Try.prog 13 #[.agg #[.slice A d.length c, .slice B v.length c2]] w (RetCI w [] [] (.int .i64 1)) := by
  obtain ⟨ba0, br0, hb0⟩ := chz_all w (.slice A d.length c) (.slice B v.length c2)
  have BA := Lib.hid (ba0)
  have BR := Lib.hid (br0)
  have L := Lib.hid (hb0)
  have ID := Lib.hid (id.below hb0)
  have IV := Lib.hid (iv.below hb0)
  clear ba0 br0 hb0 id iv
  go_enter Try.func13, Try.ntmps13
  obtain ⟨qBA0, qBA1, -, -⟩ := BA.out.all
  go_wp2_with fail
  refine (rright_no _ _ d _ _ _ _ (by unfold maxLen; omega) ID.out h).mono ?_
  rintro r w1 ⟨rfl, hb⟩
  clear qBA0 qBA1
  replace BA := Lib.hid (BA.out.next hb)
  replace BR := Lib.hid (BR.out.next hb)
  replace L := Lib.hid (below_next L.out hb)
  replace ID := Lib.hid (ID.out.below hb)
  replace IV := Lib.hid (IV.out.below hb)
  clear hb
  obtain ⟨r0, r1, r2, r3⟩ := BR.out.all
  go_wp2
  have T9 := (BR.out.set0 (.slice none 0 0)).set1 (.slice none 0 0)
  obtain ⟨t0, t1, _, _⟩ := T9.all
  refine bodyPost_ret (v := .tuple #[.agg #[.slice none 0 0, .slice none 0 0], .int .i64 1]) (by simp [results, Try.results13, go_sem, t0, t1]) rfl ?_
  exact ⟨none, 0, none, 0, rfl, Ints.nil _ _, Ints.nil _ _, (L.out.setCell (by first | (simp; done) | (simp; omega)) _).setCell (by first | (simp; done) | (simp; omega)) _⟩
set_option maxHeartbeats 8000000 in
theorem rturn_0 (A : Option Addr) (c : Nat) (d : List Int) (B : Option Addr) (c2 : Nat) (v : List Int) (w : World) (id : Ints w A d) (iv : Ints w B v) (hd : d.length ≤ 100) (hv : v.length ≤ 1000) (h : cellB d v.length = true) :
    Calls Try.prog 13 #[.agg #[.slice A d.length c, .slice B v.length c2]] w (RetCI w d.reverse (tuV d v) (.int .i64 0)) := by
  obtain ⟨ba0, br0, hb0⟩ := chz_all w (.slice A d.length c) (.slice B v.length c2)
  have BA := Lib.hid (ba0)
  have BR := Lib.hid (br0)
  have L := Lib.hid (hb0)
  have ID := Lib.hid (id.below hb0)
  have IV := Lib.hid (iv.below hb0)
  clear ba0 br0 hb0 id iv
  have HC := Lib.hid h
  obtain ⟨O, hO⟩ : ∃ O, d.reverse = O := ⟨_, rfl⟩
  have HO := Lib.hid hO
  have HOL := Lib.hid (show O.length = d.length by rw [← hO, List.length_reverse])
  have HOR := Lib.hid (show rightB O = true by rw [← hO]; exact (rev_right (cellB_parts h).1).1)
  obtain ⟨n, hn, n64⟩ := sizeI_nat O HOR.out
  have HN := Lib.hid hn
  have HTU := Lib.hid (show tuV d v = (List.range n).map (fun k : Nat => atI d v (dg O (k : Int)).reverse) by unfold tuV; rw [hO, hn, Int.toNat_natCast])
  rw [hO]
  clear h hO hn
  go_enter Try.func13, Try.ntmps13
  obtain ⟨qBA0, qBA1, -, -⟩ := BA.out.all
  go_wp2_with fail
  refine (rright_yes _ _ d _ _ _ _ (by unfold maxLen; omega) ID.out HC.out).mono ?_
  rintro r w1 ⟨rfl, hb⟩
  clear qBA0 qBA1
  replace BA := Lib.hid (BA.out.next hb)
  replace BR := Lib.hid (BR.out.next hb)
  replace L := Lib.hid (below_next L.out hb)
  replace ID := Lib.hid (ID.out.below hb)
  replace IV := Lib.hid (IV.out.below hb)
  clear hb
  obtain ⟨qBA0, qBA1, -, -⟩ := BA.out.all
  go_wp2_with fail
  refine (rback_v _ _ d O d.length _ HO.out rfl hd ID.out).mono ?_
  rintro r w2 ⟨AO, cO, rfl, hiO, hb⟩
  clear qBA0 qBA1
  replace BA := Lib.hid (BA.out.next hb)
  replace BR := Lib.hid (BR.out.next hb)
  replace L := Lib.hid (below_next L.out hb)
  replace ID := Lib.hid (ID.out.below hb)
  replace IV := Lib.hid (IV.out.below hb)
  clear hb
  have IO := Lib.hid hiO
  clear hiO
  have hgC := BA.out.lt
  have hgR := BR.out.lt
  have hgW := L.out.size
  have ID1 := Lib.hid ID.out
  have IV1 := Lib.hid IV.out
  have IO1 := Lib.hid IO.out
  have L1 := Lib.hid (Below.refl w2.heap.size w2)
  have KB := Lib.hid (below_new w2 (.cells #[.slice AO O.length cO, .slice none 0 0] 25))
  have BX := Lib.hid (Box.new w2 (.slice AO O.length cO) (.slice none 0 0))
  replace BA := Lib.hid (BA.out.next KB.out)
  replace BR := Lib.hid (BR.out.next KB.out)
  replace L := Lib.hid (below_next L.out KB.out)
  replace ID := Lib.hid (ID.out.below KB.out)
  replace IV := Lib.hid (IV.out.below KB.out)
  replace IO := Lib.hid (IO.out.below KB.out)
  replace L1 := Lib.hid (below_next L1.out KB.out)
  clear KB
  have hgo := BX.out.lt
  go_wp2_with fail
  refine (places_p _ _ O n _ HN.out (by rw [HOL.out]; exact hd) IO.out).mono ?_
  rintro r w3 ⟨AP, cP8, rfl, hp8, hb⟩
  replace BA := Lib.hid (BA.out.next hb)
  replace BR := Lib.hid (BR.out.next hb)
  replace L := Lib.hid (below_next L.out hb)
  replace ID := Lib.hid (ID.out.below hb)
  replace IV := Lib.hid (IV.out.below hb)
  replace IO := Lib.hid (IO.out.below hb)
  replace L1 := Lib.hid (below_next L1.out hb)
  replace BX := Lib.hid (BX.out.next hb)
  clear hb
  have PL := Lib.hid hp8
  clear hp8
  generalize hW7 : w2.alloc (.cells #[.slice AO O.length cO, .slice none 0 0] 25) = W7 at *
  clear hW7
  have O0 := Lib.hid (show OutSt w3 w3 w2.heap.size (.slice AO O.length cO) (.slice none 0 0) [] from ⟨turned_refl _ _, BX.out, MineT.nil _ _ _, BX.out.lt⟩)
  obtain ⟨FF, hF⟩ : ∃ F : Nat → Int, (fun k : Nat => atI d v (dg O (k : Int)).reverse) = F := ⟨_, rfl⟩
  have HF := Lib.hid hF
  clear hF
  go_wp2
  go_loopw [6] (fun j wr => ∃ (k : Nat) (V : Value), k ≤ n ∧ j = .int .i64 (k : Int) ∧ OutSt w3 wr w2.heap.size (.slice AO O.length cO) V ((List.range k).map FF)) (fun j _ => n - (intOf j).toNat)
  case atStart => exact ⟨0, _, Nat.zero_le _, rfl, O0.out⟩
  case round =>
    obtain ⟨k, V, hk, rfl, hO⟩ := hrel
    have Q := Lib.hid hO
    have PLr := Lib.hid (PL.out.grown hO.1 hgo)
    clear hO O0
    have BAr := Lib.hid (BA.out.grown Q.out.1 (fun e => by injection e with e; omega))
    have BRr := Lib.hid (BR.out.grown Q.out.1 (fun e => by injection e with e; omega))
    have LWr := Lib.hid (below_turned L.out Q.out.1 (by omega))
    have L1r := Lib.hid (show Below w2.heap.size w2 wr from below_turned L1.out Q.out.1 (Nat.le_refl _))
    by_cases hlt : k < n
    · obtain ⟨bp, At, ct, rfl, hbp1, hbp2, hcp, hfp⟩ := PLr.out k hlt
      have HMX := Lib.hid (show (List.range (k + 1)).map FF = (List.range k).map FF ++ [FF k] by rw [List.range_succ, List.map_append]; rfl)
      have LQ := Lib.hid (show ((List.range k).map FF).length = k by simp)
      have HFK := Lib.hid (show atI d v (dg O (k : Int)).reverse = FF k by rw [← HF.out])
      have HQL := Lib.hid (dg_length O (k : Int))
      generalize FF k = x at *
      generalize hys : (List.range k).map FF = ys at *
      clear hys
      generalize dg O (k : Int) = q at *
      have IQ := Lib.hid hfp.ints
      clear hfp
      obtain ⟨rq, hrq⟩ : ∃ rq, q.reverse = rq := ⟨_, rfl⟩
      have HRL := Lib.hid (show rq.length = O.length by rw [← hrq, List.length_reverse, HQL.out])
      rw [hrq] at HFK
      have HRQ := Lib.hid hrq
      clear hrq
      have k0 : (0 : Int) ≤ (k : Int) := by omega
      have k1 : (k : Int) < (n : Int) := by omega
      have o100 : O.length ≤ 100 := by rw [HOL.out]; exact hd
      obtain ⟨q0, q1, -, -⟩ := BAr.out.all
      have BK := Lib.hid (rback_v At ct q rq O.length wr.drew HRQ.out HQL.out o100 (IQ.out.below ((Below.refl _ wr).drew)))
      have IDr := Lib.hid (ID1.out.below L1r.out.drew)
      have IVr := Lib.hid (IV1.out.below L1r.out.drew)
      have AC := Lib.hid (fun A' cc W i1 i2 i3 => rat_n A c d B c2 v A' rq.length cc rq x W rfl HFK.out hd hv (by rw [HRL.out]; exact o100) i1 i2 i3)
      have Qr := Lib.hid Q.out.drew
      go_upto_region 8 with (fail)
      go_region_held3 (fun w' => w'.cell? ⟨w.heap.size, 0, none⟩ = some (.slice A d.length c) ∧ w'.cell? ⟨w.heap.size, 1, none⟩ = some (.slice B v.length c2) ∧ w'.cell? ⟨bp, k, none⟩ = some (.slice At O.length ct))
        (first
          | with_reducible exact KK2.out
          | with_reducible exact KK.out
          | go_keep)
        (first
          | (go_at_call 32; (with_reducible refine (BK.out).mono ?_); rintro r w10 ⟨A10, c10, rfl, hi10, hb10⟩; have I10 := Lib.hid hi10; have H10 := Lib.hid hb10; have KK := Lib.hid (show w10.cell? ⟨w.heap.size, 0, none⟩ = some (.slice A d.length c) ∧ w10.cell? ⟨w.heap.size, 1, none⟩ = some (.slice B v.length c2) ∧ w10.cell? ⟨bp, k, none⟩ = some (.slice At O.length ct) from ⟨keepC9 hb10 q0, keepC9 hb10 q1, keepC9 hb10 hcp⟩); clear hi10 hb10)
          | (go_at_call 34; (with_reducible refine (AC.out _ _ _ (IDr.out.below H10.out) (IVr.out.below H10.out) I10.out).mono ?_); rintro r w11 ⟨t11, rfl, hb11⟩; have Q11 := Lib.hid ((Qr.out.next H10.out).next hb11); have KK2 := Lib.hid (show w11.cell? ⟨w.heap.size, 0, none⟩ = some (.slice A d.length c) ∧ w11.cell? ⟨w.heap.size, 1, none⟩ = some (.slice B v.length c2) ∧ w11.cell? ⟨bp, k, none⟩ = some (.slice At O.length ct) from ⟨keepB8 hb11 KK.out.1, keepB8 hb11 KK.out.2.1, keepB8 hb11 KK.out.2.2⟩); clear hb11))
      have O8 := Lib.hid (Q11.out.alloc (.cells #[.int .i64 x] 2))
      have X8 := Lib.hid (one_new w11 x)
      have c7 := Q11.out.box.c1
      clear q0 q1
      go_wp2_with (at_builtin; refine wpList_appI numL Try.underlying23 rfl (.tmp 37) (.tmp 39) rfl w3.heap.size V ys (by rfl) O8.out.mine (some ⟨w11.heap.size, 0, none⟩) 1 [x] rfl X8.out (by rw [LQ.out]; simp; omega) O8.out.size ?_; intro V' w12 hm8 hg8 ha8; obtain ⟨A8, c8, rfl, -⟩ := hm8.ints; obtain ⟨y0', y1', y2', y3'⟩ := (O8.out.mid hg8).all)
      go_roundw
      case rel => exact ⟨k + 1, _, by omega, by go_num, by rw [HMX.out]; have hm9 := hm8; rw [List.length_append] at hm9; exact O8.out.app hm9 hg8⟩
      case measure => simp [intOf]; omega
    · obtain rfl : k = n := by omega
      have IOr := Lib.hid (IO1.out.below L1r.out)
      generalize hys : (List.range k).map FF = ys at *
      have HY := Lib.hid (show (List.range k).map (fun k : Nat => atI d v (dg O (k : Int)).reverse) = ys by rw [HF.out]; exact hys)
      clear hys
      obtain ⟨AV, cV, rfl, -⟩ := Q.out.mine.ints
      obtain ⟨q0, q1, -, -⟩ := Q.out.box.all
      obtain ⟨r0, r1, r2, r3⟩ := BRr.out.all
      have hlr := LWr.out.size
      go_wp2
      have T9 := (BRr.out.set0 (.slice AO O.length cO)).set1 (.slice AV ys.length cV)
      obtain ⟨t0, t1, _, _⟩ := T9.all
      refine bodyPost_ret (v := .tuple #[.agg #[.slice AO O.length cO, .slice AV ys.length cV], .int .i64 0]) (by simp [results, Try.results13, go_sem, t0, t1]) rfl ?_
      rw [HTU.out, HY.out]
      exact ⟨AO, cO, AV, cV, rfl, IOr.out.set_box BRr.out _ _, Q.out.mine.ints'.set_box BRr.out _ _, (LWr.out.setCell (by first | (simp; done) | (simp; omega)) _).setCell (by first | (simp; done) | (simp; omega)) _⟩
theorem rturn_any (A : Option Addr) (c : Nat) (d : List Int) (B : Option Addr) (c2 : Nat) (v : List Int) (w : World) (id : Ints w A d) (iv : Ints w B v) (hd : d.length ≤ 100) (hv : v.length ≤ 1000) :
    Calls Try.prog 13 #[.agg #[.slice A d.length c, .slice B v.length c2]] w (RetCI w (okL d v.length d.reverse) (okL d v.length (tuV d v)) (.int .i64 (okE d v.length))) := by
  by_cases h : cellB d v.length = true
  · rw [(ok_yes h d.reverse).1, (ok_yes h d.reverse).2, (ok_yes h (tuV d v)).2]
    exact rturn_0 A c d B c2 v w id iv hd hv h
  · have h' : cellB d v.length = false := by simpa using h
    rw [(ok_no h' d.reverse).1, (ok_no h' d.reverse).2, (ok_no h' (tuV d v)).2]
    exact rturn_1 A c d B c2 v w id iv hd hv h'
set_option maxHeartbeats 4000000 in
theorem rperm_1 (A : Option Addr) (c : Nat) (d : List Int) (B : Option Addr) (c2 : Nat) (v : List Int) (A' : Option Addr) (c' : Nat) (e : List Int) (B' : Option Addr) (c2' : Nat) (u : List Int) (w : World) (id : Ints w A d) (iv : Ints w B v) (ie : Ints w A' e) (iu : Ints w B' u) (hd : d.length ≤ 100) (hv : v.length ≤ 1000) (he : e.length ≤ 100) (hu : u.length ≤ 1000) (h1 : cellB d v.length = false) :
    Calls Try.prog 15 #[.agg #[.slice A d.length c, .slice B v.length c2], .agg #[.slice A' e.length c', .slice B' u.length c2']] w (RetCI w [] [] (.int .i64 1)) := by
  obtain ⟨ba0, bb0, br0, hb0⟩ := w2_all w (.slice A d.length c) (.slice B v.length c2) (.slice A' e.length c') (.slice B' u.length c2')
  have BA := Lib.hid (ba0)
  have BB := Lib.hid (bb0)
  have BR := Lib.hid (br0)
  have L := Lib.hid (hb0)
  have ID := Lib.hid (id.below hb0)
  have IV := Lib.hid (iv.below hb0)
  have IE := Lib.hid (ie.below hb0)
  have IU := Lib.hid (iu.below hb0)
  clear ba0 bb0 br0 hb0 id iv ie iu
  go_enter Try.func15, Try.ntmps15
  obtain ⟨qBA0, qBA1, -, -⟩ := BA.out.all
  go_wp2_with fail
  refine (rright_no _ _ d _ _ _ _ (by unfold maxLen; omega) ID.out h1).mono ?_
  rintro r w1 ⟨rfl, hb⟩
  clear qBA0 qBA1
  replace BA := Lib.hid (BA.out.next hb)
  replace BB := Lib.hid (BB.out.next hb)
  replace BR := Lib.hid (BR.out.next hb)
  replace L := Lib.hid (below_next L.out hb)
  replace ID := Lib.hid (ID.out.below hb)
  replace IV := Lib.hid (IV.out.below hb)
  replace IE := Lib.hid (IE.out.below hb)
  replace IU := Lib.hid (IU.out.below hb)
  clear hb
  obtain ⟨r0, r1, r2, r3⟩ := BR.out.all
  go_wp2
  have T9 := (BR.out.set0 (.slice none 0 0)).set1 (.slice none 0 0)
  obtain ⟨t0, t1, _, _⟩ := T9.all
  refine bodyPost_ret (v := .tuple #[.agg #[.slice none 0 0, .slice none 0 0], .int .i64 1]) (by simp [results, Try.results15, go_sem, t0, t1]) rfl ?_
  exact ⟨none, 0, none, 0, rfl, Ints.nil _ _, Ints.nil _ _, (L.out.setCell (by first | (simp; done) | (simp; omega)) _).setCell (by first | (simp; done) | (simp; omega)) _⟩
set_option maxHeartbeats 4000000 in
theorem rperm_1' (A : Option Addr) (c : Nat) (d : List Int) (B : Option Addr) (c2 : Nat) (v : List Int) (A' : Option Addr) (c' : Nat) (e : List Int) (B' : Option Addr) (c2' : Nat) (u : List Int) (w : World) (id : Ints w A d) (iv : Ints w B v) (ie : Ints w A' e) (iu : Ints w B' u) (hd : d.length ≤ 100) (hv : v.length ≤ 1000) (he : e.length ≤ 100) (hu : u.length ≤ 1000) (h1 : cellB d v.length = true) (h2 : cellB e u.length = false) :
    Calls Try.prog 15 #[.agg #[.slice A d.length c, .slice B v.length c2], .agg #[.slice A' e.length c', .slice B' u.length c2']] w (RetCI w [] [] (.int .i64 1)) := by
  obtain ⟨ba0, bb0, br0, hb0⟩ := w2_all w (.slice A d.length c) (.slice B v.length c2) (.slice A' e.length c') (.slice B' u.length c2')
  have BA := Lib.hid (ba0)
  have BB := Lib.hid (bb0)
  have BR := Lib.hid (br0)
  have L := Lib.hid (hb0)
  have ID := Lib.hid (id.below hb0)
  have IV := Lib.hid (iv.below hb0)
  have IE := Lib.hid (ie.below hb0)
  have IU := Lib.hid (iu.below hb0)
  clear ba0 bb0 br0 hb0 id iv ie iu
  go_enter Try.func15, Try.ntmps15
  obtain ⟨qBA0, qBA1, -, -⟩ := BA.out.all
  go_wp2_with fail
  refine (rright_yes _ _ d _ _ _ _ (by unfold maxLen; omega) ID.out h1).mono ?_
  rintro r w1 ⟨rfl, hb⟩
  clear qBA0 qBA1
  replace BA := Lib.hid (BA.out.next hb)
  replace BB := Lib.hid (BB.out.next hb)
  replace BR := Lib.hid (BR.out.next hb)
  replace L := Lib.hid (below_next L.out hb)
  replace ID := Lib.hid (ID.out.below hb)
  replace IV := Lib.hid (IV.out.below hb)
  replace IE := Lib.hid (IE.out.below hb)
  replace IU := Lib.hid (IU.out.below hb)
  clear hb
  obtain ⟨qBB0, qBB1, -, -⟩ := BB.out.all
  go_wp2_with fail
  refine (rright_no _ _ e _ _ _ _ (by unfold maxLen; omega) IE.out h2).mono ?_
  rintro r w2 ⟨rfl, hb⟩
  clear qBB0 qBB1
  replace BA := Lib.hid (BA.out.next hb)
  replace BB := Lib.hid (BB.out.next hb)
  replace BR := Lib.hid (BR.out.next hb)
  replace L := Lib.hid (below_next L.out hb)
  replace ID := Lib.hid (ID.out.below hb)
  replace IV := Lib.hid (IV.out.below hb)
  replace IE := Lib.hid (IE.out.below hb)
  replace IU := Lib.hid (IU.out.below hb)
  clear hb
  obtain ⟨r0, r1, r2, r3⟩ := BR.out.all
  go_wp2
  have T9 := (BR.out.set0 (.slice none 0 0)).set1 (.slice none 0 0)
  obtain ⟨t0, t1, _, _⟩ := T9.all
  refine bodyPost_ret (v := .tuple #[.agg #[.slice none 0 0, .slice none 0 0], .int .i64 1]) (by simp [results, Try.results15, go_sem, t0, t1]) rfl ?_
  exact ⟨none, 0, none, 0, rfl, Ints.nil _ _, Ints.nil _ _, (L.out.setCell (by first | (simp; done) | (simp; omega)) _).setCell (by first | (simp; done) | (simp; omega)) _⟩
set_option maxHeartbeats 4000000 in
theorem rperm_2 (A : Option Addr) (c : Nat) (d : List Int) (B : Option Addr) (c2 : Nat) (v : List Int) (A' : Option Addr) (c' : Nat) (e : List Int) (B' : Option Addr) (c2' : Nat) (u : List Int) (w : World) (id : Ints w A d) (iv : Ints w B v) (ie : Ints w A' e) (iu : Ints w B' u) (hd : d.length ≤ 100) (hv : v.length ≤ 1000) (he : e.length ≤ 100) (hu : u.length ≤ 1000) (h1 : cellB d v.length = true) (h2 : cellB e u.length = true) (h3 : ¬ d.length ≤ 1) :
    Calls Try.prog 15 #[.agg #[.slice A d.length c, .slice B v.length c2], .agg #[.slice A' e.length c', .slice B' u.length c2']] w (RetCI w [] [] (.int .i64 2)) := by
  obtain ⟨ba0, bb0, br0, hb0⟩ := w2_all w (.slice A d.length c) (.slice B v.length c2) (.slice A' e.length c') (.slice B' u.length c2')
  have BA := Lib.hid (ba0)
  have BB := Lib.hid (bb0)
  have BR := Lib.hid (br0)
  have L := Lib.hid (hb0)
  have ID := Lib.hid (id.below hb0)
  have IV := Lib.hid (iv.below hb0)
  have IE := Lib.hid (ie.below hb0)
  have IU := Lib.hid (iu.below hb0)
  clear ba0 bb0 br0 hb0 id iv ie iu
  have hx : (1 : Int) < (d.length : Int) := by omega
  go_enter Try.func15, Try.ntmps15
  obtain ⟨qBA0, qBA1, -, -⟩ := BA.out.all
  go_wp2_with fail
  refine (rright_yes _ _ d _ _ _ _ (by unfold maxLen; omega) ID.out h1).mono ?_
  rintro r w1 ⟨rfl, hb⟩
  clear qBA0 qBA1
  replace BA := Lib.hid (BA.out.next hb)
  replace BB := Lib.hid (BB.out.next hb)
  replace BR := Lib.hid (BR.out.next hb)
  replace L := Lib.hid (below_next L.out hb)
  replace ID := Lib.hid (ID.out.below hb)
  replace IV := Lib.hid (IV.out.below hb)
  replace IE := Lib.hid (IE.out.below hb)
  replace IU := Lib.hid (IU.out.below hb)
  clear hb
  obtain ⟨qBB0, qBB1, -, -⟩ := BB.out.all
  go_wp2_with fail
  refine (rright_yes _ _ e _ _ _ _ (by unfold maxLen; omega) IE.out h2).mono ?_
  rintro r w2 ⟨rfl, hb⟩
  clear qBB0 qBB1
  replace BA := Lib.hid (BA.out.next hb)
  replace BB := Lib.hid (BB.out.next hb)
  replace BR := Lib.hid (BR.out.next hb)
  replace L := Lib.hid (below_next L.out hb)
  replace ID := Lib.hid (ID.out.below hb)
  replace IV := Lib.hid (IV.out.below hb)
  replace IE := Lib.hid (IE.out.below hb)
  replace IU := Lib.hid (IU.out.below hb)
  clear hb
  obtain ⟨qBA0, qBA1, -, -⟩ := BA.out.all
  obtain ⟨qBB0, qBB1, -, -⟩ := BB.out.all
  obtain ⟨r0, r1, r2, r3⟩ := BR.out.all
  go_wp2
  have T9 := (BR.out.set0 (.slice none 0 0)).set1 (.slice none 0 0)
  obtain ⟨t0, t1, _, _⟩ := T9.all
  refine bodyPost_ret (v := .tuple #[.agg #[.slice none 0 0, .slice none 0 0], .int .i64 2]) (by simp [results, Try.results15, go_sem, t0, t1]) rfl ?_
  exact ⟨none, 0, none, 0, rfl, Ints.nil _ _, Ints.nil _ _, (L.out.setCell (by first | (simp; done) | (simp; omega)) _).setCell (by first | (simp; done) | (simp; omega)) _⟩
set_option maxHeartbeats 4000000 in
theorem rperm_3 (A : Option Addr) (c : Nat) (d : List Int) (B : Option Addr) (c2 : Nat) (v : List Int) (A' : Option Addr) (c' : Nat) (e : List Int) (B' : Option Addr) (c2' : Nat) (u : List Int) (w : World) (id : Ints w A d) (iv : Ints w B v) (ie : Ints w A' e) (iu : Ints w B' u) (hd : d.length ≤ 100) (hv : v.length ≤ 1000) (he : e.length ≤ 100) (hu : u.length ≤ 1000) (h1 : cellB d v.length = true) (h2 : cellB e u.length = true) (h3 : d.length ≤ 1) (h4 : ¬ v.length = e.length) :
    Calls Try.prog 15 #[.agg #[.slice A d.length c, .slice B v.length c2], .agg #[.slice A' e.length c', .slice B' u.length c2']] w (RetCI w [] [] (.int .i64 3)) := by
  obtain ⟨ba0, bb0, br0, hb0⟩ := w2_all w (.slice A d.length c) (.slice B v.length c2) (.slice A' e.length c') (.slice B' u.length c2')
  have BA := Lib.hid (ba0)
  have BB := Lib.hid (bb0)
  have BR := Lib.hid (br0)
  have L := Lib.hid (hb0)
  have ID := Lib.hid (id.below hb0)
  have IV := Lib.hid (iv.below hb0)
  have IE := Lib.hid (ie.below hb0)
  have IU := Lib.hid (iu.below hb0)
  clear ba0 bb0 br0 hb0 id iv ie iu
  have hx : ¬ (1 : Int) < (d.length : Int) := by omega
  have hq : ((v.length : Int) != (e.length : Int)) = true := by simp; omega
  clear h4
  go_enter Try.func15, Try.ntmps15
  obtain ⟨qBA0, qBA1, -, -⟩ := BA.out.all
  go_wp2_with fail
  refine (rright_yes _ _ d _ _ _ _ (by unfold maxLen; omega) ID.out h1).mono ?_
  rintro r w1 ⟨rfl, hb⟩
  clear qBA0 qBA1
  replace BA := Lib.hid (BA.out.next hb)
  replace BB := Lib.hid (BB.out.next hb)
  replace BR := Lib.hid (BR.out.next hb)
  replace L := Lib.hid (below_next L.out hb)
  replace ID := Lib.hid (ID.out.below hb)
  replace IV := Lib.hid (IV.out.below hb)
  replace IE := Lib.hid (IE.out.below hb)
  replace IU := Lib.hid (IU.out.below hb)
  clear hb
  obtain ⟨qBB0, qBB1, -, -⟩ := BB.out.all
  go_wp2_with fail
  refine (rright_yes _ _ e _ _ _ _ (by unfold maxLen; omega) IE.out h2).mono ?_
  rintro r w2 ⟨rfl, hb⟩
  clear qBB0 qBB1
  replace BA := Lib.hid (BA.out.next hb)
  replace BB := Lib.hid (BB.out.next hb)
  replace BR := Lib.hid (BR.out.next hb)
  replace L := Lib.hid (below_next L.out hb)
  replace ID := Lib.hid (ID.out.below hb)
  replace IV := Lib.hid (IV.out.below hb)
  replace IE := Lib.hid (IE.out.below hb)
  replace IU := Lib.hid (IU.out.below hb)
  clear hb
  obtain ⟨qBA0, qBA1, -, -⟩ := BA.out.all
  obtain ⟨qBB0, qBB1, -, -⟩ := BB.out.all
  obtain ⟨r0, r1, r2, r3⟩ := BR.out.all
  go_wp2
  have T9 := (BR.out.set0 (.slice none 0 0)).set1 (.slice none 0 0)
  obtain ⟨t0, t1, _, _⟩ := T9.all
  refine bodyPost_ret (v := .tuple #[.agg #[.slice none 0 0, .slice none 0 0], .int .i64 3]) (by simp [results, Try.results15, go_sem, t0, t1]) rfl ?_
  exact ⟨none, 0, none, 0, rfl, Ints.nil _ _, Ints.nil _ _, (L.out.setCell (by first | (simp; done) | (simp; omega)) _).setCell (by first | (simp; done) | (simp; omega)) _⟩
set_option maxHeartbeats 8000000 in
theorem rperm_0 (A : Option Addr) (c : Nat) (d : List Int) (B : Option Addr) (c2 : Nat) (v : List Int) (A' : Option Addr) (c' : Nat) (e : List Int) (B' : Option Addr) (c2' : Nat) (u : List Int) (w : World) (id : Ints w A d) (iv : Ints w B v) (ie : Ints w A' e) (iu : Ints w B' u) (hd : d.length ≤ 100) (hv : v.length ≤ 1000) (he : e.length ≤ 100) (hu : u.length ≤ 1000) (h1 : cellB d v.length = true) (h2 : cellB e u.length = true) (h3 : d.length ≤ 1) (h4 : v.length = e.length) :
    Calls Try.prog 15 #[.agg #[.slice A d.length c, .slice B v.length c2], .agg #[.slice A' e.length c', .slice B' u.length c2']] w (RetCI w (peD d v e u.length) (peV d v e u) (.int .i64 (peE d v e u.length))) := by
  obtain ⟨ba0, bb0, br0, hb0⟩ := w2_all w (.slice A d.length c) (.slice B v.length c2) (.slice A' e.length c') (.slice B' u.length c2')
  have BA := Lib.hid (ba0)
  have BB := Lib.hid (bb0)
  have BR := Lib.hid (br0)
  have L := Lib.hid (hb0)
  have ID := Lib.hid (id.below hb0)
  have IV := Lib.hid (iv.below hb0)
  have IE := Lib.hid (ie.below hb0)
  have IU := Lib.hid (iu.below hb0)
  clear ba0 bb0 br0 hb0 id iv ie iu
  have hx : ¬ (1 : Int) < (d.length : Int) := by omega
  have H4 := Lib.hid h4
  have e3 := (cellB_small h2).1
  have hv3 : v.length ≤ 3 := by omega
  clear h4
  go_enter Try.func15, Try.ntmps15
  obtain ⟨qBA0, qBA1, -, -⟩ := BA.out.all
  go_wp2_with fail
  refine (rright_yes _ _ d _ _ _ _ (by unfold maxLen; omega) ID.out h1).mono ?_
  rintro r w1 ⟨rfl, hb⟩
  clear qBA0 qBA1
  replace BA := Lib.hid (BA.out.next hb)
  replace BB := Lib.hid (BB.out.next hb)
  replace BR := Lib.hid (BR.out.next hb)
  replace L := Lib.hid (below_next L.out hb)
  replace ID := Lib.hid (ID.out.below hb)
  replace IV := Lib.hid (IV.out.below hb)
  replace IE := Lib.hid (IE.out.below hb)
  replace IU := Lib.hid (IU.out.below hb)
  clear hb
  obtain ⟨qBB0, qBB1, -, -⟩ := BB.out.all
  go_wp2_with fail
  refine (rright_yes _ _ e _ _ _ _ (by unfold maxLen; omega) IE.out h2).mono ?_
  rintro r w2 ⟨rfl, hb⟩
  clear qBB0 qBB1
  replace BA := Lib.hid (BA.out.next hb)
  replace BB := Lib.hid (BB.out.next hb)
  replace BR := Lib.hid (BR.out.next hb)
  replace L := Lib.hid (below_next L.out hb)
  replace ID := Lib.hid (ID.out.below hb)
  replace IV := Lib.hid (IV.out.below hb)
  replace IE := Lib.hid (IE.out.below hb)
  replace IU := Lib.hid (IU.out.below hb)
  clear hb
  obtain ⟨qBA0, qBA1, -, -⟩ := BA.out.all
  obtain ⟨qBB0, qBB1, -, -⟩ := BB.out.all
  rw [← H4.out] at qBB0
  go_wp2
  go_loopw [6, 7] (fun s j wr => ∃ (k : Nat) (V : Value), k ≤ v.length ∧ j = .int .i64 (k : Int) ∧ V = s ∧ MineT 3 wr w2.heap.size V (v.take k) ∧ (∀ i, i < k → 0 ≤ v.getD i 0 ∧ v.getD i 0 ≤ 2) ∧ Below w2.heap.size w2 wr) (fun _ j _ => v.length - (intOf j).toNat)
  case atStart => exact ⟨0, _, Nat.zero_le _, rfl, rfl, MineT.nil _ _ _, fun i hi => absurd hi (by omega), Below.refl _ _⟩
  case round =>
    clear qBA0 qBA1 qBB0 qBB1
    obtain ⟨k, V, hk, rfl, rfl, hM, hsm, hB⟩ := hrel
    have MV := Lib.hid hM
    have LBk := Lib.hid hB
    have HSM := Lib.hid hsm
    clear hM hB hsm
    replace BA := Lib.hid (BA.out.next LBk.out)
    replace BB := Lib.hid (BB.out.next LBk.out)
    replace BR := Lib.hid (BR.out.next LBk.out)
    replace L := Lib.hid (below_next L.out LBk.out)
    replace ID := Lib.hid (ID.out.below LBk.out)
    replace IV := Lib.hid (IV.out.below LBk.out)
    replace IE := Lib.hid (IE.out.below LBk.out)
    replace IU := Lib.hid (IU.out.below LBk.out)
    obtain ⟨qBA0, qBA1, -, -⟩ := BA.out.all
    by_cases hlt : k < v.length
    · have hx2 : (k : Int) < (v.length : Int) := by omega
      have k0 : (0 : Int) ≤ (k : Int) := by omega
      obtain ⟨bv, ov, e8, hbv, hcv⟩ := IV.out (by omega)
      subst e8
      have xv := hcv k hlt
      clear hcv
      have HTK := Lib.hid (take_snoc v k hlt)
      obtain ⟨y, hy⟩ : ∃ y, v.getD k 0 = y := ⟨_, rfl⟩
      rw [hy] at xv HTK
      have HY := Lib.hid hy
      clear hy
      have HLK := Lib.hid (show (v.take k).length = k by simp; omega)
      by_cases hneg : y < 0
      · have HPN := Lib.hid (perm_not hv3 hlt (by rw [HY.out]; omega))
        obtain ⟨r0, r1, r2, r3⟩ := BR.out.all
        go_wp2
        have T9 := (BR.out.set0 (.slice none 0 0)).set1 (.slice none 0 0)
        obtain ⟨t0, t1, _, _⟩ := T9.all
        refine bodyPost_ret (v := .tuple #[.agg #[.slice none 0 0, .slice none 0 0], .int .i64 5]) (by simp [results, Try.results15, go_sem, t0, t1]) rfl ?_
        rw [(pe_5 h1 h2 h3 H4.out HPN.out).1, (pe_5 h1 h2 h3 H4.out HPN.out).2.1, (pe_5 h1 h2 h3 H4.out HPN.out).2.2]
        exact ⟨none, 0, none, 0, rfl, Ints.nil _ _, Ints.nil _ _, (L.out.setCell (by first | (simp; done) | (simp; omega)) _).setCell (by first | (simp; done) | (simp; omega)) _⟩
      by_cases hbig : 2 < y
      · have HPN := Lib.hid (perm_not hv3 hlt (by rw [HY.out]; omega))
        obtain ⟨r0, r1, r2, r3⟩ := BR.out.all
        go_wp2
        have T9 := (BR.out.set0 (.slice none 0 0)).set1 (.slice none 0 0)
        obtain ⟨t0, t1, _, _⟩ := T9.all
        refine bodyPost_ret (v := .tuple #[.agg #[.slice none 0 0, .slice none 0 0], .int .i64 5]) (by simp [results, Try.results15, go_sem, t0, t1]) rfl ?_
        rw [(pe_5 h1 h2 h3 H4.out HPN.out).1, (pe_5 h1 h2 h3 H4.out HPN.out).2.1, (pe_5 h1 h2 h3 H4.out HPN.out).2.2]
        exact ⟨none, 0, none, 0, rfl, Ints.nil _ _, Ints.nil _ _, (L.out.setCell (by first | (simp; done) | (simp; omega)) _).setCell (by first | (simp; done) | (simp; omega)) _⟩
      have HSM2 := Lib.hid (show ∀ i, i < k + 1 → 0 ≤ v.getD i 0 ∧ v.getD i 0 ≤ 2 by
        intro i hi
        rcases Nat.lt_or_ge i k with h | h
        · exact HSM.out i h
        · obtain rfl : i = k := by omega
          rw [HY.out]; omega)
      generalize v.take k = T at *
      have M8 := Lib.hid (MV.out.alloc (.cells #[.int .i64 y] 3))
      have X8 := Lib.hid (one_newI wr y)
      have L8 := Lib.hid (below_next LBk.out (below_new wr (.cells #[.int .i64 y] 3)))
      go_wp2_with (at_builtin; refine wpList_appI numI Try.underlying22 rfl (.tmp 59) (.tmp 65) rfl w2.heap.size V T (by rfl) M8.out (some ⟨wr.heap.size, 0, none⟩) 1 [y] rfl X8.out (by rw [HLK.out]; simp; omega) L8.out.size ?_; intro V' w8 hm8 hg8 ha8)
      go_roundw
      case rel => exact ⟨k + 1, _, by omega, by go_num, rfl, by rw [HTK.out]; exact hm8, HSM2.out, L8.out.grown hg8 L8.out.size M8.out.block⟩
      case measure => simp [intOf]; omega
    · obtain rfl : k = v.length := by omega
      have hx2 : ¬ (v.length : Int) < (v.length : Int) := by omega
      have HSA := Lib.hid (small_same HSM.out)
      rw [List.take_length] at MV
      obtain ⟨A5, c5, rfl, i5⟩ := MV.out.ints
      have I5 := Lib.hid i5
      clear i5 MV
      by_cases h5 : permB v = true
      rotate_left
      · have H5 := Lib.hid (show permB v = false by simpa using h5)
        clear h5
        go_wp2_with fail
        refine (refPerm_t _ _ v false _ H5.out (by omega) I5.out).mono ?_
        rintro r w11 ⟨rfl, hb⟩
        clear qBA0 qBA1
        replace BA := Lib.hid (BA.out.next hb)
        replace BB := Lib.hid (BB.out.next hb)
        replace BR := Lib.hid (BR.out.next hb)
        replace L := Lib.hid (below_next L.out hb)
        replace ID := Lib.hid (ID.out.below hb)
        replace IV := Lib.hid (IV.out.below hb)
        replace IE := Lib.hid (IE.out.below hb)
        replace IU := Lib.hid (IU.out.below hb)
        replace I5 := Lib.hid (I5.out.below hb)
        clear hb
        obtain ⟨r0, r1, r2, r3⟩ := BR.out.all
        go_wp2
        have T9 := (BR.out.set0 (.slice none 0 0)).set1 (.slice none 0 0)
        obtain ⟨t0, t1, _, _⟩ := T9.all
        refine bodyPost_ret (v := .tuple #[.agg #[.slice none 0 0, .slice none 0 0], .int .i64 5]) (by simp [results, Try.results15, go_sem, t0, t1]) rfl ?_
        have EQ := pe_5 h1 h2 h3 H4.out (by rw [HSA.out]; exact H5.out)
        rw [EQ.1, EQ.2.1, EQ.2.2]
        exact ⟨none, 0, none, 0, rfl, Ints.nil _ _, Ints.nil _ _, (L.out.setCell (by first | (simp; done) | (simp; omega)) _).setCell (by first | (simp; done) | (simp; omega)) _⟩
      have H5 := Lib.hid h5
      clear h5
      go_wp2_with fail
      refine (refPerm_t _ _ v true _ H5.out (by omega) I5.out).mono ?_
      rintro r w11 ⟨rfl, hb⟩
      clear qBA0 qBA1
      replace BA := Lib.hid (BA.out.next hb)
      replace BB := Lib.hid (BB.out.next hb)
      replace BR := Lib.hid (BR.out.next hb)
      replace L := Lib.hid (below_next L.out hb)
      replace ID := Lib.hid (ID.out.below hb)
      replace IV := Lib.hid (IV.out.below hb)
      replace IE := Lib.hid (IE.out.below hb)
      replace IU := Lib.hid (IU.out.below hb)
      replace I5 := Lib.hid (I5.out.below hb)
      clear hb
      obtain ⟨O, hO⟩ : ∃ O, pickB e v = O := ⟨_, rfl⟩
      have HPR := Lib.hid (show rightB O = true ∧ O.length = e.length by rw [← hO]; exact pick_right H4.out H5.out (cellB_parts h2).1)
      have HPA := Lib.hid (show ∀ i, i < v.length → 0 ≤ v.getD i 0 ∧ v.getD i 0 < (v.length : Int) from fun i hi => perm_at H5.out i hi)
      have HO := Lib.hid hO
      have HOL := Lib.hid HPR.out.2
      obtain ⟨n, hn, n64⟩ := sizeI_nat O HPR.out.1
      have HN := Lib.hid hn
      have HEQ := Lib.hid (show peE d v e u.length = 0 ∧ peD d v e u.length = O ∧ peV d v e u = (List.range n).map (fun k : Nat => atI e u (ptP v (dg O (k : Int)))) by
        have h := pe_0 (v := u) h1 h2 h3 H4.out (by rw [HSA.out]; exact H5.out)
        rw [HSA.out, hO, hn, Int.toNat_natCast] at h
        exact h)
      clear hO hn
      obtain ⟨qBB0, qBB1, -, -⟩ := BB.out.all
      go_wp2_with fail
      refine (refPicked_t _ _ e _ _ v O _ HO.out he (by omega) IE.out I5.out).mono ?_
      rintro r w12 ⟨AO, cO, rfl, hiO, hb⟩
      clear qBB0 qBB1
      replace BA := Lib.hid (BA.out.next hb)
      replace BB := Lib.hid (BB.out.next hb)
      replace BR := Lib.hid (BR.out.next hb)
      replace L := Lib.hid (below_next L.out hb)
      replace ID := Lib.hid (ID.out.below hb)
      replace IV := Lib.hid (IV.out.below hb)
      replace IE := Lib.hid (IE.out.below hb)
      replace IU := Lib.hid (IU.out.below hb)
      replace I5 := Lib.hid (I5.out.below hb)
      clear hb
      have IO := Lib.hid hiO
      clear hiO
      have hgC := BB.out.lt
      have hgR := BR.out.lt
      have hgW := L.out.size
      have IE1 := Lib.hid IE.out
      have IU1 := Lib.hid IU.out
      have I51 := Lib.hid I5.out
      have IO1 := Lib.hid IO.out
      have L1 := Lib.hid (Below.refl w12.heap.size w12)
      have KB := Lib.hid (below_new w12 (.cells #[.slice AO O.length cO, .slice none 0 0] 25))
      have BX := Lib.hid (Box.new w12 (.slice AO O.length cO) (.slice none 0 0))
      replace BA := Lib.hid (BA.out.next KB.out)
      replace BB := Lib.hid (BB.out.next KB.out)
      replace BR := Lib.hid (BR.out.next KB.out)
      replace L := Lib.hid (below_next L.out KB.out)
      replace ID := Lib.hid (ID.out.below KB.out)
      replace IV := Lib.hid (IV.out.below KB.out)
      replace IE := Lib.hid (IE.out.below KB.out)
      replace IU := Lib.hid (IU.out.below KB.out)
      replace I5 := Lib.hid (I5.out.below KB.out)
      replace IO := Lib.hid (IO.out.below KB.out)
      replace L1 := Lib.hid (below_next L1.out KB.out)
      clear KB
      have hgo := BX.out.lt
      go_wp2_with fail
      refine (places_p _ _ O n _ HN.out (by rw [HOL.out]; exact he) IO.out).mono ?_
      rintro r w13 ⟨AP, cP8, rfl, hp8, hb⟩
      replace BA := Lib.hid (BA.out.next hb)
      replace BB := Lib.hid (BB.out.next hb)
      replace BR := Lib.hid (BR.out.next hb)
      replace L := Lib.hid (below_next L.out hb)
      replace ID := Lib.hid (ID.out.below hb)
      replace IV := Lib.hid (IV.out.below hb)
      replace IE := Lib.hid (IE.out.below hb)
      replace IU := Lib.hid (IU.out.below hb)
      replace I5 := Lib.hid (I5.out.below hb)
      replace IO := Lib.hid (IO.out.below hb)
      replace L1 := Lib.hid (below_next L1.out hb)
      replace BX := Lib.hid (BX.out.next hb)
      clear hb
      have PL := Lib.hid hp8
      clear hp8
      generalize hW7 : w12.alloc (.cells #[.slice AO O.length cO, .slice none 0 0] 25) = W7 at *
      clear hW7
      have O0 := Lib.hid (show OutSt w13 w13 w12.heap.size (.slice AO O.length cO) (.slice none 0 0) [] from ⟨turned_refl _ _, BX.out, MineT.nil _ _ _, BX.out.lt⟩)
      obtain ⟨FF, hF⟩ : ∃ F : Nat → Int, (fun k : Nat => atI e u (ptP v (dg O (k : Int)))) = F := ⟨_, rfl⟩
      have HF := Lib.hid hF
      clear hF
      go_wp2
      go_loopw [10] (fun j wr => ∃ (k : Nat) (V : Value), k ≤ n ∧ j = .int .i64 (k : Int) ∧ OutSt w13 wr w12.heap.size (.slice AO O.length cO) V ((List.range k).map FF)) (fun j _ => n - (intOf j).toNat)
      case atStart => exact ⟨0, _, Nat.zero_le _, rfl, O0.out⟩
      case round =>
        obtain ⟨k, V, hk, rfl, hO⟩ := hrel
        obtain ⟨wo, hwo⟩ : ∃ W, W = wr := ⟨_, rfl⟩
        subst hwo
        have Q := Lib.hid hO
        have PLr := Lib.hid (PL.out.grown hO.1 hgo)
        clear hO O0
        have BBr := Lib.hid (BB.out.grown Q.out.1 (fun e => by injection e with e; omega))
        have BRr := Lib.hid (BR.out.grown Q.out.1 (fun e => by injection e with e; omega))
        have LWr := Lib.hid (below_turned L.out Q.out.1 (by omega))
        have L1r := Lib.hid (show Below w12.heap.size w12 wo from below_turned L1.out Q.out.1 (Nat.le_refl _))
        have I5r := Lib.hid (I51.out.below L1r.out)
        by_cases hlt2 : k < n
        · obtain ⟨bp, At, ct, rfl, hbp1, hbp2, hcp, hfp⟩ := PLr.out k hlt2
          have HMX := Lib.hid (show (List.range (k + 1)).map FF = (List.range k).map FF ++ [FF k] by rw [List.range_succ, List.map_append]; rfl)
          have LQ := Lib.hid (show ((List.range k).map FF).length = k by simp)
          have HFK := Lib.hid (show atI e u (ptP v (dg O (k : Int))) = FF k by rw [← HF.out])
          have HQL := Lib.hid (show (dg O (k : Int)).length = v.length by rw [dg_length, HOL.out, H4.out])
          have HQL2 := Lib.hid (dg_length O (k : Int))
          generalize FF k = x at *
          generalize hys : (List.range k).map FF = ys at *
          clear hys
          generalize dg O (k : Int) = q at *
          rw [← HQL2.out] at hcp
          have IQ := Lib.hid hfp.ints
          clear hfp
          have k0 : (0 : Int) ≤ (k : Int) := by omega
          have k1 : (k : Int) < (n : Int) := by omega
          go_wp2
          go_loopw [11, 12] (fun s j wr => ∃ (a : Nat) (V2 : Value), a ≤ v.length ∧ j = .int .i64 (a : Int) ∧ V2 = s ∧ MineT 3 wr wo.heap.size V2 (ptK v q a) ∧ Below wo.heap.size wo wr) (fun _ j _ => v.length - (intOf j).toNat)
          case atStart => exact ⟨0, _, Nat.zero_le _, rfl, rfl, MineT.nil _ _ _, Below.refl _ _⟩
          case round =>
            obtain ⟨a, V2, ha, rfl, rfl, hMx, hBx⟩ := hrel
            have MX := Lib.hid hMx
            have LX := Lib.hid hBx
            clear hMx hBx
            by_cases hla : a < v.length
            · have hx1 : (a : Int) < (v.length : Int) := by omega
              have a0 : (0 : Int) ≤ (a : Int) := by omega
              obtain ⟨bl, ol, e9, hbl, hcl⟩ := (I5r.out.below LX.out) (by omega)
              subst e9
              have xl := hcl a hla
              have hpa := HPA.out a hla
              obtain ⟨m, hm⟩ : ∃ m : Nat, v.getD a 0 = (m : Int) := ⟨(v.getD a 0).toNat, by omega⟩
              have HKS := Lib.hid (ptK_succ v q a)
              rw [hm, Int.toNat_natCast] at HKS
              rw [hm] at xl hpa
              obtain ⟨bq, oq, e7, hbq, hcq⟩ := (IQ.out.below LX.out) (by rw [HQL.out]; omega)
              subst e7
              have xq := hcq m (by rw [HQL.out]; omega)
              have hcp2 := keepB8 LX.out hcp
              have m0 : (0 : Int) ≤ (m : Int) := by omega
              have m1 : (m : Int) < (q.length : Int) := by rw [HQL.out]; omega
              have HKL := Lib.hid (ptK_len v q a)
              clear hcl hcq hm hpa
              generalize q.getD m 0 = z at *
              generalize ptK v q a = T at *
              go_upto_region 25 with (fail)
              have hmW := Lib.hid (show MineT 3 (wr.drew.alloc (.cells #[.int .i64 z] 3)) wo.heap.size V2 T from MX.out.drew.alloc _)
              have hyW := Lib.hid (show Ints (wr.drew.alloc (.cells #[.int .i64 z] 3)) (some ⟨wr.heap.size, 0, none⟩) [z] from one_newI wr.drew z)
              have hLW := Lib.hid (show Below wo.heap.size wo (wr.drew.alloc (.cells #[.int .i64 z] 3)) from below_next LX.out.drew (below_new _ _))
              have hlx := LX.out.size
              go_region_law ((refine step_appI numI Try.underlying22 rfl (.tmp 91) (.tmp 102) rfl wo.heap.size V2 T (by simp [Act.eval]) hmW.out (some ⟨wr.heap.size, 0, none⟩) 1 [z] (by simp [Act.eval]) hyW.out (by rw [HKL.out]; simp; omega) (by simp; omega) ?_; intro V' w5 hm5 hg5 ha5))
              all_goals
                go_wp2
                go_roundw
                case rel => exact ⟨a + 1, _, by omega, by go_num, rfl, by rw [HKS.out]; exact hm5, hLW.out.grown hg5 hLW.out.size hmW.out.block⟩
                case measure => simp [intOf]; omega
            · obtain rfl : a = v.length := by omega
              have hx1 : ¬ (v.length : Int) < (v.length : Int) := by omega
              have HXE := Lib.hid (show ptK v q v.length = ptP v q by unfold ptK ptP; rw [HQL.out])
              rw [HXE.out] at MX
              have HPL := Lib.hid (show (ptP v q).length = v.length by rw [ptP_len, HQL.out])
              obtain ⟨A9, c9, rfl, i9⟩ := MX.out.ints
              have I9 := Lib.hid i9
              clear i9
              generalize ptP v q = T at *
              obtain ⟨p0, p1, -, -⟩ := (BBr.out.next LX.out).all
              have IEx := Lib.hid (IE1.out.below (below_next L1r.out LX.out))
              have IUx := Lib.hid (IU1.out.below (below_next L1r.out LX.out))
              go_wp2_with fail
              refine (rat_n _ _ e _ _ u _ T.length c9 T x _ rfl HFK.out he hu (by rw [HPL.out]; omega) IEx.out IUx.out I9.out).mono ?_
              rintro r w14 ⟨tb, rfl, hb⟩
              have O7 := Lib.hid ((Q.out.next LX.out).next hb)
              have O8 := Lib.hid (O7.out.alloc (.cells #[.int .i64 x] 2))
              have X8 := Lib.hid (one_new w14 x)
              have c7 := O7.out.box.c1
              clear hb p0 p1
              go_wp2_with (at_builtin; refine wpList_appI numL Try.underlying23 rfl (.tmp 111) (.tmp 113) rfl w13.heap.size V ys (by rfl) O8.out.mine (some ⟨w14.heap.size, 0, none⟩) 1 [x] rfl X8.out (by rw [LQ.out]; simp; omega) O8.out.size ?_; intro V' w15 hm8 hg8 ha8; obtain ⟨A10, c10, rfl, -⟩ := hm8.ints; obtain ⟨y0', y1', y2', y3'⟩ := (O8.out.mid hg8).all)
              go_roundw
              case rel => exact ⟨k + 1, _, by omega, by go_num, by rw [HMX.out]; have hm9 := hm8; rw [List.length_append] at hm9; exact O8.out.app hm9 hg8⟩
              case measure => simp [intOf]; omega
        · obtain rfl : k = n := by omega
          have IOr := Lib.hid (IO1.out.below L1r.out)
          generalize hys : (List.range k).map FF = ys at *
          have HY := Lib.hid (show (List.range k).map (fun k : Nat => atI e u (ptP v (dg O (k : Int)))) = ys by rw [HF.out]; exact hys)
          clear hys
          obtain ⟨AV, cV, rfl, -⟩ := Q.out.mine.ints
          obtain ⟨q0, q1, -, -⟩ := Q.out.box.all
          obtain ⟨r0, r1, r2, r3⟩ := BRr.out.all
          have hlr := LWr.out.size
          go_wp2
          have T9 := (BRr.out.set0 (.slice AO O.length cO)).set1 (.slice AV ys.length cV)
          obtain ⟨t0, t1, _, _⟩ := T9.all
          refine bodyPost_ret (v := .tuple #[.agg #[.slice AO O.length cO, .slice AV ys.length cV], .int .i64 0]) (by simp [results, Try.results15, go_sem, t0, t1]) rfl ?_
          rw [HEQ.out.1, HEQ.out.2.1, HEQ.out.2.2, HY.out]
          exact ⟨AO, cO, AV, cV, rfl, IOr.out.set_box BRr.out _ _, Q.out.mine.ints'.set_box BRr.out _ _, (LWr.out.setCell (by first | (simp; done) | (simp; omega)) _).setCell (by first | (simp; done) | (simp; omega)) _⟩
theorem rpermute_any (A : Option Addr) (c : Nat) (d : List Int) (B : Option Addr) (c2 : Nat) (v : List Int) (A' : Option Addr) (c' : Nat) (e : List Int) (B' : Option Addr) (c2' : Nat) (u : List Int) (w : World) (id : Ints w A d) (iv : Ints w B v) (ie : Ints w A' e) (iu : Ints w B' u) (hd : d.length ≤ 100) (hv : v.length ≤ 1000) (he : e.length ≤ 100) (hu : u.length ≤ 1000) :
    Calls Try.prog 15 #[.agg #[.slice A d.length c, .slice B v.length c2], .agg #[.slice A' e.length c', .slice B' u.length c2']] w (RetCI w (peD d v e u.length) (peV d v e u) (.int .i64 (peE d v e u.length))) := by
  by_cases h1 : cellB d v.length = true
  rotate_left
  · have h1' : cellB d v.length = false := by simpa using h1
    obtain ⟨e1, e2, e3⟩ := pe_1 (d := e) (v := u) h1'
    rw [e1, e2, e3]
    exact rperm_1 A c d B c2 v A' c' e B' c2' u w id iv ie iu hd hv he hu h1'
  by_cases h2 : cellB e u.length = true
  rotate_left
  · have h2' : cellB e u.length = false := by simpa using h2
    obtain ⟨e1, e2, e3⟩ := pe_1' (dn := d) (pn := v) h2'
    rw [e1, e2, e3]
    exact rperm_1' A c d B c2 v A' c' e B' c2' u w id iv ie iu hd hv he hu h1 h2'
  by_cases h3 : d.length ≤ 1
  rotate_left
  · obtain ⟨e1, e2, e3⟩ := pe_2 h1 h2 h3
    rw [e1, e2, e3]
    exact rperm_2 A c d B c2 v A' c' e B' c2' u w id iv ie iu hd hv he hu h1 h2 h3
  by_cases h4 : v.length = e.length
  rotate_left
  · obtain ⟨e1, e2, e3⟩ := pe_3 h1 h2 h3 h4
    rw [e1, e2, e3]
    exact rperm_3 A c d B c2 v A' c' e B' c2' u w id iv ie iu hd hv he hu h1 h2 h3 h4
  exact rperm_0 A c d B c2 v A' c' e B' c2' u w id iv ie iu hd hv he hu h1 h2 h3 h4
end Go.Proofs.Yticicfbllhnpcaa.Sh
