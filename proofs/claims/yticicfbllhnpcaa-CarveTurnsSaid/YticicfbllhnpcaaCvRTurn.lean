/-
  What riffleref07.Flip and riffleref07.Roll answer; nothing that was there is written. Condition: at most 100 axes and 1000 numbers.
-/
import Derived.Test.YticicfbllhnpcaaCvChosen
import Derived.Test.YticicfbllhnpcaaPkW
set_option maxRecDepth 100000
namespace Go.Proofs.Yticicfbllhnpcaa.Sh
open Go.RowKit
set_option linter.unusedVariables false

theorem mv_nil {f : Int → Int → Int} {d v : List Int} {b : Bool} (h : cellB d v.length = true) (h0 : d.length = 0) : mvV f d v b = v := by
  have hd : d = [] := List.eq_nil_of_length_eq_zero h0
  subst hd
  have h1 := (cellB_parts h).2
  have h2 : sizeI ([] : List Int) = 1 := by decide
  have hl : v.length = 1 := by omega
  have hx : atI [] v [] = v.getD 0 0 := by have := atI_dg (k := 0) h (by omega); simpa [dg] using this
  match v, hl with
  | [x], _ =>
    unfold mvV
    rw [h2]
    have e : mvP f [] (aI [] b) (dg [] ((0 : Nat) : Int)) = [] := rfl
    show [atI [] [x] (mvP f [] (aI [] b) (dg [] ((0 : Nat) : Int)))] = [x]
    rw [e, hx]; rfl
/-- A list that chooses by a move along the axis makes just that move. -/
theorem ch_mv {f : Int → Int → Int} {d v l : List Int} {b : Bool} {a n : Nat} (h : cellB d v.length = true) (ha : a < d.length) (hax : aI d b = (a : Int)) (hn : sizeI d = (n : Int)) (hl : ∀ i : Nat, (i : Int) < d.getD a 0 → l.getD i 0 = f (i : Int) (d.getD a 0)) :
    (List.range n).map (chF d v l a d) = mvV f d v b := by
  unfold mvV
  rw [hn, Int.toNat_natCast]
  refine List.map_congr_left fun k hk => ?_
  have hk2 : k < n := by simpa using hk
  have hb := dg_at_bd (a := a) hn hk2 ha
  unfold chF
  rw [hax, mvP_is (dg_length _ _) ha]
  have e : (dg d (k : Int)).getD a 0 = (((dg d (k : Int)).getD a 0).toNat : Int) := (Int.toNat_of_nonneg hb.1).symm
  rw [hl _ (by omega), ← e]
theorem with_self {d : List Int} {a : Nat} (ha : a < d.length) {x : Int} (hx : x = d.getD a 0) : withL d (a : Int) x = d := by
  unfold withL
  rw [if_pos ⟨by omega, by omega⟩, Int.toNat_natCast, hx]
  apply List.ext_getElem (by simp)
  intro i h1 h2
  rw [List.getElem_set]
  split
  · rename_i h; subst h; simp [List.getD, ha]
  · rfl
theorem raxis_any (A : Option Addr) (n c : Nat) (B : Option Addr) (m c2 : Nat) (b : Bool) (x : Int) (w : World) (hn : n ≤ 1000) (hx : (if b = true then 0 else (n : Int) - 1) = x) :
    Calls Try.prog 27 #[.agg #[.slice A n c, .slice B m c2], .bool b] w fun e w' => e = .returned (.int .i64 x) ∧ Below w.heap.size w w' := by
  subst hx
  have L := Lib.hid (below_new w (.cells #[.slice A n c, .slice B m c2] 25))
  cases b
  · go_enter Try.func27, Try.ntmps27
    go_wp2
    go_ret
    exact ⟨rfl, L.out⟩
  · go_enter Try.func27, Try.ntmps27
    go_wp2
    go_ret
    exact ⟨rfl, L.out⟩
theorem cho_x (A : Option Addr) (c : Nat) (d : List Int) (B : Option Addr) (c2 : Nat) (v : List Int) (a : Nat) (Lp : Option Addr) (cl : Nat) (l V : List Int) (N : Nat) (f : Int → Int → Int) (b : Bool) (w : World) (h : cellB d v.length = true) (ha : a < d.length) (hax : aI d b = (a : Int)) (hN : d.getD a 0 = (N : Int)) (hll : l.length = N) (hl : ∀ i : Nat, i < N → l.getD i 0 = f (i : Int) (N : Int)) (hV : mvV f d v b = V) (id : Ints w A d) (iv : Ints w B v) (il : Ints w Lp l) :
    Calls Try.prog 28 #[.agg #[.slice A d.length c, .slice B v.length c2], .int .i64 (a : Int), .slice Lp N cl] w (RetI1 w d V) := by
  subst hll
  obtain ⟨n, hn⟩ : ∃ n : Nat, sizeI d = (n : Int) := ⟨(sizeI d).toNat, by have := sizeI_bd d; omega⟩
  have h3 := (rightB_all (cellB_parts h).1)
  have hb := okAx_at h3.2.1 a ha
  have hv : v.length ≤ 64 := by have h1 := (cellB_parts h).2; have := sizeI_bd d; omega
  have hc := chosen_any A c d B c2 v a Lp cl l d n w (by omega) (by omega) ha (by omega) (with_self ha (by rw [hN])) hn id iv il
  rw [ch_mv (f := f) (b := b) h ha hax hn (fun i hi => by rw [hN] at hi ⊢; exact hl i (by omega)), hV] at hc
  exact hc
theorem rollr_eq (x i L : Int) (h : 0 < L) : (if (x.tmod L + i).tmod L < 0 then (x.tmod L + i).tmod L + L else (x.tmod L + i).tmod L) = rollI x i L := by
  have e1 : ∀ y : Int, y.tmod L % L = y % L := fun y => by
    have e : y.tmod L = y - L * y.tdiv L := by have := Int.tmod_add_mul_tdiv y L; omega
    rw [e, show y - L * y.tdiv L = y + L * (-(y.tdiv L)) by rw [Int.mul_neg]; omega, Int.add_mul_emod_self_left]
  have hb := tmod_bd (x.tmod L + i) h
  have h2 : (x.tmod L + i).tmod L % L = (i + x) % L := by
    rw [e1, Int.add_comm, Int.add_emod, e1, ← Int.add_emod]
  unfold rollI
  rw [← h2]
  split
  · rename_i hn
    have : ((x.tmod L + i).tmod L) % L = ((x.tmod L + i).tmod L + L) % L := by simp
    rw [this, Int.emod_eq_of_lt (by omega) (by omega)]
  · rw [Int.emod_eq_of_lt (by omega) (by omega)]
set_option maxHeartbeats 4000000 in
theorem rflip_1 (A : Option Addr) (c : Nat) (d : List Int) (B : Option Addr) (c2 : Nat) (v : List Int) (b : Bool) (w : World) (id : Ints w A d) (iv : Ints w B v) (hd : d.length ≤ 100) (hv : v.length ≤ 1000) (h : cellB d v.length = false) :
    Calls Try.prog 9 #[.agg #[.slice A d.length c, .slice B v.length c2], .bool b] w (RetCI w [] [] (.int .i64 1)) := by
  obtain ⟨ba0, br0, hb0⟩ := chz_all w (.slice A d.length c) (.slice B v.length c2)
  have BA := Lib.hid (ba0)
  have BR := Lib.hid (br0)
  have L := Lib.hid (hb0)
  have ID := Lib.hid (id.below hb0)
  have IV := Lib.hid (iv.below hb0)
  clear ba0 br0 hb0 id iv
  go_enter Try.func9, Try.ntmps9
  obtain ⟨qBA0, qBA1, -, -⟩ := BA.out.all
  go_wp2_with fail
  refine (rright_no _ _ d _ _ _ _ (by unfold maxLen; omega) ID.out h).mono ?_
  rintro r w1 ⟨rfl, hb⟩
  clear qBA0 qBA1
  replace BA := Lib.hid (BA.out.next hb)
  replace BR := Lib.hid (BR.out.next hb)
  replace L := Lib.hid (below_next L.out hb)
  replace ID := Lib.hid (ID.out.below hb)
  replace IV := Lib.hid (IV.out.below hb)
  clear hb
  obtain ⟨r0, r1, r2, r3⟩ := BR.out.all
  go_wp2
  have T9 := (BR.out.set0 (.slice none 0 0)).set1 (.slice none 0 0)
  obtain ⟨t0, t1, _, _⟩ := T9.all
  refine bodyPost_ret (v := .tuple #[.agg #[.slice none 0 0, .slice none 0 0], .int .i64 1]) (by simp [results, Try.results9, go_sem, t0, t1]) rfl ?_
  exact ⟨none, 0, none, 0, rfl, Ints.nil _ _, Ints.nil _ _, (L.out.setCell (by first | (simp; done) | (simp; omega)) _).setCell (by first | (simp; done) | (simp; omega)) _⟩
set_option maxHeartbeats 4000000 in
theorem rflip_n (A : Option Addr) (c : Nat) (d : List Int) (B : Option Addr) (c2 : Nat) (v : List Int) (b : Bool) (w : World) (id : Ints w A d) (iv : Ints w B v) (hd : d.length ≤ 100) (hv : v.length ≤ 1000) (h : cellB d v.length = true) (h0 : d.length = 0) :
    Calls Try.prog 9 #[.agg #[.slice A d.length c, .slice B v.length c2], .bool b] w (RetCI w d v (.int .i64 0)) := by
  obtain ⟨ba0, br0, hb0⟩ := chz_all w (.slice A d.length c) (.slice B v.length c2)
  have BA := Lib.hid (ba0)
  have BR := Lib.hid (br0)
  have L := Lib.hid (hb0)
  have ID := Lib.hid (id.below hb0)
  have IV := Lib.hid (iv.below hb0)
  clear ba0 br0 hb0 id iv
  have hz : ((d.length : Int) == 0) = true := by simp; exact List.eq_nil_of_length_eq_zero h0
  clear h0
  go_enter Try.func9, Try.ntmps9
  obtain ⟨qBA0, qBA1, -, -⟩ := BA.out.all
  go_wp2_with fail
  refine (rright_yes _ _ d _ _ _ _ (by unfold maxLen; omega) ID.out h).mono ?_
  rintro r w1 ⟨rfl, hb⟩
  clear qBA0 qBA1
  replace BA := Lib.hid (BA.out.next hb)
  replace BR := Lib.hid (BR.out.next hb)
  replace L := Lib.hid (below_next L.out hb)
  replace ID := Lib.hid (ID.out.below hb)
  replace IV := Lib.hid (IV.out.below hb)
  clear hb
  obtain ⟨qBA0, qBA1, -, -⟩ := BA.out.all
  obtain ⟨r0, r1, r2, r3⟩ := BR.out.all
  go_wp2
  have T9 := (BR.out.set0 (.slice A d.length c)).set1 (.slice B v.length c2)
  obtain ⟨t0, t1, _, _⟩ := T9.all
  refine bodyPost_ret (v := .tuple #[.agg #[.slice A d.length c, .slice B v.length c2], .int .i64 0]) (by simp [results, Try.results9, go_sem, t0, t1]) rfl ?_
  exact ⟨_, _, _, _, rfl, ID.out.set_box BR.out _ _, IV.out.set_box BR.out _ _, (L.out.setCell (by first | (simp; done) | (simp; omega)) _).setCell (by first | (simp; done) | (simp; omega)) _⟩
set_option maxHeartbeats 4000000 in
theorem rflip_0 (A : Option Addr) (c : Nat) (d : List Int) (B : Option Addr) (c2 : Nat) (v : List Int) (b : Bool) (w : World) (id : Ints w A d) (iv : Ints w B v) (hd : d.length ≤ 100) (hv : v.length ≤ 1000) (a N : Nat) (h : cellB d v.length = true) (ha : a < d.length) (hax : aI d b = (a : Int)) (hN : d.getD a 0 = (N : Int)) :
    Calls Try.prog 9 #[.agg #[.slice A d.length c, .slice B v.length c2], .bool b] w (RetCI w d (mvV flI d v b) (.int .i64 0)) := by
  obtain ⟨ba0, br0, hb0⟩ := chz_all w (.slice A d.length c) (.slice B v.length c2)
  have BA := Lib.hid (ba0)
  have BR := Lib.hid (br0)
  have L := Lib.hid (hb0)
  have ID := Lib.hid (id.below hb0)
  have IV := Lib.hid (iv.below hb0)
  clear ba0 br0 hb0 id iv
  have hz : ((d.length : Int) == 0) = false := by simp; intro e; rw [e] at ha; simp at ha
  have HN := Lib.hid hN
  have HAX := Lib.hid hax
  have HC := Lib.hid h
  obtain ⟨V0, hV0⟩ : ∃ V0, mvV flI d v b = V0 := ⟨_, rfl⟩
  have HV := Lib.hid hV0
  rw [hV0]
  have N64 : N ≤ 64 := by have := okAx_at (rightB_all (cellB_parts h).1).2.1 a ha; omega
  clear hN hax h hV0
  go_enter Try.func9, Try.ntmps9
  obtain ⟨qBA0, qBA1, -, -⟩ := BA.out.all
  go_wp2_with fail
  refine (rright_yes _ _ d _ _ _ _ (by unfold maxLen; omega) ID.out HC.out).mono ?_
  rintro r w1 ⟨rfl, hb⟩
  clear qBA0 qBA1
  replace BA := Lib.hid (BA.out.next hb)
  replace BR := Lib.hid (BR.out.next hb)
  replace L := Lib.hid (below_next L.out hb)
  replace ID := Lib.hid (ID.out.below hb)
  replace IV := Lib.hid (IV.out.below hb)
  clear hb
  obtain ⟨qBA0, qBA1, -, -⟩ := BA.out.all
  go_wp2_with fail
  refine (raxis_any _ d.length _ _ _ _ b (a : Int) _ (by omega) HAX.out).mono ?_
  rintro r w2 ⟨rfl, hb⟩
  clear qBA0 qBA1
  replace BA := Lib.hid (BA.out.next hb)
  replace BR := Lib.hid (BR.out.next hb)
  replace L := Lib.hid (below_next L.out hb)
  replace ID := Lib.hid (ID.out.below hb)
  replace IV := Lib.hid (IV.out.below hb)
  clear hb
  obtain ⟨qBA0, qBA1, -, -⟩ := BA.out.all
  obtain ⟨bd, od, rfl, hbd, hcd⟩ := ID.out (by omega)
  have xd := hcd a ha
  rw [HN.out] at xd
  clear hcd
  have a0 : (0 : Int) ≤ (a : Int) := by omega
  have a1 : (a : Int) < (d.length : Int) := by omega
  have u1 : IntKind.i64.wrap ((N : Int) - 1) = (N : Int) - 1 := IntWalk.i64_in _ (by omega)
  go_wp2
  go_loopw [7, 8] (fun s j wr => ∃ (k : Nat) (V : Value), k ≤ N ∧ j = .int .i64 ((N : Int) - 1 - (k : Int)) ∧ V = s ∧ MineT 3 wr w2.heap.size V ((List.range k).map fun i : Nat => (N : Int) - 1 - (i : Int)) ∧ Below w2.heap.size w2 wr) (fun _ j _ => (intOf j + 1).toNat)
  case atStart => exact ⟨0, _, Nat.zero_le _, by simp, rfl, MineT.nil _ _ _, Below.refl _ _⟩
  case round =>
    clear qBA0 qBA1
    obtain ⟨k, V, hk, rfl, rfl, hM, hB⟩ := hrel
    have MV := Lib.hid hM
    have LB := Lib.hid hB
    clear hM hB
    replace BA := Lib.hid (BA.out.next LB.out)
    replace BR := Lib.hid (BR.out.next LB.out)
    replace L := Lib.hid (below_next L.out LB.out)
    replace ID := Lib.hid (ID.out.below LB.out)
    replace IV := Lib.hid (IV.out.below LB.out)
    obtain ⟨qBA0, qBA1, -, -⟩ := BA.out.all
    have HLN := Lib.hid (show ((List.range k).map fun i : Nat => (N : Int) - 1 - (i : Int)).length = k by simp)
    by_cases hlt : k < N
    · have hx : (0 : Int) ≤ (N : Int) - 1 - (k : Int) := by omega
      have HS := Lib.hid (show (List.range (k + 1)).map (fun i : Nat => (N : Int) - 1 - (i : Int)) = ((List.range k).map fun i : Nat => (N : Int) - 1 - (i : Int)) ++ [(N : Int) - 1 - (k : Int)] by rw [List.range_succ, List.map_append]; rfl)
      generalize ((List.range k).map fun i : Nat => (N : Int) - 1 - (i : Int)) = T at *
      obtain ⟨z, hzz⟩ : ∃ z, (N : Int) - 1 - (k : Int) = z := ⟨_, rfl⟩
      rw [hzz] at hx HS ⊢
      have M8 := Lib.hid (MV.out.alloc (.cells #[.int .i64 z] 3))
      have X8 := Lib.hid (one_newI wr z)
      have L8 := Lib.hid (below_next LB.out (below_new wr (.cells #[.int .i64 z] 3)))
      go_wp2_with (at_builtin; refine wpList_appI numI Try.underlying22 rfl (.tmp 31) (.tmp 33) rfl w2.heap.size V T (by rfl) M8.out (some ⟨wr.heap.size, 0, none⟩) 1 [z] rfl X8.out (by rw [HLN.out]; simp; omega) L8.out.size ?_; intro V' w8 hm8 hg8 ha8)
      have u2 : IntKind.i64.wrap (z - 1) = z - 1 := IntWalk.i64_in _ (by omega)
      go_roundw
      case rel => exact ⟨k + 1, _, by omega, by rw [show z - 1 = (N : Int) - 1 - ((k + 1 : Nat) : Int) by omega], rfl, by rw [HS.out]; exact hm8, L8.out.grown hg8 L8.out.size M8.out.block⟩
      case measure => simp [intOf]; omega
    · obtain rfl : k = N := by omega
      have hx : ¬ (0 : Int) ≤ (k : Int) - 1 - (k : Int) := by omega
      have HLA := Lib.hid (show ∀ i : Nat, i < k → ((List.range k).map fun i : Nat => (k : Int) - 1 - (i : Int)).getD i 0 = flI (i : Int) (k : Int) from fun i hi => by simp [List.getD, hi, flI])
      generalize ((List.range k).map fun i : Nat => (k : Int) - 1 - (i : Int)) = T at *
      obtain ⟨AL, cL, rfl, il⟩ := MV.out.ints
      rw [HLN.out]
      have IL := Lib.hid il
      clear il MV
      go_wp2_with fail
      refine (cho_x _ _ d _ _ v a _ _ T V0 k flI b _ HC.out ha HAX.out HN.out HLN.out HLA.out HV.out ID.out IV.out IL.out).mono ?_
      rintro r w21 ⟨A14, c14, B14, e14, rfl, j1, j2, hb⟩
      clear qBA0 qBA1
      replace BA := Lib.hid (BA.out.next hb)
      replace BR := Lib.hid (BR.out.next hb)
      replace L := Lib.hid (below_next L.out hb)
      replace ID := Lib.hid (ID.out.below hb)
      replace IV := Lib.hid (IV.out.below hb)
      replace IL := Lib.hid (IL.out.below hb)
      clear hb
      have J1 := Lib.hid j1
      have J2 := Lib.hid j2
      clear j1 j2
      obtain ⟨r0, r1, r2, r3⟩ := BR.out.all
      go_wp2
      have T9 := (BR.out.set0 (.slice A14 d.length c14)).set1 (.slice B14 V0.length e14)
      obtain ⟨t0, t1, _, _⟩ := T9.all
      refine bodyPost_ret (v := .tuple #[.agg #[.slice A14 d.length c14, .slice B14 V0.length e14], .int .i64 0]) (by simp [results, Try.results9, go_sem, t0, t1]) rfl ?_
      exact ⟨_, _, _, _, rfl, J1.out.set_box BR.out _ _, J2.out.set_box BR.out _ _, (L.out.setCell (by first | (simp; done) | (simp; omega)) _).setCell (by first | (simp; done) | (simp; omega)) _⟩
theorem rflip_any (A : Option Addr) (c : Nat) (d : List Int) (B : Option Addr) (c2 : Nat) (v : List Int) (b : Bool) (w : World) (id : Ints w A d) (iv : Ints w B v) (hd : d.length ≤ 100) (hv : v.length ≤ 1000) :
    Calls Try.prog 9 #[.agg #[.slice A d.length c, .slice B v.length c2], .bool b] w (RetCI w (okL d v.length d) (okL d v.length (mvV flI d v b)) (.int .i64 (okE d v.length))) := by
  by_cases h : cellB d v.length = true
  rotate_left
  · have h' : cellB d v.length = false := by simpa using h
    rw [(ok_no h' d).1, (ok_no h' d).2, (ok_no h' (mvV flI d v b)).2]
    exact rflip_1 A c d B c2 v b w id iv hd hv h'
  rw [(ok_yes h d).1, (ok_yes h d).2, (ok_yes h (mvV flI d v b)).2]
  by_cases h0 : d.length = 0
  · rw [mv_nil h h0]; exact rflip_n A c d B c2 v b w id iv hd hv h h0
  obtain ⟨a, hax, ha⟩ := aI_nat (d := d) (by omega) b
  have hb := okAx_at (rightB_all (cellB_parts h).1).2.1 a ha
  exact rflip_0 A c d B c2 v b w id iv hd hv a (d.getD a 0).toNat h ha hax (Int.toNat_of_nonneg hb.1).symm
set_option maxHeartbeats 4000000 in
theorem rroll_1 (A : Option Addr) (c : Nat) (d : List Int) (B : Option Addr) (c2 : Nat) (v : List Int) (A' : Option Addr) (c' : Nat) (e : List Int) (B' : Option Addr) (c2' : Nat) (u : List Int) (b : Bool) (w : World) (id : Ints w A d) (iv : Ints w B v) (ie : Ints w A' e) (iu : Ints w B' u) (hd : d.length ≤ 100) (hv : v.length ≤ 1000) (he : e.length ≤ 100) (hu : u.length ≤ 1000) (h1 : cellB d v.length = false) :
    Calls Try.prog 11 #[.agg #[.slice A d.length c, .slice B v.length c2], .agg #[.slice A' e.length c', .slice B' u.length c2'], .bool b] w (RetCI w [] [] (.int .i64 1)) := by
  obtain ⟨ba0, bb0, br0, hb0⟩ := w2_all w (.slice A d.length c) (.slice B v.length c2) (.slice A' e.length c') (.slice B' u.length c2')
  have BA := Lib.hid (ba0)
  have BB := Lib.hid (bb0)
  have BR := Lib.hid (br0)
  have L := Lib.hid (hb0)
  have ID := Lib.hid (id.below hb0)
  have IV := Lib.hid (iv.below hb0)
  have IE := Lib.hid (ie.below hb0)
  have IU := Lib.hid (iu.below hb0)
  clear ba0 bb0 br0 hb0 id iv ie iu
  go_enter Try.func11, Try.ntmps11
  obtain ⟨qBA0, qBA1, -, -⟩ := BA.out.all
  go_wp2_with fail
  refine (rright_no _ _ d _ _ _ _ (by unfold maxLen; omega) ID.out h1).mono ?_
  rintro r w1 ⟨rfl, hb⟩
  clear qBA0 qBA1
  replace BA := Lib.hid (BA.out.next hb)
  replace BB := Lib.hid (BB.out.next hb)
  replace BR := Lib.hid (BR.out.next hb)
  replace L := Lib.hid (below_next L.out hb)
  replace ID := Lib.hid (ID.out.below hb)
  replace IV := Lib.hid (IV.out.below hb)
  replace IE := Lib.hid (IE.out.below hb)
  replace IU := Lib.hid (IU.out.below hb)
  clear hb
  obtain ⟨r0, r1, r2, r3⟩ := BR.out.all
  go_wp2
  have T9 := (BR.out.set0 (.slice none 0 0)).set1 (.slice none 0 0)
  obtain ⟨t0, t1, _, _⟩ := T9.all
  refine bodyPost_ret (v := .tuple #[.agg #[.slice none 0 0, .slice none 0 0], .int .i64 1]) (by simp [results, Try.results11, go_sem, t0, t1]) rfl ?_
  exact ⟨none, 0, none, 0, rfl, Ints.nil _ _, Ints.nil _ _, (L.out.setCell (by first | (simp; done) | (simp; omega)) _).setCell (by first | (simp; done) | (simp; omega)) _⟩
set_option maxHeartbeats 4000000 in
theorem rroll_1' (A : Option Addr) (c : Nat) (d : List Int) (B : Option Addr) (c2 : Nat) (v : List Int) (A' : Option Addr) (c' : Nat) (e : List Int) (B' : Option Addr) (c2' : Nat) (u : List Int) (b : Bool) (w : World) (id : Ints w A d) (iv : Ints w B v) (ie : Ints w A' e) (iu : Ints w B' u) (hd : d.length ≤ 100) (hv : v.length ≤ 1000) (he : e.length ≤ 100) (hu : u.length ≤ 1000) (h1 : cellB d v.length = true) (h2 : cellB e u.length = false) :
    Calls Try.prog 11 #[.agg #[.slice A d.length c, .slice B v.length c2], .agg #[.slice A' e.length c', .slice B' u.length c2'], .bool b] w (RetCI w [] [] (.int .i64 1)) := by
  obtain ⟨ba0, bb0, br0, hb0⟩ := w2_all w (.slice A d.length c) (.slice B v.length c2) (.slice A' e.length c') (.slice B' u.length c2')
  have BA := Lib.hid (ba0)
  have BB := Lib.hid (bb0)
  have BR := Lib.hid (br0)
  have L := Lib.hid (hb0)
  have ID := Lib.hid (id.below hb0)
  have IV := Lib.hid (iv.below hb0)
  have IE := Lib.hid (ie.below hb0)
  have IU := Lib.hid (iu.below hb0)
  clear ba0 bb0 br0 hb0 id iv ie iu
  go_enter Try.func11, Try.ntmps11
  obtain ⟨qBA0, qBA1, -, -⟩ := BA.out.all
  go_wp2_with fail
  refine (rright_yes _ _ d _ _ _ _ (by unfold maxLen; omega) ID.out h1).mono ?_
  rintro r w1 ⟨rfl, hb⟩
  clear qBA0 qBA1
  replace BA := Lib.hid (BA.out.next hb)
  replace BB := Lib.hid (BB.out.next hb)
  replace BR := Lib.hid (BR.out.next hb)
  replace L := Lib.hid (below_next L.out hb)
  replace ID := Lib.hid (ID.out.below hb)
  replace IV := Lib.hid (IV.out.below hb)
  replace IE := Lib.hid (IE.out.below hb)
  replace IU := Lib.hid (IU.out.below hb)
  clear hb
  obtain ⟨qBB0, qBB1, -, -⟩ := BB.out.all
  go_wp2_with fail
  refine (rright_no _ _ e _ _ _ _ (by unfold maxLen; omega) IE.out h2).mono ?_
  rintro r w2 ⟨rfl, hb⟩
  clear qBB0 qBB1
  replace BA := Lib.hid (BA.out.next hb)
  replace BB := Lib.hid (BB.out.next hb)
  replace BR := Lib.hid (BR.out.next hb)
  replace L := Lib.hid (below_next L.out hb)
  replace ID := Lib.hid (ID.out.below hb)
  replace IV := Lib.hid (IV.out.below hb)
  replace IE := Lib.hid (IE.out.below hb)
  replace IU := Lib.hid (IU.out.below hb)
  clear hb
  obtain ⟨r0, r1, r2, r3⟩ := BR.out.all
  go_wp2
  have T9 := (BR.out.set0 (.slice none 0 0)).set1 (.slice none 0 0)
  obtain ⟨t0, t1, _, _⟩ := T9.all
  refine bodyPost_ret (v := .tuple #[.agg #[.slice none 0 0, .slice none 0 0], .int .i64 1]) (by simp [results, Try.results11, go_sem, t0, t1]) rfl ?_
  exact ⟨none, 0, none, 0, rfl, Ints.nil _ _, Ints.nil _ _, (L.out.setCell (by first | (simp; done) | (simp; omega)) _).setCell (by first | (simp; done) | (simp; omega)) _⟩
set_option maxHeartbeats 4000000 in
theorem rroll_2 (A : Option Addr) (c : Nat) (d : List Int) (B : Option Addr) (c2 : Nat) (v : List Int) (A' : Option Addr) (c' : Nat) (e : List Int) (B' : Option Addr) (c2' : Nat) (u : List Int) (b : Bool) (w : World) (id : Ints w A d) (iv : Ints w B v) (ie : Ints w A' e) (iu : Ints w B' u) (hd : d.length ≤ 100) (hv : v.length ≤ 1000) (he : e.length ≤ 100) (hu : u.length ≤ 1000) (h1 : cellB d v.length = true) (h2 : cellB e u.length = true) (h3 : ¬ v.length = 1) :
    Calls Try.prog 11 #[.agg #[.slice A d.length c, .slice B v.length c2], .agg #[.slice A' e.length c', .slice B' u.length c2'], .bool b] w (RetCI w [] [] (.int .i64 2)) := by
  obtain ⟨ba0, bb0, br0, hb0⟩ := w2_all w (.slice A d.length c) (.slice B v.length c2) (.slice A' e.length c') (.slice B' u.length c2')
  have BA := Lib.hid (ba0)
  have BB := Lib.hid (bb0)
  have BR := Lib.hid (br0)
  have L := Lib.hid (hb0)
  have ID := Lib.hid (id.below hb0)
  have IV := Lib.hid (iv.below hb0)
  have IE := Lib.hid (ie.below hb0)
  have IU := Lib.hid (iu.below hb0)
  clear ba0 bb0 br0 hb0 id iv ie iu
  have hx : ((v.length : Int) != 1) = true := by simp; omega
  clear h3
  go_enter Try.func11, Try.ntmps11
  obtain ⟨qBA0, qBA1, -, -⟩ := BA.out.all
  go_wp2_with fail
  refine (rright_yes _ _ d _ _ _ _ (by unfold maxLen; omega) ID.out h1).mono ?_
  rintro r w1 ⟨rfl, hb⟩
  clear qBA0 qBA1
  replace BA := Lib.hid (BA.out.next hb)
  replace BB := Lib.hid (BB.out.next hb)
  replace BR := Lib.hid (BR.out.next hb)
  replace L := Lib.hid (below_next L.out hb)
  replace ID := Lib.hid (ID.out.below hb)
  replace IV := Lib.hid (IV.out.below hb)
  replace IE := Lib.hid (IE.out.below hb)
  replace IU := Lib.hid (IU.out.below hb)
  clear hb
  obtain ⟨qBB0, qBB1, -, -⟩ := BB.out.all
  go_wp2_with fail
  refine (rright_yes _ _ e _ _ _ _ (by unfold maxLen; omega) IE.out h2).mono ?_
  rintro r w2 ⟨rfl, hb⟩
  clear qBB0 qBB1
  replace BA := Lib.hid (BA.out.next hb)
  replace BB := Lib.hid (BB.out.next hb)
  replace BR := Lib.hid (BR.out.next hb)
  replace L := Lib.hid (below_next L.out hb)
  replace ID := Lib.hid (ID.out.below hb)
  replace IV := Lib.hid (IV.out.below hb)
  replace IE := Lib.hid (IE.out.below hb)
  replace IU := Lib.hid (IU.out.below hb)
  clear hb
  obtain ⟨qBA0, qBA1, -, -⟩ := BA.out.all
  obtain ⟨qBB0, qBB1, -, -⟩ := BB.out.all
  obtain ⟨r0, r1, r2, r3⟩ := BR.out.all
  go_wp2
  have T9 := (BR.out.set0 (.slice none 0 0)).set1 (.slice none 0 0)
  obtain ⟨t0, t1, _, _⟩ := T9.all
  refine bodyPost_ret (v := .tuple #[.agg #[.slice none 0 0, .slice none 0 0], .int .i64 2]) (by simp [results, Try.results11, go_sem, t0, t1]) rfl ?_
  exact ⟨none, 0, none, 0, rfl, Ints.nil _ _, Ints.nil _ _, (L.out.setCell (by first | (simp; done) | (simp; omega)) _).setCell (by first | (simp; done) | (simp; omega)) _⟩
set_option maxHeartbeats 4000000 in
theorem rroll_n (A : Option Addr) (c : Nat) (d : List Int) (B : Option Addr) (c2 : Nat) (v : List Int) (A' : Option Addr) (c' : Nat) (e : List Int) (B' : Option Addr) (c2' : Nat) (u : List Int) (b : Bool) (w : World) (id : Ints w A d) (iv : Ints w B v) (ie : Ints w A' e) (iu : Ints w B' u) (hd : d.length ≤ 100) (hv : v.length ≤ 1000) (he : e.length ≤ 100) (hu : u.length ≤ 1000) (h1 : cellB d v.length = true) (h2 : cellB e u.length = true) (h3 : v.length = 1) (h0 : e.length = 0) :
    Calls Try.prog 11 #[.agg #[.slice A d.length c, .slice B v.length c2], .agg #[.slice A' e.length c', .slice B' u.length c2'], .bool b] w (RetCI w e u (.int .i64 0)) := by
  obtain ⟨ba0, bb0, br0, hb0⟩ := w2_all w (.slice A d.length c) (.slice B v.length c2) (.slice A' e.length c') (.slice B' u.length c2')
  have BA := Lib.hid (ba0)
  have BB := Lib.hid (bb0)
  have BR := Lib.hid (br0)
  have L := Lib.hid (hb0)
  have ID := Lib.hid (id.below hb0)
  have IV := Lib.hid (iv.below hb0)
  have IE := Lib.hid (ie.below hb0)
  have IU := Lib.hid (iu.below hb0)
  clear ba0 bb0 br0 hb0 id iv ie iu
  have hx : ((v.length : Int) != 1) = false := by simp; omega
  have hz : ((e.length : Int) == 0) = true := by simp; exact List.eq_nil_of_length_eq_zero h0
  clear h3 h0
  go_enter Try.func11, Try.ntmps11
  obtain ⟨qBA0, qBA1, -, -⟩ := BA.out.all
  go_wp2_with fail
  refine (rright_yes _ _ d _ _ _ _ (by unfold maxLen; omega) ID.out h1).mono ?_
  rintro r w1 ⟨rfl, hb⟩
  clear qBA0 qBA1
  replace BA := Lib.hid (BA.out.next hb)
  replace BB := Lib.hid (BB.out.next hb)
  replace BR := Lib.hid (BR.out.next hb)
  replace L := Lib.hid (below_next L.out hb)
  replace ID := Lib.hid (ID.out.below hb)
  replace IV := Lib.hid (IV.out.below hb)
  replace IE := Lib.hid (IE.out.below hb)
  replace IU := Lib.hid (IU.out.below hb)
  clear hb
  obtain ⟨qBB0, qBB1, -, -⟩ := BB.out.all
  go_wp2_with fail
  refine (rright_yes _ _ e _ _ _ _ (by unfold maxLen; omega) IE.out h2).mono ?_
  rintro r w2 ⟨rfl, hb⟩
  clear qBB0 qBB1
  replace BA := Lib.hid (BA.out.next hb)
  replace BB := Lib.hid (BB.out.next hb)
  replace BR := Lib.hid (BR.out.next hb)
  replace L := Lib.hid (below_next L.out hb)
  replace ID := Lib.hid (ID.out.below hb)
  replace IV := Lib.hid (IV.out.below hb)
  replace IE := Lib.hid (IE.out.below hb)
  replace IU := Lib.hid (IU.out.below hb)
  clear hb
  obtain ⟨qBA0, qBA1, -, -⟩ := BA.out.all
  obtain ⟨qBB0, qBB1, -, -⟩ := BB.out.all
  obtain ⟨r0, r1, r2, r3⟩ := BR.out.all
  go_wp2
  have T9 := (BR.out.set0 (.slice A' e.length c')).set1 (.slice B' u.length c2')
  obtain ⟨t0, t1, _, _⟩ := T9.all
  refine bodyPost_ret (v := .tuple #[.agg #[.slice A' e.length c', .slice B' u.length c2'], .int .i64 0]) (by simp [results, Try.results11, go_sem, t0, t1]) rfl ?_
  exact ⟨_, _, _, _, rfl, IE.out.set_box BR.out _ _, IU.out.set_box BR.out _ _, (L.out.setCell (by first | (simp; done) | (simp; omega)) _).setCell (by first | (simp; done) | (simp; omega)) _⟩
set_option maxHeartbeats 8000000 in
theorem rroll_0 (A : Option Addr) (c : Nat) (d : List Int) (B : Option Addr) (c2 : Nat) (v : List Int) (A' : Option Addr) (c' : Nat) (e : List Int) (B' : Option Addr) (c2' : Nat) (u : List Int) (b : Bool) (w : World) (id : Ints w A d) (iv : Ints w B v) (ie : Ints w A' e) (iu : Ints w B' u) (hd : d.length ≤ 100) (hv : v.length ≤ 1000) (he : e.length ≤ 100) (hu : u.length ≤ 1000) (a N : Nat) (h1 : cellB d v.length = true) (h2 : cellB e u.length = true) (h3 : v.length = 1) (ha : a < e.length) (hax : aI e b = (a : Int)) (hN : e.getD a 0 = (N : Int)) :
    Calls Try.prog 11 #[.agg #[.slice A d.length c, .slice B v.length c2], .agg #[.slice A' e.length c', .slice B' u.length c2'], .bool b] w (RetCI w e (mvV (rollI (v.getD 0 0)) e u b) (.int .i64 0)) := by
  obtain ⟨ba0, bb0, br0, hb0⟩ := w2_all w (.slice A d.length c) (.slice B v.length c2) (.slice A' e.length c') (.slice B' u.length c2')
  have BA := Lib.hid (ba0)
  have BB := Lib.hid (bb0)
  have BR := Lib.hid (br0)
  have L := Lib.hid (hb0)
  have ID := Lib.hid (id.below hb0)
  have IV := Lib.hid (iv.below hb0)
  have IE := Lib.hid (ie.below hb0)
  have IU := Lib.hid (iu.below hb0)
  clear ba0 bb0 br0 hb0 id iv ie iu
  have hx : ((v.length : Int) != 1) = false := by simp; omega
  have hz : ((e.length : Int) == 0) = false := by simp; intro h; rw [h] at ha; simp at ha
  have HN := Lib.hid hN
  have HAX := Lib.hid hax
  have HC := Lib.hid h2
  obtain ⟨x, hxx⟩ : ∃ x, v.getD 0 0 = x := ⟨_, rfl⟩
  have HX := Lib.hid hxx
  rw [hxx]
  obtain ⟨V0, hV0⟩ : ∃ V0, mvV (rollI x) e u b = V0 := ⟨_, rfl⟩
  have HV := Lib.hid hV0
  rw [hV0]
  have N64 : N ≤ 64 := by have := okAx_at (rightB_all (cellB_parts h2).1).2.1 a ha; omega
  have v0 : 0 < v.length := by omega
  have v00 : (0 : Int) < (v.length : Int) := by omega
  have h2' := h2
  clear hN hax hV0 hxx h3
  go_enter Try.func11, Try.ntmps11
  obtain ⟨qBA0, qBA1, -, -⟩ := BA.out.all
  go_wp2_with fail
  refine (rright_yes _ _ d _ _ _ _ (by unfold maxLen; omega) ID.out h1).mono ?_
  rintro r w1 ⟨rfl, hb⟩
  clear qBA0 qBA1
  replace BA := Lib.hid (BA.out.next hb)
  replace BB := Lib.hid (BB.out.next hb)
  replace BR := Lib.hid (BR.out.next hb)
  replace L := Lib.hid (below_next L.out hb)
  replace ID := Lib.hid (ID.out.below hb)
  replace IV := Lib.hid (IV.out.below hb)
  replace IE := Lib.hid (IE.out.below hb)
  replace IU := Lib.hid (IU.out.below hb)
  clear hb
  obtain ⟨qBB0, qBB1, -, -⟩ := BB.out.all
  go_wp2_with fail
  refine (rright_yes _ _ e _ _ _ _ (by unfold maxLen; omega) IE.out h2).mono ?_
  rintro r w2 ⟨rfl, hb⟩
  clear qBB0 qBB1
  replace BA := Lib.hid (BA.out.next hb)
  replace BB := Lib.hid (BB.out.next hb)
  replace BR := Lib.hid (BR.out.next hb)
  replace L := Lib.hid (below_next L.out hb)
  replace ID := Lib.hid (ID.out.below hb)
  replace IV := Lib.hid (IV.out.below hb)
  replace IE := Lib.hid (IE.out.below hb)
  replace IU := Lib.hid (IU.out.below hb)
  clear hb
  obtain ⟨qBA0, qBA1, -, -⟩ := BA.out.all
  obtain ⟨qBB0, qBB1, -, -⟩ := BB.out.all
  go_wp2_with fail
  refine (raxis_any _ e.length _ _ _ _ b (a : Int) _ (by omega) HAX.out).mono ?_
  rintro r w3 ⟨rfl, hb⟩
  clear qBA0 qBA1 qBB0 qBB1
  replace BA := Lib.hid (BA.out.next hb)
  replace BB := Lib.hid (BB.out.next hb)
  replace BR := Lib.hid (BR.out.next hb)
  replace L := Lib.hid (below_next L.out hb)
  replace ID := Lib.hid (ID.out.below hb)
  replace IV := Lib.hid (IV.out.below hb)
  replace IE := Lib.hid (IE.out.below hb)
  replace IU := Lib.hid (IU.out.below hb)
  clear hb
  clear h1 h2 h2'
  go_wp2
  go_loopw [9, 10] (fun s j wr => ∃ (k : Nat) (V : Value), k ≤ N ∧ j = .int .i64 (k : Int) ∧ V = s ∧ MineT 3 wr w3.heap.size V ((List.range k).map fun i : Nat => rollI x (i : Int) (N : Int)) ∧ Below w3.heap.size w3 wr) (fun _ j _ => N - (intOf j).toNat)
  case atStart => exact ⟨0, _, Nat.zero_le _, rfl, rfl, MineT.nil _ _ _, Below.refl _ _⟩
  case round =>
    obtain ⟨k, V, hk, rfl, rfl, hM, hB⟩ := hrel
    have MV := Lib.hid hM
    have LB := Lib.hid hB
    clear hM hB
    replace BA := Lib.hid (BA.out.next LB.out)
    replace BB := Lib.hid (BB.out.next LB.out)
    replace BR := Lib.hid (BR.out.next LB.out)
    replace L := Lib.hid (below_next L.out LB.out)
    replace ID := Lib.hid (ID.out.below LB.out)
    replace IV := Lib.hid (IV.out.below LB.out)
    replace IE := Lib.hid (IE.out.below LB.out)
    replace IU := Lib.hid (IU.out.below LB.out)
    obtain ⟨qBA0, qBA1, -, -⟩ := BA.out.all
    obtain ⟨qBB0, qBB1, -, -⟩ := BB.out.all
    obtain ⟨bd, od, e9, hbd, hcd⟩ := IE.out (by omega)
    subst e9
    have xd := hcd a ha
    rw [HN.out] at xd
    obtain ⟨bv, ov, e8, hbv, hcv⟩ := IV.out v0
    subst e8
    have xv := hcv 0 v0
    rw [HX.out, Nat.add_zero] at xv
    clear hcd hcv
    have a0 : (0 : Int) ≤ (a : Int) := by omega
    have a1 : (a : Int) < (e.length : Int) := by omega
    have HLN := Lib.hid (show ((List.range k).map fun i : Nat => rollI x (i : Int) (N : Int)).length = k by simp)
    by_cases hlt : k < N
    · have hxk : (k : Int) < (N : Int) := by omega
      have hN0 : (0 : Int) < (N : Int) := by omega
      have HS := Lib.hid (show (List.range (k + 1)).map (fun i : Nat => rollI x (i : Int) (N : Int)) = ((List.range k).map fun i : Nat => rollI x (i : Int) (N : Int)) ++ [rollI x (k : Int) (N : Int)] by rw [List.range_succ, List.map_append]; rfl)
      generalize ((List.range k).map fun i : Nat => rollI x (i : Int) (N : Int)) = T at *
      have HRE := Lib.hid (rollr_eq x (k : Int) (N : Int) hN0)
      obtain ⟨b1, b2⟩ := tmod_bd x hN0
      obtain ⟨b3, b4⟩ := tmod_bd (x.tmod (N : Int) + (k : Int)) hN0
      have i1 : IntKind.i64.wrap (x.tmod (N : Int)) = x.tmod (N : Int) := IntWalk.i64_in _ (by omega)
      have i2 : ¬ (N : Int) = 0 := by omega
      have i3 : ((N : Int) == 0) = false := by simpa using i2
      have i4 : IntKind.i64.wrap (x.tmod (N : Int) + (k : Int)) = x.tmod (N : Int) + (k : Int) := IntWalk.i64_in _ (by omega)
      have i5 : IntKind.i64.wrap ((x.tmod (N : Int) + (k : Int)).tmod (N : Int)) = (x.tmod (N : Int) + (k : Int)).tmod (N : Int) := IntWalk.i64_in _ (by omega)
      by_cases hneg : (x.tmod (N : Int) + (k : Int)).tmod (N : Int) < 0
      · have HR := Lib.hid (show rollI x (k : Int) (N : Int) = (x.tmod (N : Int) + (k : Int)).tmod (N : Int) + (N : Int) by rw [← HRE.out, if_pos hneg])
        rw [HR.out] at HS
        have i6 : IntKind.i64.wrap ((x.tmod (N : Int) + (k : Int)).tmod (N : Int) + (N : Int)) = (x.tmod (N : Int) + (k : Int)).tmod (N : Int) + (N : Int) := IntWalk.i64_in _ (by omega)
        have M8 := Lib.hid (MV.out.alloc (.cells #[.int .i64 ((x.tmod (N : Int) + (k : Int)).tmod (N : Int) + (N : Int))] 3))
        have X8 := Lib.hid (one_newI wr ((x.tmod (N : Int) + (k : Int)).tmod (N : Int) + (N : Int)))
        have L8 := Lib.hid (below_next LB.out (below_new wr (.cells #[.int .i64 ((x.tmod (N : Int) + (k : Int)).tmod (N : Int) + (N : Int))] 3)))
        go_wp2_with (at_builtin; refine wpList_appI numI Try.underlying22 rfl (.tmp 64) (.tmp 66) rfl w3.heap.size V T (by rfl) M8.out (some ⟨wr.heap.size, 0, none⟩) 1 [((x.tmod (N : Int) + (k : Int)).tmod (N : Int) + (N : Int))] rfl X8.out (by rw [HLN.out]; simp; omega) L8.out.size ?_; intro V' w8 hm8 hg8 ha8)
        go_roundw
        case rel => exact ⟨k + 1, _, by omega, by go_num, rfl, by rw [HS.out]; exact hm8, L8.out.grown hg8 L8.out.size M8.out.block⟩
        case measure => simp [intOf]; omega
      · have HR := Lib.hid (show rollI x (k : Int) (N : Int) = (x.tmod (N : Int) + (k : Int)).tmod (N : Int) by rw [← HRE.out, if_neg hneg])
        rw [HR.out] at HS
        have M8 := Lib.hid (MV.out.alloc (.cells #[.int .i64 ((x.tmod (N : Int) + (k : Int)).tmod (N : Int))] 3))
        have X8 := Lib.hid (one_newI wr ((x.tmod (N : Int) + (k : Int)).tmod (N : Int)))
        have L8 := Lib.hid (below_next LB.out (below_new wr (.cells #[.int .i64 ((x.tmod (N : Int) + (k : Int)).tmod (N : Int))] 3)))
        go_wp2_with (at_builtin; refine wpList_appI numI Try.underlying22 rfl (.tmp 64) (.tmp 66) rfl w3.heap.size V T (by rfl) M8.out (some ⟨wr.heap.size, 0, none⟩) 1 [((x.tmod (N : Int) + (k : Int)).tmod (N : Int))] rfl X8.out (by rw [HLN.out]; simp; omega) L8.out.size ?_; intro V' w8 hm8 hg8 ha8)
        go_roundw
        case rel => exact ⟨k + 1, _, by omega, by go_num, rfl, by rw [HS.out]; exact hm8, L8.out.grown hg8 L8.out.size M8.out.block⟩
        case measure => simp [intOf]; omega
    · obtain rfl : k = N := by omega
      have hxk : ¬ (k : Int) < (k : Int) := by omega
      have HLA := Lib.hid (show ∀ i : Nat, i < k → ((List.range k).map fun i : Nat => rollI x (i : Int) (k : Int)).getD i 0 = rollI x (i : Int) (k : Int) from fun i hi => by simp [List.getD, hi])
      generalize ((List.range k).map fun i : Nat => rollI x (i : Int) (k : Int)) = T at *
      obtain ⟨AL, cL, rfl, il⟩ := MV.out.ints
      rw [HLN.out]
      have IL := Lib.hid il
      clear il MV
      go_wp2_with fail
      refine (cho_x _ _ e _ _ u a _ _ T V0 k (rollI x) b _ HC.out ha HAX.out HN.out HLN.out HLA.out HV.out IE.out IU.out IL.out).mono ?_
      rintro r w21 ⟨A14, c14, B14, e14, rfl, j1, j2, hb⟩
      clear qBA0 qBA1 qBB0 qBB1
      replace BA := Lib.hid (BA.out.next hb)
      replace BB := Lib.hid (BB.out.next hb)
      replace BR := Lib.hid (BR.out.next hb)
      replace L := Lib.hid (below_next L.out hb)
      replace ID := Lib.hid (ID.out.below hb)
      replace IV := Lib.hid (IV.out.below hb)
      replace IE := Lib.hid (IE.out.below hb)
      replace IU := Lib.hid (IU.out.below hb)
      replace IL := Lib.hid (IL.out.below hb)
      clear hb
      have J1 := Lib.hid j1
      have J2 := Lib.hid j2
      clear j1 j2
      obtain ⟨r0, r1, r2, r3⟩ := BR.out.all
      go_wp2
      have T9 := (BR.out.set0 (.slice A14 e.length c14)).set1 (.slice B14 V0.length e14)
      obtain ⟨t0, t1, _, _⟩ := T9.all
      refine bodyPost_ret (v := .tuple #[.agg #[.slice A14 e.length c14, .slice B14 V0.length e14], .int .i64 0]) (by simp [results, Try.results11, go_sem, t0, t1]) rfl ?_
      exact ⟨_, _, _, _, rfl, J1.out.set_box BR.out _ _, J2.out.set_box BR.out _ _, (L.out.setCell (by first | (simp; done) | (simp; omega)) _).setCell (by first | (simp; done) | (simp; omega)) _⟩
theorem rroll_any (A : Option Addr) (c : Nat) (d : List Int) (B : Option Addr) (c2 : Nat) (v : List Int) (A' : Option Addr) (c' : Nat) (e : List Int) (B' : Option Addr) (c2' : Nat) (u : List Int) (b : Bool) (w : World) (id : Ints w A d) (iv : Ints w B v) (ie : Ints w A' e) (iu : Ints w B' u) (hd : d.length ≤ 100) (hv : v.length ≤ 1000) (he : e.length ≤ 100) (hu : u.length ≤ 1000) :
    Calls Try.prog 11 #[.agg #[.slice A d.length c, .slice B v.length c2], .agg #[.slice A' e.length c', .slice B' u.length c2'], .bool b] w (RetCI w (roD d v e u) (roV d v e u b) (.int .i64 (roE d v e u))) := by
  by_cases h1 : cellB d v.length = true
  rotate_left
  · have h1' : cellB d v.length = false := by simpa using h1
    obtain ⟨e1, e2, e3⟩ := ro_1 (d := e) (v := u) (b := b) h1'
    rw [e1, e2, e3]
    exact rroll_1 A c d B c2 v A' c' e B' c2' u b w id iv ie iu hd hv he hu h1'
  by_cases h2 : cellB e u.length = true
  rotate_left
  · have h2' : cellB e u.length = false := by simpa using h2
    obtain ⟨e1, e2, e3⟩ := ro_1' (dn := d) (vn := v) (b := b) h2'
    rw [e1, e2, e3]
    exact rroll_1' A c d B c2 v A' c' e B' c2' u b w id iv ie iu hd hv he hu h1 h2'
  by_cases h3 : v.length = 1
  rotate_left
  · obtain ⟨e1, e2, e3⟩ := ro_2 (b := b) h1 h2 h3
    rw [e1, e2, e3]
    exact rroll_2 A c d B c2 v A' c' e B' c2' u b w id iv ie iu hd hv he hu h1 h2 h3
  obtain ⟨e1, e2, e3⟩ := ro_0 (b := b) h1 h2 h3
  rw [e1, e2, e3]
  by_cases h0 : e.length = 0
  · rw [mv_nil h2 h0]; exact rroll_n A c d B c2 v A' c' e B' c2' u b w id iv ie iu hd hv he hu h1 h2 h3 h0
  obtain ⟨a, hax, ha⟩ := aI_nat (d := e) (by omega) b
  have hb := okAx_at (rightB_all (cellB_parts h2).1).2.1 a ha
  exact rroll_0 A c d B c2 v A' c' e B' c2' u b w id iv ie iu hd hv he hu a (e.getD a 0).toNat h1 h2 h3 ha hax (Int.toNat_of_nonneg hb.1).symm
end Go.Proofs.Yticicfbllhnpcaa.Sh
