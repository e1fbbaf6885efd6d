/-
  What carve.Permute answers for any two cells; nothing that was there is written. Condition: at most 100 axes and 1000 numbers.
-/
import Derived.Test.YticicfbllhnpcaaPkW
import Derived.Test.YticicfbllhnpcaaPkS
import Derived.Test.YticicfbllhnpcaaPkO
import Derived.Test.YticicfbllhnpcaaCvMeant
set_option maxRecDepth 100000
namespace Go.Proofs.Yticicfbllhnpcaa.Sh
open Go.RowKit Go.Shelf
set_option linter.unusedVariables false

/-- A place whose numbers are picked. -/
def ptP (tq p : List Int) : List Int := (List.range p.length).map fun i => p.getD (tq.getD i 0).toNat 0
theorem ptP_len (tq p : List Int) : (ptP tq p).length = p.length := by simp [ptP]
def peE (dn pn d : List Int) (n : Nat) : Int := if cellB dn pn.length = true ∧ cellB d n = true then (if dn.length ≤ 1 then (if pn.length = d.length then (if permB (smL pn) = true then 0 else 5) else 3) else 2) else 1
def peD (dn pn d : List Int) (n : Nat) : List Int := if peE dn pn d n = 0 then pickB d (smL pn) else []
def peV (dn pn d v : List Int) : List Int := if peE dn pn d v.length = 0 then (List.range (sizeI (pickB d (smL pn))).toNat).map (fun k : Nat => atI d v (ptP (smL pn) (dg (pickB d (smL pn)) (k : Int)))) else []
section
variable {dn pn d v : List Int}
theorem pe_1 (h : cellB dn pn.length = false) : peE dn pn d v.length = 1 ∧ peD dn pn d v.length = [] ∧ peV dn pn d v = [] := by
  have e : peE dn pn d v.length = 1 := by simp [peE, h]
  exact ⟨e, by simp [peD, e], by simp [peV, e]⟩
theorem pe_1' (h : cellB d v.length = false) : peE dn pn d v.length = 1 ∧ peD dn pn d v.length = [] ∧ peV dn pn d v = [] := by
  have e : peE dn pn d v.length = 1 := by simp [peE, h]
  exact ⟨e, by simp [peD, e], by simp [peV, e]⟩
theorem pe_2 (h1 : cellB dn pn.length = true) (h2 : cellB d v.length = true) (h : ¬ dn.length ≤ 1) : peE dn pn d v.length = 2 ∧ peD dn pn d v.length = [] ∧ peV dn pn d v = [] := by
  have e : peE dn pn d v.length = 2 := by unfold peE; rw [if_pos ⟨h1, h2⟩, if_neg h]
  exact ⟨e, by simp [peD, e], by simp [peV, e]⟩
theorem pe_3 (h1 : cellB dn pn.length = true) (h2 : cellB d v.length = true) (h3 : dn.length ≤ 1) (h : ¬ pn.length = d.length) : peE dn pn d v.length = 3 ∧ peD dn pn d v.length = [] ∧ peV dn pn d v = [] := by
  have e : peE dn pn d v.length = 3 := by unfold peE; rw [if_pos ⟨h1, h2⟩, if_pos h3, if_neg h]
  exact ⟨e, by simp [peD, e], by simp [peV, e]⟩
theorem pe_5 (h1 : cellB dn pn.length = true) (h2 : cellB d v.length = true) (h3 : dn.length ≤ 1) (h4 : pn.length = d.length) (h : permB (smL pn) = false) : peE dn pn d v.length = 5 ∧ peD dn pn d v.length = [] ∧ peV dn pn d v = [] := by
  have e : peE dn pn d v.length = 5 := by unfold peE; rw [if_pos ⟨h1, h2⟩, if_pos h3, if_pos h4, if_neg (by simp [h])]
  exact ⟨e, by simp [peD, e], by simp [peV, e]⟩
theorem pe_0 (h1 : cellB dn pn.length = true) (h2 : cellB d v.length = true) (h3 : dn.length ≤ 1) (h4 : pn.length = d.length) (h : permB (smL pn) = true) : peE dn pn d v.length = 0 ∧ peD dn pn d v.length = pickB d (smL pn) ∧ peV dn pn d v = (List.range (sizeI (pickB d (smL pn))).toNat).map (fun k : Nat => atI d v (ptP (smL pn) (dg (pickB d (smL pn)) (k : Int)))) := by
  have e : peE dn pn d v.length = 0 := by unfold peE; rw [if_pos ⟨h1, h2⟩, if_pos h3, if_pos h4, if_pos h]
  exact ⟨e, by unfold peD; rw [if_pos e], by unfold peV; rw [if_pos e]⟩
end
theorem pick_right {d tq : List Int} (h : tq.length = d.length) (hp : permB tq = true) (hr : rightB d = true) : rightB (pickB d tq) = true ∧ (pickB d tq).length = d.length := by
  have hq := pickB_perm h hp
  obtain ⟨h3, ha, hb⟩ := rightB_all hr
  exact ⟨rightB_mk (by rw [hq.length_eq]; exact h3) (by rw [all_perm hq]; exact ha) (by rw [prod_perm hq]; exact hb), hq.length_eq⟩
theorem small_t (A : Option Addr) (c : Nat) (v tq : List Int) (n : Nat) (w : World) (hn : v.length = n) (ht : smL v = tq) (hv : n ≤ 1000) (iv : Ints w A v) :
    Calls Try.prog 35 #[.slice A n c] w fun e w' => ∃ B c', e = .returned (.slice B n c') ∧ Ints w' B tq ∧ Below w.heap.size w w' := by
  subst hn ht
  refine (small_any A c v w hv iv).mono ?_
  rintro e w' ⟨B, c', rfl, hm, hb⟩
  rw [smL_len]
  exact ⟨B, c', rfl, hm.ints', hb⟩
theorem perm_t (A : Option Addr) (c : Nat) (p : List Int) (n : Nat) (b : Bool) (w : World) (hn : p.length = n) (hp : permB p = b) (hl : n ≤ 100) (hi : Ints w A p) :
    Calls Try.prog 36 #[.slice A n c] w fun e w' => e = .returned (.bool b) ∧ Below w.heap.size w w' := by
  subst hn hp; exact perm_any A c p w hl hi
theorem picked_t (A : Option Addr) (c : Nat) (d : List Int) (B : Option Addr) (c2 : Nat) (p : List Int) (n : Nat) (O : List Int) (w : World) (hn : p.length = n) (hO : pickB d p = O) (hl : d.length ≤ 100) (hl2 : n ≤ 100) (ha : Ints w A d) (hb : Ints w B p) :
    Calls Try.prog 37 #[.slice A d.length c, .slice B n c2] w (RetInts w O) := by
  subst hn hO; exact picked_any A c d B c2 p w hl hl2 ha hb
theorem keepB8 {W w1 : World} {p : Addr} {x : Value} (hb : Below W.heap.size W w1) (h : W.cell? p = some x) : w1.cell? p = some x := (hb.cell (p := p) (World.block_lt_of_cell? W p h)).trans h
set_option maxHeartbeats 2000000 in
theorem perm1_any (A : Option Addr) (c : Nat) (p : List Int) (n : Nat) (g : Nat) (B : Option Addr) (c2 : Nat) (tq : List Int) (w : World) (hn : p.length = n) (hp : n ≤ 1000) (hl : tq.length = n) (hr : ∀ i, i < n → 0 ≤ tq.getD i 0 ∧ tq.getD i 0 < (n : Int)) (ip : Ints w A p) (ia : Ints w B tq) (hg : w.cell? ⟨g, 0, none⟩ = some (.slice B tq.length c2)) :
    Calls Try.prog 38 #[.slice A n c, .pointer (some ⟨g, 0, none⟩)] w (RetInts w (ptP tq p)) := by
  subst hn
  unfold ptP
  have hmk := fun W => run_make_row' (P := Try.prog) 22 3 (.int .i64 0) 8 Try.underlying22 infoInt rfl .i64 .i64 p.length (by omega) (by omega) W
  have hL := Lib.hid (show Below w.heap.size w (w.alloc (.cells (madeCells #[Value.int .i64 0] p.length) 3)) from below_new _ _)
  have hO := Lib.hid (Own.made w p.length)
  have IP := Lib.hid ip
  have IA := Lib.hid ia
  have HR := Lib.hid hr
  have HG := Lib.hid hg
  have HL := Lib.hid hl
  have hgl : g < w.heap.size := World.block_lt_of_cell? w _ hg
  have hal : tq.length ≤ p.length := by omega
  have hal2 : p.length ≤ tq.length := by omega
  clear ip ia hr hg hl
  obtain ⟨f, hf⟩ : ∃ f : Nat → Int, (fun i => p.getD (tq.getD i 0).toNat 0) = f := ⟨_, rfl⟩
  rw [hf]
  have HF := Lib.hid hf
  clear hf
  go_enter Try.func38, Try.ntmps38
  go_wp2
  go_loopw [11] (fun j wr => ∃ k : Nat, k ≤ p.length ∧ j = .int .i64 (k : Int) ∧ Own wr w.heap.size (fillK f p.length k) ∧ Below w.heap.size w wr) (fun j _ => p.length - (intOf j).toNat)
  case atStart => exact ⟨0, Nat.zero_le _, rfl, by rw [fillK_0]; exact hO.out, hL.out⟩
  case round =>
    obtain ⟨k, hk, rfl, hOw, hB⟩ := hrel
    have OW := Lib.hid hOw
    have LB := Lib.hid hB
    clear hOw hB
    by_cases hlt : k < p.length
    · obtain ⟨b, off, rfl, hb, hcs⟩ := IP.out (by omega)
      obtain ⟨ba, oa, rfl, hba, hca⟩ := IA.out (by omega)
      have hak := (LB.out.cell (p := ⟨ba, oa + k, none⟩) hba).trans (hca k (by omega))
      have hrk := HR.out k hlt
      obtain ⟨m, hm⟩ : ∃ m : Nat, tq.getD k 0 = (m : Int) := ⟨(tq.getD k 0).toNat, by omega⟩
      have HK := Lib.hid (show f k = p.getD m 0 by rw [← HF.out]; simp only [hm, Int.toNat_natCast])
      rw [hm] at hak hrk
      have hck := (LB.out.cell (p := ⟨b, off + m, none⟩) hb).trans (hcs m (by omega))
      have hgk := (LB.out.cell (p := ⟨g, 0, none⟩) hgl).trans HG.out
      have i0 : (0 : Int) ≤ (k : Int) := by omega
      have i1 : (k : Int) < (p.length : Int) := by omega
      have i2 : (k : Int) < (tq.length : Int) := by omega
      have i3 : (0 : Int) ≤ (m : Int) := by omega
      have i4 : (m : Int) < (p.length : Int) := by omega
      have q0 := OW.out.cell (i := k) (by rw [fillK_length]; exact hlt)
      have q1 := OW.out.frozen k
      clear hcs hca hmk hm hrk
      generalize p.getD m 0 = y at *
      have HS := Lib.hid (show (fillK f p.length k).set k y = fillK f p.length (k + 1) by rw [← fillK_succ f _ k hlt, HK.out])
      have n1 : b ≠ w.heap.size := by omega
      have n2 : ba ≠ w.heap.size := by omega
      have n3 : g ≠ w.heap.size := by omega
      go_wp2
      go_roundw
      case rel => exact ⟨k + 1, by omega, by go_num, by rw [← HS.out]; exact OW.out.set_ k _, LB.out.setCell (Nat.le_refl _) _⟩
      case measure => simp [intOf]; omega
    · obtain rfl : k = p.length := by omega
      have hw := OW.out
      rw [fillK_n] at hw
      have HW := Lib.hid hw
      have hl : ((List.range p.length).map f).length = p.length := by simp
      have HL := Lib.hid hl
      clear hw hl hmk
      go_wp2
      go_ret
      exact ⟨some ⟨w.heap.size, 0, none⟩, p.length, by rw [HL.out]; rfl, HW.out.ints, LB.out⟩
set_option maxHeartbeats 4000000 in
theorem perm_1 (A : Option Addr) (c : Nat) (d : List Int) (B : Option Addr) (c2 : Nat) (v : List Int) (A' : Option Addr) (c' : Nat) (e : List Int) (B' : Option Addr) (c2' : Nat) (u : List Int) (w : World) (id : Ints w A d) (iv : Ints w B v) (ie : Ints w A' e) (iu : Ints w B' u) (hd : d.length ≤ 100) (hv : v.length ≤ 1000) (he : e.length ≤ 100) (hu : u.length ≤ 1000) (h1 : cellB d v.length = false) :
    Calls Try.prog 14 #[.agg #[.slice A d.length c, .slice B v.length c2], .agg #[.slice A' e.length c', .slice B' u.length c2']] w (RetCI w [] [] (.int .i64 1)) := by
  obtain ⟨ba0, bb0, br0, hb0⟩ := w2_all w (.slice A d.length c) (.slice B v.length c2) (.slice A' e.length c') (.slice B' u.length c2')
  have BA := Lib.hid (ba0)
  have BB := Lib.hid (bb0)
  have BR := Lib.hid (br0)
  have L := Lib.hid (hb0)
  have ID := Lib.hid (id.below hb0)
  have IV := Lib.hid (iv.below hb0)
  have IE := Lib.hid (ie.below hb0)
  have IU := Lib.hid (iu.below hb0)
  clear ba0 bb0 br0 hb0 id iv ie iu
  go_enter Try.func14, Try.ntmps14
  obtain ⟨qBA0, qBA1, -, -⟩ := BA.out.all
  go_wp2_with fail
  refine (cright_no _ _ d _ _ _ _ (by unfold maxLen; omega) ID.out h1).mono ?_
  rintro r w1 ⟨rfl, hb⟩
  clear qBA0 qBA1
  replace BA := Lib.hid (BA.out.next hb)
  replace BB := Lib.hid (BB.out.next hb)
  replace BR := Lib.hid (BR.out.next hb)
  replace L := Lib.hid (below_next L.out hb)
  replace ID := Lib.hid (ID.out.below hb)
  replace IV := Lib.hid (IV.out.below hb)
  replace IE := Lib.hid (IE.out.below hb)
  replace IU := Lib.hid (IU.out.below hb)
  clear hb
  obtain ⟨r0, r1, r2, r3⟩ := BR.out.all
  go_wp2
  have T9 := (BR.out.set0 (.slice none 0 0)).set1 (.slice none 0 0)
  obtain ⟨t0, t1, _, _⟩ := T9.all
  refine bodyPost_ret (v := .tuple #[.agg #[.slice none 0 0, .slice none 0 0], .int .i64 1]) (by simp [results, Try.results14, go_sem, t0, t1]) rfl ?_
  exact ⟨none, 0, none, 0, rfl, Ints.nil _ _, Ints.nil _ _, (L.out.setCell (by first | (simp; done) | (simp; omega)) _).setCell (by first | (simp; done) | (simp; omega)) _⟩
set_option maxHeartbeats 4000000 in
theorem perm_1' (A : Option Addr) (c : Nat) (d : List Int) (B : Option Addr) (c2 : Nat) (v : List Int) (A' : Option Addr) (c' : Nat) (e : List Int) (B' : Option Addr) (c2' : Nat) (u : List Int) (w : World) (id : Ints w A d) (iv : Ints w B v) (ie : Ints w A' e) (iu : Ints w B' u) (hd : d.length ≤ 100) (hv : v.length ≤ 1000) (he : e.length ≤ 100) (hu : u.length ≤ 1000) (h1 : cellB d v.length = true) (h2 : cellB e u.length = false) :
    Calls Try.prog 14 #[.agg #[.slice A d.length c, .slice B v.length c2], .agg #[.slice A' e.length c', .slice B' u.length c2']] w (RetCI w [] [] (.int .i64 1)) := by
  obtain ⟨ba0, bb0, br0, hb0⟩ := w2_all w (.slice A d.length c) (.slice B v.length c2) (.slice A' e.length c') (.slice B' u.length c2')
  have BA := Lib.hid (ba0)
  have BB := Lib.hid (bb0)
  have BR := Lib.hid (br0)
  have L := Lib.hid (hb0)
  have ID := Lib.hid (id.below hb0)
  have IV := Lib.hid (iv.below hb0)
  have IE := Lib.hid (ie.below hb0)
  have IU := Lib.hid (iu.below hb0)
  clear ba0 bb0 br0 hb0 id iv ie iu
  go_enter Try.func14, Try.ntmps14
  obtain ⟨qBA0, qBA1, -, -⟩ := BA.out.all
  go_wp2_with fail
  refine (cright_yes _ _ d _ _ _ _ (by unfold maxLen; omega) ID.out h1).mono ?_
  rintro r w1 ⟨rfl, hb⟩
  clear qBA0 qBA1
  replace BA := Lib.hid (BA.out.next hb)
  replace BB := Lib.hid (BB.out.next hb)
  replace BR := Lib.hid (BR.out.next hb)
  replace L := Lib.hid (below_next L.out hb)
  replace ID := Lib.hid (ID.out.below hb)
  replace IV := Lib.hid (IV.out.below hb)
  replace IE := Lib.hid (IE.out.below hb)
  replace IU := Lib.hid (IU.out.below hb)
  clear hb
  obtain ⟨qBB0, qBB1, -, -⟩ := BB.out.all
  go_wp2_with fail
  refine (cright_no _ _ e _ _ _ _ (by unfold maxLen; omega) IE.out h2).mono ?_
  rintro r w2 ⟨rfl, hb⟩
  clear qBB0 qBB1
  replace BA := Lib.hid (BA.out.next hb)
  replace BB := Lib.hid (BB.out.next hb)
  replace BR := Lib.hid (BR.out.next hb)
  replace L := Lib.hid (below_next L.out hb)
  replace ID := Lib.hid (ID.out.below hb)
  replace IV := Lib.hid (IV.out.below hb)
  replace IE := Lib.hid (IE.out.below hb)
  replace IU := Lib.hid (IU.out.below hb)
  clear hb
  obtain ⟨r0, r1, r2, r3⟩ := BR.out.all
  go_wp2
  have T9 := (BR.out.set0 (.slice none 0 0)).set1 (.slice none 0 0)
  obtain ⟨t0, t1, _, _⟩ := T9.all
  refine bodyPost_ret (v := .tuple #[.agg #[.slice none 0 0, .slice none 0 0], .int .i64 1]) (by simp [results, Try.results14, go_sem, t0, t1]) rfl ?_
  exact ⟨none, 0, none, 0, rfl, Ints.nil _ _, Ints.nil _ _, (L.out.setCell (by first | (simp; done) | (simp; omega)) _).setCell (by first | (simp; done) | (simp; omega)) _⟩
set_option maxHeartbeats 4000000 in
theorem perm_2 (A : Option Addr) (c : Nat) (d : List Int) (B : Option Addr) (c2 : Nat) (v : List Int) (A' : Option Addr) (c' : Nat) (e : List Int) (B' : Option Addr) (c2' : Nat) (u : List Int) (w : World) (id : Ints w A d) (iv : Ints w B v) (ie : Ints w A' e) (iu : Ints w B' u) (hd : d.length ≤ 100) (hv : v.length ≤ 1000) (he : e.length ≤ 100) (hu : u.length ≤ 1000) (h1 : cellB d v.length = true) (h2 : cellB e u.length = true) (h3 : ¬ d.length ≤ 1) :
    Calls Try.prog 14 #[.agg #[.slice A d.length c, .slice B v.length c2], .agg #[.slice A' e.length c', .slice B' u.length c2']] w (RetCI w [] [] (.int .i64 2)) := by
  obtain ⟨ba0, bb0, br0, hb0⟩ := w2_all w (.slice A d.length c) (.slice B v.length c2) (.slice A' e.length c') (.slice B' u.length c2')
  have BA := Lib.hid (ba0)
  have BB := Lib.hid (bb0)
  have BR := Lib.hid (br0)
  have L := Lib.hid (hb0)
  have ID := Lib.hid (id.below hb0)
  have IV := Lib.hid (iv.below hb0)
  have IE := Lib.hid (ie.below hb0)
  have IU := Lib.hid (iu.below hb0)
  clear ba0 bb0 br0 hb0 id iv ie iu
  have hx : (1 : Int) < (d.length : Int) := by omega
  go_enter Try.func14, Try.ntmps14
  obtain ⟨qBA0, qBA1, -, -⟩ := BA.out.all
  go_wp2_with fail
  refine (cright_yes _ _ d _ _ _ _ (by unfold maxLen; omega) ID.out h1).mono ?_
  rintro r w1 ⟨rfl, hb⟩
  clear qBA0 qBA1
  replace BA := Lib.hid (BA.out.next hb)
  replace BB := Lib.hid (BB.out.next hb)
  replace BR := Lib.hid (BR.out.next hb)
  replace L := Lib.hid (below_next L.out hb)
  replace ID := Lib.hid (ID.out.below hb)
  replace IV := Lib.hid (IV.out.below hb)
  replace IE := Lib.hid (IE.out.below hb)
  replace IU := Lib.hid (IU.out.below hb)
  clear hb
  obtain ⟨qBB0, qBB1, -, -⟩ := BB.out.all
  go_wp2_with fail
  refine (cright_yes _ _ e _ _ _ _ (by unfold maxLen; omega) IE.out h2).mono ?_
  rintro r w2 ⟨rfl, hb⟩
  clear qBB0 qBB1
  replace BA := Lib.hid (BA.out.next hb)
  replace BB := Lib.hid (BB.out.next hb)
  replace BR := Lib.hid (BR.out.next hb)
  replace L := Lib.hid (below_next L.out hb)
  replace ID := Lib.hid (ID.out.below hb)
  replace IV := Lib.hid (IV.out.below hb)
  replace IE := Lib.hid (IE.out.below hb)
  replace IU := Lib.hid (IU.out.below hb)
  clear hb
  obtain ⟨qBA0, qBA1, -, -⟩ := BA.out.all
  obtain ⟨qBB0, qBB1, -, -⟩ := BB.out.all
  obtain ⟨r0, r1, r2, r3⟩ := BR.out.all
  go_wp2
  have T9 := (BR.out.set0 (.slice none 0 0)).set1 (.slice none 0 0)
  obtain ⟨t0, t1, _, _⟩ := T9.all
  refine bodyPost_ret (v := .tuple #[.agg #[.slice none 0 0, .slice none 0 0], .int .i64 2]) (by simp [results, Try.results14, go_sem, t0, t1]) rfl ?_
  exact ⟨none, 0, none, 0, rfl, Ints.nil _ _, Ints.nil _ _, (L.out.setCell (by first | (simp; done) | (simp; omega)) _).setCell (by first | (simp; done) | (simp; omega)) _⟩
set_option maxHeartbeats 4000000 in
theorem perm_3 (A : Option Addr) (c : Nat) (d : List Int) (B : Option Addr) (c2 : Nat) (v : List Int) (A' : Option Addr) (c' : Nat) (e : List Int) (B' : Option Addr) (c2' : Nat) (u : List Int) (w : World) (id : Ints w A d) (iv : Ints w B v) (ie : Ints w A' e) (iu : Ints w B' u) (hd : d.length ≤ 100) (hv : v.length ≤ 1000) (he : e.length ≤ 100) (hu : u.length ≤ 1000) (h1 : cellB d v.length = true) (h2 : cellB e u.length = true) (h3 : d.length ≤ 1) (h4 : ¬ v.length = e.length) :
    Calls Try.prog 14 #[.agg #[.slice A d.length c, .slice B v.length c2], .agg #[.slice A' e.length c', .slice B' u.length c2']] w (RetCI w [] [] (.int .i64 3)) := by
  obtain ⟨ba0, bb0, br0, hb0⟩ := w2_all w (.slice A d.length c) (.slice B v.length c2) (.slice A' e.length c') (.slice B' u.length c2')
  have BA := Lib.hid (ba0)
  have BB := Lib.hid (bb0)
  have BR := Lib.hid (br0)
  have L := Lib.hid (hb0)
  have ID := Lib.hid (id.below hb0)
  have IV := Lib.hid (iv.below hb0)
  have IE := Lib.hid (ie.below hb0)
  have IU := Lib.hid (iu.below hb0)
  clear ba0 bb0 br0 hb0 id iv ie iu
  have hx : ¬ (1 : Int) < (d.length : Int) := by omega
  have hq : ((v.length : Int) != (e.length : Int)) = true := by simp; omega
  clear h4
  go_enter Try.func14, Try.ntmps14
  obtain ⟨qBA0, qBA1, -, -⟩ := BA.out.all
  go_wp2_with fail
  refine (cright_yes _ _ d _ _ _ _ (by unfold maxLen; omega) ID.out h1).mono ?_
  rintro r w1 ⟨rfl, hb⟩
  clear qBA0 qBA1
  replace BA := Lib.hid (BA.out.next hb)
  replace BB := Lib.hid (BB.out.next hb)
  replace BR := Lib.hid (BR.out.next hb)
  replace L := Lib.hid (below_next L.out hb)
  replace ID := Lib.hid (ID.out.below hb)
  replace IV := Lib.hid (IV.out.below hb)
  replace IE := Lib.hid (IE.out.below hb)
  replace IU := Lib.hid (IU.out.below hb)
  clear hb
  obtain ⟨qBB0, qBB1, -, -⟩ := BB.out.all
  go_wp2_with fail
  refine (cright_yes _ _ e _ _ _ _ (by unfold maxLen; omega) IE.out h2).mono ?_
  rintro r w2 ⟨rfl, hb⟩
  clear qBB0 qBB1
  replace BA := Lib.hid (BA.out.next hb)
  replace BB := Lib.hid (BB.out.next hb)
  replace BR := Lib.hid (BR.out.next hb)
  replace L := Lib.hid (below_next L.out hb)
  replace ID := Lib.hid (ID.out.below hb)
  replace IV := Lib.hid (IV.out.below hb)
  replace IE := Lib.hid (IE.out.below hb)
  replace IU := Lib.hid (IU.out.below hb)
  clear hb
  obtain ⟨qBA0, qBA1, -, -⟩ := BA.out.all
  obtain ⟨qBB0, qBB1, -, -⟩ := BB.out.all
  obtain ⟨r0, r1, r2, r3⟩ := BR.out.all
  go_wp2
  have T9 := (BR.out.set0 (.slice none 0 0)).set1 (.slice none 0 0)
  obtain ⟨t0, t1, _, _⟩ := T9.all
  refine bodyPost_ret (v := .tuple #[.agg #[.slice none 0 0, .slice none 0 0], .int .i64 3]) (by simp [results, Try.results14, go_sem, t0, t1]) rfl ?_
  exact ⟨none, 0, none, 0, rfl, Ints.nil _ _, Ints.nil _ _, (L.out.setCell (by first | (simp; done) | (simp; omega)) _).setCell (by first | (simp; done) | (simp; omega)) _⟩
set_option maxHeartbeats 4000000 in
theorem perm_5 (A : Option Addr) (c : Nat) (d : List Int) (B : Option Addr) (c2 : Nat) (v : List Int) (A' : Option Addr) (c' : Nat) (e : List Int) (B' : Option Addr) (c2' : Nat) (u : List Int) (w : World) (id : Ints w A d) (iv : Ints w B v) (ie : Ints w A' e) (iu : Ints w B' u) (hd : d.length ≤ 100) (hv : v.length ≤ 1000) (he : e.length ≤ 100) (hu : u.length ≤ 1000) (h1 : cellB d v.length = true) (h2 : cellB e u.length = true) (h3 : d.length ≤ 1) (h4 : v.length = e.length) (h5 : permB (smL v) = false) :
    Calls Try.prog 14 #[.agg #[.slice A d.length c, .slice B v.length c2], .agg #[.slice A' e.length c', .slice B' u.length c2']] w (RetCI w [] [] (.int .i64 5)) := by
  obtain ⟨ba0, bb0, br0, hb0⟩ := w2_all w (.slice A d.length c) (.slice B v.length c2) (.slice A' e.length c') (.slice B' u.length c2')
  have BA := Lib.hid (ba0)
  have BB := Lib.hid (bb0)
  have BR := Lib.hid (br0)
  have L := Lib.hid (hb0)
  have ID := Lib.hid (id.below hb0)
  have IV := Lib.hid (iv.below hb0)
  have IE := Lib.hid (ie.below hb0)
  have IU := Lib.hid (iu.below hb0)
  clear ba0 bb0 br0 hb0 id iv ie iu
  have hx : ¬ (1 : Int) < (d.length : Int) := by omega
  have H4 := Lib.hid h4
  obtain ⟨tq, hto⟩ : ∃ tq, smL v = tq := ⟨_, rfl⟩
  rw [hto] at h5
  have HTO := Lib.hid hto
  have HTL := Lib.hid (show tq.length = v.length by rw [← hto, smL_len])
  have e3 := (cellB_small h2).1
  have hv3 : v.length ≤ 3 := by omega
  clear h4 hto
  go_enter Try.func14, Try.ntmps14
  obtain ⟨qBA0, qBA1, -, -⟩ := BA.out.all
  go_wp2_with fail
  refine (cright_yes _ _ d _ _ _ _ (by unfold maxLen; omega) ID.out h1).mono ?_
  rintro r w1 ⟨rfl, hb⟩
  clear qBA0 qBA1
  replace BA := Lib.hid (BA.out.next hb)
  replace BB := Lib.hid (BB.out.next hb)
  replace BR := Lib.hid (BR.out.next hb)
  replace L := Lib.hid (below_next L.out hb)
  replace ID := Lib.hid (ID.out.below hb)
  replace IV := Lib.hid (IV.out.below hb)
  replace IE := Lib.hid (IE.out.below hb)
  replace IU := Lib.hid (IU.out.below hb)
  clear hb
  obtain ⟨qBB0, qBB1, -, -⟩ := BB.out.all
  go_wp2_with fail
  refine (cright_yes _ _ e _ _ _ _ (by unfold maxLen; omega) IE.out h2).mono ?_
  rintro r w2 ⟨rfl, hb⟩
  clear qBB0 qBB1
  replace BA := Lib.hid (BA.out.next hb)
  replace BB := Lib.hid (BB.out.next hb)
  replace BR := Lib.hid (BR.out.next hb)
  replace L := Lib.hid (below_next L.out hb)
  replace ID := Lib.hid (ID.out.below hb)
  replace IV := Lib.hid (IV.out.below hb)
  replace IE := Lib.hid (IE.out.below hb)
  replace IU := Lib.hid (IU.out.below hb)
  clear hb
  obtain ⟨qBA0, qBA1, -, -⟩ := BA.out.all
  obtain ⟨qBB0, qBB1, -, -⟩ := BB.out.all
  rw [← H4.out] at qBB0
  go_wp2_with fail
  refine (small_t _ _ v tq v.length _ rfl HTO.out (by omega) IV.out).mono ?_
  rintro r w3 ⟨A5, c5, rfl, i5, hb⟩
  clear qBA0 qBA1 qBB0 qBB1
  replace BA := Lib.hid (BA.out.next hb)
  replace BB := Lib.hid (BB.out.next hb)
  replace BR := Lib.hid (BR.out.next hb)
  replace L := Lib.hid (below_next L.out hb)
  replace ID := Lib.hid (ID.out.below hb)
  replace IV := Lib.hid (IV.out.below hb)
  replace IE := Lib.hid (IE.out.below hb)
  replace IU := Lib.hid (IU.out.below hb)
  clear hb
  have I5 := Lib.hid i5
  clear i5
  have KB := Lib.hid (below_new w3 (.cells #[.slice A5 v.length c5] 22))
  have x6 : (w3.alloc (.cells #[.slice A5 v.length c5] 22)).cell? ⟨w3.heap.size, 0, none⟩ = some (.slice A5 v.length c5) := by rw [World.cell?_alloc_at _ _ _ _ rfl]; rfl
  replace BA := Lib.hid (BA.out.next KB.out)
  replace BB := Lib.hid (BB.out.next KB.out)
  replace BR := Lib.hid (BR.out.next KB.out)
  replace L := Lib.hid (below_next L.out KB.out)
  replace ID := Lib.hid (ID.out.below KB.out)
  replace IV := Lib.hid (IV.out.below KB.out)
  replace IE := Lib.hid (IE.out.below KB.out)
  replace IU := Lib.hid (IU.out.below KB.out)
  replace I5 := Lib.hid (I5.out.below KB.out)
  have C6 := Lib.hid x6
  clear x6
  go_upto_region 8 with (fail)
  clear KB
  generalize hW6 : w3.alloc (.cells #[.slice A5 v.length c5] 22) = W6 at *
  clear hW6
  generalize w3.heap.size = g6 at *
  have x6 := C6.out
  go_wp2_with fail
  refine (perm_t _ _ tq v.length false _ HTL.out h5 (by omega) I5.out).mono ?_
  rintro r w11 ⟨rfl, hb⟩
  clear x6
  replace BA := Lib.hid (BA.out.next hb)
  replace BB := Lib.hid (BB.out.next hb)
  replace BR := Lib.hid (BR.out.next hb)
  replace L := Lib.hid (below_next L.out hb)
  replace ID := Lib.hid (ID.out.below hb)
  replace IV := Lib.hid (IV.out.below hb)
  replace IE := Lib.hid (IE.out.below hb)
  replace IU := Lib.hid (IU.out.below hb)
  replace I5 := Lib.hid (I5.out.below hb)
  replace C6 := Lib.hid (keepB8 hb C6.out)
  clear hb
  obtain ⟨r0, r1, r2, r3⟩ := BR.out.all
  go_wp2
  have T9 := (BR.out.set0 (.slice none 0 0)).set1 (.slice none 0 0)
  obtain ⟨t0, t1, _, _⟩ := T9.all
  refine bodyPost_ret (v := .tuple #[.agg #[.slice none 0 0, .slice none 0 0], .int .i64 5]) (by simp [results, Try.results14, go_sem, t0, t1]) rfl ?_
  exact ⟨none, 0, none, 0, rfl, Ints.nil _ _, Ints.nil _ _, (L.out.setCell (by first | (simp; done) | (simp; omega)) _).setCell (by first | (simp; done) | (simp; omega)) _⟩
set_option maxHeartbeats 8000000 in
theorem perm_0 (A : Option Addr) (c : Nat) (d : List Int) (B : Option Addr) (c2 : Nat) (v : List Int) (A' : Option Addr) (c' : Nat) (e : List Int) (B' : Option Addr) (c2' : Nat) (u : List Int) (w : World) (id : Ints w A d) (iv : Ints w B v) (ie : Ints w A' e) (iu : Ints w B' u) (hd : d.length ≤ 100) (hv : v.length ≤ 1000) (he : e.length ≤ 100) (hu : u.length ≤ 1000) (h1 : cellB d v.length = true) (h2 : cellB e u.length = true) (h3 : d.length ≤ 1) (h4 : v.length = e.length) (h5 : permB (smL v) = true) :
    Calls Try.prog 14 #[.agg #[.slice A d.length c, .slice B v.length c2], .agg #[.slice A' e.length c', .slice B' u.length c2']] w (RetCI w (pickB e (smL v)) ((List.range (sizeI (pickB e (smL v))).toNat).map (fun k : Nat => atI e u (ptP (smL v) (dg (pickB e (smL v)) (k : Int))))) (.int .i64 0)) := by
  obtain ⟨ba0, bb0, br0, hb0⟩ := w2_all w (.slice A d.length c) (.slice B v.length c2) (.slice A' e.length c') (.slice B' u.length c2')
  have BA := Lib.hid (ba0)
  have BB := Lib.hid (bb0)
  have BR := Lib.hid (br0)
  have L := Lib.hid (hb0)
  have ID := Lib.hid (id.below hb0)
  have IV := Lib.hid (iv.below hb0)
  have IE := Lib.hid (ie.below hb0)
  have IU := Lib.hid (iu.below hb0)
  clear ba0 bb0 br0 hb0 id iv ie iu
  have hx : ¬ (1 : Int) < (d.length : Int) := by omega
  have H4 := Lib.hid h4
  obtain ⟨tq, hto⟩ : ∃ tq, smL v = tq := ⟨_, rfl⟩
  rw [hto] at h5
  have HTO := Lib.hid hto
  have HTL := Lib.hid (show tq.length = v.length by rw [← hto, smL_len])
  have e3 := (cellB_small h2).1
  have hv3 : v.length ≤ 3 := by omega
  clear h4 hto
  go_enter Try.func14, Try.ntmps14
  obtain ⟨qBA0, qBA1, -, -⟩ := BA.out.all
  go_wp2_with fail
  refine (cright_yes _ _ d _ _ _ _ (by unfold maxLen; omega) ID.out h1).mono ?_
  rintro r w1 ⟨rfl, hb⟩
  clear qBA0 qBA1
  replace BA := Lib.hid (BA.out.next hb)
  replace BB := Lib.hid (BB.out.next hb)
  replace BR := Lib.hid (BR.out.next hb)
  replace L := Lib.hid (below_next L.out hb)
  replace ID := Lib.hid (ID.out.below hb)
  replace IV := Lib.hid (IV.out.below hb)
  replace IE := Lib.hid (IE.out.below hb)
  replace IU := Lib.hid (IU.out.below hb)
  clear hb
  obtain ⟨qBB0, qBB1, -, -⟩ := BB.out.all
  go_wp2_with fail
  refine (cright_yes _ _ e _ _ _ _ (by unfold maxLen; omega) IE.out h2).mono ?_
  rintro r w2 ⟨rfl, hb⟩
  clear qBB0 qBB1
  replace BA := Lib.hid (BA.out.next hb)
  replace BB := Lib.hid (BB.out.next hb)
  replace BR := Lib.hid (BR.out.next hb)
  replace L := Lib.hid (below_next L.out hb)
  replace ID := Lib.hid (ID.out.below hb)
  replace IV := Lib.hid (IV.out.below hb)
  replace IE := Lib.hid (IE.out.below hb)
  replace IU := Lib.hid (IU.out.below hb)
  clear hb
  obtain ⟨qBA0, qBA1, -, -⟩ := BA.out.all
  obtain ⟨qBB0, qBB1, -, -⟩ := BB.out.all
  rw [← H4.out] at qBB0
  go_wp2_with fail
  refine (small_t _ _ v tq v.length _ rfl HTO.out (by omega) IV.out).mono ?_
  rintro r w3 ⟨A5, c5, rfl, i5, hb⟩
  clear qBA0 qBA1 qBB0 qBB1
  replace BA := Lib.hid (BA.out.next hb)
  replace BB := Lib.hid (BB.out.next hb)
  replace BR := Lib.hid (BR.out.next hb)
  replace L := Lib.hid (below_next L.out hb)
  replace ID := Lib.hid (ID.out.below hb)
  replace IV := Lib.hid (IV.out.below hb)
  replace IE := Lib.hid (IE.out.below hb)
  replace IU := Lib.hid (IU.out.below hb)
  clear hb
  have I5 := Lib.hid i5
  clear i5
  have BRL := Lib.hid BR.out.lt
  have KB := Lib.hid (below_new w3 (.cells #[.slice A5 v.length c5] 22))
  have x6 : (w3.alloc (.cells #[.slice A5 v.length c5] 22)).cell? ⟨w3.heap.size, 0, none⟩ = some (.slice A5 v.length c5) := by rw [World.cell?_alloc_at _ _ _ _ rfl]; rfl
  replace BA := Lib.hid (BA.out.next KB.out)
  replace BB := Lib.hid (BB.out.next KB.out)
  replace BR := Lib.hid (BR.out.next KB.out)
  replace L := Lib.hid (below_next L.out KB.out)
  replace ID := Lib.hid (ID.out.below KB.out)
  replace IV := Lib.hid (IV.out.below KB.out)
  replace IE := Lib.hid (IE.out.below KB.out)
  replace IU := Lib.hid (IU.out.below KB.out)
  replace I5 := Lib.hid (I5.out.below KB.out)
  have C6 := Lib.hid x6
  clear x6
  go_upto_region 8 with (fail)
  have NG0 := Lib.hid BR.out.lt
  have NGR := Lib.hid (show w.heap.size + 1 + 1 < w3.heap.size from BRL.out)
  clear KB
  generalize hW6 : w3.alloc (.cells #[.slice A5 v.length c5] 22) = W6 at *
  clear hW6
  generalize hg6 : w3.heap.size = g6 at *
  have NG := Lib.hid (show w.heap.size + 1 + 1 ≠ g6 by have := NGR.out; omega)
  clear hg6
  have x6 := C6.out
  go_wp2_with fail
  refine (perm_t _ _ tq v.length true _ HTL.out h5 (by omega) I5.out).mono ?_
  rintro r w11 ⟨rfl, hb⟩
  clear x6
  replace BA := Lib.hid (BA.out.next hb)
  replace BB := Lib.hid (BB.out.next hb)
  replace BR := Lib.hid (BR.out.next hb)
  replace L := Lib.hid (below_next L.out hb)
  replace ID := Lib.hid (ID.out.below hb)
  replace IV := Lib.hid (IV.out.below hb)
  replace IE := Lib.hid (IE.out.below hb)
  replace IU := Lib.hid (IU.out.below hb)
  replace I5 := Lib.hid (I5.out.below hb)
  replace C6 := Lib.hid (keepB8 hb C6.out)
  clear hb
  have HT5 := Lib.hid (show tq.length = e.length by rw [HTL.out, H4.out])
  have HPR := Lib.hid (pick_right HT5.out h5 (cellB_parts h2).1)
  have HPA := Lib.hid (show ∀ i, i < e.length → 0 ≤ tq.getD i 0 ∧ tq.getD i 0 < (e.length : Int) by intro i hi; have := perm_at h5 i (by rw [HT5.out]; exact hi); rw [HT5.out] at this; exact this)
  obtain ⟨O, hO⟩ : ∃ O, pickB e tq = O := ⟨_, rfl⟩
  rw [hO] at HPR
  have HO := Lib.hid hO
  obtain ⟨n, hn, hn64⟩ := sizeI_nat O HPR.out.1
  have HN := Lib.hid hn
  obtain ⟨VV, hVV⟩ : ∃ VV, (List.range n).map (fun k : Nat => atI e u (ptP tq (dg O (k : Int)))) = VV := ⟨_, rfl⟩
  have HVV := Lib.hid hVV
  have HEQ := Lib.hid (show (List.range (sizeI (pickB e (smL v))).toNat).map (fun k : Nat => atI e u (ptP (smL v) (dg (pickB e (smL v)) (k : Int)))) = VV ∧ pickB e (smL v) = O by rw [HTO.out, hO, hn, Int.toNat_natCast]; exact ⟨hVV, rfl⟩)
  clear hn hVV hO h5
  have hOl : O.length ≤ 3 := by rw [HPR.out.2]; exact e3
  have CV := Lib.hid (fun W AA cc iR iA iB (i5 : Ints W A5 tq) (h6 : W.cell? ⟨g6, 0, none⟩ = some (.slice A5 v.length c5)) => carved_any AA cc O A' c' e B' c2' u 38 #[.pointer (some ⟨g6, 0, none⟩)] (ptP tq) n W HPR.out.1 HN.out iR iA iB he hu (enters_of Try.func38 (by kernel_rfl) rfl)
    (fun k W2 A2 cc2 hk hW hi => perm1_any A2 cc2 (dg O (k : Int)) O.length g6 A5 c5 tq W2 (dg_length _ _) (by omega) (by rw [HPR.out.2]; exact HT5.out) (by intro i hi2; rw [HPR.out.2] at hi2 ⊢; exact HPA.out i hi2) hi (i5.below hW) (by rw [HTL.out]; exact keepB8 hW h6))
    (fun k hk => by rw [ptP_len, dg_length]; omega))
  obtain ⟨qBB0, qBB1, -, -⟩ := BB.out.all
  have x6 := C6.out
  simp only [HVV.out] at CV
  have WD := Lib.hid ((Below.refl w11.heap.size w11).drew)
  have CT := Lib.hid (picked_t A' c' e A5 c5 tq v.length O w11.drew HTL.out HO.out he (by omega) (IE.out.below WD.out) (I5.out.below WD.out))
  have hlt := BR.out.lt
  have hle := L.out.size
  have hg6 := World.block_lt_of_cell? w11 _ x6
  go_upto_region 10 with (fail)
  go_region_held3 (fun w' => w'.cell? ⟨w.heap.size + 1, 0, none⟩ = some (.slice A' e.length c') ∧ w'.cell? ⟨w.heap.size + 1, 1, none⟩ = some (.slice B' u.length c2') ∧ w'.cell? ⟨g6, 0, none⟩ = some (.slice A5 v.length c5))
    (first
      | with_reducible exact KK3.out
      | with_reducible exact KK2.out
      | with_reducible exact KK.out
      | go_keep)
    (first
      | (go_at_call 37; (with_reducible refine (CT.out).mono ?_); rintro r w12 ⟨A7, c7, rfl, hi5, hb5⟩; have I7 := Lib.hid hi5; have L5 := Lib.hid (below_next WD.out hb5); have KK := Lib.hid (show w12.cell? ⟨w.heap.size + 1, 0, none⟩ = some (.slice A' e.length c') ∧ w12.cell? ⟨w.heap.size + 1, 1, none⟩ = some (.slice B' u.length c2') ∧ w12.cell? ⟨g6, 0, none⟩ = some (.slice A5 v.length c5) from ⟨(BB.out.next L5.out).c0, (BB.out.next L5.out).c1, keepB8 L5.out C6.out⟩); clear hi5 hb5)
      | (go_at_call 30; (with_reducible refine (CV.out w12 A7 c7 I7.out (IE.out.below L5.out) (IU.out.below L5.out) (I5.out.below L5.out) KK.out.2.2).mono ?_); rintro r w13 ⟨x, rfl, ⟨A8, c8, B8, e8, rfl, f1, f2, g1, g2⟩, hb⟩; have HC := Lib.hid (show Ints w13 A8 O ∧ Ints w13 B8 VV from ⟨f1.ints, f2.ints⟩); have L6 := Lib.hid (below_next L5.out hb); have KK2 := Lib.hid (show w13.cell? ⟨w.heap.size + 1, 0, none⟩ = some (.slice A' e.length c') ∧ w13.cell? ⟨w.heap.size + 1, 1, none⟩ = some (.slice B' u.length c2') ∧ w13.cell? ⟨g6, 0, none⟩ = some (.slice A5 v.length c5) from ⟨(BB.out.next L6.out).c0, (BB.out.next L6.out).c1, keepB8 L6.out C6.out⟩); obtain ⟨r0, r1, r2, r3⟩ := (BR.out.next L6.out).all; have KK3 := Lib.hid (show ((w13.setCell ⟨w.heap.size + 1 + 1, 0, none⟩ (.slice A8 O.length c8)).setCell ⟨w.heap.size + 1 + 1, 1, none⟩ (.slice B8 VV.length e8)).cell? ⟨w.heap.size + 1, 0, none⟩ = some (.slice A' e.length c') ∧ ((w13.setCell ⟨w.heap.size + 1 + 1, 0, none⟩ (.slice A8 O.length c8)).setCell ⟨w.heap.size + 1 + 1, 1, none⟩ (.slice B8 VV.length e8)).cell? ⟨w.heap.size + 1, 1, none⟩ = some (.slice B' u.length c2') ∧ ((w13.setCell ⟨w.heap.size + 1 + 1, 0, none⟩ (.slice A8 O.length c8)).setCell ⟨w.heap.size + 1 + 1, 1, none⟩ (.slice B8 VV.length e8)).cell? ⟨g6, 0, none⟩ = some (.slice A5 v.length c5) from ⟨(((BB.out.next L6.out).far (p := ⟨w.heap.size + 1 + 1, 0, none⟩) (by simp) _).far (p := ⟨w.heap.size + 1 + 1, 1, none⟩) (by simp) _).c0, (((BB.out.next L6.out).far (p := ⟨w.heap.size + 1 + 1, 0, none⟩) (by simp) _).far (p := ⟨w.heap.size + 1 + 1, 1, none⟩) (by simp) _).c1, (World.cell?_setCell_far _ _ _ _ NG.out).trans ((World.cell?_setCell_far _ _ _ _ NG.out).trans (keepB8 L6.out C6.out))⟩); clear f1 f2 g1 g2 hb))
  all_goals
    have hsz := L5.out.size
    have BR9 := Lib.hid (BR.out.next L6.out)
    have L9 := Lib.hid (below_next L.out L6.out)
    clear qBB0 qBB1
    go_wp2
    have T9 := (BR9.out.set0 (.slice A8 O.length c8)).set1 (.slice B8 VV.length e8)
    obtain ⟨t0, t1, _, _⟩ := T9.all
    refine bodyPost_ret (v := .tuple #[.agg #[.slice A8 O.length c8, .slice B8 VV.length e8], .int .i64 0]) (by simp [results, Try.results14, go_sem, t0, t1]) rfl ?_
    rw [HEQ.out.1, HEQ.out.2]
    exact ⟨A8, c8, B8, e8, rfl, HC.out.1.set_box BR9.out _ _, HC.out.2.set_box BR9.out _ _, (L9.out.setCell (by first | (simp; done) | (simp; omega)) _).setCell (by first | (simp; done) | (simp; omega)) _⟩
theorem permute_any (A : Option Addr) (c : Nat) (d : List Int) (B : Option Addr) (c2 : Nat) (v : List Int) (A' : Option Addr) (c' : Nat) (e : List Int) (B' : Option Addr) (c2' : Nat) (u : List Int) (w : World) (id : Ints w A d) (iv : Ints w B v) (ie : Ints w A' e) (iu : Ints w B' u) (hd : d.length ≤ 100) (hv : v.length ≤ 1000) (he : e.length ≤ 100) (hu : u.length ≤ 1000) :
    Calls Try.prog 14 #[.agg #[.slice A d.length c, .slice B v.length c2], .agg #[.slice A' e.length c', .slice B' u.length c2']] w (RetCI w (peD d v e u.length) (peV d v e u) (.int .i64 (peE d v e u.length))) := by
  by_cases h1 : cellB d v.length = true
  rotate_left
  · have h1' : cellB d v.length = false := by simpa using h1
    obtain ⟨e1, e2, e3⟩ := pe_1 (d := e) (v := u) h1'
    rw [e1, e2, e3]
    exact perm_1 A c d B c2 v A' c' e B' c2' u w id iv ie iu hd hv he hu h1'
  by_cases h2 : cellB e u.length = true
  rotate_left
  · have h2' : cellB e u.length = false := by simpa using h2
    obtain ⟨e1, e2, e3⟩ := pe_1' (dn := d) (pn := v) h2'
    rw [e1, e2, e3]
    exact perm_1' A c d B c2 v A' c' e B' c2' u w id iv ie iu hd hv he hu h1 h2'
  by_cases h3 : d.length ≤ 1
  rotate_left
  · obtain ⟨e1, e2, e3⟩ := pe_2 h1 h2 h3
    rw [e1, e2, e3]
    exact perm_2 A c d B c2 v A' c' e B' c2' u w id iv ie iu hd hv he hu h1 h2 h3
  by_cases h4 : v.length = e.length
  rotate_left
  · obtain ⟨e1, e2, e3⟩ := pe_3 h1 h2 h3 h4
    rw [e1, e2, e3]
    exact perm_3 A c d B c2 v A' c' e B' c2' u w id iv ie iu hd hv he hu h1 h2 h3 h4
  by_cases h5 : permB (smL v) = true
  · obtain ⟨e1, e2, e3⟩ := pe_0 h1 h2 h3 h4 h5
    rw [e1, e2, e3]
    exact perm_0 A c d B c2 v A' c' e B' c2' u w id iv ie iu hd hv he hu h1 h2 h3 h4 h5
  · have h5' : permB (smL v) = false := by simpa using h5
    obtain ⟨e1, e2, e3⟩ := pe_5 h1 h2 h3 h4 h5'
    rw [e1, e2, e3]
    exact perm_5 A c d B c2 v A' c' e B' c2' u w id iv ie iu hd hv he hu h1 h2 h3 h4 h5'
end Go.Proofs.Yticicfbllhnpcaa.Sh
