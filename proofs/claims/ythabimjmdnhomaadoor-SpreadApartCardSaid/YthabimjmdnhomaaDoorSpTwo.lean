/-
  What spread.Two answers for any function and any two cells; nothing that was there is written. Conditions: the table of traits holds what its text lays; the numbers have 64 bits; at most 100 axes and 1000 numbers.
-/
import Derived.Test.YthabimjmdnhomaaDoorSpNum
import Derived.Test.YthabimjmdnhomaaDoorSpMade
namespace Go.Proofs.YthabimjmdnhomaaDoor.Sp
open Go.Proofs.YthabimjmdnhomaaDoor.Sh
open Go.RowKit
set_option linter.unusedVariables false

/-- What Two answers. -/
def twoE (c : Int) (d : List Int) (n : Nat) (e : List Int) (m : Nat) : Int := if cellB d n = true ∧ cellB e m = true then (if Sc.hasB c 2 = true then fitE d e else 13) else 1
def twoD (c : Int) (d : List Int) (n : Nat) (e : List Int) (m : Nat) : List Int := if twoE c d n e m = 0 then fitD d e else []
def twoF (c : Int) (s : Bool) (d v e u : List Int) (i : Nat) : Int := Sc.doI c s (numA d v i) (numA e u i)
def twoV (c : Int) (s : Bool) (d v e u : List Int) : List Int := if twoE c d v.length e u.length = 0 then (List.range (sizeI (fitD d e)).toNat).map (twoF c s d v e u) else []
section
variable {c : Int} {s : Bool} {d v e u : List Int}
theorem two_bad1 (h : cellB d v.length = false) : twoE c d v.length e u.length = 1 ∧ twoD c d v.length e u.length = [] ∧ twoV c s d v e u = [] := by simp [twoD, twoV, twoE, h]
theorem two_bad2 (h : cellB e u.length = false) : twoE c d v.length e u.length = 1 ∧ twoD c d v.length e u.length = [] ∧ twoV c s d v e u = [] := by simp [twoD, twoV, twoE, h]
theorem two_bad3 (h1 : cellB d v.length = true) (h2 : cellB e u.length = true) (h : Sc.hasB c 2 = false) : twoE c d v.length e u.length = 13 ∧ twoD c d v.length e u.length = [] ∧ twoV c s d v e u = [] := by simp [twoD, twoV, twoE, h, h1, h2]
theorem two_bad4 (h1 : cellB d v.length = true) (h2 : cellB e u.length = true) (h3 : Sc.hasB c 2 = true) {x : Int} (hx : fitE d e = x) (h : ¬ x = 0) : twoE c d v.length e u.length = x ∧ twoD c d v.length e u.length = [] ∧ twoV c s d v e u = [] := by subst hx; simp [twoD, twoV, twoE, h, h1, h2, h3]
theorem two_good (h1 : cellB d v.length = true) (h2 : cellB e u.length = true) (h3 : Sc.hasB c 2 = true) (h : fitE d e = 0) {n : Nat} (hn : sizeI (fitD d e) = n) : twoE c d v.length e u.length = 0 ∧ twoD c d v.length e u.length = fitD d e ∧ twoV c s d v e u = (List.range n).map (twoF c s d v e u) := by simp [twoD, twoV, twoE, h, h1, h2, h3, hn]
end
theorem fitE_0 {d e : List Int} (h : fitE d e = 0) : rightB d = true ∧ rightB e = true ∧ ((d.length = 0 ∧ fitD d e = e) ∨ (¬ d.length = 0 ∧ fitD d e = d ∧ (e.length = 0 ∨ d = e))) := by
  have hD : fitD d e = if d.length = 0 then e else d := by unfold fitD; rw [if_pos h]
  rw [hD]
  unfold fitE at h
  split at h
  · rename_i hr
    refine ⟨hr.1, hr.2, ?_⟩
    split at h
    · rename_i hz
      by_cases h0 : d.length = 0
      · exact .inl ⟨h0, by rw [if_pos h0]⟩
      · exact .inr ⟨h0, by rw [if_neg h0], .inl (by omega)⟩
    · rename_i hz
      have h0 : ¬ d.length = 0 := by omega
      split at h
      · split at h
        · rename_i hde
          exact .inr ⟨h0, by rw [if_neg h0], .inr hde⟩
        · omega
      · omega
  · omega
theorem sizeI_nil : sizeI [] = 1 := by decide
theorem fit_right {d e : List Int} (h : fitE d e = 0) : rightB (fitD d e) = true := by
  obtain ⟨h1, h2, ⟨_, h3⟩ | ⟨_, h3, _⟩⟩ := fitE_0 h <;> rw [h3] <;> assumption
theorem fit_len {d e : List Int} (hd : d.length ≤ 100) (he : e.length ≤ 100) : (fitD d e).length ≤ 100 := by
  unfold fitD; split
  · split <;> omega
  · simp
theorem cellB_n {d : List Int} {n : Nat} (h : cellB d n = true) : (n : Int) = sizeI d := (cellB_parts h).2
theorem fit_ok1 {d e v : List Int} {i : Nat} (h : fitE d e = 0) (h1 : cellB d v.length = true) (hi : (i : Int) < sizeI (fitD d e)) : okA d v i := by
  obtain ⟨_, _, hc⟩ := fitE_0 h
  have hn := cellB_n h1
  refine ⟨fun h0 => ?_, fun h0 => ?_⟩
  · obtain rfl := List.eq_nil_of_length_eq_zero h0
    rw [sizeI_nil] at hn; omega
  · rcases hc with ⟨h', _⟩ | ⟨_, h', _⟩
    · exact absurd h' h0
    · rw [h'] at hi; omega
theorem fit_ok2 {d e u : List Int} {i : Nat} (h : fitE d e = 0) (h1 : cellB e u.length = true) (hi : (i : Int) < sizeI (fitD d e)) : okA e u i := by
  obtain ⟨_, _, hc⟩ := fitE_0 h
  have hn := cellB_n h1
  refine ⟨fun h0 => ?_, fun h0 => ?_⟩
  · obtain rfl := List.eq_nil_of_length_eq_zero h0
    rw [sizeI_nil] at hn; omega
  · rcases hc with ⟨_, h'⟩ | ⟨_, h', h2 | h2⟩
    · rw [h'] at hi; omega
    · exact absurd h2 h0
    · rw [h', h2] at hi; omega
theorem sizeI_nat (d : List Int) (h : rightB d = true) : ∃ n : Nat, sizeI d = n ∧ n ≤ 64 := by
  obtain ⟨h3, hall, h64⟩ := rightB_all h
  have hp := (prod_bd d hall).1
  exact ⟨(prod d).toNat, by rw [sizeI_mk h3 hall h64]; omega, by omega⟩

theorem fit_v (A : Option Addr) (c : Nat) (a : List Int) (B : Option Addr) (c2 : Nat) (b : List Int) (w : World) (x : Int) (D : List Int) (hx : fitE a b = x) (hD : fitD a b = D) (ha : a.length ≤ 100) (hb : b.length ≤ 100) (ia : Ints w A a) (ib : Ints w B b) :
    Calls Tryd.prog 8 #[.slice A a.length c, .slice B b.length c2] w (RetE w D x) := by subst hx hD; exact fit_any A c a B c2 b w ha hb ia ib
theorem rfit_v (A : Option Addr) (c : Nat) (a : List Int) (B : Option Addr) (c2 : Nat) (b : List Int) (w : World) (x : Int) (D : List Int) (hx : fitE a b = x) (hD : fitD a b = D) (ha : a.length ≤ 100) (hb : b.length ≤ 100) (ia : Ints w A a) (ib : Ints w B b) :
    Calls Tryd.prog 9 #[.slice A a.length c, .slice B b.length c2] w (RetE w D x) := by subst hx hD; exact rfit_any A c a B c2 b w ha hb ia ib

/-- The box of a function. -/
theorem fn_new (w : World) (x y : Value) : (w.alloc (.cells #[x, y] 29)).cell? ⟨w.heap.size, 0, none⟩ = some x ∧ (w.alloc (.cells #[x, y] 29)).cell? ⟨w.heap.size, 1, none⟩ = some y :=
  ⟨by rw [World.cell?_alloc_at _ _ _ _ (by simp)]; rfl, by rw [World.cell?_alloc_at _ _ _ _ (by simp)]; rfl⟩
theorem keepFn {W w1 : World} {g : Nat} {x y : Value} (hb : Below W.heap.size W w1) (h : W.cell? ⟨g, 0, none⟩ = some x ∧ W.cell? ⟨g, 1, none⟩ = some y) :
    w1.cell? ⟨g, 0, none⟩ = some x ∧ w1.cell? ⟨g, 1, none⟩ = some y :=
  ⟨(hb.cell (p := ⟨g, 0, none⟩) (World.block_lt_of_cell? W ⟨g, 0, none⟩ h.1)).trans h.1, (hb.cell (p := ⟨g, 1, none⟩) (World.block_lt_of_cell? W ⟨g, 0, none⟩ h.1)).trans h.2⟩
theorem below_new (w : World) (o : Obj) : Below w.heap.size w (w.alloc o) := (Below.refl _ w).alloc (Nat.le_refl _) o
/-- The world behind the boxes of a function and of two cells. -/
def W3 (w : World) (c : Int) (s : Bool) (x y z t : Value) : World := ((w.alloc (.cells #[.int .i64 c, .bool s] 29)).alloc (.cells #[x, y] 32)).alloc (.cells #[z, t] 32)
theorem w3_all (w : World) (c : Int) (s : Bool) (x y z t : Value) :
    ((W3 w c s x y z t).cell? ⟨w.heap.size, 0, none⟩ = some (.int .i64 c) ∧ (W3 w c s x y z t).cell? ⟨w.heap.size, 1, none⟩ = some (.bool s)) ∧ Box (W3 w c s x y z t) (w.heap.size + 1) x y ∧ Box (W3 w c s x y z t) (w.heap.size + 1 + 1) z t ∧ Below w.heap.size w (W3 w c s x y z t) ∧ (W3 w c s x y z t).heap.size = w.heap.size + 1 + 1 + 1 := by
  have e1 : (w.alloc (.cells #[.int .i64 c, .bool s] 29)).heap.size = w.heap.size + 1 := by simp
  have e2 : ((w.alloc (.cells #[.int .i64 c, .bool s] 29)).alloc (.cells #[x, y] 32)).heap.size = w.heap.size + 1 + 1 := by simp
  have b1 := below_new w (.cells #[.int .i64 c, .bool s] 29)
  have b2 := below_new (w.alloc (.cells #[.int .i64 c, .bool s] 29)) (.cells #[x, y] 32)
  have b3 := below_new ((w.alloc (.cells #[.int .i64 c, .bool s] 29)).alloc (.cells #[x, y] 32)) (.cells #[z, t] 32)
  refine ⟨keepFn b3 (keepFn b2 (fn_new w _ _)), ?_, ?_, Sh.below_next b1 (Sh.below_next b2 b3), by simp [W3]⟩
  · have := (Box.new (w.alloc (.cells #[.int .i64 c, .bool s] 29)) x y).next b3
    rw [e1] at this; exact this
  · have := Box.new ((w.alloc (.cells #[.int .i64 c, .bool s] 29)).alloc (.cells #[x, y] 32)) z t
    rw [e2] at this; exact this

set_option maxHeartbeats 4000000 in
theorem two_any (c : Int) (s : Bool) (A : Option Addr) (c1 : Nat) (d : List Int) (B : Option Addr) (c2 : Nat) (v : List Int) (A' : Option Addr) (c1' : Nat) (e : List Int) (B' : Option Addr) (c2' : Nat) (u : List Int) (w : World) (hT : Sc.Tab w) (id : Ints w A d) (iv : Ints w B v) (ie : Ints w A' e) (iu : Ints w B' u) (hd : d.length ≤ 100) (hv : v.length ≤ 1000) (he : e.length ≤ 100) (hu : u.length ≤ 1000) (rv : AllR v) (ru : AllR u) :
    Calls Tryd.prog 12 #[.agg #[.int .i64 c, .bool s], .agg #[.slice A d.length c1, .slice B v.length c2], .agg #[.slice A' e.length c1', .slice B' u.length c2']] w (RetC w (twoD c d v.length e u.length) (twoV c s d v e u) (.int .i64 (twoE c d v.length e u.length))) := by
  have RV := Lib.hid rv
  have RU := Lib.hid ru
  clear rv ru
  by_cases h1 : cellB d v.length = true
  · by_cases h2 : cellB e u.length = true
    · by_cases h3 : Sc.hasB c 2 = true
      · obtain ⟨x, hx⟩ : ∃ x, fitE d e = x := ⟨_, rfl⟩
        by_cases h4 : x = 0
        · subst h4
          obtain ⟨n, hn, hn64⟩ := sizeI_nat _ (fit_right hx)
          obtain ⟨e1, e2, e3⟩ := two_good (s := s) h1 h2 h3 hx hn
          rw [e1, e2, e3]
          have H8 := Lib.hid (fun (i : Nat) (hi : i < n) => (⟨fit_ok1 hx h1 (by omega), fit_ok2 hx h2 (by omega)⟩ : okA d v i ∧ okA e u i))
          have H6 := Lib.hid (fit_right hx)
          have H7 := Lib.hid hn
          have H1 := Lib.hid h1
          have H2 := Lib.hid h2
          have H3 := Lib.hid h3
          have H4 := Lib.hid hx
          have HDL := Lib.hid (fit_len hd he)
          clear h1 h2 h3 hx hn e1 e2 e3
          obtain ⟨D, hD⟩ : ∃ D, fitD d e = D := ⟨_, rfl⟩
          have H5 := Lib.hid hD
          rw [hD] at H6 H7 HDL ⊢
          clear hD
          obtain ⟨hf0, ba0, bb0, hb0, hs0⟩ := w3_all w c s (.slice A d.length c1) (.slice B v.length c2) (.slice A' e.length c1') (.slice B' u.length c2')
          have hb := below_new (W3 w c s (.slice A d.length c1) (.slice B v.length c2) (.slice A' e.length c1') (.slice B' u.length c2')) (.cells #[.slice none 0 0, .slice none 0 0] 32)
          have br0 := Box.new (W3 w c s (.slice A d.length c1) (.slice B v.length c2) (.slice A' e.length c1') (.slice B' u.length c2')) (.slice none 0 0) (.slice none 0 0)
          rw [hs0] at br0
          have FF := Lib.hid (keepFn hb hf0)
          have BA := Lib.hid (ba0.next hb)
          have BB := Lib.hid (bb0.next hb)
          have BR := Lib.hid (br0)
          have L := Lib.hid (Sh.below_next hb0 hb)
          have T := Lib.hid (hT.below L.out)
          have ID := Lib.hid (id.below L.out)
          have IV := Lib.hid (iv.below L.out)
          have IE := Lib.hid (ie.below L.out)
          have IU := Lib.hid (iu.below L.out)
          clear hb hf0 ba0 bb0 hb0 hs0 br0 hT id iv ie iu
          unfold W3 at *
          go_enter Tryd.func12, Tryd.ntmps12
          go_wp2_with fail
          refine (cright_yes _ _ d _ _ _ _ (by unfold maxLen; omega) ID.out H1.out).mono ?_
          rintro r w1 ⟨rfl, hb⟩
          replace FF := Lib.hid (keepFn hb FF.out)
          replace BA := Lib.hid (BA.out.next hb)
          replace BB := Lib.hid (BB.out.next hb)
          replace BR := Lib.hid (BR.out.next hb)
          replace L := Lib.hid (Sh.below_next L.out hb)
          replace T := Lib.hid (T.out.below hb)
          replace ID := Lib.hid (ID.out.below hb)
          replace IV := Lib.hid (IV.out.below hb)
          replace IE := Lib.hid (IE.out.below hb)
          replace IU := Lib.hid (IU.out.below hb)
          clear hb
          obtain ⟨qBB0, qBB1, -, -⟩ := BB.out.all
          go_wp2_with fail
          refine (cright_yes _ _ e _ _ _ _ (by unfold maxLen; omega) IE.out H2.out).mono ?_
          rintro r w2 ⟨rfl, hb⟩
          clear qBB0 qBB1
          replace FF := Lib.hid (keepFn hb FF.out)
          replace BA := Lib.hid (BA.out.next hb)
          replace BB := Lib.hid (BB.out.next hb)
          replace BR := Lib.hid (BR.out.next hb)
          replace L := Lib.hid (Sh.below_next L.out hb)
          replace T := Lib.hid (T.out.below hb)
          replace ID := Lib.hid (ID.out.below hb)
          replace IV := Lib.hid (IV.out.below hb)
          replace IE := Lib.hid (IE.out.below hb)
          replace IU := Lib.hid (IU.out.below hb)
          clear hb
          obtain ⟨qFF0, qFF1⟩ := FF.out
          go_wp2_with fail
          refine (Sc.has_b c 2 true _ H3.out T.out).mono ?_
          rintro r w3 ⟨rfl, hb⟩
          clear qFF0 qFF1
          replace FF := Lib.hid (keepFn hb FF.out)
          replace BA := Lib.hid (BA.out.next hb)
          replace BB := Lib.hid (BB.out.next hb)
          replace BR := Lib.hid (BR.out.next hb)
          replace L := Lib.hid (Sh.below_next L.out hb)
          replace T := Lib.hid (T.out.below hb)
          replace ID := Lib.hid (ID.out.below hb)
          replace IV := Lib.hid (IV.out.below hb)
          replace IE := Lib.hid (IE.out.below hb)
          replace IU := Lib.hid (IU.out.below hb)
          clear hb
          obtain ⟨qBA0, qBA1, -, -⟩ := BA.out.all
          obtain ⟨qBB0, qBB1, -, -⟩ := BB.out.all
          go_wp2_with fail
          refine (fit_v _ _ d _ _ e _ 0 D H4.out H5.out hd he ID.out IE.out).mono ?_
          rintro r w4 ⟨A5, c5, rfl, hi, hb⟩
          clear qBA0 qBA1 qBB0 qBB1
          replace FF := Lib.hid (keepFn hb FF.out)
          replace BA := Lib.hid (BA.out.next hb)
          replace BB := Lib.hid (BB.out.next hb)
          replace BR := Lib.hid (BR.out.next hb)
          replace L := Lib.hid (Sh.below_next L.out hb)
          replace T := Lib.hid (T.out.below hb)
          replace ID := Lib.hid (ID.out.below hb)
          replace IV := Lib.hid (IV.out.below hb)
          replace IE := Lib.hid (IE.out.below hb)
          replace IU := Lib.hid (IU.out.below hb)
          clear hb
          have IF := Lib.hid (hi)
          clear hi
          have HG := Lib.hid BR.out.lt
          have HL := Lib.hid L.out.size
          go_wp2_with fail
          refine (made_two (.pointer (some ⟨w.heap.size, 0, none⟩)) (.pointer (some ⟨w.heap.size + 1, 0, none⟩)) (.pointer (some ⟨w.heap.size + 1 + 1, 0, none⟩)) _ _ D (twoF c s d v e u) n _ HDL.out IF.out H6.out H7.out (fun i hi W hW => two1_any c s _ _ _ A c1 d B c2 v A' c1' e B' c2' u i _ W rfl (T.out.below hW) (keepFn hW FF.out).1 (keepFn hW FF.out).2 (BA.out.next hW) (BB.out.next hW) (IV.out.below hW) (IU.out.below hW) (H8.out i hi).1 (H8.out i hi).2 hd hv he hu RV.out RU.out)).mono ?_
          rintro r w5 ⟨x, rfl, ⟨A6, c6, B6, e6, rfl, j1, j2, j3⟩, hb⟩
          replace FF := Lib.hid (keepFn hb FF.out)
          replace BA := Lib.hid (BA.out.next hb)
          replace BB := Lib.hid (BB.out.next hb)
          replace BR := Lib.hid (BR.out.next hb)
          replace L := Lib.hid (Sh.below_next L.out hb)
          replace T := Lib.hid (T.out.below hb)
          replace ID := Lib.hid (ID.out.below hb)
          replace IV := Lib.hid (IV.out.below hb)
          replace IE := Lib.hid (IE.out.below hb)
          replace IU := Lib.hid (IU.out.below hb)
          replace IF := Lib.hid (IF.out.below hb)
          clear hb
          have J := Lib.hid (show IsCell w5 w4.heap.size D ((List.range n).map (twoF c s d v e u)) (.agg #[.slice A6 D.length c6, .slice B6 ((List.range n).map (twoF c s d v e u)).length e6]) from ⟨A6, c6, B6, e6, rfl, j1, j2, j3⟩)
          clear j1 j2 j3
          generalize (List.range n).map (twoF c s d v e u) = V at *
          obtain ⟨qBR0, qBR1, fBR0, fBR1⟩ := BR.out.all
          go_wp2
          have T9 := (BR.out.set0 (.slice A6 D.length c6)).set1 (.slice B6 V.length e6)
          obtain ⟨t0, t1, _, _⟩ := T9.all
          refine bodyPost_ret (v := .tuple #[.agg #[.slice A6 D.length c6, .slice B6 V.length e6], .int .i64 0]) (by simp [results, Tryd.results12, go_sem, t0, t1]) rfl ?_
          exact ⟨_, rfl, (J.out.set2 HG.out _ _).mono HL.out, (L.out.setCell (by simp; omega) _).setCell (by simp; omega) _⟩
        · obtain ⟨e1, e2, e3⟩ := two_bad4 (s := s) h1 h2 h3 hx h4
          rw [e1, e2, e3]
          have hx0 : (x != 0) = true := by simpa using h4
          have H1 := Lib.hid h1
          have H2 := Lib.hid h2
          have H3 := Lib.hid h3
          have H4 := Lib.hid hx
          have H5 : Hid (fitD d e = []) := Lib.hid (by unfold fitD; rw [hx, if_neg h4])
          clear h1 h2 h3 hx h4 e1 e2 e3
          obtain ⟨hf0, ba0, bb0, hb0, hs0⟩ := w3_all w c s (.slice A d.length c1) (.slice B v.length c2) (.slice A' e.length c1') (.slice B' u.length c2')
          have hb := below_new (W3 w c s (.slice A d.length c1) (.slice B v.length c2) (.slice A' e.length c1') (.slice B' u.length c2')) (.cells #[.slice none 0 0, .slice none 0 0] 32)
          have br0 := Box.new (W3 w c s (.slice A d.length c1) (.slice B v.length c2) (.slice A' e.length c1') (.slice B' u.length c2')) (.slice none 0 0) (.slice none 0 0)
          rw [hs0] at br0
          have FF := Lib.hid (keepFn hb hf0)
          have BA := Lib.hid (ba0.next hb)
          have BB := Lib.hid (bb0.next hb)
          have BR := Lib.hid (br0)
          have L := Lib.hid (Sh.below_next hb0 hb)
          have T := Lib.hid (hT.below L.out)
          have ID := Lib.hid (id.below L.out)
          have IV := Lib.hid (iv.below L.out)
          have IE := Lib.hid (ie.below L.out)
          have IU := Lib.hid (iu.below L.out)
          clear hb hf0 ba0 bb0 hb0 hs0 br0 hT id iv ie iu
          unfold W3 at *
          go_enter Tryd.func12, Tryd.ntmps12
          go_wp2_with fail
          refine (cright_yes _ _ d _ _ _ _ (by unfold maxLen; omega) ID.out H1.out).mono ?_
          rintro r w1 ⟨rfl, hb⟩
          replace FF := Lib.hid (keepFn hb FF.out)
          replace BA := Lib.hid (BA.out.next hb)
          replace BB := Lib.hid (BB.out.next hb)
          replace BR := Lib.hid (BR.out.next hb)
          replace L := Lib.hid (Sh.below_next L.out hb)
          replace T := Lib.hid (T.out.below hb)
          replace ID := Lib.hid (ID.out.below hb)
          replace IV := Lib.hid (IV.out.below hb)
          replace IE := Lib.hid (IE.out.below hb)
          replace IU := Lib.hid (IU.out.below hb)
          clear hb
          obtain ⟨qBB0, qBB1, -, -⟩ := BB.out.all
          go_wp2_with fail
          refine (cright_yes _ _ e _ _ _ _ (by unfold maxLen; omega) IE.out H2.out).mono ?_
          rintro r w2 ⟨rfl, hb⟩
          clear qBB0 qBB1
          replace FF := Lib.hid (keepFn hb FF.out)
          replace BA := Lib.hid (BA.out.next hb)
          replace BB := Lib.hid (BB.out.next hb)
          replace BR := Lib.hid (BR.out.next hb)
          replace L := Lib.hid (Sh.below_next L.out hb)
          replace T := Lib.hid (T.out.below hb)
          replace ID := Lib.hid (ID.out.below hb)
          replace IV := Lib.hid (IV.out.below hb)
          replace IE := Lib.hid (IE.out.below hb)
          replace IU := Lib.hid (IU.out.below hb)
          clear hb
          obtain ⟨qFF0, qFF1⟩ := FF.out
          go_wp2_with fail
          refine (Sc.has_b c 2 true _ H3.out T.out).mono ?_
          rintro r w3 ⟨rfl, hb⟩
          clear qFF0 qFF1
          replace FF := Lib.hid (keepFn hb FF.out)
          replace BA := Lib.hid (BA.out.next hb)
          replace BB := Lib.hid (BB.out.next hb)
          replace BR := Lib.hid (BR.out.next hb)
          replace L := Lib.hid (Sh.below_next L.out hb)
          replace T := Lib.hid (T.out.below hb)
          replace ID := Lib.hid (ID.out.below hb)
          replace IV := Lib.hid (IV.out.below hb)
          replace IE := Lib.hid (IE.out.below hb)
          replace IU := Lib.hid (IU.out.below hb)
          clear hb
          obtain ⟨qBA0, qBA1, -, -⟩ := BA.out.all
          obtain ⟨qBB0, qBB1, -, -⟩ := BB.out.all
          go_wp2_with fail
          refine (fit_v _ _ d _ _ e _ x [] H4.out H5.out hd he ID.out IE.out).mono ?_
          rintro r w4 ⟨A5, c5, rfl, hi, hb⟩
          clear qBA0 qBA1 qBB0 qBB1
          replace FF := Lib.hid (keepFn hb FF.out)
          replace BA := Lib.hid (BA.out.next hb)
          replace BB := Lib.hid (BB.out.next hb)
          replace BR := Lib.hid (BR.out.next hb)
          replace L := Lib.hid (Sh.below_next L.out hb)
          replace T := Lib.hid (T.out.below hb)
          replace ID := Lib.hid (ID.out.below hb)
          replace IV := Lib.hid (IV.out.below hb)
          replace IE := Lib.hid (IE.out.below hb)
          replace IU := Lib.hid (IU.out.below hb)
          clear hb
          clear hi
          obtain ⟨qBR0, qBR1, fBR0, fBR1⟩ := BR.out.all
          go_wp2
          have T9 := (BR.out.set0 (.slice none 0 0)).set1 (.slice none 0 0)
          obtain ⟨t0, t1, _, _⟩ := T9.all
          refine bodyPost_ret (v := .tuple #[.agg #[.slice none 0 0, .slice none 0 0], .int .i64 x]) (by simp [results, Tryd.results12, go_sem, t0, t1]) rfl ?_
          exact ⟨_, rfl, IsCell.none _ _, (L.out.setCell (by simp; omega) _).setCell (by simp; omega) _⟩
      · have H3 := Lib.hid (show Sc.hasB c 2 = false by simpa using h3)
        obtain ⟨e1, e2, e3⟩ := two_bad3 (s := s) h1 h2 H3.out
        rw [e1, e2, e3]
        have H1 := Lib.hid h1
        have H2 := Lib.hid h2
        clear h1 h2 h3 e1 e2 e3
        obtain ⟨hf0, ba0, bb0, hb0, hs0⟩ := w3_all w c s (.slice A d.length c1) (.slice B v.length c2) (.slice A' e.length c1') (.slice B' u.length c2')
        have hb := below_new (W3 w c s (.slice A d.length c1) (.slice B v.length c2) (.slice A' e.length c1') (.slice B' u.length c2')) (.cells #[.slice none 0 0, .slice none 0 0] 32)
        have br0 := Box.new (W3 w c s (.slice A d.length c1) (.slice B v.length c2) (.slice A' e.length c1') (.slice B' u.length c2')) (.slice none 0 0) (.slice none 0 0)
        rw [hs0] at br0
        have FF := Lib.hid (keepFn hb hf0)
        have BA := Lib.hid (ba0.next hb)
        have BB := Lib.hid (bb0.next hb)
        have BR := Lib.hid (br0)
        have L := Lib.hid (Sh.below_next hb0 hb)
        have T := Lib.hid (hT.below L.out)
        have ID := Lib.hid (id.below L.out)
        have IV := Lib.hid (iv.below L.out)
        have IE := Lib.hid (ie.below L.out)
        have IU := Lib.hid (iu.below L.out)
        clear hb hf0 ba0 bb0 hb0 hs0 br0 hT id iv ie iu
        unfold W3 at *
        go_enter Tryd.func12, Tryd.ntmps12
        go_wp2_with fail
        refine (cright_yes _ _ d _ _ _ _ (by unfold maxLen; omega) ID.out H1.out).mono ?_
        rintro r w1 ⟨rfl, hb⟩
        replace FF := Lib.hid (keepFn hb FF.out)
        replace BA := Lib.hid (BA.out.next hb)
        replace BB := Lib.hid (BB.out.next hb)
        replace BR := Lib.hid (BR.out.next hb)
        replace L := Lib.hid (Sh.below_next L.out hb)
        replace T := Lib.hid (T.out.below hb)
        replace ID := Lib.hid (ID.out.below hb)
        replace IV := Lib.hid (IV.out.below hb)
        replace IE := Lib.hid (IE.out.below hb)
        replace IU := Lib.hid (IU.out.below hb)
        clear hb
        obtain ⟨qBB0, qBB1, -, -⟩ := BB.out.all
        go_wp2_with fail
        refine (cright_yes _ _ e _ _ _ _ (by unfold maxLen; omega) IE.out H2.out).mono ?_
        rintro r w2 ⟨rfl, hb⟩
        clear qBB0 qBB1
        replace FF := Lib.hid (keepFn hb FF.out)
        replace BA := Lib.hid (BA.out.next hb)
        replace BB := Lib.hid (BB.out.next hb)
        replace BR := Lib.hid (BR.out.next hb)
        replace L := Lib.hid (Sh.below_next L.out hb)
        replace T := Lib.hid (T.out.below hb)
        replace ID := Lib.hid (ID.out.below hb)
        replace IV := Lib.hid (IV.out.below hb)
        replace IE := Lib.hid (IE.out.below hb)
        replace IU := Lib.hid (IU.out.below hb)
        clear hb
        obtain ⟨qFF0, qFF1⟩ := FF.out
        go_wp2_with fail
        refine (Sc.has_b c 2 false _ H3.out T.out).mono ?_
        rintro r w3 ⟨rfl, hb⟩
        clear qFF0 qFF1
        replace FF := Lib.hid (keepFn hb FF.out)
        replace BA := Lib.hid (BA.out.next hb)
        replace BB := Lib.hid (BB.out.next hb)
        replace BR := Lib.hid (BR.out.next hb)
        replace L := Lib.hid (Sh.below_next L.out hb)
        replace T := Lib.hid (T.out.below hb)
        replace ID := Lib.hid (ID.out.below hb)
        replace IV := Lib.hid (IV.out.below hb)
        replace IE := Lib.hid (IE.out.below hb)
        replace IU := Lib.hid (IU.out.below hb)
        clear hb
        obtain ⟨qBR0, qBR1, fBR0, fBR1⟩ := BR.out.all
        go_wp2
        have T9 := (BR.out.set0 (.slice none 0 0)).set1 (.slice none 0 0)
        obtain ⟨t0, t1, _, _⟩ := T9.all
        refine bodyPost_ret (v := .tuple #[.agg #[.slice none 0 0, .slice none 0 0], .int .i64 13]) (by simp [results, Tryd.results12, go_sem, t0, t1]) rfl ?_
        exact ⟨_, rfl, IsCell.none _ _, (L.out.setCell (by simp; omega) _).setCell (by simp; omega) _⟩
    · have H2 := Lib.hid (show cellB e u.length = false by simpa using h2)
      obtain ⟨e1, e2, e3⟩ := two_bad2 (c := c) (s := s) (d := d) (v := v) H2.out
      rw [e1, e2, e3]
      have H1 := Lib.hid h1
      clear h1 h2 e1 e2 e3
      obtain ⟨hf0, ba0, bb0, hb0, hs0⟩ := w3_all w c s (.slice A d.length c1) (.slice B v.length c2) (.slice A' e.length c1') (.slice B' u.length c2')
      have hb := below_new (W3 w c s (.slice A d.length c1) (.slice B v.length c2) (.slice A' e.length c1') (.slice B' u.length c2')) (.cells #[.slice none 0 0, .slice none 0 0] 32)
      have br0 := Box.new (W3 w c s (.slice A d.length c1) (.slice B v.length c2) (.slice A' e.length c1') (.slice B' u.length c2')) (.slice none 0 0) (.slice none 0 0)
      rw [hs0] at br0
      have FF := Lib.hid (keepFn hb hf0)
      have BA := Lib.hid (ba0.next hb)
      have BB := Lib.hid (bb0.next hb)
      have BR := Lib.hid (br0)
      have L := Lib.hid (Sh.below_next hb0 hb)
      have T := Lib.hid (hT.below L.out)
      have ID := Lib.hid (id.below L.out)
      have IV := Lib.hid (iv.below L.out)
      have IE := Lib.hid (ie.below L.out)
      have IU := Lib.hid (iu.below L.out)
      clear hb hf0 ba0 bb0 hb0 hs0 br0 hT id iv ie iu
      unfold W3 at *
      go_enter Tryd.func12, Tryd.ntmps12
      go_wp2_with fail
      refine (cright_yes _ _ d _ _ _ _ (by unfold maxLen; omega) ID.out H1.out).mono ?_
      rintro r w1 ⟨rfl, hb⟩
      replace FF := Lib.hid (keepFn hb FF.out)
      replace BA := Lib.hid (BA.out.next hb)
      replace BB := Lib.hid (BB.out.next hb)
      replace BR := Lib.hid (BR.out.next hb)
      replace L := Lib.hid (Sh.below_next L.out hb)
      replace T := Lib.hid (T.out.below hb)
      replace ID := Lib.hid (ID.out.below hb)
      replace IV := Lib.hid (IV.out.below hb)
      replace IE := Lib.hid (IE.out.below hb)
      replace IU := Lib.hid (IU.out.below hb)
      clear hb
      obtain ⟨qBB0, qBB1, -, -⟩ := BB.out.all
      go_wp2_with fail
      refine (cright_no _ _ e _ _ _ _ (by unfold maxLen; omega) IE.out H2.out).mono ?_
      rintro r w2 ⟨rfl, hb⟩
      clear qBB0 qBB1
      replace FF := Lib.hid (keepFn hb FF.out)
      replace BA := Lib.hid (BA.out.next hb)
      replace BB := Lib.hid (BB.out.next hb)
      replace BR := Lib.hid (BR.out.next hb)
      replace L := Lib.hid (Sh.below_next L.out hb)
      replace T := Lib.hid (T.out.below hb)
      replace ID := Lib.hid (ID.out.below hb)
      replace IV := Lib.hid (IV.out.below hb)
      replace IE := Lib.hid (IE.out.below hb)
      replace IU := Lib.hid (IU.out.below hb)
      clear hb
      obtain ⟨qBR0, qBR1, fBR0, fBR1⟩ := BR.out.all
      go_wp2
      have T9 := (BR.out.set0 (.slice none 0 0)).set1 (.slice none 0 0)
      obtain ⟨t0, t1, _, _⟩ := T9.all
      refine bodyPost_ret (v := .tuple #[.agg #[.slice none 0 0, .slice none 0 0], .int .i64 1]) (by simp [results, Tryd.results12, go_sem, t0, t1]) rfl ?_
      exact ⟨_, rfl, IsCell.none _ _, (L.out.setCell (by simp; omega) _).setCell (by simp; omega) _⟩
  · have H1 := Lib.hid (show cellB d v.length = false by simpa using h1)
    obtain ⟨e1, e2, e3⟩ := two_bad1 (c := c) (s := s) (e := e) (u := u) H1.out
    rw [e1, e2, e3]
    clear h1 e1 e2 e3
    obtain ⟨hf0, ba0, bb0, hb0, hs0⟩ := w3_all w c s (.slice A d.length c1) (.slice B v.length c2) (.slice A' e.length c1') (.slice B' u.length c2')
    have hb := below_new (W3 w c s (.slice A d.length c1) (.slice B v.length c2) (.slice A' e.length c1') (.slice B' u.length c2')) (.cells #[.slice none 0 0, .slice none 0 0] 32)
    have br0 := Box.new (W3 w c s (.slice A d.length c1) (.slice B v.length c2) (.slice A' e.length c1') (.slice B' u.length c2')) (.slice none 0 0) (.slice none 0 0)
    rw [hs0] at br0
    have FF := Lib.hid (keepFn hb hf0)
    have BA := Lib.hid (ba0.next hb)
    have BB := Lib.hid (bb0.next hb)
    have BR := Lib.hid (br0)
    have L := Lib.hid (Sh.below_next hb0 hb)
    have T := Lib.hid (hT.below L.out)
    have ID := Lib.hid (id.below L.out)
    have IV := Lib.hid (iv.below L.out)
    have IE := Lib.hid (ie.below L.out)
    have IU := Lib.hid (iu.below L.out)
    clear hb hf0 ba0 bb0 hb0 hs0 br0 hT id iv ie iu
    unfold W3 at *
    go_enter Tryd.func12, Tryd.ntmps12
    go_wp2_with fail
    refine (cright_no _ _ d _ _ _ _ (by unfold maxLen; omega) ID.out H1.out).mono ?_
    rintro r w1 ⟨rfl, hb⟩
    replace FF := Lib.hid (keepFn hb FF.out)
    replace BA := Lib.hid (BA.out.next hb)
    replace BB := Lib.hid (BB.out.next hb)
    replace BR := Lib.hid (BR.out.next hb)
    replace L := Lib.hid (Sh.below_next L.out hb)
    replace T := Lib.hid (T.out.below hb)
    replace ID := Lib.hid (ID.out.below hb)
    replace IV := Lib.hid (IV.out.below hb)
    replace IE := Lib.hid (IE.out.below hb)
    replace IU := Lib.hid (IU.out.below hb)
    clear hb
    obtain ⟨qBR0, qBR1, fBR0, fBR1⟩ := BR.out.all
    go_wp2
    have T9 := (BR.out.set0 (.slice none 0 0)).set1 (.slice none 0 0)
    obtain ⟨t0, t1, _, _⟩ := T9.all
    refine bodyPost_ret (v := .tuple #[.agg #[.slice none 0 0, .slice none 0 0], .int .i64 1]) (by simp [results, Tryd.results12, go_sem, t0, t1]) rfl ?_
    exact ⟨_, rfl, IsCell.none _ _, (L.out.setCell (by simp; omega) _).setCell (by simp; omega) _⟩
end Go.Proofs.YthabimjmdnhomaaDoor.Sp
