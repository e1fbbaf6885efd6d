/-
  What spread.One and the document's One answer for any code and any cell; nothing that was there is written. Conditions: the table of traits holds what its text lays; the numbers have 64 bits; at most 100 axes and 1000 numbers.
-/
import Derived.Test.YthabimjmdnhomaaDoorSpRTwo
import Derived.Test.YthabimjmdnhomaaDoorScOne
namespace Go.Proofs.YthabimjmdnhomaaDoor.Sp
open Go.Proofs.YthabimjmdnhomaaDoor.Sh
open Go.RowKit
set_option linter.unusedVariables false

/-- What One answers. -/
def oneE (c : Int) (d : List Int) (n : Nat) : Int := if cellB d n = true then (if Sc.hasB c 1 = true then 0 else 13) else 1
def oneD (c : Int) (d : List Int) (n : Nat) : List Int := if oneE c d n = 0 then d else []
def oneF (c : Int) (v : List Int) (i : Nat) : Int := Sc.oneI c (v.getD i 0)
def oneV (c : Int) (d v : List Int) : List Int := if oneE c d v.length = 0 then (List.range v.length).map (oneF c v) else []
section
variable {c : Int} {d v : List Int}
theorem one_bad1 (h : cellB d v.length = false) : oneE c d v.length = 1 ∧ oneD c d v.length = [] ∧ oneV c d v = [] := by simp [oneD, oneV, oneE, h]
theorem one_bad2 (h1 : cellB d v.length = true) (h : Sc.hasB c 1 = false) : oneE c d v.length = 13 ∧ oneD c d v.length = [] ∧ oneV c d v = [] := by simp [oneD, oneV, oneE, h, h1]
theorem one_good (h1 : cellB d v.length = true) (h : Sc.hasB c 1 = true) : oneE c d v.length = 0 ∧ oneD c d v.length = d ∧ oneV c d v = (List.range v.length).map (oneF c v) := by simp [oneD, oneV, oneE, h, h1]
end
theorem getD_R {v : List Int} (h : AllR v) (i : Nat) : Sc.InR (v.getD i 0) := by
  rcases Nat.lt_or_ge i v.length with hk | hk
  · have : v.getD i 0 = v[i] := by simp [List.getD, hk]
    rw [this]; exact h _ (List.getElem_mem hk)
  · have : v.getD i 0 = 0 := by simp [List.getD, hk]
    rw [this]; unfold Sc.InR; omega
theorem one_b (c a x : Int) (w : World) (hx : Sc.oneI c a = x) (hT : Sc.Tab w) (ha : Sc.InR a) : Calls Tryd.prog 33 #[.int .i64 c, .int .i64 a] w fun e w' => ∃ t, e = .returned (.tuple #[.int .i64 x, .bool t]) ∧ Below w.heap.size w w' :=
  (Sc.one_any c a w hT ha).mono fun _ _ ⟨h1, h2⟩ => ⟨Sc.hasB c 1, by rw [h1, hx], h2⟩
theorem rone_b (c a x : Int) (w : World) (hx : Sc.oneI c a = x) (ha : Sc.InR a) : Calls Tryd.prog 34 #[.int .i64 c, .int .i64 a] w fun e w' => ∃ t, e = .returned (.tuple #[.int .i64 x, .bool t]) ∧ Below w.heap.size w w' :=
  (Sc.rone_any c a w ha).mono fun _ _ ⟨h1, h2⟩ => ⟨Sc.hasB c 1, by rw [h1, hx], h2⟩
theorem keep3 {W w1 : World} {p1 p2 p3 : Addr} {x1 x2 x3 : Value} (hb : Below W.heap.size W w1) (h : W.cell? p1 = some x1 ∧ W.cell? p2 = some x2 ∧ W.cell? p3 = some x3) :
    w1.cell? p1 = some x1 ∧ w1.cell? p2 = some x2 ∧ w1.cell? p3 = some x3 :=
  have k : ∀ {p : Addr} {x : Value}, W.cell? p = some x → w1.cell? p = some x := fun {p x} hp => (hb.cell (World.block_lt_of_cell? W p hp)).trans hp
  ⟨k h.1, k h.2.1, k h.2.2⟩
set_option maxHeartbeats 2000000 in
theorem one1_any (c : Int) (gf ga : Nat) (A : Option Addr) (n c1 : Nat) (B : Option Addr) (c2 : Nat) (v : List Int) (i : Nat) (x : Int) (w : World)
    (hx : Sc.oneI c (v.getD i 0) = x) (hT : Sc.Tab w) (hf0 : w.cell? ⟨gf, 0, none⟩ = some (.int .i64 c)) (ba : Box w ga (.slice A n c1) (.slice B v.length c2)) (iv : Ints w B v) (hi : i < v.length) (hv : v.length ≤ 1000) (rv : AllR v) :
    Calls Tryd.prog 32 #[.int .i64 (i : Int), .pointer (some ⟨gf, 0, none⟩), .pointer (some ⟨ga, 0, none⟩)] w fun r w' => r = .returned (.int .i64 x) ∧ Below w.heap.size w w' := by
  obtain ⟨b, off, rfl, hb, hcs⟩ := iv (by omega)
  have hci := hcs i hi
  have yR := Lib.hid (getD_R rv i)
  have HX := Lib.hid hx
  have a1 := ba.c1
  have T0 : Sc.Tab w.drew := hT.below ((Below.refl _ w).drew)
  have L0 := Lib.hid ((Below.refl w.heap.size w).drew)
  have i0 : (0 : Int) ≤ (i : Int) := by omega
  have i1 : (i : Int) < (v.length : Int) := by omega
  clear hx hT ba iv rv hcs
  generalize v.getD i 0 = y at *
  go_enter Tryd.func32, Tryd.ntmps32
  go_wp2_with fail
  go_region_held3 (fun w' => w'.cell? ⟨gf, 0, none⟩ = some (.int .i64 c) ∧ w'.cell? ⟨ga, 1, none⟩ = some (.slice (some ⟨b, off, none⟩) v.length c2) ∧ w'.cell? ⟨b, off + i, none⟩ = some (.int .i64 y))
    (first
      | go_keep
      | exact ⟨hf0, a1, hci⟩
      | exact keep3 hb1 (by go_keep))
    (first
      | (go_at_call 33; (with_reducible refine (one_b c y x w.drew HX.out T0 yR.out).mono ?_); rintro r w1 ⟨t, rfl, hb1⟩; have M1 := Lib.hid (Sh.below_next L0.out hb1)))
  go_wp2
  go_ret
  exact ⟨rfl, by first | exact M1.out | exact M1.out.drew | exact below_drewN M1.out _⟩
/-- The box of a number. -/
theorem int_new (w : World) (x : Value) : (w.alloc (.cells #[x] 3)).cell? ⟨w.heap.size, 0, none⟩ = some x := by rw [World.cell?_alloc_at _ _ _ _ (by simp)]; rfl
theorem keepI {W w1 : World} {g : Nat} {x : Value} (hb : Below W.heap.size W w1) (h : W.cell? ⟨g, 0, none⟩ = some x) : w1.cell? ⟨g, 0, none⟩ = some x :=
  (hb.cell (p := ⟨g, 0, none⟩) (World.block_lt_of_cell? W ⟨g, 0, none⟩ h)).trans h

set_option maxHeartbeats 4000000 in
theorem one_any (c : Int) (A : Option Addr) (c1 : Nat) (d : List Int) (B : Option Addr) (c2 : Nat) (v : List Int) (w : World) (hT : Sc.Tab w) (id : Ints w A d) (iv : Ints w B v) (hd : d.length ≤ 100) (hv : v.length ≤ 1000) (rv : AllR v) :
    Calls Tryd.prog 15 #[.int .i64 c, .agg #[.slice A d.length c1, .slice B v.length c2]] w (RetC w (oneD c d v.length) (oneV c d v) (.int .i64 (oneE c d v.length))) := by
  have RV := Lib.hid rv
  clear rv
  by_cases h1 : cellB d v.length = true
  · by_cases h2 : Sc.hasB c 1 = true
    · obtain ⟨e1, e2, e3⟩ := one_good h1 h2
      rw [e1, e2, e3]
      have H3 := Lib.hid (cellB_parts h1).1
      have H4 := Lib.hid (cellB_parts h1).2.symm
      have H1 := Lib.hid h1
      have H2 := Lib.hid h2
      clear h1 h2 e1 e2 e3
      have b1 := below_new w (.cells #[.int .i64 c] 3)
      have b2 := below_new (w.alloc (.cells #[.int .i64 c] 3)) (.cells #[.slice A d.length c1, .slice B v.length c2] 32)
      have b3 := below_new ((w.alloc (.cells #[.int .i64 c] 3)).alloc (.cells #[.slice A d.length c1, .slice B v.length c2] 32)) (.cells #[.slice none 0 0, .slice none 0 0] 32)
      have ba0 := (Box.new (w.alloc (.cells #[.int .i64 c] 3)) (.slice A d.length c1) (.slice B v.length c2)).next b3
      have br0 := Box.new ((w.alloc (.cells #[.int .i64 c] 3)).alloc (.cells #[.slice A d.length c1, .slice B v.length c2] 32)) (.slice none 0 0) (.slice none 0 0)
      rw [show (w.alloc (.cells #[.int .i64 c] 3)).heap.size = w.heap.size + 1 from by simp] at ba0
      rw [show ((w.alloc (.cells #[.int .i64 c] 3)).alloc (.cells #[.slice A d.length c1, .slice B v.length c2] 32)).heap.size = w.heap.size + 1 + 1 from by simp] at br0
      have FI := Lib.hid (keepI b3 (keepI b2 (int_new w (.int .i64 c))))
      have BA := Lib.hid (ba0)
      have BR := Lib.hid (br0)
      have L := Lib.hid (Sh.below_next b1 (Sh.below_next b2 b3))
      have T := Lib.hid (hT.below L.out)
      have ID := Lib.hid (id.below L.out)
      have IV := Lib.hid (iv.below L.out)
      clear b1 b2 b3 ba0 br0 hT id iv
      go_enter Tryd.func15, Tryd.ntmps15
      go_wp2_with fail
      refine (cright_yes _ _ d _ _ _ _ (by unfold maxLen; omega) ID.out H1.out).mono ?_
      rintro r w1 ⟨rfl, hb⟩
      replace FI := Lib.hid (keepI hb FI.out)
      replace BA := Lib.hid (BA.out.next hb)
      replace BR := Lib.hid (BR.out.next hb)
      replace L := Lib.hid (Sh.below_next L.out hb)
      replace T := Lib.hid (T.out.below hb)
      replace ID := Lib.hid (ID.out.below hb)
      replace IV := Lib.hid (IV.out.below hb)
      clear hb
      have qf := FI.out
      go_wp2_with fail
      refine (Sc.has_b c 1 true _ H2.out T.out).mono ?_
      rintro r w2 ⟨rfl, hb⟩
      clear qf
      replace FI := Lib.hid (keepI hb FI.out)
      replace BA := Lib.hid (BA.out.next hb)
      replace BR := Lib.hid (BR.out.next hb)
      replace L := Lib.hid (Sh.below_next L.out hb)
      replace T := Lib.hid (T.out.below hb)
      replace ID := Lib.hid (ID.out.below hb)
      replace IV := Lib.hid (IV.out.below hb)
      clear hb
      obtain ⟨qBA0, qBA1, -, -⟩ := BA.out.all
      have HG := Lib.hid BR.out.lt
      have HL := Lib.hid L.out.size
      go_wp2_with fail
      refine (made_one (.pointer (some ⟨w.heap.size, 0, none⟩)) (.pointer (some ⟨w.heap.size + 1, 0, none⟩)) _ _ d (oneF c v) v.length _ hd ID.out H3.out H4.out (fun i hi W hW => one1_any c _ _ A d.length c1 B c2 v i _ W rfl (T.out.below hW) (keepI hW FI.out) (BA.out.next hW) (IV.out.below hW) hi hv RV.out)).mono ?_
      rintro r w3 ⟨x, rfl, ⟨A6, c6, B6, e6, rfl, j1, j2, j3⟩, hb⟩
      clear qBA0 qBA1
      replace FI := Lib.hid (keepI hb FI.out)
      replace BA := Lib.hid (BA.out.next hb)
      replace BR := Lib.hid (BR.out.next hb)
      replace L := Lib.hid (Sh.below_next L.out hb)
      replace T := Lib.hid (T.out.below hb)
      replace ID := Lib.hid (ID.out.below hb)
      replace IV := Lib.hid (IV.out.below hb)
      clear hb
      have J := Lib.hid (show IsCell w3 w2.heap.size d ((List.range v.length).map (oneF c v)) (.agg #[.slice A6 d.length c6, .slice B6 ((List.range v.length).map (oneF c v)).length e6]) from ⟨A6, c6, B6, e6, rfl, j1, j2, j3⟩)
      clear j1 j2 j3
      generalize (List.range v.length).map (oneF c v) = V at *
      obtain ⟨qBR0, qBR1, fBR0, fBR1⟩ := BR.out.all
      go_wp2
      have T9 := (BR.out.set0 (.slice A6 d.length c6)).set1 (.slice B6 V.length e6)
      obtain ⟨t0, t1, _, _⟩ := T9.all
      refine bodyPost_ret (v := .tuple #[.agg #[.slice A6 d.length c6, .slice B6 V.length e6], .int .i64 0]) (by simp [results, Tryd.results15, go_sem, t0, t1]) rfl ?_
      exact ⟨_, rfl, (J.out.set2 HG.out _ _).mono HL.out, (L.out.setCell (by simp; try omega) _).setCell (by simp; try omega) _⟩
    · have H2 := Lib.hid (show Sc.hasB c 1 = false by simpa using h2)
      obtain ⟨e1, e2, e3⟩ := one_bad2 h1 H2.out
      rw [e1, e2, e3]
      have H1 := Lib.hid h1
      clear h1 h2 e1 e2 e3
      have b1 := below_new w (.cells #[.int .i64 c] 3)
      have b2 := below_new (w.alloc (.cells #[.int .i64 c] 3)) (.cells #[.slice A d.length c1, .slice B v.length c2] 32)
      have b3 := below_new ((w.alloc (.cells #[.int .i64 c] 3)).alloc (.cells #[.slice A d.length c1, .slice B v.length c2] 32)) (.cells #[.slice none 0 0, .slice none 0 0] 32)
      have ba0 := (Box.new (w.alloc (.cells #[.int .i64 c] 3)) (.slice A d.length c1) (.slice B v.length c2)).next b3
      have br0 := Box.new ((w.alloc (.cells #[.int .i64 c] 3)).alloc (.cells #[.slice A d.length c1, .slice B v.length c2] 32)) (.slice none 0 0) (.slice none 0 0)
      rw [show (w.alloc (.cells #[.int .i64 c] 3)).heap.size = w.heap.size + 1 from by simp] at ba0
      rw [show ((w.alloc (.cells #[.int .i64 c] 3)).alloc (.cells #[.slice A d.length c1, .slice B v.length c2] 32)).heap.size = w.heap.size + 1 + 1 from by simp] at br0
      have FI := Lib.hid (keepI b3 (keepI b2 (int_new w (.int .i64 c))))
      have BA := Lib.hid (ba0)
      have BR := Lib.hid (br0)
      have L := Lib.hid (Sh.below_next b1 (Sh.below_next b2 b3))
      have T := Lib.hid (hT.below L.out)
      have ID := Lib.hid (id.below L.out)
      have IV := Lib.hid (iv.below L.out)
      clear b1 b2 b3 ba0 br0 hT id iv
      go_enter Tryd.func15, Tryd.ntmps15
      go_wp2_with fail
      refine (cright_yes _ _ d _ _ _ _ (by unfold maxLen; omega) ID.out H1.out).mono ?_
      rintro r w1 ⟨rfl, hb⟩
      replace FI := Lib.hid (keepI hb FI.out)
      replace BA := Lib.hid (BA.out.next hb)
      replace BR := Lib.hid (BR.out.next hb)
      replace L := Lib.hid (Sh.below_next L.out hb)
      replace T := Lib.hid (T.out.below hb)
      replace ID := Lib.hid (ID.out.below hb)
      replace IV := Lib.hid (IV.out.below hb)
      clear hb
      have qf := FI.out
      go_wp2_with fail
      refine (Sc.has_b c 1 false _ H2.out T.out).mono ?_
      rintro r w2 ⟨rfl, hb⟩
      clear qf
      replace FI := Lib.hid (keepI hb FI.out)
      replace BA := Lib.hid (BA.out.next hb)
      replace BR := Lib.hid (BR.out.next hb)
      replace L := Lib.hid (Sh.below_next L.out hb)
      replace T := Lib.hid (T.out.below hb)
      replace ID := Lib.hid (ID.out.below hb)
      replace IV := Lib.hid (IV.out.below hb)
      clear hb
      obtain ⟨qBR0, qBR1, fBR0, fBR1⟩ := BR.out.all
      go_wp2
      have T9 := (BR.out.set0 (.slice none 0 0)).set1 (.slice none 0 0)
      obtain ⟨t0, t1, _, _⟩ := T9.all
      refine bodyPost_ret (v := .tuple #[.agg #[.slice none 0 0, .slice none 0 0], .int .i64 13]) (by simp [results, Tryd.results15, go_sem, t0, t1]) rfl ?_
      exact ⟨_, rfl, IsCell.none _ _, (L.out.setCell (by simp; try omega) _).setCell (by simp; try omega) _⟩
  · have H1 := Lib.hid (show cellB d v.length = false by simpa using h1)
    obtain ⟨e1, e2, e3⟩ := one_bad1 (c := c) H1.out
    rw [e1, e2, e3]
    clear h1 e1 e2 e3
    have b1 := below_new w (.cells #[.int .i64 c] 3)
    have b2 := below_new (w.alloc (.cells #[.int .i64 c] 3)) (.cells #[.slice A d.length c1, .slice B v.length c2] 32)
    have b3 := below_new ((w.alloc (.cells #[.int .i64 c] 3)).alloc (.cells #[.slice A d.length c1, .slice B v.length c2] 32)) (.cells #[.slice none 0 0, .slice none 0 0] 32)
    have ba0 := (Box.new (w.alloc (.cells #[.int .i64 c] 3)) (.slice A d.length c1) (.slice B v.length c2)).next b3
    have br0 := Box.new ((w.alloc (.cells #[.int .i64 c] 3)).alloc (.cells #[.slice A d.length c1, .slice B v.length c2] 32)) (.slice none 0 0) (.slice none 0 0)
    rw [show (w.alloc (.cells #[.int .i64 c] 3)).heap.size = w.heap.size + 1 from by simp] at ba0
    rw [show ((w.alloc (.cells #[.int .i64 c] 3)).alloc (.cells #[.slice A d.length c1, .slice B v.length c2] 32)).heap.size = w.heap.size + 1 + 1 from by simp] at br0
    have FI := Lib.hid (keepI b3 (keepI b2 (int_new w (.int .i64 c))))
    have BA := Lib.hid (ba0)
    have BR := Lib.hid (br0)
    have L := Lib.hid (Sh.below_next b1 (Sh.below_next b2 b3))
    have T := Lib.hid (hT.below L.out)
    have ID := Lib.hid (id.below L.out)
    have IV := Lib.hid (iv.below L.out)
    clear b1 b2 b3 ba0 br0 hT id iv
    go_enter Tryd.func15, Tryd.ntmps15
    go_wp2_with fail
    refine (cright_no _ _ d _ _ _ _ (by unfold maxLen; omega) ID.out H1.out).mono ?_
    rintro r w1 ⟨rfl, hb⟩
    replace FI := Lib.hid (keepI hb FI.out)
    replace BA := Lib.hid (BA.out.next hb)
    replace BR := Lib.hid (BR.out.next hb)
    replace L := Lib.hid (Sh.below_next L.out hb)
    replace T := Lib.hid (T.out.below hb)
    replace ID := Lib.hid (ID.out.below hb)
    replace IV := Lib.hid (IV.out.below hb)
    clear hb
    obtain ⟨qBR0, qBR1, fBR0, fBR1⟩ := BR.out.all
    go_wp2
    have T9 := (BR.out.set0 (.slice none 0 0)).set1 (.slice none 0 0)
    obtain ⟨t0, t1, _, _⟩ := T9.all
    refine bodyPost_ret (v := .tuple #[.agg #[.slice none 0 0, .slice none 0 0], .int .i64 1]) (by simp [results, Tryd.results15, go_sem, t0, t1]) rfl ?_
    exact ⟨_, rfl, IsCell.none _ _, (L.out.setCell (by simp; try omega) _).setCell (by simp; try omega) _⟩

set_option maxHeartbeats 4000000 in
theorem rone_any (c : Int) (A : Option Addr) (c1 : Nat) (d : List Int) (B : Option Addr) (c2 : Nat) (v : List Int) (w : World) (id : Ints w A d) (iv : Ints w B v) (hd : d.length ≤ 100) (hv : v.length ≤ 1000) (rv : AllR v) :
    Calls Tryd.prog 16 #[.int .i64 c, .agg #[.slice A d.length c1, .slice B v.length c2]] w (RetC w (oneD c d v.length) (oneV c d v) (.int .i64 (oneE c d v.length))) := by
  have RV := Lib.hid rv
  clear rv
  by_cases h1 : cellB d v.length = true
  · by_cases h2 : Sc.hasB c 1 = true
    · obtain ⟨e1, e2, e3⟩ := one_good h1 h2
      rw [e1, e2, e3]
      have H1 := Lib.hid h1
      have H2 := Lib.hid h2
      clear h1 h2 e1 e2 e3
      have b2 := below_new w (.cells #[.slice A d.length c1, .slice B v.length c2] 32)
      have b3 := below_new (w.alloc (.cells #[.slice A d.length c1, .slice B v.length c2] 32)) (.cells #[.slice none 0 0, .slice none 0 0] 32)
      have ba0 := (Box.new w (.slice A d.length c1) (.slice B v.length c2)).next b3
      have br0 := Box.new (w.alloc (.cells #[.slice A d.length c1, .slice B v.length c2] 32)) (.slice none 0 0) (.slice none 0 0)
      rw [show (w.alloc (.cells #[.slice A d.length c1, .slice B v.length c2] 32)).heap.size = w.heap.size + 1 from by simp] at br0
      have BA := Lib.hid (ba0)
      have BR := Lib.hid (br0)
      have L := Lib.hid (Sh.below_next b2 b3)
      have ID := Lib.hid (id.below L.out)
      have IV := Lib.hid iv
      clear b2 b3 ba0 br0 id iv
      go_enter Tryd.func16, Tryd.ntmps16
      go_wp2_with fail
      refine (rright_yes _ _ d _ _ _ _ (by unfold maxLen; omega) ID.out H1.out).mono ?_
      rintro r w1 ⟨rfl, hb⟩
      replace BA := Lib.hid (BA.out.next hb)
      replace BR := Lib.hid (BR.out.next hb)
      replace L := Lib.hid (Sh.below_next L.out hb)
      replace ID := Lib.hid (ID.out.below hb)
      clear hb
      go_wp2_with fail
      refine (rhasB c 1 true _ H2.out).mono ?_
      rintro r w2 ⟨rfl, hb⟩
      replace BA := Lib.hid (BA.out.next hb)
      replace BR := Lib.hid (BR.out.next hb)
      replace L := Lib.hid (Sh.below_next L.out hb)
      replace ID := Lib.hid (ID.out.below hb)
      clear hb
      obtain ⟨qBA0, qBA1, -, -⟩ := BA.out.all
      have hgT := BR.out.lt
      have hgL := L.out.size
      have BA2 := Lib.hid (BA.out.alloc (.cells #[] 3))
      obtain ⟨z0, z1, -, -⟩ := BA2.out.all
      go_wp2_with (at_builtin; refine wpList_copyI numI Tryd.underlying22 rfl (.tmp 18) (.tmp 20) rfl rfl _ _ d rfl ID.out (by omega) ?_; intro A6 c6 w5 hm6 hb)
      clear z0 z1 BA2
      clear qBA0 qBA1
      replace BA := Lib.hid (BA.out.next hb)
      replace BR := Lib.hid (BR.out.next hb)
      replace L := Lib.hid (Sh.below_next L.out hb)
      replace ID := Lib.hid (ID.out.below hb)
      have M6 := Lib.hid hm6
      have hg25 := Lib.hid hb.size
      clear hm6 hb
      have hg5 := BR.out.lt
      have KB := Lib.hid (show Below w5.heap.size w5 (w5.alloc (.cells #[.slice A6 d.length c6, .slice none 0 0] 32)) from below_new _ _)
      have O0 := Lib.hid (OutSt.new w5 (.slice A6 d.length c6))
      have BX := Lib.hid O0.out.box
      have hgo6 := O0.out.2.2.2
      replace BA := Lib.hid (BA.out.next KB.out)
      replace BR := Lib.hid (BR.out.next KB.out)
      replace L := Lib.hid (Sh.below_next L.out KB.out)
      replace ID := Lib.hid (ID.out.below KB.out)
      replace M6 := Lib.hid (M6.out.below KB.out (Nat.le_refl _))
      clear KB
      go_wp2
      generalize hw6 : w5.alloc (.cells #[.slice A6 d.length c6, .slice none 0 0] 32) = w6 at *
      clear hw6
      have hge : w2.heap.size ≤ w5.heap.size := hg25.out
      generalize w5.heap.size = go at *
      go_loopw [7] (fun j wr => ∃ (k : Nat) (V : Value), k ≤ v.length ∧ j = .int .i64 (k : Int) ∧ OutSt w6 wr go (.slice A6 d.length c6) V ((List.range k).map (oneF c v))) (fun j _ => v.length - (intOf j).toNat)
      case atStart => exact ⟨0, _, Nat.zero_le _, rfl, O0.out⟩
      case round =>
        obtain ⟨k, V, hk, rfl, hO⟩ := hrel
        have O := Lib.hid hO
        have LB := Lib.hid (below_turned L.out hO.1 (by omega))
        have BRk := Lib.hid (BR.out.grown hO.1 (fun e => by injection e with e; omega))
        obtain ⟨q2, q3, -, -⟩ := (BA.out.grown hO.1 (fun e => by injection e with e; omega)).all
        by_cases hlt : k < v.length
        · obtain ⟨bv, ov, rfl, hbv, hcv⟩ := IV.out.below LB.out (by omega)
          have hvk := hcv k hlt
          have yR := Lib.hid (getD_R RV.out k)
          have HX := Lib.hid (show Sc.oneI c (v.getD k 0) = oneF c v k from rfl)
          have k0 : (0 : Int) ≤ (k : Int) := by omega
          have k1 : (k : Int) < (v.length : Int) := by omega
          have LQ := Lib.hid (show ((List.range k).map (oneF c v)).length = k by simp)
          clear hO hcv
          generalize hyv : v.getD k 0 = y at *
          generalize hfk : oneF c v k = x at *
          have HFK := Lib.hid hfk
          clear hfk hyv
          go_wp2_with fail
          refine (rone_b c y x _ HX.out yR.out).mono ?_
          rintro r w7 ⟨t, rfl, hb⟩
          have O7 := Lib.hid (O.out.next hb)
          have O8 := Lib.hid (O7.out.alloc (.cells #[.int .i64 x] 2))
          have X8 := Lib.hid (one_new w7 x)
          have c7 := O7.out.box.c1
          clear hb q2 q3
          go_wp2_with (at_builtin; refine wpList_appI numL Tryd.underlying30 rfl (.tmp 41) (.tmp 43) rfl w6.heap.size V ((List.range k).map (oneF c v)) (by rfl) O8.out.mine (some ⟨w7.heap.size, 0, none⟩) 1 [x] rfl X8.out (by rw [LQ.out]; simp; omega) O8.out.size ?_; intro V' w8 hm8 hg8 ha8; obtain ⟨A8, c8, rfl, -⟩ := hm8.ints; obtain ⟨y0', y1', y2', y3'⟩ := (O8.out.mid hg8).all)
          go_roundw
          case rel => exact ⟨k + 1, _, by omega, by go_num, by rw [map_range_succ, HFK.out]; have hm9 := hm8; rw [List.length_append, LQ.out] at hm9; exact O8.out.app hm9 hg8⟩
          case measure => simp [intOf]; omega
        · obtain rfl : k = v.length := by omega
          clear hO
          obtain ⟨AV, cV, rfl, -⟩ := O.out.mine.ints
          obtain ⟨x0, x1, -, -⟩ := O.out.box.all
          obtain ⟨y0, y1, y2, y3⟩ := BRk.out.all
          have JJ := Lib.hid (own_grown M6.out BX.out (by decide) O.out.turn)
          generalize (List.range v.length).map (oneF c v) = VV at *
          go_wp2
          have T9 := (BRk.out.set0 (.slice A6 d.length c6)).set1 (.slice AV VV.length cV)
          obtain ⟨t0, t1, _, _⟩ := T9.all
          refine bodyPost_ret (v := .tuple #[.agg #[.slice A6 d.length c6, .slice AV VV.length cV], .int .i64 0]) (by simp [results, Tryd.results16, go_sem, t0, t1]) rfl ?_
          have hic := isCell_of (base := w.heap.size) (MineT.box (show MineT 3 _ _ _ d from JJ.out) hgT (.slice A6 d.length c6) (.slice AV VV.length cV)) (O.out.mine.box (by omega) (.slice A6 d.length c6) (.slice AV VV.length cV)) hgL (by omega)
          exact ⟨_, rfl, hic, (LB.out.setCell (by simp; try omega) _).setCell (by simp; try omega) _⟩
    · have H2 := Lib.hid (show Sc.hasB c 1 = false by simpa using h2)
      obtain ⟨e1, e2, e3⟩ := one_bad2 h1 H2.out
      rw [e1, e2, e3]
      have H1 := Lib.hid h1
      clear h1 h2 e1 e2 e3
      have b2 := below_new w (.cells #[.slice A d.length c1, .slice B v.length c2] 32)
      have b3 := below_new (w.alloc (.cells #[.slice A d.length c1, .slice B v.length c2] 32)) (.cells #[.slice none 0 0, .slice none 0 0] 32)
      have ba0 := (Box.new w (.slice A d.length c1) (.slice B v.length c2)).next b3
      have br0 := Box.new (w.alloc (.cells #[.slice A d.length c1, .slice B v.length c2] 32)) (.slice none 0 0) (.slice none 0 0)
      rw [show (w.alloc (.cells #[.slice A d.length c1, .slice B v.length c2] 32)).heap.size = w.heap.size + 1 from by simp] at br0
      have BA := Lib.hid (ba0)
      have BR := Lib.hid (br0)
      have L := Lib.hid (Sh.below_next b2 b3)
      have ID := Lib.hid (id.below L.out)
      have IV := Lib.hid iv
      clear b2 b3 ba0 br0 id iv
      go_enter Tryd.func16, Tryd.ntmps16
      go_wp2_with fail
      refine (rright_yes _ _ d _ _ _ _ (by unfold maxLen; omega) ID.out H1.out).mono ?_
      rintro r w1 ⟨rfl, hb⟩
      replace BA := Lib.hid (BA.out.next hb)
      replace BR := Lib.hid (BR.out.next hb)
      replace L := Lib.hid (Sh.below_next L.out hb)
      replace ID := Lib.hid (ID.out.below hb)
      clear hb
      go_wp2_with fail
      refine (rhasB c 1 false _ H2.out).mono ?_
      rintro r w2 ⟨rfl, hb⟩
      replace BA := Lib.hid (BA.out.next hb)
      replace BR := Lib.hid (BR.out.next hb)
      replace L := Lib.hid (Sh.below_next L.out hb)
      replace ID := Lib.hid (ID.out.below hb)
      clear hb
      obtain ⟨qBR0, qBR1, fBR0, fBR1⟩ := BR.out.all
      go_wp2
      have T9 := (BR.out.set0 (.slice none 0 0)).set1 (.slice none 0 0)
      obtain ⟨t0, t1, _, _⟩ := T9.all
      refine bodyPost_ret (v := .tuple #[.agg #[.slice none 0 0, .slice none 0 0], .int .i64 13]) (by simp [results, Tryd.results16, go_sem, t0, t1]) rfl ?_
      exact ⟨_, rfl, IsCell.none _ _, (L.out.setCell (by simp; try omega) _).setCell (by simp; try omega) _⟩
  · have H1 := Lib.hid (show cellB d v.length = false by simpa using h1)
    obtain ⟨e1, e2, e3⟩ := one_bad1 (c := c) H1.out
    rw [e1, e2, e3]
    clear h1 e1 e2 e3
    have b2 := below_new w (.cells #[.slice A d.length c1, .slice B v.length c2] 32)
    have b3 := below_new (w.alloc (.cells #[.slice A d.length c1, .slice B v.length c2] 32)) (.cells #[.slice none 0 0, .slice none 0 0] 32)
    have ba0 := (Box.new w (.slice A d.length c1) (.slice B v.length c2)).next b3
    have br0 := Box.new (w.alloc (.cells #[.slice A d.length c1, .slice B v.length c2] 32)) (.slice none 0 0) (.slice none 0 0)
    rw [show (w.alloc (.cells #[.slice A d.length c1, .slice B v.length c2] 32)).heap.size = w.heap.size + 1 from by simp] at br0
    have BA := Lib.hid (ba0)
    have BR := Lib.hid (br0)
    have L := Lib.hid (Sh.below_next b2 b3)
    have ID := Lib.hid (id.below L.out)
    have IV := Lib.hid iv
    clear b2 b3 ba0 br0 id iv
    go_enter Tryd.func16, Tryd.ntmps16
    go_wp2_with fail
    refine (rright_no _ _ d _ _ _ _ (by unfold maxLen; omega) ID.out H1.out).mono ?_
    rintro r w1 ⟨rfl, hb⟩
    replace BA := Lib.hid (BA.out.next hb)
    replace BR := Lib.hid (BR.out.next hb)
    replace L := Lib.hid (Sh.below_next L.out hb)
    replace ID := Lib.hid (ID.out.below hb)
    clear hb
    obtain ⟨qBR0, qBR1, fBR0, fBR1⟩ := BR.out.all
    go_wp2
    have T9 := (BR.out.set0 (.slice none 0 0)).set1 (.slice none 0 0)
    obtain ⟨t0, t1, _, _⟩ := T9.all
    refine bodyPost_ret (v := .tuple #[.agg #[.slice none 0 0, .slice none 0 0], .int .i64 1]) (by simp [results, Tryd.results16, go_sem, t0, t1]) rfl ?_
    exact ⟨_, rfl, IsCell.none _ _, (L.out.setCell (by simp; try omega) _).setCell (by simp; try omega) _⟩
end Go.Proofs.YthabimjmdnhomaaDoor.Sp
