/-
  What mold.Count and the document's Count answer for any cell; nothing that was there is written. Condition: at most 100 axes and 1000 numbers.
-/
import Derived.Test.YthabimjmdnhomaaMoTell3
namespace Go.Proofs.Ythabimjmdnhomaa.Sh
open Go.RowKit
set_option linter.unusedVariables false

/-- What Count answers. -/
def cnE (d v : List Int) : Int := if cellB d v.length = true then (if v.length = 1 then (if v.getD 0 0 < 0 then 5 else if 64 < v.getD 0 0 then 4 else 0) else 2) else 1
def cnD (d v : List Int) : List Int := if cnE d v = 0 then [v.getD 0 0] else []
def idN (i : Nat) : Int := (i : Int)
def cnV (d v : List Int) : List Int := if cnE d v = 0 then (List.range (v.getD 0 0).toNat).map idN else []
section
variable {d v : List Int}
theorem cn_1 (h : cellB d v.length = false) : cnE d v = 1 ∧ cnD d v = [] ∧ cnV d v = [] := by simp [cnD, cnV, cnE, h]
theorem cn_2 (h1 : cellB d v.length = true) (h : ¬ v.length = 1) : cnE d v = 2 ∧ cnD d v = [] ∧ cnV d v = [] := by simp [cnD, cnV, cnE, h1, h]
theorem cn_3 (h1 : cellB d v.length = true) (h2 : v.length = 1) (h : v.getD 0 0 < 0) : cnE d v = 5 ∧ cnD d v = [] ∧ cnV d v = [] := by
  have hE : cnE d v = 5 := by unfold cnE; rw [if_pos h1, if_pos h2, if_pos h]
  exact ⟨hE, by unfold cnD; rw [hE]; rfl, by unfold cnV; rw [hE]; rfl⟩
theorem cn_4 (h1 : cellB d v.length = true) (h2 : v.length = 1) (h3 : ¬ v.getD 0 0 < 0) (h : 64 < v.getD 0 0) : cnE d v = 4 ∧ cnD d v = [] ∧ cnV d v = [] := by
  have hE : cnE d v = 4 := by unfold cnE; rw [if_pos h1, if_pos h2, if_neg h3, if_pos h]
  exact ⟨hE, by unfold cnD; rw [hE]; rfl, by unfold cnV; rw [hE]; rfl⟩
theorem cn_5 (h1 : cellB d v.length = true) (h2 : v.length = 1) (h3 : ¬ v.getD 0 0 < 0) (h : ¬ 64 < v.getD 0 0) {n : Nat} (hn : v.getD 0 0 = n) : cnE d v = 0 ∧ cnD d v = [(n : Int)] ∧ cnV d v = (List.range n).map idN := by
  have hE : cnE d v = 0 := by unfold cnE; rw [if_pos h1, if_pos h2, if_neg h3, if_neg h]
  exact ⟨hE, by unfold cnD; rw [if_pos hE, hn], by unfold cnV; rw [if_pos hE, hn, Int.toNat_natCast]⟩
end
theorem below_yesB (n : Int) (w : World) (h : n < 0) : Calls Try.prog 31 #[.int .i64 n] w fun e w' => e = .returned (.bool true) ∧ Below w.heap.size w w' :=
  (below_yes n w h).mono fun _ _ ⟨h1, h2⟩ => ⟨h1, by subst h2; exact Below.refl _ _⟩
theorem below_noB (n : Int) (w : World) (h : 0 ≤ n) : Calls Try.prog 31 #[.int .i64 n] w fun e w' => e = .returned (.bool false) ∧ Below w.heap.size w w' :=
  (below_no n w h).mono fun _ _ ⟨h1, h2⟩ => ⟨h1, by subst h2; exact Below.refl _ _⟩
theorem one_of {v : List Int} (h : v.length = 1) : v = [v.getD 0 0] := by
  match v, h with
  | [x], _ => rfl

set_option maxHeartbeats 4000000 in
theorem count_any (A : Option Addr) (c : Nat) (d : List Int) (B : Option Addr) (c2 : Nat) (v : List Int) (w : World) (id : Ints w A d) (iv : Ints w B v) (hd : d.length ≤ 100) (hv : v.length ≤ 1000) :
    Calls Try.prog 15 #[.agg #[.slice A d.length c, .slice B v.length c2]] w (RetC w (cnD d v) (cnV d v) (.int .i64 (cnE d v))) := by
  by_cases h1 : cellB d v.length = true
  · obtain ⟨hd3, hv64⟩ := cellB_small h1
    have H1 := Lib.hid h1
    by_cases h2 : v.length = 1
    · have h2' : ((v.length : Int) != 1) = false := by simp [h2]
      have hv1 : 0 < v.length := by omega
      have HV := Lib.hid (one_of h2)
      have HV1 := Lib.hid h2
      by_cases h3 : v.getD 0 0 < 0
      · obtain ⟨e1, e2, e3⟩ := cn_3 h1 h2 h3
        rw [e1, e2, e3]
        clear h1 h2 e1 e2 e3
        obtain ⟨ba0, br0, hb0⟩ := w1_all w (.slice A d.length c) (.slice B v.length c2)
        have BA := Lib.hid (ba0)
        have BR := Lib.hid (br0)
        have L := Lib.hid (hb0)
        have ID0 := Lib.hid id
        have IV0 := Lib.hid iv
        have ID := Lib.hid (id.below hb0)
        have IV := Lib.hid (iv.below hb0)
        clear ba0 br0 hb0 id iv
        go_enter Try.func15, Try.ntmps15
        go_wp2_with fail
        refine (cright_yes _ _ d _ _ _ _ (by unfold maxLen; omega) ID.out H1.out).mono ?_
        rintro r w1 ⟨rfl, hb⟩
        replace BA := Lib.hid (BA.out.next hb)
        replace BR := Lib.hid (BR.out.next hb)
        replace L := Lib.hid (below_next L.out hb)
        replace ID := Lib.hid (ID.out.below hb)
        replace IV := Lib.hid (IV.out.below hb)
        clear hb
        obtain ⟨bl, ol, rfl, hbl, hcl⟩ := IV.out (by omega)
        have hc0 := hcl 0 (by omega)
        rw [Nat.add_zero] at hc0
        have hl0I : (0 : Int) < (v.length : Int) := by omega
        clear hcl
        obtain ⟨qBA0, qBA1, -, -⟩ := BA.out.all
        obtain ⟨x, hx⟩ : ∃ x, v.getD 0 0 = x := ⟨_, rfl⟩
        rw [hx] at hc0 h3
        have HX := Lib.hid hx
        clear hx
        go_wp2_with fail
        refine (below_yesB x _ h3).mono ?_
        rintro r w2 ⟨rfl, hb⟩
        clear qBA0 qBA1
        replace BA := Lib.hid (BA.out.next hb)
        replace BR := Lib.hid (BR.out.next hb)
        replace L := Lib.hid (below_next L.out hb)
        replace ID := Lib.hid (ID.out.below hb)
        replace IV := Lib.hid (IV.out.below hb)
        clear hb
        obtain ⟨qBR0, qBR1, fBR0, fBR1⟩ := BR.out.all
        go_wp2
        have T9 := (BR.out.set0 (.slice none 0 0)).set1 (.slice none 0 0)
        obtain ⟨t0, t1, _, _⟩ := T9.all
        refine bodyPost_ret (v := .tuple #[.agg #[.slice none 0 0, .slice none 0 0], .int .i64 5]) (by simp [results, Try.results15, go_sem, t0, t1]) rfl ?_
        exact ⟨_, rfl, IsCell.none _ _, (L.out.setCell (by simp) _).setCell (by simp) _⟩
      · by_cases h4 : 64 < v.getD 0 0
        · obtain ⟨e1, e2, e3⟩ := cn_4 h1 h2 h3 h4
          rw [e1, e2, e3]
          clear h1 h2 e1 e2 e3
          obtain ⟨ba0, br0, hb0⟩ := w1_all w (.slice A d.length c) (.slice B v.length c2)
          have BA := Lib.hid (ba0)
          have BR := Lib.hid (br0)
          have L := Lib.hid (hb0)
          have ID0 := Lib.hid id
          have IV0 := Lib.hid iv
          have ID := Lib.hid (id.below hb0)
          have IV := Lib.hid (iv.below hb0)
          clear ba0 br0 hb0 id iv
          go_enter Try.func15, Try.ntmps15
          go_wp2_with fail
          refine (cright_yes _ _ d _ _ _ _ (by unfold maxLen; omega) ID.out H1.out).mono ?_
          rintro r w1 ⟨rfl, hb⟩
          replace BA := Lib.hid (BA.out.next hb)
          replace BR := Lib.hid (BR.out.next hb)
          replace L := Lib.hid (below_next L.out hb)
          replace ID := Lib.hid (ID.out.below hb)
          replace IV := Lib.hid (IV.out.below hb)
          clear hb
          obtain ⟨bl, ol, rfl, hbl, hcl⟩ := IV.out (by omega)
          have hc0 := hcl 0 (by omega)
          rw [Nat.add_zero] at hc0
          have hl0I : (0 : Int) < (v.length : Int) := by omega
          clear hcl
          obtain ⟨qBA0, qBA1, -, -⟩ := BA.out.all
          obtain ⟨x, hx⟩ : ∃ x, v.getD 0 0 = x := ⟨_, rfl⟩
          rw [hx] at hc0 h3 h4
          have HX := Lib.hid hx
          clear hx
          go_wp2_with fail
          refine (below_noB x _ (by omega)).mono ?_
          rintro r w2 ⟨rfl, hb⟩
          clear qBA0 qBA1
          replace BA := Lib.hid (BA.out.next hb)
          replace BR := Lib.hid (BR.out.next hb)
          replace L := Lib.hid (below_next L.out hb)
          replace ID := Lib.hid (ID.out.below hb)
          replace IV := Lib.hid (IV.out.below hb)
          clear hb
          clear hc0 hbl
          obtain ⟨bl2, ol2, e2, -, hcl⟩ := IV.out (by omega)
          injection e2 with e2
          injection e2 with e21 e22
          subst e21 e22
          have hc0 := hcl 0 (by omega)
          rw [Nat.add_zero, HX.out] at hc0
          clear hcl
          obtain ⟨qBA0, qBA1, fBA0, fBA1⟩ := BA.out.all
          obtain ⟨qBR0, qBR1, fBR0, fBR1⟩ := BR.out.all
          go_wp2
          have T9 := (BR.out.set0 (.slice none 0 0)).set1 (.slice none 0 0)
          obtain ⟨t0, t1, _, _⟩ := T9.all
          refine bodyPost_ret (v := .tuple #[.agg #[.slice none 0 0, .slice none 0 0], .int .i64 4]) (by simp [results, Try.results15, go_sem, t0, t1]) rfl ?_
          exact ⟨_, rfl, IsCell.none _ _, (L.out.setCell (by simp) _).setCell (by simp) _⟩
        · obtain ⟨n, hn⟩ : ∃ n : Nat, v.getD 0 0 = n := ⟨(v.getD 0 0).toNat, by omega⟩
          obtain ⟨e1, e2, e3⟩ := cn_5 h1 h2 h3 h4 hn
          rw [e1, e2, e3]
          have HN := Lib.hid hn
          have hn64 : n ≤ 64 := by omega
          clear h1 h2 h3 h4 e1 e2 e3 hn
          obtain ⟨ba0, br0, hb0⟩ := w1_all w (.slice A d.length c) (.slice B v.length c2)
          have BA := Lib.hid (ba0)
          have BR := Lib.hid (br0)
          have L := Lib.hid (hb0)
          have ID0 := Lib.hid id
          have IV0 := Lib.hid iv
          have ID := Lib.hid (id.below hb0)
          have IV := Lib.hid (iv.below hb0)
          clear ba0 br0 hb0 id iv
          go_enter Try.func15, Try.ntmps15
          go_wp2_with fail
          refine (cright_yes _ _ d _ _ _ _ (by unfold maxLen; omega) ID.out H1.out).mono ?_
          rintro r w1 ⟨rfl, hb⟩
          replace BA := Lib.hid (BA.out.next hb)
          replace BR := Lib.hid (BR.out.next hb)
          replace L := Lib.hid (below_next L.out hb)
          replace ID := Lib.hid (ID.out.below hb)
          replace IV := Lib.hid (IV.out.below hb)
          clear hb
          obtain ⟨bl, ol, rfl, hbl, hcl⟩ := IV.out (by omega)
          have hc0 := hcl 0 (by omega)
          rw [Nat.add_zero] at hc0
          have hl0I : (0 : Int) < (v.length : Int) := by omega
          clear hcl
          obtain ⟨qBA0, qBA1, -, -⟩ := BA.out.all
          rw [HN.out] at hc0
          go_wp2_with fail
          refine (below_noB (n : Int) _ (by omega)).mono ?_
          rintro r w2 ⟨rfl, hb⟩
          clear qBA0 qBA1
          replace BA := Lib.hid (BA.out.next hb)
          replace BR := Lib.hid (BR.out.next hb)
          replace L := Lib.hid (below_next L.out hb)
          replace ID := Lib.hid (ID.out.below hb)
          replace IV := Lib.hid (IV.out.below hb)
          clear hb
          clear hc0 hbl
          obtain ⟨bl2, ol2, e2, -, hcl⟩ := IV.out (by omega)
          injection e2 with e2
          injection e2 with e21 e22
          subst e21 e22
          have hc0 := hcl 0 (by omega)
          rw [Nat.add_zero, HN.out] at hc0
          clear hcl
          obtain ⟨qBA0, qBA1, -, -⟩ := BA.out.all
          go_wp2_with fail
          refine (lengths_any _ _ v _ (by omega) IV.out).mono ?_
          rintro r w3 ⟨A4, c4, rfl, hm, hb⟩
          clear qBA0 qBA1
          replace BA := Lib.hid (BA.out.next hb)
          replace BR := Lib.hid (BR.out.next hb)
          replace L := Lib.hid (below_next L.out hb)
          replace ID := Lib.hid (ID.out.below hb)
          replace IV := Lib.hid (IV.out.below hb)
          clear hb
          have hLL : lensL v = [(n : Int)] := by rw [HV.out, HN.out]; simp [lensL, len65]; omega
          rw [hLL] at hm
          rw [hLL]
          clear hLL hc0
          have M4 := Lib.hid (hm)
          clear hm
          obtain ⟨hr1, hr2⟩ := list_right hn64
          have hzz := fun W iW => zero_m A4 c4 [(n : Int)] W (by simp) iW hr1
          rw [← hr2, Int.toNat_natCast] at hzz
          have HZ := Lib.hid hzz
          clear hzz hr1 hr2
          have HG := Lib.hid BR.out.lt
          have HL := Lib.hid L.out.size
          go_wp2_with fail
          refine (HZ.out _ M4.out.ints').mono ?_
          rintro r w4 ⟨A1, c1, g, rfl, hm1, hr1, hg1, hb⟩
          replace BA := Lib.hid (BA.out.next hb)
          replace BR := Lib.hid (BR.out.next hb)
          replace L := Lib.hid (below_next L.out hb)
          replace ID := Lib.hid (ID.out.below hb)
          replace IV := Lib.hid (IV.out.below hb)
          replace M4 := Lib.hid (M4.out.below hb (Nat.le_refl _))
          clear hb
          have M1 := Lib.hid hm1
          have R1 := Lib.hid (show Row64 w4 g (List.replicate n 0) from hr1)
          have hgl : g < w4.heap.size := R1.out.lt
          clear hm1 hr1 HZ
          have KB := Lib.hid (below_new w4 (.cells #[.slice A1 1 c1, .slice (some ⟨g, 0, none⟩) n n] 25))
          have B4 := Lib.hid (Box.new w4 (.slice A1 1 c1) (.slice (some ⟨g, 0, none⟩) n n))
          have M1' := Lib.hid (M1.out.below KB.out (Nat.le_refl _))
          have R1' := Lib.hid (R1.out.next KB.out)
          replace BA := Lib.hid (BA.out.next KB.out)
          replace BR := Lib.hid (BR.out.next KB.out)
          replace L := Lib.hid (below_next L.out KB.out)
          replace ID := Lib.hid (ID.out.below KB.out)
          replace IV := Lib.hid (IV.out.below KB.out)
          replace M4 := Lib.hid (M4.out.below KB.out (Nat.le_refl _))
          go_wp2
          go_loopw [34] (fun j wr => ∃ k : Nat, k ≤ n ∧ j = .int .i64 (k : Int) ∧ (w4.alloc (.cells #[.slice A1 1 c1, .slice (some ⟨g, 0, none⟩) n n] 25)).grownBy wr (some g) ∧ Row64 wr g (fillK idN n k)) (fun j _ => n - (intOf j).toNat)
          case atStart => exact ⟨0, Nat.zero_le _, rfl, turned_refl _ _, by rw [fillK_0]; exact R1'.out⟩
          case round =>
            obtain ⟨k, hk, rfl, hgr, hrw⟩ := hrel
            have GR := Lib.hid hgr
            have RW := Lib.hid hrw
            have B5 := Lib.hid (B4.out.grown hgr (fun e => by injection e with e; omega))
            have LB := Lib.hid (below_turned L.out hgr (by have := HL.out; omega))
            clear hgr hrw
            obtain ⟨q0, q1, -, -⟩ := B5.out.all
            by_cases hlt : k < n
            · have HS := Lib.hid (show (fillK idN n k).set k (k : Int) = fillK idN n (k + 1) from fillK_succ idN n k hlt)
              have x0 := RW.out.cell (i := k) (by rw [fillK_length]; exact hlt)
              have x1 := RW.out.frozen k
              have i0 : (0 : Int) ≤ (k : Int) := by omega
              have i1 : (k : Int) < (n : Int) := by omega
              go_wp2
              go_roundw
              case rel => exact ⟨k + 1, by omega, by go_num, turned_set GR.out k _, by rw [← HS.out]; exact RW.out.set_ k _⟩
              case measure => simp [intOf]; omega
            · obtain rfl : k = n := by omega
              have BRk := Lib.hid (BR.out.grown GR.out (fun e => by injection e with e; have := HG.out; omega))
              obtain ⟨y0, y1, y2, y3⟩ := BRk.out.all
              have hrn := RW.out
              rw [fillK_n] at hrn
              have RN := Lib.hid hrn
              have HVL := Lib.hid (show ((List.range k).map idN).length = k by simp)
              clear hrn
              go_wp2
              have T9 := (BRk.out.set0 (.slice A1 1 c1)).set1 (.slice (some ⟨g, 0, none⟩) k k)
              obtain ⟨t0, t1, _, _⟩ := T9.all
              refine bodyPost_ret (v := .tuple #[.agg #[.slice A1 1 c1, .slice (some ⟨g, 0, none⟩) k k], .int .i64 0]) (by simp [results, Try.results15, go_sem, t0, t1]) rfl ?_
              have m1 := mine_turned M1'.out R1'.out (by decide) GR.out
              have m2 := mine_block (base := g) RN.out (Nat.le_refl _) (by rw [HVL.out]; unfold maxLen; omega)
              have hic := isCell_of (base := w.heap.size) (d := [(k : Int)]) (m1.box HG.out (.slice A1 1 c1) (.slice (some ⟨g, 0, none⟩) k k)) (m2.box (by have := HG.out; omega) (.slice A1 1 c1) (.slice (some ⟨g, 0, none⟩) k k)) HL.out (by have := HL.out; omega)
              rw [HVL.out] at hic
              exact ⟨_, rfl, hic, (LB.out.setCell (by simp) _).setCell (by simp) _⟩
    · obtain ⟨e1, e2, e3⟩ := cn_2 h1 h2
      rw [e1, e2, e3]
      have h2' : ((v.length : Int) != 1) = true := by simp; omega
      clear h1 h2 e1 e2 e3
      obtain ⟨ba0, br0, hb0⟩ := w1_all w (.slice A d.length c) (.slice B v.length c2)
      have BA := Lib.hid (ba0)
      have BR := Lib.hid (br0)
      have L := Lib.hid (hb0)
      have ID0 := Lib.hid id
      have IV0 := Lib.hid iv
      have ID := Lib.hid (id.below hb0)
      have IV := Lib.hid (iv.below hb0)
      clear ba0 br0 hb0 id iv
      go_enter Try.func15, Try.ntmps15
      go_wp2_with fail
      refine (cright_yes _ _ d _ _ _ _ (by unfold maxLen; omega) ID.out H1.out).mono ?_
      rintro r w1 ⟨rfl, hb⟩
      replace BA := Lib.hid (BA.out.next hb)
      replace BR := Lib.hid (BR.out.next hb)
      replace L := Lib.hid (below_next L.out hb)
      replace ID := Lib.hid (ID.out.below hb)
      replace IV := Lib.hid (IV.out.below hb)
      clear hb
      obtain ⟨qBA0, qBA1, fBA0, fBA1⟩ := BA.out.all
      obtain ⟨qBR0, qBR1, fBR0, fBR1⟩ := BR.out.all
      go_wp2
      have T9 := (BR.out.set0 (.slice none 0 0)).set1 (.slice none 0 0)
      obtain ⟨t0, t1, _, _⟩ := T9.all
      refine bodyPost_ret (v := .tuple #[.agg #[.slice none 0 0, .slice none 0 0], .int .i64 2]) (by simp [results, Try.results15, go_sem, t0, t1]) rfl ?_
      exact ⟨_, rfl, IsCell.none _ _, (L.out.setCell (by simp) _).setCell (by simp) _⟩
  · have H1 := Lib.hid (show cellB d v.length = false by simpa using h1)
    obtain ⟨e1, e2, e3⟩ := cn_1 H1.out
    rw [e1, e2, e3]
    clear h1 e1 e2 e3
    obtain ⟨ba0, br0, hb0⟩ := w1_all w (.slice A d.length c) (.slice B v.length c2)
    have BA := Lib.hid (ba0)
    have BR := Lib.hid (br0)
    have L := Lib.hid (hb0)
    have ID0 := Lib.hid id
    have IV0 := Lib.hid iv
    have ID := Lib.hid (id.below hb0)
    have IV := Lib.hid (iv.below hb0)
    clear ba0 br0 hb0 id iv
    go_enter Try.func15, Try.ntmps15
    go_wp2_with fail
    refine (cright_no _ _ d _ _ _ _ (by unfold maxLen; omega) ID.out H1.out).mono ?_
    rintro r w1 ⟨rfl, hb⟩
    replace BA := Lib.hid (BA.out.next hb)
    replace BR := Lib.hid (BR.out.next hb)
    replace L := Lib.hid (below_next L.out hb)
    replace ID := Lib.hid (ID.out.below hb)
    replace IV := Lib.hid (IV.out.below hb)
    clear hb
    obtain ⟨qBR0, qBR1, fBR0, fBR1⟩ := BR.out.all
    go_wp2
    have T9 := (BR.out.set0 (.slice none 0 0)).set1 (.slice none 0 0)
    obtain ⟨t0, t1, _, _⟩ := T9.all
    refine bodyPost_ret (v := .tuple #[.agg #[.slice none 0 0, .slice none 0 0], .int .i64 1]) (by simp [results, Try.results15, go_sem, t0, t1]) rfl ?_
    exact ⟨_, rfl, IsCell.none _ _, (L.out.setCell (by simp) _).setCell (by simp) _⟩
end Go.Proofs.Ythabimjmdnhomaa.Sh
