/-
  What riffleref03.Item answers for any cell and any number; nothing that was there is written. Condition: at most 100 axes and 1000 numbers.
-/
import Derived.Test.YtknphbkmghflcaaCellItem
import Derived.Test.YtknphbkmghflcaaShapePls3
import Derived.Deep.RegionLaw
namespace Go.Proofs.Ytknphbkmghflcaa.Sh
open Go.RowKit
set_option linter.unusedVariables false

theorem step_appI {t e : TypeId} (hinf : NumT e) (ht : Try.prog.underlying t = some (.slice e)) {w : World} {ops : Array Oper} {o : Oper} {a : Act} {K : Act → World → Prop} {Q : Exit → Act → World → Prop} {E : Prop} (hgd : o.guard = none) (s x : Operand)
    (ho : o.op = .call { callee := .builtin .append, args := #[s, x], argTypes := #[t, t] })
    (base : Nat) (v : Value) (xs : List Int) (hs : a.eval s = v) (hown : MineT e w base v xs) (A : Option Addr) (c : Nat) (ys : List Int) (hx : a.eval x = .slice A ys.length c) (hi : Ints w A ys)
    (hlen : xs.length + ys.length ≤ 100000) (hbase : base ≤ w.heap.size)
    (h : ∀ v' w', MineT e w' base v' (xs ++ ys) → w.grownBy w' v.ownBlock → (v'.ownBlock = v.ownBlock ∨ v'.ownBlock = some w.heap.size) → K (a.put o.dst v') w') :
    if Region.wanted o (yielded ops a.tmps) = true then Oper.wp Try.prog o a w K Q else E := by
  have hw : Region.wanted o (yielded ops a.tmps) = true := by simp [Region.wanted, hgd]
  rw [if_pos hw]
  exact wp_appI hinf ht s x ho base v xs hs hown A c ys hx hi hlen hbase h

/-- The numbers of the i-th piece among the first q. -/
def part (v : List Int) (i s q : Nat) : List Int := ((v.take q).drop (i * s)).take s
theorem part_zero (v : List Int) (i s : Nat) : part v i s 0 = [] := by simp [part]
theorem part_length (v : List Int) (i s q : Nat) : (part v i s q).length ≤ s := by simp [part]; omega
theorem part_in {v : List Int} {i s q : Nat} (h1 : i * s ≤ q) (h2 : q < i * s + s) (hq : q < v.length) : part v i s (q + 1) = part v i s q ++ [v.getD q 0] := by
  unfold part
  have l1 : ((v.take q).drop (i * s)).length ≤ s := by simp; omega
  have l2 : ((v.take q).drop (i * s) ++ [v.getD q 0]).length ≤ s := by simp; omega
  rw [take_snoc v q hq, List.drop_append_of_le_length (by simp; omega), List.take_of_length_le l2, List.take_of_length_le l1]
theorem part_out {v : List Int} {i s q : Nat} (h : q < i * s ∨ i * s + s ≤ q) (hq : q < v.length) : part v i s (q + 1) = part v i s q := by
  unfold part
  rcases h with h | h
  · rw [List.drop_of_length_le (by simp; omega), List.drop_of_length_le (by simp; omega)]
  · rw [take_snoc v q hq, List.drop_append_of_le_length (by simp; omega), List.take_append_of_le_length (by simp; omega)]
theorem part_all (v : List Int) (i s : Nat) : part v i s v.length = piece v i s := by simp [part, piece]
theorem head_is {x s q k : Nat} {t : List Int} (hr : rightB t = true) (hs : sizeI t = s) (hq : q < x * s) : ((dg ((x : Int) :: t) q).getD 0 0 = (k : Int)) ↔ (k * s ≤ q ∧ q < k * s + s) := by
  have hp : prod t = s := by rw [← hs]; simp [sizeI, hr]
  have h0 : 0 < s := by
    rcases Nat.eq_zero_or_pos s with h | h
    · subst h; simp at hq
    · exact h
  have e : (dg ((x : Int) :: t) q).getD 0 0 = ((q / s : Nat) : Int) := by
    show ((q : Int) / prod t) % (x : Int) = _
    rw [hp]
    have h1 : q / s < x := (Nat.div_lt_iff_lt_mul h0).2 hq
    rw [← Int.natCast_ediv, ← Int.natCast_emod, Nat.mod_eq_of_lt h1]
  rw [e]
  constructor
  · intro h
    have h1 : q / s = k := by omega
    have h2 := Nat.div_add_mod q s
    have h3 := Nat.mod_lt q h0
    rw [h1, Nat.mul_comm] at h2
    omega
  · rintro ⟨h1, h2⟩
    have : q / s = k := by
      apply Nat.div_eq_of_lt_le
      · rw [Nat.mul_comm] at h1; rw [Nat.mul_comm]; exact h1
      · rw [Nat.add_mul, Nat.one_mul]; omega
    omega

theorem Outs.view {d : List Int} {w : World} {base : Nat} {v : Value} {n : Nat} (h : Outs d w base v n) :
    ∃ A c, v = .slice A n c ∧ ∀ t, t < n → ∃ b At ct, A = some ⟨b, 0, none⟩ ∧ w.cell? ⟨b, t, none⟩ = some (.slice At d.length ct) ∧ Ints w At (dg d t) := by
  obtain ⟨vs, h1, h2⟩ := h
  have hlen : vs.length = n := by simpa using h1.1
  rcases h1.2 with ⟨rfl, h0⟩ | ⟨g, cap, cur, rfl, _⟩
  · exact ⟨none, 0, by rw [h0], fun t ht => absurd ht (by omega)⟩
  · refine ⟨_, cap, rfl, fun t ht => ?_⟩
    have hc := h1.cellAt t (by omega)
    have hv : vs[t]? = some vs[t] := List.getElem?_eq_getElem (by omega)
    obtain ⟨At, ct, hu, hi⟩ := (h2 t _ hv).ints
    rw [hv, hu, dg_length] at hc
    exact ⟨g, At, ct, rfl, hc, hi⟩
theorem own_grown {w w' : World} {base : Nat} {e : TypeId} {size : Nat} {v : Value} {n : Nat} {xs : List Value} {g : Nat} {x y : Value} (h : w.ownsRow base e size v n xs) (hb : Box w g x y) (hne : e ≠ 25) (hg : w.grownBy w' (some g)) : w'.ownsRow base e size v n xs := by
  have hlt := own_lt h
  refine ⟨h.1, ?_⟩
  rcases h.2 with hn | ⟨g', cap, cur, rfl, hbg, hh, r⟩
  · exact .inl hn
  · refine .inr ⟨g', cap, cur, rfl, hbg, (hg.block g' (hlt g' rfl) (fun e1 => ?_)).trans hh, r⟩
    injection e1 with e1
    subst e1
    unfold Box at hb
    rw [hh] at hb
    injection hb with hb
    injection hb with _ ht
    exact hne ht
theorem Outs.grown {d : List Int} {w w' : World} {base : Nat} {v : Value} {n g : Nat} {x y : Value} (h : Outs d w base v n) (hb : Box w g x y) (hg : w.grownBy w' (some g)) : Outs d w' base v n := by
  obtain ⟨vs, h1, h2⟩ := h
  exact ⟨vs, own_grown h1 hb (by decide) hg, fun t u hu => own_grown (h2 t u hu) hb (by decide) hg⟩
/-- Only block g, and what is new, has turned. -/
theorem turned_drew {a w : World} {row : Option Nat} (h : a.grownBy w row) : a.grownBy w.drew row := ⟨h.os, h.tape, h.output, h.size, h.block⟩
theorem turned_drewN {a w : World} {row : Option Nat} (h : a.grownBy w row) (n : Nat) : a.grownBy (w.drewN n) row := ⟨h.os, h.tape, h.output, h.size, h.block⟩
theorem turned_alloc {a w : World} {row : Option Nat} (h : a.grownBy w row) (o : Obj) : a.grownBy (w.alloc o) row :=
  ⟨h.os, h.tape, h.output, Nat.le_trans h.size (by simp), fun i hi hne => (Below.heap_alloc w o i (Nat.lt_of_lt_of_le hi h.size)).trans (h.block i hi hne)⟩
theorem turned_set {a w : World} {g : Nat} (h : a.grownBy w (some g)) (j : Nat) (u : Value) : a.grownBy (w.setCell ⟨g, j, none⟩ u) (some g) :=
  ⟨h.os, h.tape, h.output, by simpa [World.setCell] using h.size, fun i hi hne => (Below.heap_setCell w ⟨g, j, none⟩ u i (fun e => hne (by rw [e]))).trans (h.block i hi hne)⟩
theorem turned_grown {a w w' : World} {row r2 : Option Nat} (h : a.grownBy w row) (k : w.grownBy w' r2) (hr : ∀ g, r2 = some g → a.heap.size ≤ g) : a.grownBy w' row :=
  ⟨k.os.trans h.os, k.tape.trans h.tape, k.output.trans h.output, Nat.le_trans h.size k.size, fun i hi hne => (k.block i (Nat.lt_of_lt_of_le hi h.size) (fun e => by have := hr i e.symm; omega)).trans (h.block i hi hne)⟩
theorem below_turned {a b c : World} {g : Nat} (h : Below a.heap.size a b) (k : b.grownBy c (some g)) (hg : a.heap.size ≤ g) : Below a.heap.size a c :=
  ⟨k.os.trans h.os, k.tape.trans h.tape, k.output.trans h.output, Nat.le_trans h.size k.size, fun i hi => (k.block i (Nat.lt_of_lt_of_le hi h.size) (fun e => by injection e with e; omega)).trans (h.block i hi)⟩

set_option maxHeartbeats 4000000 in
set_option maxRecDepth 100000 in
theorem ritem_yes2 (A : Option Addr) (c : Nat) (d : List Int) (B : Option Addr) (c2 : Nat) (v : List Int) (i : Int) (w : World) (hcd : d.length ≤ c) (hcm : c ≤ maxLen) (id : Ints w A d) (iv : Ints w B v) (h : itemB d v.length i = true) (hc1 : ¬ c = 1) :
    Calls Try.prog 12 #[.agg #[.slice A d.length c, .slice B v.length c2], .int .i64 i] w (RetC w d.tail (piece v i.toNat (sizeI d.tail).toNat) (.bool true)) := by
  have hcell : cellB d v.length = true := by
    simp only [itemB, Bool.and_eq_true] at h
    exact h.1.1.1
  obtain ⟨x, s, k, t, rfl, hr, hrt, hst, hn, rfl, hk, hks, hn64, hx, hl3⟩ := item_parts h
  have e0 : (((x : Int) :: t).tail) = t := rfl
  rw [e0, hst, Int.toNat_natCast, Int.toNat_natCast]
  have hb2 : Below w.heap.size w ((w.alloc (.cells #[.slice A ((x : Int) :: t).length c, .slice B v.length c2] 25)).alloc (.cells #[.slice none 0 0, .slice none 0 0] 25)) := below_box (below_box (Below.refl _ _))
  have hS0 := (Box.new w (.slice A ((x : Int) :: t).length c) (.slice B v.length c2)).alloc (.cells #[.slice none 0 0, .slice none 0 0] 25)
  have hS1 := Box.new (w.alloc (.cells #[.slice A ((x : Int) :: t).length c, .slice B v.length c2] 25)) (.slice none 0 0) (.slice none 0 0)
  rw [show (w.alloc (.cells #[.slice A ((x : Int) :: t).length c, .slice B v.length c2] 25)).heap.size = w.heap.size + 1 from by simp] at hS1
  have HS0 := Lib.hid hS0
  have HS1 := Lib.hid hS1
  have JD := Lib.hid (id.below hb2)
  have ID := Lib.hid id
  have IV := Lib.hid iv
  have HC := Lib.hid hcell
  have HPL := Lib.hid (piece_length hks)
  have hs64 : s ≤ 64 := by rw [Nat.add_mul, Nat.one_mul] at hks; omega
  have hsz : (sizeI ((x : Int) :: t)).toNat = v.length := by have := (cellB_parts hcell).2; omega
  have HSZ := Lib.hid hsz
  have hhead := fun q (hq : q < x * s) => head_is (k := k) hrt hst hq
  rw [← hn] at hhead
  have HH := Lib.hid hhead
  have htl : t.length + 1 = ((x : Int) :: t).length := rfl
  have hlen : 0 < ((x : Int) :: t).length := by simp
  unfold maxLen at hcm
  clear hS0 hS1 hb2 id iv hcell hst hr hrt h e0 hn hks hsz hhead
  generalize hD : ((x : Int) :: t) = d at *
  have HD := Lib.hid hD
  have htl2 : t.length + 1 ≤ d.length := by omega
  have htl3 : d.length ≤ t.length + 1 := by omega
  have HTL := Lib.hid htl
  clear hD htl
  have hz0 : ((d.length : Int) == 0) = false := by simp; intro e; rw [e] at hlen; simp at hlen
  have hz1 : d.length ≠ 0 := by omega
  go_enter Try.func12, Try.ntmps12
  go_wp2_with fail
  refine (rright_yes _ _ d _ _ _ _ (by unfold maxLen; omega) JD.out HC.out).mono ?_
  rintro r w1 ⟨rfl, hb1⟩
  have S1 := Lib.hid (HS0.out.next hb1)
  have T1 := Lib.hid (HS1.out.next hb1)
  have H1 := Lib.hid (below_box (below_box hb1))
  have I1 := Lib.hid (ID.out.below H1.out)
  obtain ⟨s0, s1, s2, s3⟩ := S1.out.all
  obtain ⟨b, off, rfl, hb, hcs⟩ := I1.out (by omega)
  have hc0 : w1.cell? ⟨b, off, none⟩ = some (.int .i64 (x : Int)) := by have := hcs 0 (by omega); rw [← HD.out] at this; simpa using this
  have It : Hid (Ints w1 (some ⟨b, off + 1, none⟩) t) := Lib.hid (by
    intro hp
    refine ⟨b, off + 1, rfl, hb, fun j hj => ?_⟩
    have := hcs (1 + j) (by omega)
    rw [← HD.out] at this
    rw [Nat.add_assoc, this]
    simp [Nat.add_comm 1 j])
  have hg0 := S1.out.lt
  clear hb1 hcs
  go_wp2_with (at_builtin; refine wpList_copyI numI Try.underlying22 rfl (.tmp 31) (.tmp 34) rfl rfl _ _ t (by rw [show t.length = d.length - 1 from by omega]; rfl) It.out (by omega) ?_; intro A6 c6 w2 hm6 hb2; have S2 := Lib.hid (S1.out.next hb2); have T2 := Lib.hid (T1.out.next hb2); have H2 := Lib.hid (below_next H1.out hb2); have M6 := Lib.hid hm6; have hg2 := S2.out.lt; have s21 := S2.out.c0; have s22 := S2.out.c1; clear hm6 hb2)
  have K6 := Lib.hid (Box.new w2 (.slice A6 t.length c6) (.slice none 0 0))
  have S3 := Lib.hid (S2.out.alloc (.cells #[.slice A6 t.length c6, .slice none 0 0] 25))
  have T3 := Lib.hid (T2.out.alloc (.cells #[.slice A6 t.length c6, .slice none 0 0] 25))
  have H3 := Lib.hid (H2.out.alloc H2.out.size (.cells #[.slice A6 t.length c6, .slice none 0 0] 25))
  have M63 := Lib.hid (M6.out.alloc (.cells #[.slice A6 t.length c6, .slice none 0 0] 25))
  have g01 := T2.out.lt
  have g02 := H1.out.size
  have g03 := M6.out.lt
  generalize w2.alloc (.cells #[.slice A6 t.length c6, .slice none 0 0] 25) = W2 at *
  generalize hg6 : w2.heap.size = g6 at *
  have HG6 := Lib.hid hg6
  have HG03 := Lib.hid g03
  clear hg6 g03 s0 s1 s2 s3 s21 s22 hc0
  refine (places_any _ _ d _ (by omega) (ID.out.below H3.out)).mono ?_
  rintro r w3 ⟨lv, bO, rfl, hout, hb3⟩
  rw [HSZ.out] at hout
  obtain ⟨AO, co, rfl, _⟩ := hout.view
  have OUT := Lib.hid hout
  have K63 := Lib.hid (K6.out.next hb3)
  have S4 := Lib.hid (S3.out.next hb3)
  have T4 := Lib.hid (T3.out.next hb3)
  have H4 := Lib.hid (below_next H3.out hb3)
  have M64 := Lib.hid (M63.out.below hb3 (Nat.le_refl _))
  have h63 := K63.out.lt
  clear hb3 hout
  go_wp2
  go_loopw [8] (fun j wr => ∃ (q : Nat) (V : Value), q ≤ v.length ∧ j = .int .i64 q ∧ w3.grownBy wr (some g6) ∧ Box wr g6 (.slice A6 t.length c6) V ∧ MineT 2 wr w3.heap.size V (part v k s q))
    (fun j _ => v.length - (intOf j).toNat)
  case atStart => exact ⟨0, _, Nat.zero_le _, rfl, World.grownBy.refl _ _, K63.out, by rw [part_zero]; exact MineT.nil _ _ _⟩
  case round =>
    obtain ⟨q, V, hq, rfl, hgr, hbx, hmv⟩ := hrel
    have HGR := Lib.hid hgr
    have HBX := Lib.hid hbx
    have HMV := Lib.hid hmv
    have hsz3 := hgr.size
    have S5 := Lib.hid (S4.out.grown hgr (by simp; omega))
    have T5 := Lib.hid (T4.out.grown hgr (by simp; omega))
    have hBw := Lib.hid (below_turned H4.out hgr (by omega))
    clear hgr hbx hmv
    by_cases hlt : q < v.length
    · obtain ⟨A', c', e', hat⟩ := (OUT.out.grown K63.out HGR.out).view
      injection e' with e1 e2 e3
      subst e1 e3
      obtain ⟨bq, Aq, cq, rfl, hcq, hiq⟩ := hat q hlt
      obtain ⟨bb, oo, rfl, hbb, hcc⟩ := hiq (by rw [dg_length]; omega)
      have hdq : wr.cell? ⟨bb, oo, none⟩ = some (.int .i64 ((dg d q).getD 0 0)) := hcc 0 (by rw [dg_length]; omega)
      have hiff := HH.out q hlt
      obtain ⟨bv, ov, hBv, hbv, hcv⟩ := IV.out.below hBw.out (by omega)
      have hcv' := hcv q hlt
      have hdl : 0 < (d.length : Int) := by omega
      clear hat hcc hcv e2 hiq
      by_cases hin : k * s ≤ q ∧ q < k * s + s
      · rw [hiff.2 hin] at hdq
        have HP := Lib.hid (part_in hin.1 hin.2 hlt)
        have hpl := part_length v k s q
        clear hiff hin
        have hkk : ((k : Int) == (k : Int)) = true := by simp
        subst hBv
        obtain ⟨c0, c1, _, _⟩ := S5.out.all
        obtain ⟨x0, x1, x2, x3⟩ := HBX.out.all
        generalize hY : v.getD q 0 = y at *
        have HY := Lib.hid hY
        clear hY
        go_wp2_with fail
        have hmW := Lib.hid (show MineT 2 (wr.drew.alloc (.cells #[.int .i64 y] 2)) w3.heap.size V (part v k s q) from HMV.out.alloc _)
        have hyW := Lib.hid (show Ints (wr.drew.alloc (.cells #[.int .i64 y] 2)) (some ⟨wr.heap.size, 0, none⟩) [y] from (MineT.new 2 wr.drew [y] 0 (Nat.zero_le _) (by unfold maxLen; simp)).ints')
        have hbW := Lib.hid (show Box (wr.drew.alloc (.cells #[.int .i64 y] 2)) g6 (.slice A6 t.length c6) V from HBX.out.alloc _)
        have hgW := Lib.hid (show w3.grownBy (wr.drew.alloc (.cells #[.int .i64 y] 2)) (some g6) from turned_alloc (turned_drew HGR.out) _)
        have hzz : (wr.alloc (.cells #[.int .i64 y] 2)).cell? ⟨g6, 1, none⟩ = some V := (HBX.out.alloc _).c1
        go_region_law ((refine step_appI numL Try.underlying23 rfl (.tmp 55) (.tmp 61) rfl w3.heap.size V (part v k s q) (by simp [Act.eval]) hmW.out (some ⟨wr.heap.size, 0, none⟩) 1 [y] (by simp [Act.eval]) hyW.out (by simp; omega) (by simp; omega) ?_; intro V' w5 hm5 hg5 ha5; obtain ⟨A5, c5, rfl, _⟩ := hm5.ints; obtain ⟨z0, z1, z2, z3⟩ := (hbW.out.grown hg5 (fun e => by have := HMV.out.block g6 e.symm; omega)).all))
        all_goals
          go_wp2
          go_roundw
          case rel => exact ⟨q + 1, _, by omega, by go_num, turned_set (turned_grown hgW.out hg5 HMV.out.block) 1 _, (hbW.out.grown hg5 (fun e => by have := HMV.out.block g6 e.symm; omega)).set1 _, by rw [HP.out]; have hh := hm5.setCell (p := ⟨g6, 1, none⟩) (fun e => by have := hm5.block g6 e; omega) (.slice A5 ((part v k s q).length + 1) c5); rw [List.length_append] at hh; exact hh⟩
          case measure => simp [intOf]; omega
      · have hne : ((dg d q).getD 0 0 == (k : Int)) = false := by simpa using fun e => hin (hiff.1 e)
        have HP := Lib.hid (part_out (v := v) (i := k) (s := s) (q := q) (by omega) hlt)
        clear hiff hin
        generalize (dg d q).getD 0 0 = y at *
        go_wp2
        go_roundw
        case rel => exact ⟨q + 1, V, by omega, by go_num, HGR.out, HBX.out, by rw [HP.out]; exact HMV.out⟩
        case measure => simp [intOf]; omega
    · obtain rfl : q = v.length := by omega
      obtain ⟨AV, cV, rfl, _⟩ := HMV.out.ints
      obtain ⟨x0, x1, _, _⟩ := HBX.out.all
      obtain ⟨y0, y1, y2, y3⟩ := T5.out.all
      have hgT := T1.out.lt
      have hgT4 := T4.out.lt
      go_wp2
      have T := (T5.out.set0 (.slice A6 t.length c6)).set1 (.slice AV (part v k s v.length).length cV)
      obtain ⟨t0, t1, _, _⟩ := T.all
      refine bodyPost_ret (v := .tuple #[.agg #[.slice A6 t.length c6, .slice AV (part v k s v.length).length cV], .bool true]) (by simp [results, Try.results12, go_sem, t0, t1]) rfl ?_
      have hm6 : MineT 3 wr w1.heap.size (.slice A6 t.length c6) t := own_grown M64.out K63.out (by decide) HGR.out
      have hic := isCell_of (base := w.heap.size) (hm6.box hgT (.slice A6 t.length c6) (.slice AV (part v k s v.length).length cV)) (HMV.out.box hgT4 (.slice A6 t.length c6) (.slice AV (part v k s v.length).length cV)) H1.out.size H4.out.size
      rw [part_all] at hic ⊢
      exact ⟨_, rfl, hic, (hBw.out.setCell (by simp) _).setCell (by simp) _⟩

set_option maxHeartbeats 2000000 in
theorem ritem_no (A : Option Addr) (c : Nat) (d : List Int) (B : Option Addr) (c2 : Nat) (n : Nat) (i : Int) (w : World) (hd : d.length ≤ 100) (id : Ints w A d) (h : itemB d n i = false) :
    Calls Try.prog 12 #[.agg #[.slice A d.length c, .slice B n c2], .int .i64 i] w (RetC w [] [] (.bool false)) := by
  have hb2 : Below w.heap.size w ((w.alloc (.cells #[.slice A d.length c, .slice B n c2] 25)).alloc (.cells #[.slice none 0 0, .slice none 0 0] 25)) := below_box (below_box (Below.refl _ _))
  have hS0 := (Box.new w (.slice A d.length c) (.slice B n c2)).alloc (.cells #[.slice none 0 0, .slice none 0 0] 25)
  have hS1 := Box.new (w.alloc (.cells #[.slice A d.length c, .slice B n c2] 25)) (.slice none 0 0) (.slice none 0 0)
  rw [show (w.alloc (.cells #[.slice A d.length c, .slice B n c2] 25)).heap.size = w.heap.size + 1 from by simp] at hS1
  have HS0 := Lib.hid hS0
  have HS1 := Lib.hid hS1
  have JD := Lib.hid (id.below hb2)
  have ID := Lib.hid id
  clear hS0 hS1 hb2 id
  by_cases hcell : cellB d n = true
  · have HC := Lib.hid hcell
    by_cases hlen : 0 < d.length
    · have hz0 : ((d.length : Int) == 0) = false := by simp; intro e; rw [e] at hlen; simp at hlen
      have hz1 : d.length ≠ 0 := by omega
      by_cases hi0 : 0 ≤ i
      · have hi1 : d.getD 0 0 ≤ i := by
          simp only [itemB, hcell, hlen, hi0, decide_true, Bool.and_true, Bool.true_and, decide_eq_false_iff_not] at h
          omega
        have hid : decide (i < 0) = false := by simp; omega
        clear h hcell
        go_enter Try.func12, Try.ntmps12
        go_wp2_with fail
        refine (rright_yes _ _ d _ _ _ _ (by unfold maxLen; omega) JD.out HC.out).mono ?_
        rintro r w1 ⟨rfl, hb1⟩
        have S1 := Lib.hid (HS0.out.next hb1)
        have T1 := Lib.hid (HS1.out.next hb1)
        have H1 := Lib.hid (below_box (below_box hb1))
        obtain ⟨s0, s1, s2, s3⟩ := S1.out.all
        obtain ⟨u0, u1, u2, u3⟩ := T1.out.all
        obtain ⟨b, off, rfl, hb, hcs⟩ := ID.out.below H1.out (by omega)
        have hc0 : w1.cell? ⟨b, off, none⟩ = some (.int .i64 (d.getD 0 0)) := hcs 0 (by omega)
        clear hb1 hcs
        generalize d.getD 0 0 = x at *
        go_wp2
        have T := (T1.out.set0 (.slice none 0 0)).set1 (.slice none 0 0)
        obtain ⟨t0, t1, _, _⟩ := T.all
        refine bodyPost_ret (v := .tuple #[.agg #[.slice none 0 0, .slice none 0 0], .bool false]) (by simp [results, Try.results12, go_sem, t0, t1]) rfl ?_
        exact ⟨_, rfl, IsCell.none _ _, (H1.out.setCell (by simp) _).setCell (by simp) _⟩
      · have hi1 : i < 0 := by omega
        clear h hcell hi0
        go_enter Try.func12, Try.ntmps12
        go_wp2_with fail
        refine (rright_yes _ _ d _ _ _ _ (by unfold maxLen; omega) JD.out HC.out).mono ?_
        rintro r w1 ⟨rfl, hb1⟩
        have S1 := Lib.hid (HS0.out.next hb1)
        have T1 := Lib.hid (HS1.out.next hb1)
        have H1 := Lib.hid (below_box (below_box hb1))
        obtain ⟨s0, s1, s2, s3⟩ := S1.out.all
        obtain ⟨u0, u1, u2, u3⟩ := T1.out.all
        clear hb1
        go_wp2
        have T := (T1.out.set0 (.slice none 0 0)).set1 (.slice none 0 0)
        obtain ⟨t0, t1, _, _⟩ := T.all
        refine bodyPost_ret (v := .tuple #[.agg #[.slice none 0 0, .slice none 0 0], .bool false]) (by simp [results, Try.results12, go_sem, t0, t1]) rfl ?_
        exact ⟨_, rfl, IsCell.none _ _, (H1.out.setCell (by simp) _).setCell (by simp) _⟩
    · have hdn : d = [] := List.eq_nil_of_length_eq_zero (by omega)
      subst hdn
      clear h hcell hlen
      go_enter Try.func12, Try.ntmps12
      go_wp2_with fail
      refine (rright_yes _ _ [] _ _ _ _ (by simp) JD.out HC.out).mono ?_
      rintro r w1 ⟨rfl, hb1⟩
      have S1 := Lib.hid (HS0.out.next hb1)
      have T1 := Lib.hid (HS1.out.next hb1)
      have H1 := Lib.hid (below_box (below_box hb1))
      obtain ⟨s0, s1, s2, s3⟩ := S1.out.all
      obtain ⟨u0, u1, u2, u3⟩ := T1.out.all
      rw [List.length_nil] at s0
      clear hb1
      go_wp2
      have T := (T1.out.set0 (.slice none 0 0)).set1 (.slice none 0 0)
      obtain ⟨t0, t1, _, _⟩ := T.all
      refine bodyPost_ret (v := .tuple #[.agg #[.slice none 0 0, .slice none 0 0], .bool false]) (by simp [results, Try.results12, go_sem, t0, t1]) rfl ?_
      exact ⟨_, rfl, IsCell.none _ _, (H1.out.setCell (by simp) _).setCell (by simp) _⟩
  · have HC := Lib.hid (show cellB d n = false by simpa using hcell)
    clear h hcell
    go_enter Try.func12, Try.ntmps12
    go_wp2_with fail
    refine (rright_no _ _ d _ _ _ _ (by unfold maxLen; omega) JD.out HC.out).mono ?_
    rintro r w1 ⟨rfl, hb1⟩
    have T1 := Lib.hid (HS1.out.next hb1)
    have H1 := Lib.hid (below_box (below_box hb1))
    obtain ⟨u0, u1, u2, u3⟩ := T1.out.all
    clear hb1
    go_wp2
    have T := (T1.out.set0 (.slice none 0 0)).set1 (.slice none 0 0)
    obtain ⟨t0, t1, _, _⟩ := T.all
    refine bodyPost_ret (v := .tuple #[.agg #[.slice none 0 0, .slice none 0 0], .bool false]) (by simp [results, Try.results12, go_sem, t0, t1]) rfl ?_
    exact ⟨_, rfl, IsCell.none _ _, (H1.out.setCell (by simp) _).setCell (by simp) _⟩
end Go.Proofs.Ytknphbkmghflcaa.Sh
