/-
  What rifflelaw14.RunnerApart answers: true, whatever the function and the rows. Conditions: the table of traits holds what its text lays; the numbers have 64 bits; no more rows than fit into a machine.
-/
import Derived.Test.YtogbemdoimhndaaDoorRnHangs
import Derived.Test.YtogbemdoimhndaaDoorStKeep
set_option maxRecDepth 100000
namespace Go.Proofs.YtogbemdoimhndaaDoor.Rn
open Go.Proofs.YtogbemdoimhndaaDoor.Sh Go.Proofs.YtogbemdoimhndaaDoor.St Go.Proofs.YtogbemdoimhndaaDoor.Fd
open Go.RowKit
set_option linter.unusedVariables false

theorem RowsOwn.turn {T : Nat → Prop} {base : Nat} {w w' : World} {V : Value} {rs : List (List Int)} (h : RowsOwn base w V rs) (hb : Turn T w w') (hT : ∀ b, base ≤ b → ¬ T b) : RowsOwn base w' V rs := by
  obtain ⟨vs, k1, k2⟩ := h
  refine ⟨vs, own_turn k1 hb fun g hg => hT g (own_base k1 g hg), fun t r hr => ?_⟩
  obtain ⟨u, j1, j2⟩ := k2 t r hr
  exact ⟨u, j1, own_turn j2 hb fun g hg => hT g (own_base j2 g hg)⟩
theorem clone_ru (base g : Nat) (V : Value) (c : Int) (s : Bool) (n : Nat) (rs : List (List Int)) (w : World) (r : Ru base w g V c s n rs) (hn : n ≤ 64) :
    Calls Tryd.prog 47 #[.pointer (some ⟨g, 0, none⟩)] w fun e w' => ∃ g' V', e = .returned (.pointer (some ⟨g', 0, none⟩)) ∧ Ru w.heap.size w' g' V' c s n rs ∧ Below w.heap.size w w' := by
  obtain ⟨xs, h1, h2, h3⟩ := r
  refine (clone_any base g V c s rs.length xs w h1 (by omega)).mono ?_
  rintro e w' ⟨g', V', rfl, r', hb⟩
  exact ⟨g', V', rfl, ⟨xs, r', h2, h3⟩, hb⟩
theorem now_q (base g : Nat) (V : Value) (c : Int) (s : Bool) (n : Nat) (rs : List (List Int)) (w : World) (r : Ru base w g V c s n rs) (hn : n ≤ 64) : Calls Tryd.prog 45 #[.pointer (some ⟨g, 0, none⟩)] w (RetNow (nowI c s n rs) (decide ((rs.length : Int) > 0)) w) := by
  rcases Nat.eq_zero_or_pos rs.length with h0 | h0
  · obtain rfl := List.eq_nil_of_length_eq_zero h0
    obtain ⟨xs, h1, h2, h3⟩ := r
    refine (now_none base g V c s xs w h1).mono ?_
    rintro e w' ⟨rfl, rfl⟩
    exact ⟨none, 0, rfl, MineT.nil _ _ _, Below.refl _ _⟩
  · have e1 : nowI c s n rs = colsI c s n rs := by unfold nowI; rw [if_neg (by omega)]
    have e2 : decide ((rs.length : Int) > 0) = true := decide_eq_true (by omega)
    rw [e1, e2]
    exact now_ru base g V c s n rs w r h0 hn
theorem rnow_any (c : Int) (s : Bool) (S : Nat → Prop) (A : Option Addr) (cA : Nat) (rs : List (List Int)) (n : Nat) (w : World) (hV : RwsIn S w (.slice A rs.length cA) rs) (hn : n ≤ 64) (hr : rs.length ≤ 100) (hL : ∀ r ∈ rs, r.length = n) (hR : ∀ r ∈ rs, AllR r) (hj : (Sc.trOf c).joins = true) :
    Calls Tryd.prog 44 #[.agg #[.int .i64 c, .bool s], .slice A rs.length cA, .int .i64 (n : Int)] w (RetL (nowI c s n rs) w) := by
  rcases Nat.eq_zero_or_pos rs.length with h0 | h0
  · obtain rfl := List.eq_nil_of_length_eq_zero h0
    exact rnow_nil c s A cA n w hn
  · have e1 : nowI c s n rs = colsI c s n rs := by unfold nowI; rw [if_neg (by omega)]
    rw [e1]
    exact rnow_cons c s S A cA rs n w hV hn h0 hr hL hR hj
theorem rnow_len (c : Int) (s : Bool) (S : Nat → Prop) (A : Option Addr) (cA : Nat) (rs : List (List Int)) (m : Nat) (t : List Int) (w : World) (hm : rs.length = m) (hV : RwsIn S w (.slice A m cA) rs) (h0 : 0 < m) (hr : m ≤ 100) (hL : ∀ r ∈ rs, r.length = 2) (hR : ∀ r ∈ rs, AllR r) (hj : (Sc.trOf c).joins = true) (ht : colsI c s 2 rs = t) :
    Calls Tryd.prog 44 #[.agg #[.int .i64 c, .bool s], .slice A m cA, .int .i64 2] w (RetL t w) := by
  subst hm ht
  exact rnow_cons c s S A cA rs 2 w hV (by omega) h0 hr hL hR hj
theorem rnow_q (c : Int) (s : Bool) (S : Nat → Prop) (A : Option Addr) (cA : Nat) (rs : List (List Int)) (q : List Int) (w : World) (hV : RwsIn S w (.slice A rs.length cA) rs) (hr : rs.length ≤ 100) (hL : ∀ r ∈ rs, r.length = 2) (hR : ∀ r ∈ rs, AllR r) (hj : (Sc.trOf c).joins = true) (ht : nowI c s 2 rs = q) :
    Calls Tryd.prog 44 #[.agg #[.int .i64 c, .bool s], .slice A rs.length cA, .int .i64 2] w (RetL q w) := by
  subst ht
  exact rnow_any c s S A cA rs 2 w hV (by omega) hr hL hR hj
theorem ap_turn {w w' : World} {o : Obj} {X : Value} (hg : ((w.alloc o).drew).grownBy w' X.ownBlock) : Turn (fun b => X.ownBlock = some b) w w' := (Turn.of_below _ (below_new w o).drew).trans (Turn.of_grown hg fun g e => e)
theorem apart_not {w : World} {B0 B1 m : Nat} {X V : Value} {l : List Int} {vs : List Value} (h : MineT 2 w B1 V l) (h1 : w.ownsRow B0 27 1 X m vs) : ∀ b, V.ownBlock = some b → ¬ X.ownBlock = some b := fun b hb hX => by
  rcases own_apart h h1 (by decide) with e | e
  · rw [e] at hb; cases hb
  · exact e (hb.trans hX.symm)
theorem rows_kept {B0 : Nat} {w w' : World} {o : Obj} {X : Value} {rs : List (List Int)} {vs : List Value} (h1 : w.ownsRow B0 27 1 X rs.length vs) (h2 : ∀ (t : Nat) (r : List Int), rs[t]? = some r → ∃ u, vs[t]? = some u ∧ MineT 2 w B0 u r)
    (hk : w'.ownsRow B0 27 1 X rs.length vs) (hg : ((w.alloc o).drew).grownBy w' X.ownBlock) : RowsOwn B0 w' X rs :=
  ⟨vs, hk, fun t r hr => by
    obtain ⟨u, j1, j2⟩ := h2 t r hr
    exact ⟨u, j1, own_turn j2 (ap_turn hg) (apart_not j2 h1)⟩⟩
theorem rows_more {B0 : Nat} {w w' : World} {o : Obj} {X X' : Value} {rs : List (List Int)} {vs : List Value} {B : Option Addr} {r : List Int} {m d : Nat} (h1 : w.ownsRow B0 27 1 X rs.length vs) (h2 : ∀ (t : Nat) (r : List Int), rs[t]? = some r → ∃ u, vs[t]? = some u ∧ MineT 2 w B0 u r)
    (hi : SInts (fun b => b < B0) w B r) (hd : m ≤ d) (hd2 : d ≤ maxLen) (hv : w'.ownsRow B0 27 1 X' (rs.length + 1) (vs ++ [.slice B m d])) (hg : ((w.alloc o).drew).grownBy w' X.ownBlock) (hm : r.length = m := by rfl) : ∃ A c, X' = .slice A (rs.length + 1) c ∧ RwsIn (fun _ => True) w' (.slice A (rs.length + 1) c) (rs ++ [r]) := by
  subst hm
  have hvl : vs.length = rs.length := by simpa using h1.1
  obtain ⟨A, c, rfl, hn, hm, hs⟩ := own_seq hv (by decide)
  have el : (rs ++ [r]).length = rs.length + 1 := by simp
  refine ⟨A, c, rfl, A, c, vs ++ [.slice B r.length d], by rw [el], by rw [el]; exact hn, hm, by simp [hvl], hs.mono fun _ _ => trivial, fun t q hq => ?_⟩
  rcases Nat.lt_or_ge t rs.length with hlt | hge
  · rw [List.getElem?_append_left hlt] at hq
    obtain ⟨u, j1, j2⟩ := h2 t q hq
    have j3 := own_turn j2 (ap_turn hg) (apart_not j2 h1)
    obtain ⟨B', d', rfl, k3, k4, k5⟩ := mine_row j3
    exact ⟨B', d', by rw [List.getElem?_append_left (by omega)]; exact j1, k3, k4, Seq.mono k5 fun _ _ => trivial⟩
  · rw [List.getElem?_append_right hge] at hq
    have ht : t - rs.length = 0 := by
      have := (List.getElem?_eq_some_iff.1 hq).1
      simp at this; omega
    rw [ht] at hq
    simp at hq
    subst hq
    exact ⟨B, d, by rw [List.getElem?_append_right (by omega), hvl, ht]; rfl, hd, hd2, Seq.mono (Seq.turn hi (ap_turn hg) (fun b hb hX => by have := own_base h1 b hX; omega)) fun _ _ => trivial⟩
/-- At the head of the loop. -/
def ApAt (w1 w3 wr : World) (g : Nat) (V : Value) (c : Int) (s : Bool) (k : Nat) (X : Value) : Prop :=
  ∃ rs, RowsOwn w3.heap.size wr X rs ∧ (∀ r ∈ rs, r.length = 2) ∧ (∀ r ∈ rs, AllR r) ∧ Ru w1.heap.size wr g V c s 2 rs ∧ rs.length = k ∧ Below w1.heap.size w1 wr ∧ (∀ b, Tr g V b → b < w3.heap.size) ∧ w3.heap.size ≤ wr.heap.size
set_option maxHeartbeats 4000000 in
theorem apart_yes (c : Int) (s : Bool) (A : Option Addr) (cA : Nat) (ls : List (Int × Int)) (x y : Int) (w : World) (hT : Sc.Tab w) (hA : Prs w A ls) (hRa : ∀ q ∈ ls, Sc.InR q.1 ∧ Sc.InR q.2) (hx : Sc.InR x) (hy : Sc.InR y)
    (h1 : ls.length ≤ 60) (hj : (Sc.trOf c).joins = true) :
    Calls Tryd.prog 11 #[.agg #[.int .i64 c, .bool s], .slice A ls.length cA, .agg #[.int .i64 x, .int .i64 y]] w fun e w' => e = .returned (.bool true) ∧ Below w.heap.size w w' := by
  have b0 := below_next (below_new w (.cells #[.int .i64 c, .bool s] 23)) (below_new _ (.cells #[.int .i64 x, .int .i64 y] 72))
  have BN := Lib.hid (Bx.alloc (Bx.new 23 w #[.int .i64 c, .bool s]) (.cells #[.int .i64 x, .int .i64 y] 72))
  have BR := Bk.new 72 (w.alloc (.cells #[.int .i64 c, .bool s] 23)) [.int .i64 x, .int .i64 y]
  rw [show (w.alloc (.cells #[.int .i64 c, .bool s] 23)).heap.size = w.heap.size + 1 from by simp] at BR
  have BR := Lib.hid BR
  have T1 := Lib.hid (hT.below b0)
  have PA := Lib.hid (hA.next b0)
  have L0 := Lib.hid b0
  have HRA := Lib.hid hRa
  have HJ := Lib.hid hj
  have XY : Hid (AllR [x, y]) := Lib.hid (rowP_R (d := (x, y)) ⟨hx, hy⟩)
  have t1 : decide ((ls.length : Int) > 60) = false := decide_eq_false (by omega)
  clear b0 hT hA hRa hx hy hj
  go_enter Tryd.func11, Tryd.ntmps11
  go_wp2_with fail
  generalize hW1 : (w.alloc (.cells #[.int .i64 c, .bool s] 23)).alloc (.cells #[.int .i64 x, .int .i64 y] 72) = w1 at *
  clear hW1
  refine (push_nil _ _ _ _).mono ?_
  rintro r w2 ⟨rfl, rfl⟩
  go_wp2_with fail
  refine (now_nil _).mono ?_
  rintro r w2 ⟨rfl, rfl⟩
  go_wp2_with fail
  refine (came_nil _).mono ?_
  rintro r w2 ⟨rfl, rfl⟩
  go_wp2_with fail
  refine (clone_nil _).mono ?_
  rintro r w2 ⟨rfl, rfl⟩
  obtain ⟨x0, x1⟩ := bx2 BN.out
  go_wp2_with fail
  refine (new_yes c s 2 w1 T1.out (by omega) HJ.out).mono ?_
  rintro r w3 ⟨g, V, rfl, d3, hb3⟩
  have PL : Hid (ApAt w1 w3 w3 g V c s 0 (.slice none 0 0)) := Lib.hid ⟨[], RowsOwn.nil _ _, fun r hr => by simp at hr, fun r hr => by simp at hr, ru_new d3, rfl, hb3, fun b hb => (d3.lt b hb).1, Nat.le_refl _⟩
  have L3 := Lib.hid hb3
  clear d3 hb3 x0 x1
  go_wp2
  go_loopw [14, 83] (fun X i wr => ∃ k : Nat, k ≤ ls.length ∧ i = .int .i64 k ∧ Hid (ApAt w1 w3 wr g V c s k X)) (fun _ i _ => ls.length - (intOf i).toNat)
  case atStart => exact ⟨0, Nat.zero_le _, rfl, PL⟩
  case round =>
    obtain ⟨k, hk, rfl, HP⟩ := hrel
    by_cases hlt : k < ls.length
    · obtain ⟨rs, p1, p2, p3, p4, p5, p6, p7, p8⟩ := HP.out
      obtain ⟨d, hd⟩ : ∃ d, ls[k]? = some d := ⟨_, List.getElem?_eq_getElem hlt⟩
      have i1 : (k : Int) < (ls.length : Int) := by omega
      have i0 : (0 : Int) ≤ (k : Int) := by omega
      have DR := Lib.hid (rowP_R (HRA.out d (List.mem_of_getElem? hd)))
      obtain ⟨b, off, rfl, hbl, hc⟩ := (PA.out.next p6) (by omega)
      obtain ⟨c1, c2⟩ := hc k d hd
      obtain ⟨u, v⟩ := d
      have b5 := below_new wr (.cells #[.int .i64 u, .int .i64 v] 72)
      have BP := Lib.hid (Bk.new 72 wr [.int .i64 u, .int .i64 v])
      have R5 := Lib.hid (p4.next b5)
      have X5 := Lib.hid (p1.next b5)
      have L5 := Lib.hid (below_next p6 b5)
      have P2 := Lib.hid p2
      have P3 := Lib.hid p3
      have P5 := Lib.hid p5
      have P7 := Lib.hid p7
      have P8 := Lib.hid p8
      obtain ⟨t, ht⟩ : ∃ t, colsI c s 2 (rs ++ [[u, v]]) = t := ⟨_, rfl⟩
      have PU := Lib.hid (push_st w1.heap.size g V c s 2 rs (fun b => b = wr.heap.size) (some ⟨wr.heap.size, 0, none⟩) 2 [u, v] (wr.alloc (.cells #[.int .i64 u, .int .i64 v] 72)) R5.out (two_sints BP.out) (fun b hb ht => by have := p7 b ht; omega) rfl (by omega) (by omega) HJ.out (fun W h => T1.out.below (L5.out.trans h)) p3 DR.out t ht)
      clear b5 ht hc hd p1 p2 p3 p4 p5 p6 p7 p8 HP PL
      go_wp2_with fail
      refine PU.out.mono ?_
      rintro r w5 ⟨A5, c5, rfl, m5, r5, t5⟩
      have R6 := Lib.hid r5
      have X6 := Lib.hid (RowsOwn.turn X5.out t5 (fun b hb ht => by have := P7.out b ht; omega))
      have L6 := Lib.hid (ru_below L5.out (Nat.le_refl _) R5.out t5)
      have BP6 := Lib.hid (BP.out.turn t5 (fun ht => by have := P7.out _ ht; have := P8.out; omega))
      have IP6 := Lib.hid (two_sints BP6.out).ints
      have P8' := Lib.hid (show w3.heap.size ≤ w5.heap.size by have := P8.out; have := t5.size; simp at this; omega)
      have LY : Hid ([u, v].length ≤ 100000) := Lib.hid (by simp)
      have TN : Hid (rs.length + 1 ≤ 100000) := Lib.hid (by have := P5.out; omega)
      clear m5 r5 t5 PU
      go_wp2_with (at_builtin; first
        | (refine wpList_copyI numL Tryd.underlying27 rfl (.tmp 96) (.tmp 97) rfl rfl _ _ [u, v] rfl IP6.out LY.out ?_; intro B7 c7 w7 hm7 hb7; have M7 := Lib.hid (show MineT 2 w7 w5.heap.size (.slice B7 2 c7) [u, v] from hm7); have K7 := Lib.hid hb7; obtain ⟨vs, o1, o2⟩ := X6.out.next hb7; have O1 := Lib.hid o1; have O2 := Lib.hid o2; have O7 := Lib.hid (World.ownsRow.alloc o1 (.cells #[.slice B7 2 c7] 27)); have LS := Lib.hid (Nat.le_trans P8'.out (below_next hb7 (below_new w7 (.cells #[.slice B7 2 c7] 27))).size); clear hm7 hb7 o1 o2)
        | (refine wpList_appS infoR rfl (by decide) (by decide) Tryd.underlying59 rfl (.tmp 95) (.tmp 99) rfl w3.heap.size _ rs.length vs rfl O7.out (fun _ => True) _ 1 1 [Value.slice B7 2 c7] rfl rfl (seq1 _ _ _) (one_sl _ _ _) TN.out LS.out ?_; intro v8 w8 hv8 hg8 hat8; have V8 := Lib.hid hv8; have G8 := Lib.hid hg8; clear hv8 hg8 hat8))
      have tn8 := (Turn.of_below _ (below_new w7 _)).trans (Turn.of_grown G8.out fun g e => e)
      have xb := own_base O1.out
      have X8 := Lib.hid (RowsOwn.app O1.out O2.out (MineT.mono M7.out P8'.out) _ V8.out G8.out)
      have R8 := Lib.hid ((R6.out.next K7.out).turn tn8 (fun b hb hX => by have := P7.out b hb; have := xb b hX; omega))
      have L8 := Lib.hid ((below_next L6.out K7.out).trans (tn8.below (below_next L6.out K7.out).size fun b hX => Nat.le_trans L3.out.size (xb b hX)))
      have PL : Hid (ApAt w1 w3 w8 g V c s (k + 1) v8) := Lib.hid ⟨rs ++ [[u, v]], X8.out, fun r hr => by
        rcases List.mem_append.1 hr with h | h
        · exact P2.out r h
        · simp at h; subst h; rfl, allR_app P3.out DR.out, R8.out, by have := P5.out; simp; omega, L8.out, P7.out, Nat.le_trans (Nat.le_trans P8'.out K7.out.size) tn8.size⟩
      refine ⟨⟨k + 1, by omega, by go_num, PL⟩, by simp [intOf]; omega⟩
    · obtain rfl : k = ls.length := by omega
      obtain ⟨rs, p1, p2, p3, p4, p5, p6, p7, p8⟩ := HP.out
      have P1 := Lib.hid p1
      have P2 := Lib.hid p2
      have P3 := Lib.hid p3
      have P4 := Lib.hid p4
      have P5 := Lib.hid (show rs.length ≤ 60 by omega)
      have P6 := Lib.hid p6
      have P7 := Lib.hid p7
      have P8 := Lib.hid p8
      clear p1 p2 p3 p4 p5 p6 p7 p8 HP PL
      go_wp2_with fail
      refine (clone_ru w1.heap.size g V c s 2 rs wr P4.out (by omega)).mono ?_
      rintro r w10 ⟨g', V', rfl, r10, hb10⟩
      obtain ⟨t, ht⟩ : ∃ t, colsI c s 2 (rs ++ [[x, y]]) = t := ⟨_, rfl⟩
      have HTL := Lib.hid (show t.length = 2 by rw [← ht, colsI_len])
      have HT2 := Lib.hid ht
      have K10 := Lib.hid hb10
      have R10 := Lib.hid r10
      have hgt := BR.out.lt
      have hws := P6.out.size
      have BR10 := Lib.hid ((BR.out.next P6.out).next hb10)
      have PU := Lib.hid (push_st wr.heap.size g' V' c s 2 rs (fun b => b = w.heap.size + 1) (some ⟨w.heap.size + 1, 0, none⟩) 2 [x, y] w10 r10 (two_sints BR10.out) (fun b hb ht => by have := (r10.lt b ht).2; omega) rfl (by omega) (by have := P5.out; omega) HJ.out (fun W h => T1.out.below (P6.out.trans ((hb10.mono hws).trans (h.mono hws)))) P3.out XY.out t ht)
      clear r10 hb10 ht
      go_wp2_with fail
      refine PU.out.mono ?_
      rintro r w11 ⟨A11, c11, rfl, m11, r11, t11⟩
      have K11 := Lib.hid (K10.out.trans (t11.below K10.out.size fun i hi => (R10.out.lt i hi).2))
      have M11 := Lib.hid m11
      have NR := Lib.hid (now_q w1.heap.size g V c s 2 rs w11 (P4.out.next K11.out) (by omega))
      obtain ⟨q, hq⟩ : ∃ q, nowI c s 2 rs = q := ⟨_, rfl⟩
      have HQL := Lib.hid (show q.length ≤ 2 by rw [← hq]; unfold nowI; split <;> simp [colsI_len])
      rw [hq] at NR
      have HQ := Lib.hid hq
      clear m11 r11 t11 PU hq
      obtain ⟨dd, hdd⟩ : ∃ dd, decide ((rs.length : Int) > 0) = dd := ⟨_, rfl⟩
      rw [hdd] at NR
      go_wp2_with fail
      refine NR.out.mono ?_
      rintro r w12 ⟨A12, c12, rfl, m12, hb12⟩
      have K12 := Lib.hid (below_next K11.out hb12)
      have M12 := Lib.hid m12
      have M1112 := Lib.hid (own_below M11.out hb12)
      obtain ⟨vs, o1, o2⟩ := P1.out.next K12.out
      obtain ⟨AX, cX, eX, -⟩ := own_seq o1 (by decide)
      subst eX
      have O1 := Lib.hid o1
      have O2 := Lib.hid o2
      have BR12 := Lib.hid (BR.out.next (below_next P6.out K12.out))
      have O13 := Lib.hid (World.ownsRow.alloc o1 (.cells #[.slice (some ⟨w.heap.size + 1, 0, none⟩) 2 2] 27))
      have TN : Hid (rs.length + 1 ≤ 100000) := Lib.hid (by have := P5.out; omega)
      have LS : Hid (w3.heap.size ≤ (w12.alloc (.cells #[.slice (some ⟨w.heap.size + 1, 0, none⟩) 2 2] 27)).heap.size) := Lib.hid (by have := P8.out; have := K12.out.size; simp; omega)
      have L12 := Lib.hid (below_next P6.out K12.out)
      clear m12 hb12 o1 o2 NR M11
      obtain ⟨x0, x1⟩ := bx2 (BN.out.next L12.out)
      have O13 := Lib.hid (show ((w12.alloc (.cells #[.slice (some ⟨w.heap.size + 1, 0, none⟩) 2 2] 27)).drew).ownsRow w3.heap.size 27 1 (.slice AX rs.length cX) rs.length vs from O13.out)
      have SQ13 := Lib.hid (show Seq (fun _ => True) ((w12.alloc (.cells #[.slice (some ⟨w.heap.size + 1, 0, none⟩) 2 2] 27)).drew) (some ⟨w12.heap.size, 0, none⟩) [Value.slice (some ⟨w.heap.size + 1, 0, none⟩) 2 2] from seq1 _ _ _)
      have LS := Lib.hid (show w3.heap.size ≤ ((w12.alloc (.cells #[.slice (some ⟨w.heap.size + 1, 0, none⟩) 2 2] 27)).drew).heap.size from LS.out)
      have SI12 := Lib.hid (show SInts (fun b => b < w3.heap.size) w12 (some ⟨w.heap.size + 1, 0, none⟩) [x, y] from Seq.mono (two_sints BR12.out) (fun b hb => by have := L3.out.size; have := BR.out.lt; omega))
      have P2' : Hid (∀ q ∈ rs ++ [[x, y]], q.length = 2) := Lib.hid fun q hq => by
        rcases List.mem_append.1 hq with h | h
        · exact P2.out q h
        · simp at h; subst h; rfl
      have P3' : Hid (∀ q ∈ rs ++ [[x, y]], AllR q) := Lib.hid (allR_app P3.out XY.out)
      have ML : Hid ((rs ++ [[x, y]]).length = rs.length + 1) := Lib.hid (by simp)
      have HDD := Lib.hid hdd
      have TNS : Hid (rs.length + 1 ≤ 100) := Lib.hid (by have := P5.out; omega)
      have RSL : Hid (rs.length ≤ 100) := Lib.hid (by have := P5.out; omega)
      clear hdd
      cases dd
      all_goals
        have hdd := HDD.out
        have hdd2 : decide ((0 : Int) < (rs.length : Int)) = _ := HDD.out
        have hdd3 : decide (0 < rs.length) = _ := (decide_eq_decide.2 (by omega)).trans HDD.out
        go_wp2_with fail
        go_region_held3 (fun w' => w'.cell? ⟨w.heap.size, 0, none⟩ = some (.int .i64 c) ∧ w'.cell? ⟨w.heap.size, 1, none⟩ = some (.bool s))
          (first
            | with_reducible exact KK19.out
            | with_reducible exact KK18.out
            | with_reducible exact KK17.out
            | with_reducible exact KK16.out
            | with_reducible exact KK15.out
            | with_reducible exact KK14.out
            | go_keep)
          (first
            | ((with_reducible refine step_appK infoR rfl (by decide) (by decide) Tryd.underlying59 (by kernel_rfl) (.tmp 122) (.tmp 124) rfl w3.heap.size (.slice AX rs.length cX) rs.length vs (by simp [Act.eval]) O13.out w12.heap.size 1 1 [Value.slice (some ⟨w.heap.size + 1, 0, none⟩) 2 2] (by simp [Act.eval]) rfl SQ13.out (one_sl _ _ _) TN.out LS.out ?_); intro v14 w14 hv14 hk14 hg14; have TN14 := Lib.hid (ap_turn hg14); have L14 := Lib.hid (L12.out.trans (TN14.out.below L12.out.size fun b hX => Nat.le_trans L3.out.size (own_base O1.out b hX))); have KK14 := Lib.hid (bx2 (BN.out.next L14.out)); obtain ⟨A14, c14, rfl, hrw⟩ := rows_more O1.out O2.out SI12.out (by decide) (by unfold maxLen; decide) hv14 hg14; have RW14 := Lib.hid hrw; have RO14 := Lib.hid (rows_kept O1.out O2.out hk14 hg14); have M14 := Lib.hid (own_turn M1112.out TN14.out (apart_not M1112.out O1.out)); have Q14 := Lib.hid (own_turn M12.out TN14.out (apart_not M12.out O1.out)); clear hv14 hk14 hg14 hrw)
            | (go_at_call 44; (with_reducible refine (rnow_len c s (fun _ => True) A14 c14 (rs ++ [[x, y]]) (rs.length + 1) t w14 ML.out RW14.out (Nat.succ_pos _) TNS.out P2'.out P3'.out HJ.out HT2.out).mono ?_); rintro r w15 ⟨A15, c15, rfl, m15, hb15⟩; have L15 := Lib.hid (below_next L14.out hb15); have KK15 := Lib.hid (bx2 (BN.out.next L15.out)); have RO15 := Lib.hid (RO14.out.next hb15); have M15 := Lib.hid (show MineT 2 w15 _ (.slice A11 t.length c11) t from own_below M14.out hb15); have Q15 := Lib.hid (own_below Q14.out hb15); have T15 := Lib.hid m15; clear hb15 m15)
            | (go_at_call 38; (with_reducible refine (nums_same A11 c11 t A15 c15 w15 (by unfold maxLen; have := HTL.out; omega) (MineT.ints' M15.out) (MineT.ints' T15.out)).mono ?_); rintro r w16 ⟨rfl, hb16⟩; have L16 := Lib.hid (below_next L15.out hb16); have KK16 := Lib.hid (bx2 (BN.out.next L16.out)); have RO16 := Lib.hid (RO15.out.next hb16); have Q16 := Lib.hid (own_below Q15.out hb16); clear hb16)
            | (go_at_call 44; (with_reducible refine (rnow_q c s (fun b => w3.heap.size ≤ b) AX cX rs q w16 RO16.out.rows RSL.out P2.out P3.out HJ.out HQ.out).mono ?_); rintro r w17 ⟨A17, c17, rfl, m17, hb17⟩; have L17 := Lib.hid (below_next L16.out hb17); have KK17 := Lib.hid (bx2 (BN.out.next L17.out)); have Q17 := Lib.hid (show MineT 2 w17 _ (.slice A12 q.length c12) q from own_below Q16.out hb17); have T17 := Lib.hid m17; clear hb17 m17)
            | (go_at_call 38; (with_reducible refine (nums_same A12 c12 q A17 c17 w17 (by unfold maxLen; have := HQL.out; omega) (MineT.ints' Q17.out) (MineT.ints' T17.out)).mono ?_); rintro r w18 ⟨rfl, hb18⟩; have L18 := Lib.hid (below_next L17.out hb18); have KK18 := Lib.hid (bx2 (BN.out.next L18.out)); clear hb18)
            | (go_at_call 41; (with_reducible refine (lives_any w18 (T1.out.below L18.out)).mono ?_); rintro r w19 ⟨rfl, hb19⟩; have L19 := Lib.hid (below_next (below_next L0.out L18.out) hb19); have KK19 := Lib.hid (bx2 (BN.out.next (below_next L18.out hb19))); clear hb19))
        go_wp2
        go_ret
        exact ⟨rfl, L19.out⟩
set_option maxHeartbeats 2000000 in
theorem apart_many (c : Int) (s : Bool) (A : Option Addr) (cA n : Nat) (x y : Int) (w : World) (hT : Sc.Tab w) (t1 : decide ((n : Int) > 60) = true) (hj : (Sc.trOf c).joins = true) (hn : n ≤ 2 ^ 63 - 1) :
    Calls Tryd.prog 11 #[.agg #[.int .i64 c, .bool s], .slice A n cA, .agg #[.int .i64 x, .int .i64 y]] w fun e w' => e = .returned (.bool true) ∧ Below w.heap.size w w' := by
  have b0 := below_next (below_new w (.cells #[.int .i64 c, .bool s] 23)) (below_new _ (.cells #[.int .i64 x, .int .i64 y] 72))
  have BN := Lib.hid (Bx.alloc (Bx.new 23 w #[.int .i64 c, .bool s]) (.cells #[.int .i64 x, .int .i64 y] 72))
  have T1 := Lib.hid (hT.below b0)
  have L0 := Lib.hid b0
  clear b0 hT
  go_enter Tryd.func11, Tryd.ntmps11
  go_wp2_with fail
  generalize hW1 : (w.alloc (.cells #[.int .i64 c, .bool s] 23)).alloc (.cells #[.int .i64 x, .int .i64 y] 72) = w1 at *
  clear hW1
  refine (push_nil _ _ _ _).mono ?_
  rintro r w2 ⟨rfl, rfl⟩
  go_wp2_with fail
  refine (now_nil _).mono ?_
  rintro r w2 ⟨rfl, rfl⟩
  go_wp2_with fail
  refine (came_nil _).mono ?_
  rintro r w2 ⟨rfl, rfl⟩
  go_wp2_with fail
  refine (clone_nil _).mono ?_
  rintro r w2 ⟨rfl, rfl⟩
  obtain ⟨x0, x1⟩ := bx2 BN.out
  go_wp2_with fail
  refine (new_yes c s 2 w1 T1.out (by omega) hj).mono ?_
  rintro r w3 ⟨g, V, rfl, d3, hb3⟩
  have L3 := Lib.hid (below_next L0.out hb3)
  have T3 := Lib.hid (T1.out.below hb3)
  clear d3 hb3 x0 x1 hj
  go_wp2_with fail
  refine (lives_any _ T3.out).mono ?_
  rintro r w5 ⟨rfl, hb5⟩
  have L5 := Lib.hid (below_next L3.out hb5)
  clear hb5
  go_wp2
  go_ret
  exact ⟨rfl, L5.out⟩
set_option maxHeartbeats 2000000 in
theorem apart_none_many (c : Int) (s : Bool) (A : Option Addr) (cA n : Nat) (x y : Int) (w : World) (hT : Sc.Tab w) (t1 : decide ((n : Int) > 60) = true) (hw : whyI c 2 ≠ 0) (hn : n ≤ 2 ^ 63 - 1) :
    Calls Tryd.prog 11 #[.agg #[.int .i64 c, .bool s], .slice A n cA, .agg #[.int .i64 x, .int .i64 y]] w fun e w' => e = .returned (.bool true) ∧ Below w.heap.size w w' := by
  have b0 := below_next (below_new w (.cells #[.int .i64 c, .bool s] 23)) (below_new _ (.cells #[.int .i64 x, .int .i64 y] 72))
  have BN := Lib.hid (Bx.alloc (Bx.new 23 w #[.int .i64 c, .bool s]) (.cells #[.int .i64 x, .int .i64 y] 72))
  have T1 := Lib.hid (hT.below b0)
  have L0 := Lib.hid b0
  clear b0 hT
  go_enter Tryd.func11, Tryd.ntmps11
  go_wp2_with fail
  generalize hW1 : (w.alloc (.cells #[.int .i64 c, .bool s] 23)).alloc (.cells #[.int .i64 x, .int .i64 y] 72) = w1 at *
  clear hW1
  refine (push_nil _ _ _ _).mono ?_
  rintro r w2 ⟨rfl, rfl⟩
  go_wp2_with fail
  refine (now_nil _).mono ?_
  rintro r w2 ⟨rfl, rfl⟩
  go_wp2_with fail
  refine (came_nil _).mono ?_
  rintro r w2 ⟨rfl, rfl⟩
  go_wp2_with fail
  refine (clone_nil _).mono ?_
  rintro r w2 ⟨rfl, rfl⟩
  obtain ⟨x0, x1⟩ := bx2 BN.out
  go_wp2_with fail
  refine (new_no c s 2 w1 T1.out hw).mono ?_
  rintro r w3 ⟨rfl, hb3⟩
  have L3 := Lib.hid (below_next L0.out hb3)
  have T3 := Lib.hid (T1.out.below hb3)
  clear hb3 x0 x1 hw
  go_wp2_with fail
  refine (lives_any _ T3.out).mono ?_
  rintro r w5 ⟨rfl, hb5⟩
  have L5 := Lib.hid (below_next L3.out hb5)
  clear hb5
  go_wp2
  go_ret
  exact ⟨rfl, L5.out⟩
set_option maxHeartbeats 2000000 in
theorem apart_none (c : Int) (s : Bool) (A : Option Addr) (cA n : Nat) (x y : Int) (w : World) (hT : Sc.Tab w) (t1 : decide ((n : Int) > 60) = false) (hw : whyI c 2 ≠ 0) (hn : n ≤ 2 ^ 63 - 1) :
    Calls Tryd.prog 11 #[.agg #[.int .i64 c, .bool s], .slice A n cA, .agg #[.int .i64 x, .int .i64 y]] w fun e w' => e = .returned (.bool true) ∧ Below w.heap.size w w' := by
  have b0 := below_next (below_new w (.cells #[.int .i64 c, .bool s] 23)) (below_new _ (.cells #[.int .i64 x, .int .i64 y] 72))
  have BN := Lib.hid (Bx.alloc (Bx.new 23 w #[.int .i64 c, .bool s]) (.cells #[.int .i64 x, .int .i64 y] 72))
  have T1 := Lib.hid (hT.below b0)
  have L0 := Lib.hid b0
  clear b0 hT
  have NN := Lib.hid (fun W (h : Sc.Tab W) => new_no c s 2 W h hw)
  have MM := Lib.hid (fun W => may_any c s 2 W)
  obtain ⟨z, hz⟩ : ∃ z, whyI c 2 = z := ⟨_, rfl⟩
  rw [hz] at NN MM hw
  have e1 : (z != 0) = true := by simpa using hw
  clear hw hz
  go_enter Tryd.func11, Tryd.ntmps11
  go_wp2_with fail
  generalize hW1 : (w.alloc (.cells #[.int .i64 c, .bool s] 23)).alloc (.cells #[.int .i64 x, .int .i64 y] 72) = w1 at *
  clear hW1
  refine (push_nil _ _ _ _).mono ?_
  rintro r w2 ⟨rfl, rfl⟩
  go_wp2_with fail
  refine (now_nil _).mono ?_
  rintro r w2 ⟨rfl, rfl⟩
  go_wp2_with fail
  refine (came_nil _).mono ?_
  rintro r w2 ⟨rfl, rfl⟩
  go_wp2_with fail
  refine (clone_nil _).mono ?_
  rintro r w2 ⟨rfl, rfl⟩
  obtain ⟨x0, x1⟩ := bx2 BN.out
  go_wp2_with fail
  refine (NN.out w1 T1.out).mono ?_
  rintro r w3 ⟨rfl, hb3⟩
  have L3 := Lib.hid (below_next L0.out hb3)
  have T3 := Lib.hid (T1.out.below hb3)
  obtain ⟨y0, y1⟩ := bx2 (BN.out.next hb3)
  clear hb3 x0 x1
  go_wp2_with fail
  refine (MM.out _).mono ?_
  rintro r w4 ⟨rfl, hb4⟩
  have L4 := Lib.hid (below_next L3.out hb4)
  have T4 := Lib.hid (T3.out.below hb4)
  clear hb4 y0 y1
  go_wp2_with fail
  refine (lives_any _ T4.out).mono ?_
  rintro r w5 ⟨rfl, hb5⟩
  have L5 := Lib.hid (below_next L4.out hb5)
  clear hb5
  go_wp2
  go_ret
  exact ⟨rfl, L5.out⟩
theorem apart_any (c : Int) (s : Bool) (A : Option Addr) (cA : Nat) (ls : List (Int × Int)) (x y : Int) (w : World) (hT : Sc.Tab w) (hA : Prs w A ls) (hRa : ∀ q ∈ ls, Sc.InR q.1 ∧ Sc.InR q.2) (hma : ls.length ≤ maxLen) (hx : Sc.InR x) (hy : Sc.InR y) :
    Calls Tryd.prog 11 #[.agg #[.int .i64 c, .bool s], .slice A ls.length cA, .agg #[.int .i64 x, .int .i64 y]] w fun e w' => e = .returned (.bool true) ∧ Below w.heap.size w w' := by
  unfold maxLen at hma
  by_cases h1 : ls.length > 60
  · have t1 : decide ((ls.length : Int) > 60) = true := decide_eq_true (by omega)
    by_cases hw : whyI c 2 = 0
    · exact apart_many c s A cA ls.length x y w hT t1 (why_yes hw).2.2 hma
    · exact apart_none_many c s A cA ls.length x y w hT t1 hw hma
  · have t1 : decide ((ls.length : Int) > 60) = false := decide_eq_false (by omega)
    by_cases hw : whyI c 2 = 0
    · exact apart_yes c s A cA ls x y w hT hA hRa hx hy (by omega) (why_yes hw).2.2
    · exact apart_none c s A cA ls.length x y w hT t1 hw hma
end Go.Proofs.YtogbemdoimhndaaDoor.Rn
