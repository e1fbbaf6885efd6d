/-
  What rifflelaw14.Great and RunnerPlays answer: true, whatever the function, the width and the rows. Conditions: the table of traits holds what its text lays; the numbers have 64 bits; no more rows than fit into a machine.
-/
import Derived.Test.YtogbemdoimhndaaDoorRnSt
set_option maxRecDepth 100000
namespace Go.Proofs.YtogbemdoimhndaaDoor.Rn
open Go.Proofs.YtogbemdoimhndaaDoor.Sh Go.Proofs.YtogbemdoimhndaaDoor.St Go.Proofs.YtogbemdoimhndaaDoor.Fd
open Go.RowKit
set_option linter.unusedVariables false

theorem row_at {S : Nat → Prop} {w : World} {A : Option Addr} {c m : Nat} {rs : List (List Int)} (h : RwsIn S w (.slice A m c) rs) {k : Nat} {r : List Int} (hk : rs[k]? = some r) :
    ∃ b off B d, A = some ⟨b, off, none⟩ ∧ w.cell? ⟨b, off + k, none⟩ = some (.slice B r.length d) ∧ r.length ≤ d ∧ d ≤ maxLen ∧ SInts S w B r := by
  obtain ⟨A', c', vs, e, h1, h2, h3, h4, h5⟩ := h
  injection e with e1 e2 e3
  subst e1
  obtain ⟨B, d, k1, k2, k3, k4⟩ := h5 k r hk
  obtain ⟨b, off, rfl, _, _, hc⟩ := h4.one k1
  exact ⟨b, off, B, d, rfl, hc, k2, k3, k4⟩
def GreatB (rs : List (List Int)) (w : World) (e : Ending) (w' : World) : Prop := ∃ b, e = .returned (.bool b) ∧ (b = false → rs.length ≤ 60 ∧ ∀ r ∈ rs, r.length ≤ 100) ∧ w = w'
set_option maxHeartbeats 2000000 in
theorem great_any (S : Nat → Prop) (A : Option Addr) (cA : Nat) (rs : List (List Int)) (w : World) (h : RwsIn S w (.slice A rs.length cA) rs) (hm : rs.length ≤ maxLen) (hmr : ∀ r ∈ rs, r.length ≤ maxLen) :
    Calls Tryd.prog 42 #[.slice A rs.length cA] w (GreatB rs w) := by
  unfold maxLen at hm hmr
  have HV := Lib.hid h
  have HM := Lib.hid hmr
  clear h hmr
  go_enter Tryd.func42, Tryd.ntmps42
  go_wp2
  go_loop [3] (fun i => ∃ k : Nat, k ≤ rs.length ∧ k ≤ 60 ∧ i = .int .i64 k ∧ Hid (∀ t r, t < k → rs[t]? = some r → r.length ≤ 100)) (fun i => rs.length - (intOf i).toNat)
  case atStart => exact ⟨0, Nat.zero_le _, Nat.zero_le _, rfl, Lib.hid (fun t r ht => by omega)⟩
  case round =>
    obtain ⟨k, hk, hk60, rfl, HP⟩ := hrel
    by_cases h1 : k < rs.length
    · have t1 : decide ((k : Int) < (rs.length : Int)) = true := decide_eq_true (by omega)
      by_cases h2 : k < 60
      · have t2 : decide ((k : Int) < (60 : Int)) = true := decide_eq_true (by omega)
        obtain ⟨r, hr⟩ : ∃ r, rs[k]? = some r := ⟨_, List.getElem?_eq_getElem h1⟩
        obtain ⟨b, off, B, d, rfl, q1, -, -, -⟩ := row_at HV.out hr
        have HK := Lib.hid hr
        have k0 : (0 : Int) ≤ (k : Int) := by omega
        have k1 : (k : Int) < (rs.length : Int) := by omega
        have hrm := HM.out r (List.mem_of_getElem? hr)
        clear hr
        by_cases h3 : r.length > 100
        · have t3 : decide ((r.length : Int) > (100 : Int)) = true := decide_eq_true (by omega)
          go_wp2
          go_ret
          exact ⟨true, rfl, (fun h => by cases h), rfl⟩
        · have t3 : decide ((r.length : Int) > (100 : Int)) = false := decide_eq_false (by omega)
          go_wp2
          go_round
          case rel => exact ⟨k + 1, by omega, by omega, by go_num, Lib.hid (fun t q ht hq => by
            rcases Nat.lt_or_ge t k with hlt | hge
            · exact HP.out t q hlt hq
            · obtain rfl : t = k := by omega
              rw [HK.out] at hq
              injection hq with hq
              subst hq
              omega)⟩
          case measure => simp [intOf]; omega
      · have t2 : decide ((k : Int) < (60 : Int)) = false := decide_eq_false (by omega)
        by_cases h4 : rs.length > 60
        · have t4 : decide ((rs.length : Int) > (60 : Int)) = true := decide_eq_true (by omega)
          go_wp2
          go_ret
          exact ⟨true, rfl, (fun h => by cases h), rfl⟩
        · omega
    · have t1 : decide ((k : Int) < (rs.length : Int)) = false := decide_eq_false (by omega)
      have h4 : ¬ rs.length > 60 := by omega
      have t4 : decide ((rs.length : Int) > (60 : Int)) = false := decide_eq_false (by omega)
      have hkl : k = rs.length := by omega
      have HF := Lib.hid (show rs.length ≤ 60 ∧ ∀ r ∈ rs, r.length ≤ 100 from ⟨by omega, fun r hr => by
        obtain ⟨t, ht⟩ := List.getElem?_of_mem hr
        exact HP.out t r (by have := (List.getElem?_eq_some_iff.1 ht).1; omega) ht⟩)
      go_wp2
      go_ret
      exact ⟨false, rfl, fun _ => HF.out, rfl⟩
/-- Rows that the law keeps: a row of its own, the rows' numbers where they came in. -/
def Xs (B0 : Nat) (w : World) (X : Value) (rs : List (List Int)) : Prop := ∃ vs, w.ownsRow B0 27 1 X rs.length vs ∧ ∀ (t : Nat) (r : List Int), rs[t]? = some r → ∃ (B : Option Addr) (d : Nat), vs[t]? = some (Value.slice B r.length d) ∧ r.length ≤ d ∧ d ≤ maxLen ∧ SInts (fun b => b < B0) w B r
section
variable {B0 : Nat} {w w' : World} {X X' : Value} {rs : List (List Int)} {T : Nat → Prop}
theorem Xs.none (B0 : Nat) (w : World) : Xs B0 w (.slice none 0 0) [] := ⟨[], World.ownsRow_nil _ _ _ _, fun t r h => by simp at h⟩
theorem Xs.turn (h : Xs B0 w X rs) (hb : Turn T w w') (hX : ∀ b, X.ownBlock = some b → ¬ T b) (hB : ∀ b, b < B0 → ¬ T b) : Xs B0 w' X rs := by
  obtain ⟨vs, h1, h2⟩ := h
  refine ⟨vs, own_turn h1 hb hX, fun t r hr => ?_⟩
  obtain ⟨B, d, k1, k2, k3, k4⟩ := h2 t r hr
  exact ⟨B, d, k1, k2, k3, Seq.turn k4 hb hB⟩
theorem Xs.next (h : Xs B0 w X rs) (hb : Below w.heap.size w w') : Xs B0 w' X rs := h.turn (Turn.of_below (fun _ => False) hb) (fun _ _ h => h) fun _ _ h => h
theorem Xs.base (h : Xs B0 w X rs) : ∀ b, X.ownBlock = some b → B0 ≤ b := by obtain ⟨vs, h1, _⟩ := h; exact own_base h1
theorem Xs.rows (h : Xs B0 w X rs) : ∃ A c, X = .slice A rs.length c ∧ RwsIn (fun _ => True) w (.slice A rs.length c) rs := by
  obtain ⟨vs, h1, h2⟩ := h
  obtain ⟨A, c, rfl, hn, hm, hs⟩ := own_seq h1 (by decide)
  refine ⟨A, c, rfl, A, c, vs, rfl, hn, hm, by simpa using h1.1, hs.mono fun _ _ => trivial, fun t r hr => ?_⟩
  obtain ⟨B, d, k1, k2, k3, k4⟩ := h2 t r hr
  exact ⟨B, d, k1, k2, k3, Seq.mono k4 fun _ _ => trivial⟩
theorem Xs.app {vs : List Value} {o : Obj} {B : Option Addr} {d : Nat} {r : List Int} (h1 : w.ownsRow B0 27 1 X rs.length vs) (h2 : ∀ (t : Nat) (r : List Int), rs[t]? = some r → ∃ (B : Option Addr) (d : Nat), vs[t]? = some (Value.slice B r.length d) ∧ r.length ≤ d ∧ d ≤ maxLen ∧ SInts (fun b => b < B0) w B r)
    (hi : SInts (fun b => b < B0) w B r) (hd : r.length ≤ d) (hd2 : d ≤ maxLen) (hv : w'.ownsRow B0 27 1 X' (rs.length + 1) (vs ++ [.slice B r.length d])) (hg : (w.alloc o).grownBy w' X.ownBlock) : Xs B0 w' X' (rs ++ [r]) := by
  have hvl : vs.length = rs.length := by simpa using h1.1
  have tn : Turn (fun b => X.ownBlock = some b) w w' := (Turn.of_below _ (below_new w o)).trans (Turn.of_grown hg fun g e => e)
  have hB : ∀ b, b < B0 → ¬ X.ownBlock = some b := fun b hb e => by have := own_base h1 b e; omega
  refine ⟨vs ++ [.slice B r.length d], by simpa using hv, fun t q hq => ?_⟩
  rcases Nat.lt_or_ge t rs.length with hlt | hge
  · rw [List.getElem?_append_left hlt] at hq
    obtain ⟨B', d', k1, k2, k3, k4⟩ := h2 t q hq
    exact ⟨B', d', by rw [List.getElem?_append_left (by omega)]; exact k1, k2, k3, Seq.turn k4 tn hB⟩
  · rw [List.getElem?_append_right hge] at hq
    have ht : t - rs.length = 0 := by
      have := (List.getElem?_eq_some_iff.1 hq).1
      simp at this; omega
    rw [ht] at hq
    simp at hq
    subst hq
    exact ⟨B, d, by rw [List.getElem?_append_right (by omega), hvl, ht]; rfl, hd, hd2, Seq.turn hi tn hB⟩
end
theorem ru_apart {base B0 : Nat} {w : World} {g m : Nat} {V X : Value} {c : Int} {s : Bool} {n : Nat} {rs : List (List Int)} {vs : List Value} (r : Ru base w g V c s n rs) (h : w.ownsRow B0 27 1 X m vs) : ∀ b, Tr g V b → ¬ X.ownBlock = some b := by
  obtain ⟨xs, h1, h2⟩ := r
  intro b hb hX
  rcases hb with rfl | hb
  · exact own_bk_ne (t := 114) h h1.1 (by decide) hX.symm
  · rcases own_apart h1.2.1 h (by decide) with e | e
    · rw [e] at hb; cases hb
    · exact e (hb.trans hX.symm)
theorem push_ru_len (base g : Nat) (V : Value) (c : Int) (s : Bool) (n : Nat) (rs : List (List Int)) (A : Option Addr) (m cap : Nat) (w : World) (r : Ru base w g V c s n rs) (hn : ¬ m = n) :
    Calls Tryd.prog 43 #[.pointer (some ⟨g, 0, none⟩), .slice A m cap] w fun e w' => e = .returned (.tuple #[.slice none 0 0, .int .i64 3]) ∧ w = w' := by
  obtain ⟨xs, h1, h2, h3⟩ := r
  exact push_len base g V c s rs.length xs A m cap w h1 (by rw [h2]; exact hn)
theorem now_ru (base g : Nat) (V : Value) (c : Int) (s : Bool) (n : Nat) (rs : List (List Int)) (w : World) (r : Ru base w g V c s n rs) (hk : 0 < rs.length) (hn : n ≤ 64) : Calls Tryd.prog 45 #[.pointer (some ⟨g, 0, none⟩)] w (RetNow (colsI c s n rs) true w) := by
  obtain ⟨xs, h1, h2, h3⟩ := r
  rw [← h3 hk]
  exact now_any base g V c s rs.length xs w h1 hk (by omega)
theorem came_ru (base g : Nat) (V : Value) (c : Int) (s : Bool) (n : Nat) (rs : List (List Int)) (w : World) (r : Ru base w g V c s n rs) : Calls Tryd.prog 46 #[.pointer (some ⟨g, 0, none⟩)] w fun e w' => e = .returned (.int .i64 (rs.length : Nat)) ∧ w = w' := by
  obtain ⟨xs, h1, h2, h3⟩ := r
  exact came_any base g V c s rs.length xs w h1
/-- At the head of the loop over rows. -/
def PlayAt (w1 wr : World) (g : Nat) (V : Value) (c : Int) (s : Bool) (n k : Nat) (X : Value) : Prop :=
  ∃ rs, Xs w1.heap.size wr X rs ∧ (∀ r ∈ rs, r.length = n) ∧ (∀ r ∈ rs, AllR r) ∧ Ru w1.heap.size wr g V c s n rs ∧ rs.length ≤ k ∧ Below w1.heap.size w1 wr
set_option maxHeartbeats 4000000 in
theorem plays_yes (c : Int) (s : Bool) (n : Nat) (A : Option Addr) (cA : Nat) (ls : List (List Int)) (w : World) (hT : Sc.Tab w) (hV : RwsIn (fun b => b < w.heap.size) w (.slice A ls.length cA) ls) (hR : ∀ r ∈ ls, AllR r) (hml : ls.length ≤ maxLen) (hmr : ∀ r ∈ ls, r.length ≤ maxLen)
    (hn : n ≤ 64) (hj : (Sc.trOf c).joins = true) (hw : whyI c (n : Int) = 0) :
    Calls Tryd.prog 10 #[.agg #[.int .i64 c, .bool s], .int .i64 (n : Int), .slice A ls.length cA] w fun e w' => e = .returned (.bool true) ∧ Below w.heap.size w w' := by
  have b0 := below_new w (.cells #[.int .i64 c, .bool s] 23)
  have BN := Lib.hid (Bx.new 23 w #[.int .i64 c, .bool s])
  have T1 := Lib.hid (hT.below b0)
  have V1 := Lib.hid ((hV.next b0).mono (S' := fun b => b < (w.alloc (.cells #[.int .i64 c, .bool s] 23)).heap.size) fun b hb => by simp; omega)
  have L0 := Lib.hid b0
  have HR := Lib.hid hR
  have HJ := Lib.hid hj
  have HMR := Lib.hid hmr
  unfold maxLen at hml
  clear b0 hT hV hR hj hmr
  obtain ⟨x0, x1⟩ := bx2 BN.out
  go_enter Tryd.func10, Tryd.ntmps10
  go_wp2_with fail
  generalize hW1 : w.alloc (.cells #[.int .i64 c, .bool s] 23) = w1 at *
  clear hW1
  refine (new_yes c s n w1 T1.out hn HJ.out).mono ?_
  rintro r w2 ⟨g, V, rfl, d2, hb2⟩
  have R2 := Lib.hid (ru_new d2)
  have L2 := Lib.hid hb2
  have MY := may_any c s (n : Int) w2
  rw [hw] at MY
  have MYH := Lib.hid MY
  obtain ⟨x0', x1'⟩ := bx2 (BN.out.next hb2)
  clear d2 hb2 x0 x1 MY hw
  go_wp2_with fail
  refine MYH.out.mono ?_
  rintro r w3 ⟨rfl, hb3⟩
  have R3 := Lib.hid (R2.out.next hb3)
  have L3 := Lib.hid (below_next L2.out hb3)
  have V3 := Lib.hid (V1.out.next L3.out)
  clear hb3 x0' x1'
  go_wp2_with fail
  refine (great_any _ A cA ls w3 V3.out (by unfold maxLen; omega) HMR.out).mono ?_
  rintro r w4 ⟨b, rfl, hg, rfl⟩
  cases b with
  | true =>
    clear hg
    go_wp2_with fail
    refine (lives_any w3 (T1.out.below L3.out)).mono ?_
    rintro r w5 ⟨rfl, hb5⟩
    have L5 := Lib.hid (below_next (below_next L0.out L3.out) hb5)
    clear hb5
    go_wp2
    go_ret
    exact ⟨rfl, L5.out⟩
  | false =>
    obtain ⟨g1, g2⟩ := hg rfl
    have G2 := Lib.hid g2
    have PA : Hid (PlayAt w1 w3 g V c s n 0 (.slice none 0 0)) := Lib.hid ⟨[], Xs.none _ _, fun r hr => by simp at hr, fun r hr => by simp at hr, R3.out, by simp, L3.out⟩
    clear hg g2 R3 R2
    go_wp2
    go_loopw [10, 50] (fun X i wr => ∃ k : Nat, k ≤ ls.length ∧ i = .int .i64 k ∧ Hid (PlayAt w1 wr g V c s n k X)) (fun _ i _ => ls.length - (intOf i).toNat)
    case atStart => exact ⟨0, Nat.zero_le _, rfl, PA⟩
    case round =>
      obtain ⟨k, hk, rfl, HP⟩ := hrel
      by_cases hlt : k < ls.length
      · obtain ⟨rs, p1, p2, p3, p4, p5, p6⟩ := HP.out
        obtain ⟨r, hr⟩ : ∃ r, ls[k]? = some r := ⟨_, List.getElem?_eq_getElem hlt⟩
        have hmem := List.mem_of_getElem? hr
        have hrR := Lib.hid (HR.out r hmem)
        have hrl := G2.out r hmem
        have i1 : (k : Int) < (ls.length : Int) := by omega
        have i0 : (0 : Int) ≤ (k : Int) := by omega
        obtain ⟨b, off, B, d, rfl, q1, q2, q3, q4⟩ := row_at (V1.out.next p6) hr
        have Q2 := Lib.hid q2
        have Q3 := Lib.hid q3
        have Q4 := Lib.hid q4
        have P1 := Lib.hid p1
        have P2 := Lib.hid p2
        have P3 := Lib.hid p3
        have P4 := Lib.hid p4
        have P6 := Lib.hid p6
        clear hr hmem p1 p2 p3 p4 p6 q2 q3 q4 HP PA
        by_cases hrn : r.length = n
        · have e1 : ((r.length : Int) != (n : Int)) = false := by simp [hrn]
          obtain ⟨t, ht⟩ : ∃ t, colsI c s n (rs ++ [r]) = t := ⟨_, rfl⟩
          have htl : t.length = n := by rw [← ht, colsI_len]
          have PU := Lib.hid (push_st w1.heap.size g V c s n rs (fun b => b < w1.heap.size) B d r wr P4.out Q4.out (fun b hb hb2 => by have := (P4.out.lt b hb2).2; omega) hrn hn (by omega) HJ.out (fun W h => T1.out.below (P6.out.trans h)) P3.out hrR.out t ht)
          have HTT := Lib.hid ht
          have HTL := Lib.hid htl
          have P2' : Hid (∀ q ∈ rs ++ [r], q.length = n) := Lib.hid fun q hq => by
            rcases List.mem_append.1 hq with h | h
            · exact P2.out q h
            · simp at h; subst h; exact hrn
          have P3' : Hid (∀ q ∈ rs ++ [r], AllR q) := Lib.hid fun q hq => by
            rcases List.mem_append.1 hq with h | h
            · exact P3.out q h
            · simp at h; subst h; exact hrR.out
          have HRN := Lib.hid hrn
          clear ht htl hrn
          go_wp2_with fail
          refine PU.out.mono ?_
          rintro e' w5 ⟨A5, c5, rfl, m5, r5, t5⟩
          obtain ⟨vs, o1, o2⟩ := P1.out.turn t5 (fun b hX hb => by obtain ⟨vs, o1, _⟩ := P1.out; exact ru_apart P4.out o1 b hb hX) (fun b hb hb2 => by have := (P4.out.lt b hb2).2; omega)
          have O1 := Lib.hid o1
          have O2 := Lib.hid o2
          have L5 := Lib.hid (ru_below P6.out (Nat.le_refl _) P4.out t5)
          have Q5 := Lib.hid (Seq.turn Q4.out t5 (fun b hb hb2 => by have := (P4.out.lt b hb2).2; omega))
          have M5 := Lib.hid m5
          have R5 := Lib.hid r5
          have RA := Lib.hid (ru_apart r5 o1)
          have O6 := Lib.hid (World.ownsRow.alloc o1 (.cells #[.slice B r.length d] 27))
          have L6 := Lib.hid (below_next L5.out (below_new w5 (.cells #[.slice B r.length d] 27)))
          have TN : Hid (rs.length + 1 ≤ 100000) := Lib.hid (by omega)
          clear m5 r5 t5 o1 o2 PU
          go_wp2_with (at_builtin; refine wpList_appS infoR rfl (by decide) (by decide) Tryd.underlying59 rfl (.tmp 71) (.tmp 73) rfl w1.heap.size _ rs.length vs rfl O6.out (fun _ => True) _ 1 1 [Value.slice B r.length d] rfl rfl (seq1 _ _ _) (one_sl _ _ _) TN.out L6.out.size ?_; intro v7 w7 hv7 hg7 hat7; have V7 := Lib.hid hv7; have G7 := Lib.hid hg7; have TN7 := Lib.hid ((Turn.of_below _ (below_new w5 _)).trans (Turn.of_grown hg7 fun g e => e)); have L7 := Lib.hid (L5.out.trans (TN7.out.below L5.out.size fun b hX => own_base O1.out b hX)); obtain ⟨x0, x1⟩ := bx2 (BN.out.next L7.out); clear hv7 hg7 hat7)
          have tn7 := TN7.out
          have X7 := Lib.hid (Xs.app O1.out O2.out Q5.out Q2.out Q3.out V7.out G7.out)
          have R7 := Lib.hid (R5.out.turn tn7 (fun b hb hX => RA.out b hb hX))
          have M7 := Lib.hid (own_turn M5.out tn7 (fun b hb hX => by
            rcases own_apart M5.out O1.out (by decide) with e | e
            · rw [e] at hb; cases hb
            · exact e (hb.trans hX.symm)))
          clear tn7 TN7 V7 G7 O6 L6 TN RA O1 O2 Q5 M5 R5
          obtain ⟨rs', hrs'⟩ : ∃ rs', rs ++ [r] = rs' := ⟨_, rfl⟩
          have hl' : rs'.length = rs.length + 1 := by rw [← hrs']; simp
          rw [hrs'] at X7 R7 P2' P3' HTT
          obtain ⟨A7, c7, rfl, x7⟩ := X7.out.rows
          have NW := Lib.hid (rnow_cons c s (fun _ => True) A7 c7 rs' n w7 x7 hn (by omega) (by omega) P2'.out P3'.out HJ.out)
          rw [HTT.out] at NW
          clear x7
          go_wp2_with fail
          refine NW.out.mono ?_
          rintro e' w8 ⟨A8, c8, rfl, m8, hb8⟩
          have R8 := Lib.hid (R7.out.next hb8)
          have X8 := Lib.hid (X7.out.next hb8)
          have L8 := Lib.hid (below_next L7.out hb8)
          have M8 := Lib.hid m8
          have M58 := Lib.hid (own_below M7.out hb8)
          have NR := now_ru w1.heap.size g V c s n rs' w8 R8.out (by omega) hn
          rw [HTT.out] at NR
          have NRH := Lib.hid NR
          clear m8 hb8 x0 x1 NW NR R7 X7 L7 M7
          go_wp2_with fail
          refine NRH.out.mono ?_
          rintro e' w9 ⟨A9, c9, rfl, m9, hb9⟩
          have R9 := Lib.hid (R8.out.next hb9)
          have X9 := Lib.hid (X8.out.next hb9)
          have L9 := Lib.hid (below_next L8.out hb9)
          have M89 := Lib.hid (show MineT 2 w9 _ _ t from own_below M8.out hb9)
          have M59 := Lib.hid (show MineT 2 w9 _ _ t from own_below M58.out hb9)
          have M9 := Lib.hid m9
          have N1 := Lib.hid (nums_same A5 c5 t A8 c8 w9 (by unfold maxLen; have := HTL.out; omega) M59.out.ints' M89.out.ints')
          clear m9 hb9 R8 X8 L8 M8 M58 NRH
          go_wp2_with fail
          refine N1.out.mono ?_
          rintro e' w10 ⟨rfl, hb10⟩
          have N2 := Lib.hid (nums_same A9 c9 t A8 c8 w10 (by unfold maxLen; have := HTL.out; omega) (M9.out.below hb10 (Nat.le_refl _)).ints' (M89.out.below hb10 (Nat.le_refl _)).ints')
          have R10 := Lib.hid (R9.out.next hb10)
          have X10 := Lib.hid (X9.out.next hb10)
          have L10 := Lib.hid (below_next L9.out hb10)
          clear hb10 R9 X9 L9 N1
          go_wp2_with fail
          refine N2.out.mono ?_
          rintro e' w11 ⟨rfl, hb11⟩
          have CM := Lib.hid (came_ru w1.heap.size g V c s n rs' w11 (R10.out.next hb11))
          have PA : Hid (PlayAt w1 w11 g V c s n (k + 1) (.slice A7 rs'.length c7)) := Lib.hid ⟨rs', X10.out.next hb11, P2'.out, P3'.out, R10.out.next hb11, by omega, below_next L10.out hb11⟩
          clear hb11
          go_wp2_with fail
          refine CM.out.mono ?_
          rintro e' w12 ⟨rfl, rfl⟩
          go_wp2
          refine ⟨⟨k + 1, by omega, by go_num, by rw [← hl']; exact PA⟩, by simp [intOf]; omega⟩
        · have e1 : ((r.length : Int) != (n : Int)) = true := by simp; omega
          have PU := Lib.hid (push_ru_len w1.heap.size g V c s n rs B r.length d wr P4.out hrn)
          have PA : Hid (PlayAt w1 wr g V c s n (k + 1) _) := Lib.hid ⟨rs, P1.out, P2.out, P3.out, P4.out, by omega, P6.out⟩
          clear hrn
          go_wp2_with fail
          refine PU.out.mono ?_
          rintro e' w5 ⟨rfl, rfl⟩
          go_wp2
          refine ⟨⟨k + 1, by omega, by go_num, PA⟩, by simp [intOf]; omega⟩
      · obtain rfl : k = ls.length := by omega
        obtain ⟨rs, p1, p2, p3, p4, p5, p6⟩ := HP.out
        have P6 := Lib.hid p6
        clear p1 p2 p3 p4 p6 HP PA
        go_wp2_with fail
        refine (lives_any _ (T1.out.below P6.out)).mono ?_
        rintro r w5 ⟨rfl, hb5⟩
        have L5 := Lib.hid (below_next (below_next L0.out P6.out) hb5)
        clear hb5
        go_wp2
        go_ret
        exact ⟨rfl, L5.out⟩
set_option maxHeartbeats 4000000 in
theorem plays_no (c : Int) (s : Bool) (n : Int) (V : Value) (w : World) (hT : Sc.Tab w) (hw : whyI c n ≠ 0) :
    Calls Tryd.prog 10 #[.agg #[.int .i64 c, .bool s], .int .i64 n, V] w fun e w' => e = .returned (.bool true) ∧ Below w.heap.size w w' := by
  have b0 := below_new w (.cells #[.int .i64 c, .bool s] 23)
  have BN := Lib.hid (Bx.new 23 w #[.int .i64 c, .bool s])
  have T1 := Lib.hid (hT.below b0)
  have L0 := Lib.hid b0
  have NN := Lib.hid (fun W (h : Sc.Tab W) => new_no c s n W h hw)
  have MM := Lib.hid (fun W => may_any c s n W)
  obtain ⟨y, hy⟩ : ∃ y, whyI c n = y := ⟨_, rfl⟩
  rw [hy] at NN MM hw
  have e1 : (y != 0) = true := by simpa using hw
  clear b0 hT hw hy
  obtain ⟨x0, x1⟩ := bx2 BN.out
  go_enter Tryd.func10, Tryd.ntmps10
  go_wp2_with fail
  refine (NN.out _ T1.out).mono ?_
  rintro r w2 ⟨rfl, hb2⟩
  obtain ⟨x0', x1'⟩ := bx2 (BN.out.next hb2)
  have L2 := Lib.hid (below_next L0.out hb2)
  have T2 := Lib.hid (T1.out.below hb2)
  clear hb2 x0 x1
  go_wp2_with fail
  refine (MM.out _).mono ?_
  rintro r w3 ⟨rfl, hb3⟩
  have L3 := Lib.hid (below_next L2.out hb3)
  have T3 := Lib.hid (T2.out.below hb3)
  clear hb3 x0' x1'
  go_wp2_with fail
  refine (lives_any _ T3.out).mono ?_
  rintro r w5 ⟨rfl, hb5⟩
  have L5 := Lib.hid (below_next L3.out hb5)
  clear hb5
  go_wp2
  go_ret
  exact ⟨rfl, L5.out⟩
theorem plays_any (c : Int) (s : Bool) (n : Int) (A : Option Addr) (cA : Nat) (ls : List (List Int)) (w : World) (hT : Sc.Tab w) (hV : RwsIn (fun b => b < w.heap.size) w (.slice A ls.length cA) ls) (hR : ∀ r ∈ ls, AllR r) (hml : ls.length ≤ maxLen) (hmr : ∀ r ∈ ls, r.length ≤ maxLen) :
    Calls Tryd.prog 10 #[.agg #[.int .i64 c, .bool s], .int .i64 n, .slice A ls.length cA] w fun e w' => e = .returned (.bool true) ∧ Below w.heap.size w w' := by
  by_cases hw : whyI c n = 0
  · obtain ⟨h0, h1, hj⟩ := why_yes hw
    obtain ⟨k, rfl⟩ : ∃ k : Nat, n = k := ⟨n.toNat, by omega⟩
    exact plays_yes c s k A cA ls w hT hV hR hml hmr (by omega) hj hw
  · exact plays_no c s n _ w hT hw
end Go.Proofs.YtogbemdoimhndaaDoor.Rn
