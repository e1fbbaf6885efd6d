/-
  What (*tape.Tape).Set does and tells. Conditions: as told in each.
-/
import Derived.Test.YtakoehgjgdcmmaaTpDel2
set_option maxRecDepth 100000
namespace Go.Proofs.Ytakoehgjgdcmmaa.Tp
open Go.Proofs.Ytakoehgjgdcmmaa.Sh Go.Proofs.Ytakoehgjgdcmmaa.St
open Go.RowKit
set_option linter.unusedVariables false

theorem set_nil (i : Int) (A : Option Addr) (n c : Nat) (w : World) : Calls Try.prog 12 #[.pointer none, .int .i64 i, .slice A n c] w fun e w' => e = .returned (.tuple #[.slice none 0 0, .int .i64 1]) ∧ w = w' := by
  go_enter Try.func12, Try.ntmps12
  go_wp2
  go_ret2
  exact ⟨rfl, rfl⟩
theorem set_out (g : Nat) (V : Value) (wd f e : Nat) (i : Int) (A : Option Addr) (n c : Nat) (w : World) (d : TapF w g V wd f e) (h : i < f ∨ e < i) :
    Calls Try.prog 12 #[.pointer (some ⟨g, 0, none⟩), .int .i64 i, .slice A n c] w fun e w' => e = .returned (.tuple #[.slice none 0 0, .int .i64 1]) ∧ w = w' := by
  obtain ⟨-, -, c2, c3⟩ := d.all
  clear d
  by_cases h1 : i < f
  · have t1 : decide (i < (f : Int)) = true := decide_eq_true h1
    clear h
    go_enter Try.func12, Try.ntmps12
    go_wp2
    go_ret2
    exact ⟨rfl, rfl⟩
  · have t1 : decide (i < (f : Int)) = false := decide_eq_false h1
    have t2 : decide (i > (e : Int)) = true := decide_eq_true (by omega)
    clear h
    go_enter Try.func12, Try.ntmps12
    go_wp2
    go_ret2
    exact ⟨rfl, rfl⟩
theorem set_unfit (S : Nat → Prop) (g : Nat) (V : Value) (wd f e p : Nat) (U : Value) (news : List (List Int)) (w : World) (d : TapF w g V wd f e) (hf : f ≤ p) (hp : p ≤ e) (hn : RwsIn S w U news) (hnl : news.length ≤ 1000) (hu : unfitB wd news = true) :
    Calls Try.prog 12 #[.pointer (some ⟨g, 0, none⟩), .int .i64 p, U] w fun e w' => e = .returned (.tuple #[.slice none 0 0, .int .i64 3]) ∧ w = w' := by
  have CU := Lib.hid (contains_unfit S g wd U news true w hu d.all.2.1 hnl hn)
  obtain ⟨-, -, c2, c3⟩ := d.all
  obtain ⟨A, c, vs, rfl, -⟩ := hn
  have t1 : decide ((p : Int) < (f : Int)) = false := decide_eq_false (by omega)
  have t2 : decide ((p : Int) > (e : Int)) = false := decide_eq_false (by omega)
  have t1' : decide (p < f) = false := decide_eq_false (by omega)
  have t2' : decide (e < p) = false := decide_eq_false (by omega)
  clear d
  go_enter Try.func12, Try.ntmps12
  go_wp2_with (go_at_call 24; (with_reducible refine (CU.out).mono ?_); rintro r w1 ⟨rfl, rfl⟩)
  go_ret2
  exact ⟨rfl, rfl⟩
theorem mine_cut {w : World} {base n c m : Nat} {A : Option Addr} {l l' : List Int} (h : MineT 2 w base (.slice A n c) l) (hm : m ≤ l.length) (he : l.take m = l') : MineT 2 w base (.slice A m c) l' := by
  subst he
  have hl : (l.take m).length = m := by rw [List.length_take]; omega
  unfold MineT
  rw [hl]
  refine ⟨by simp; omega, ?_⟩
  rcases h.2 with ⟨e1, h0⟩ | ⟨g, cap, cur, e1, hb, hg, hn, hx, hs, ht⟩
  · injection e1 with e1 e2 e3
    subst e1 e2 e3
    exact .inl ⟨by rw [show m = 0 by omega], by omega⟩
  · injection e1 with e1 e2 e3
    subst e1 e3
    refine .inr ⟨g, c, cur, rfl, hb, hg, by omega, hx, hs, ?_⟩
    rw [List.map_take, ← ht, List.take_take, Nat.mul_one, Nat.mul_one, Nat.min_eq_left hm]
theorem turn_grow {T : Nat → Prop} {a b w : World} {row : Option Nat} (h : Turn T a b) (k : b.grownBy w row) (hr : ∀ g, row = some g → T g ∨ a.heap.size ≤ g) : Turn T a w :=
  ⟨k.os.trans h.1, k.tape.trans h.2.1, k.output.trans h.2.2.1, Nat.le_trans h.size k.size, fun i hi hn => (k.block i (Nat.lt_of_lt_of_le hi h.size) (fun e => by
    rcases hr i e.symm with h1 | h1
    · exact hn h1
    · omega)).trans (h.at_ hi hn)⟩
/-- What the loop of Set finds. -/
def SetAt (base : Nat) (w2 wr : World) (g : Nat) (V : Value) (wd f e : Nat) (l0 news : List (List Int)) (k : Nat) : Prop := ∃ Vr, TapF wr g Vr wd f e ∧ MineT 2 wr base Vr (l0 ++ news.take k).flatten ∧ Turn (Tq g V) w2 wr ∧ Fresh w2 V Vr
theorem set_step {base g : Nat} {w2 wr w' : World} {V Vr V' : Value} {wd f e k : Nat} {l0 news : List (List Int)} {r : List Int} (hr : news[k]? = some r) (hx : TapF wr g Vr wd f e) (hm : MineT 2 wr base Vr (l0 ++ news.take k).flatten) (ht : Turn (Tq g V) w2 wr) (hf : Fresh w2 V Vr)
    (h3 : MineT 2 w' base V' ((l0 ++ news.take k).flatten ++ r)) (hg : wr.grownBy w' Vr.ownBlock) (ha : V'.ownBlock = Vr.ownBlock ∨ V'.ownBlock = some wr.heap.size) : TapF w' g Vr wd f e ∧ SetAt base w2 (w'.setCell ⟨g, 0, none⟩ V') g V wd f e l0 news (k + 1) := by
  have h1 : TapF w' g Vr wd f e := Bk.grown hx hg (own_bk_ne hm hx (by decide))
  have hne : V'.ownBlock ≠ some g := fun e => own_bk_ne (t := 52) h3 h1 (by decide) e.symm
  have he : (l0 ++ news.take k).flatten ++ r = (l0 ++ news.take (k + 1)).flatten := by
    obtain ⟨hk, e⟩ := List.getElem?_eq_some_iff.1 hr
    rw [List.take_succ_eq_append_getElem hk, e]
    simp
  refine ⟨h1, V', Bk.set_ h1 0 V', ?_, ?_, ?_⟩
  · rw [← he]
    exact MineT.setCell h3 (p := ⟨g, 0, none⟩) hne _
  · exact (turn_grow ht hg fun x hx => (hf x hx).imp .inr id).setCell (p := ⟨g, 0, none⟩) (.inl (.inl rfl)) _
  · intro x hx
    rcases ha with e | e
    · exact hf x (by rw [← e]; exact hx)
    · rw [e] at hx; injection hx with hx; exact .inr (by have := ht.size; omega)
theorem set_start {base g : Nat} {w5 : World} {V : Value} {wd f e m n0 N : Nat} {A0 : Option Addr} {l0 news : List (List Int)} (hV : V = .slice A0 N n0) (hx : TapF w5 g V wd f e) (hm : MineT 2 w5 base (.slice A0 m n0) l0.flatten) : SetAt base w5 (w5.setCell ⟨g, 0, none⟩ (.slice A0 m n0)) g V wd f e l0 news 0 := by
  have hne : (Value.slice A0 m n0).ownBlock ≠ some g := fun e => own_bk_ne (t := 52) hm hx (by decide) e.symm
  refine ⟨_, Bk.set_ hx 0 _, ?_, (Turn.refl _ _).setCell (p := ⟨g, 0, none⟩) (.inl (.inl rfl)) _, fun x hx => .inl ?_⟩
  · rw [List.take_zero, List.append_nil]
    exact MineT.setCell hm (p := ⟨g, 0, none⟩) hne _
  · rw [hV]; cases A0 <;> exact hx
/-- What Set tells. -/
def RetSet (base g : Nat) (V : Value) (wd f : Nat) (rows news : List (List Int)) (p : Nat) (w : World) (e : Ending) (w' : World) : Prop := ∃ Vd qs V', e = .returned (.tuple #[Vd, .int .i64 0]) ∧ Live w.heap.size w' Vd qs ∧ qs.map (·.1) = deltasL rows news p ∧ Tap base w' g V' wd f (setL rows news p) ∧ Turn (Tq g V) w w' ∧ Fresh w V V' ∧ ∀ k, Vd.ownBlock = some k → V'.ownBlock ≠ some k
set_option maxHeartbeats 16000000 in
theorem set_any (base g : Nat) (V : Value) (wd f : Nat) (rows news : List (List Int)) (p : Nat) (S : Nat → Prop) (U : Value) (w : World) (d : Tap base w g V wd f rows) (hf : f ≤ p) (hp : p ≤ rows.length) (hn : RwsIn S w U news) (hS : ∀ b, S b → ¬ Tq g V b) (hu : unfitB wd news = false) (hnl : p + news.length ≤ 900) (hbase : base ≤ w.heap.size) :
    Calls Try.prog 12 #[.pointer (some ⟨g, 0, none⟩), .int .i64 p, U] w (RetSet base g V wd f rows news p w) := by
  have hnw := unfit_no hu
  have CU := Lib.hid (contains_unfit S g wd U news false w hu d.1.all.2.1 (by omega) hn)
  have DE := Lib.hid (deltas_any base g V wd f rows news p S U w d hf hp hn hnw (by omega))
  have D0 := Lib.hid d
  have hall : ∀ x ∈ rows.drop f, x.length = wd := fun x hx => d.2.2.2.1 x (List.mem_of_mem_drop hx)
  have hll := flat_len hall
  rw [List.length_drop] at hll
  obtain ⟨j, hj⟩ : ∃ j, p - f = j := ⟨_, rfl⟩
  have hle : j * wd ≤ (rows.length - f) * wd := Nat.mul_le_mul_right wd (by omega)
  have hbd := bd (show rows.length - f ≤ 900 by have := d.2.2.2.2.2.2; omega) d.2.2.2.2.1
  have hcut := flat_take (wd := wd) j hall
  have hr9 := d.2.2.2.2.2.2
  have hwd := d.2.2.2.2.1
  obtain ⟨m, hm⟩ : ∃ m, j * wd = m := ⟨_, rfl⟩
  rw [hm] at hle hcut
  have w1 : IntKind.i64.wrap ((p : Int) - (f : Int)) = (j : Int) := by rw [IntWalk.i64_in _ (by omega)]; omega
  have w2 : IntKind.i64.wrap ((j : Int) * (wd : Int)) = (m : Int) := by rw [← Int.natCast_mul, hm]; exact IntWalk.i64_in _ (by omega)
  have w3 : IntKind.i64.wrap ((p : Int) + (news.length : Int)) = (p : Int) + (news.length : Int) := IntWalk.i64_in _ (by omega)
  obtain ⟨c0, c1, c2, c3⟩ := d.1.all
  obtain ⟨A0, n0, hV, hn0, hm0, -⟩ := own_seq d.2.1 (by decide)
  obtain ⟨N, hN⟩ : ∃ N, (rows.drop f).flatten.length = N := ⟨_, rfl⟩
  rw [hN] at hV hn0
  rw [hN] at hll
  have HV := Lib.hid hV
  have i4 : (m : Int) ≤ (n0 : Int) := by omega
  have i5 : (m : Int) ≤ (N : Int) := by omega
  have hmN : m ≤ N := by omega
  have HNL : Hid (A0 = none → N = 0) := Lib.hid (fun e => by
    subst e
    rcases d.2.1.2 with ⟨_, h0⟩ | ⟨g', cap, cur, e1, _⟩
    · omega
    · rw [hV] at e1; injection e1 with e1; cases e1)
  have hmn : m ≤ n0 := by omega
  have CT := Lib.hid (fun W (h : MineT 2 W base V (rows.drop f).flatten) => mine_cut (m := m) (by rw [← hV]; exact h) (by rw [hN, hll]; exact hle) hcut)
  have t1 : decide ((p : Int) < (f : Int)) = false := decide_eq_false (by omega)
  have t2 : decide ((p : Int) > (rows.length : Int)) = false := decide_eq_false (by omega)
  have t1' : decide (p < f) = false := decide_eq_false (by omega)
  have t2' : decide (rows.length < p) = false := decide_eq_false (by omega)
  have HNW := Lib.hid hnw
  have HSS := Lib.hid hS
  have HN := Lib.hid hn
  have HB0 := Lib.hid hbase
  have HIS : Hid ((rows.drop f).take j = (rows.take p).drop f) := Lib.hid (by rw [List.take_drop, show f + j = p by omega])
  obtain ⟨l0, hl0⟩ : ∃ l0, (rows.take p).drop f = l0 := ⟨_, rfl⟩
  rw [HIS.out, hl0] at CT
  have HL0 := Lib.hid hl0
  have hl0l : l0.length = p - f := by rw [← hl0, List.length_drop, List.length_take]; omega
  have HLL := Lib.hid (fun k (hk : k ≤ news.length) => flat_len (rs := l0 ++ news.take k) (wd := wd) (fun r hr => by
    rcases List.mem_append.1 hr with hr | hr
    · rw [← hl0] at hr
      exact d.2.2.2.1 r (List.mem_of_mem_take (List.mem_of_mem_drop hr))
    · exact hnw r (List.mem_of_mem_take hr)))
  have HLB := Lib.hid (fun k (hk : k ≤ news.length) => show (l0 ++ news.take k).flatten.length ≤ 57600 by
    rw [HLL.out k hk, List.length_append, hl0l, List.length_take]
    exact bd (by omega) hwd)
  obtain ⟨A, c, vs, rfl, -⟩ := hn
  clear d hnw hu hall hll hcut hm hle hbase hS hj hV hn0 hN hl0 hl0l
  rcases A0 with _ | ad
  · obtain rfl : N = 0 := HNL.out rfl
    obtain rfl : m = 0 := by omega
    go_enter Try.func12, Try.ntmps12
    go_wp2_with (first
      | (go_at_call 24; (with_reducible refine (CU.out).mono ?_); rintro r w4 ⟨rfl, rfl⟩)
      | (go_at_call 26; (with_reducible refine (DE.out).mono ?_); rintro r w5 ⟨Vd, qs, rfl, l5, e5, hb5⟩; have L5 := Lib.hid l5; have E5 := Lib.hid e5; have B5 := Lib.hid hb5; clear l5 e5 hb5))
    have D5 := Lib.hid (D0.out.next B5.out)
    have SA := Lib.hid (set_start (news := news) HV.out D5.out.1 (CT.out _ D5.out.2.1))
    have X5 := D5.out.1
    rw [HV.out] at X5
    obtain ⟨x0, x1, x2, x3⟩ := X5.all
    obtain ⟨z0, z2, z3⟩ := X5.froz
    clear X5
    clear c0 c1 c2 c3
    go_region
    go_wp2
    clear x0 x1 x2 x3 z0 z2 z3
    go_loopw [60] (fun i wr => ∃ k : Nat, k ≤ news.length ∧ i = .int .i64 k ∧ Hid (SetAt base w5 wr g V wd f rows.length l0 news k)) (fun i _ => news.length - (intOf i).toNat)
    case atStart => exact ⟨0, Nat.zero_le _, rfl, SA⟩
    case round =>
      obtain ⟨k, hk, rfl, HP⟩ := hrel
      obtain ⟨Vr, hx, hm6, ht, hfr⟩ := HP.out
      have X6 := Lib.hid hx
      have M6 := Lib.hid hm6
      have T6 := Lib.hid ht
      have F6 := Lib.hid hfr
      obtain ⟨y0, -, -, y3⟩ := X6.out.all
      obtain ⟨q0, -, q3⟩ := X6.out.froz
      have LB : Hid (base ≤ wr.heap.size) := Lib.hid (Nat.le_trans HB0.out (Nat.le_trans B5.out.size ht.size))
      by_cases hlt : k < news.length
      · obtain ⟨r, hr⟩ : ∃ r, news[k]? = some r := ⟨_, List.getElem?_eq_getElem hlt⟩
        obtain ⟨Ar, cr, vr, er, -, -, -, sr, hrr⟩ := (HN.out.next B5.out).turn ht HSS.out
        cases er
        obtain ⟨B, b, hvk, -, -, hsb⟩ := hrr k r hr
        obtain ⟨bb, off, rfl, -, -, hck⟩ := sr.one hvk
        have i1 : (k : Int) < (news.length : Int) := by omega
        have IR := Lib.hid hsb.ints
        have TL := Lib.hid (show (l0 ++ news.take k).flatten.length + r.length ≤ 100000 by have := HLB.out k hk; have := HNW.out r (List.mem_of_getElem? hr); omega)
        have HR := Lib.hid hr
        clear hx hm6 ht hfr hr hvk hsb sr hrr
        go_wp2_with (at_builtin; refine wpList_appI numL Try.underlying42 rfl (.tmp 68) (.tmp 69) rfl base Vr _ rfl M6.out B b r rfl IR.out TL.out LB.out ?_; intro v7 w7 hm7 hg7 ha7; have ST := Lib.hid (set_step HR.out X6.out M6.out T6.out F6.out hm7 hg7 ha7); obtain ⟨A7, n7, c7, e7⟩ : ∃ A n c, v7 = .slice A n c := (by obtain ⟨A, c, e, -⟩ := hm7.ints; exact ⟨_, _, _, e⟩); subst e7; have y0 := ST.out.1.c 0; have q0 := ST.out.1.f 0; clear hm7 hg7 ha7)
        exact ⟨⟨k + 1, by omega, by go_num, Lib.hid ST.out.2⟩, by simp [intOf]; omega⟩
      · obtain rfl : k = news.length := by omega
        clear hx hm6 ht hfr HP hlt hk
        go_wp2
        go_ret2
        have hlen : (setL rows news p).length = p + news.length := setL_len hp
        have hne : Vr.ownBlock ≠ some g := fun e => own_bk_ne (t := 52) M6.out X6.out (by decide) e.symm
        have hfl : (setL rows news p).drop f = l0 ++ news := by
          rw [← HL0.out]
          unfold setL
          rw [List.drop_append_of_le_length (by rw [List.length_take]; omega)]
        have hT : ∀ x, w.heap.size ≤ x → ¬ Tq g V x := fun x hx hq => by have := (D0.out.lt x hq).1; omega
        refine ⟨Vd, qs, Vr, rfl, ?_, E5.out, ⟨?_, ?_, by rw [hlen]; omega, ?_, hwd, D0.out.2.2.2.2.2.1, by rw [hlen]; exact hnl⟩, ?_, ?_, ?_⟩
        · have t7 := T6.out.setCell (p := ⟨g, 3, none⟩) (.inl (.inl rfl)) (.int .i64 ((p : Int) + (news.length : Int)))
          exact ⟨own_turn L5.out.1 t7 fun x hx => hT x (L5.out.lt x hx).2, fun q hq => own_turn (L5.out.2 q hq) t7 fun x hx => hT x (own_base (L5.out.2 q hq) x hx)⟩
        · have h := Bk.set_ X6.out 3 (.int .i64 ((p : Int) + (news.length : Int)))
          rw [hlen]
          unfold TapF
          rw [show ((p + news.length : Nat) : Int) = (p : Int) + (news.length : Int) by omega]
          exact h
        · rw [hfl]
          have := M6.out
          rw [List.take_length] at this
          exact MineT.setCell this (p := ⟨g, 3, none⟩) hne _
        · intro r hr
          rcases List.mem_append.1 hr with hr | hr
          · exact D0.out.2.2.2.1 r (List.mem_of_mem_take hr)
          · exact HNW.out r hr
        · exact ((Turn.of_below _ B5.out).trans T6.out).setCell (p := ⟨g, 3, none⟩) (.inl (.inl rfl)) _
        · exact fun x hx => (F6.out x hx).imp id fun h => Nat.le_trans B5.out.size h
        · intro x hx h7
          have h1 := L5.out.lt x hx
          rcases F6.out x h7 with h | h
          · exact hT x h1.2 (.inr h)
          · omega
  · go_enter Try.func12, Try.ntmps12
    go_wp2_with (first
      | (go_at_call 24; (with_reducible refine (CU.out).mono ?_); rintro r w4 ⟨rfl, rfl⟩)
      | (go_at_call 26; (with_reducible refine (DE.out).mono ?_); rintro r w5 ⟨Vd, qs, rfl, l5, e5, hb5⟩; have L5 := Lib.hid l5; have E5 := Lib.hid e5; have B5 := Lib.hid hb5; clear l5 e5 hb5))
    have D5 := Lib.hid (D0.out.next B5.out)
    have SA := Lib.hid (set_start (news := news) HV.out D5.out.1 (CT.out _ D5.out.2.1))
    have X5 := D5.out.1
    rw [HV.out] at X5
    obtain ⟨x0, x1, x2, x3⟩ := X5.all
    obtain ⟨z0, z2, z3⟩ := X5.froz
    clear X5
    clear c0 c1 c2 c3
    go_region
    go_wp2
    clear x0 x1 x2 x3 z0 z2 z3
    go_loopw [60] (fun i wr => ∃ k : Nat, k ≤ news.length ∧ i = .int .i64 k ∧ Hid (SetAt base w5 wr g V wd f rows.length l0 news k)) (fun i _ => news.length - (intOf i).toNat)
    case atStart => exact ⟨0, Nat.zero_le _, rfl, SA⟩
    case round =>
      obtain ⟨k, hk, rfl, HP⟩ := hrel
      obtain ⟨Vr, hx, hm6, ht, hfr⟩ := HP.out
      have X6 := Lib.hid hx
      have M6 := Lib.hid hm6
      have T6 := Lib.hid ht
      have F6 := Lib.hid hfr
      obtain ⟨y0, -, -, y3⟩ := X6.out.all
      obtain ⟨q0, -, q3⟩ := X6.out.froz
      have LB : Hid (base ≤ wr.heap.size) := Lib.hid (Nat.le_trans HB0.out (Nat.le_trans B5.out.size ht.size))
      by_cases hlt : k < news.length
      · obtain ⟨r, hr⟩ : ∃ r, news[k]? = some r := ⟨_, List.getElem?_eq_getElem hlt⟩
        obtain ⟨Ar, cr, vr, er, -, -, -, sr, hrr⟩ := (HN.out.next B5.out).turn ht HSS.out
        cases er
        obtain ⟨B, b, hvk, -, -, hsb⟩ := hrr k r hr
        obtain ⟨bb, off, rfl, -, -, hck⟩ := sr.one hvk
        have i1 : (k : Int) < (news.length : Int) := by omega
        have IR := Lib.hid hsb.ints
        have TL := Lib.hid (show (l0 ++ news.take k).flatten.length + r.length ≤ 100000 by have := HLB.out k hk; have := HNW.out r (List.mem_of_getElem? hr); omega)
        have HR := Lib.hid hr
        clear hx hm6 ht hfr hr hvk hsb sr hrr
        go_wp2_with (at_builtin; refine wpList_appI numL Try.underlying42 rfl (.tmp 68) (.tmp 69) rfl base Vr _ rfl M6.out B b r rfl IR.out TL.out LB.out ?_; intro v7 w7 hm7 hg7 ha7; have ST := Lib.hid (set_step HR.out X6.out M6.out T6.out F6.out hm7 hg7 ha7); obtain ⟨A7, n7, c7, e7⟩ : ∃ A n c, v7 = .slice A n c := (by obtain ⟨A, c, e, -⟩ := hm7.ints; exact ⟨_, _, _, e⟩); subst e7; have y0 := ST.out.1.c 0; have q0 := ST.out.1.f 0; clear hm7 hg7 ha7)
        exact ⟨⟨k + 1, by omega, by go_num, Lib.hid ST.out.2⟩, by simp [intOf]; omega⟩
      · obtain rfl : k = news.length := by omega
        clear hx hm6 ht hfr HP hlt hk
        go_wp2
        go_ret2
        have hlen : (setL rows news p).length = p + news.length := setL_len hp
        have hne : Vr.ownBlock ≠ some g := fun e => own_bk_ne (t := 52) M6.out X6.out (by decide) e.symm
        have hfl : (setL rows news p).drop f = l0 ++ news := by
          rw [← HL0.out]
          unfold setL
          rw [List.drop_append_of_le_length (by rw [List.length_take]; omega)]
        have hT : ∀ x, w.heap.size ≤ x → ¬ Tq g V x := fun x hx hq => by have := (D0.out.lt x hq).1; omega
        refine ⟨Vd, qs, Vr, rfl, ?_, E5.out, ⟨?_, ?_, by rw [hlen]; omega, ?_, hwd, D0.out.2.2.2.2.2.1, by rw [hlen]; exact hnl⟩, ?_, ?_, ?_⟩
        · have t7 := T6.out.setCell (p := ⟨g, 3, none⟩) (.inl (.inl rfl)) (.int .i64 ((p : Int) + (news.length : Int)))
          exact ⟨own_turn L5.out.1 t7 fun x hx => hT x (L5.out.lt x hx).2, fun q hq => own_turn (L5.out.2 q hq) t7 fun x hx => hT x (own_base (L5.out.2 q hq) x hx)⟩
        · have h := Bk.set_ X6.out 3 (.int .i64 ((p : Int) + (news.length : Int)))
          rw [hlen]
          unfold TapF
          rw [show ((p + news.length : Nat) : Int) = (p : Int) + (news.length : Int) by omega]
          exact h
        · rw [hfl]
          have := M6.out
          rw [List.take_length] at this
          exact MineT.setCell this (p := ⟨g, 3, none⟩) hne _
        · intro r hr
          rcases List.mem_append.1 hr with hr | hr
          · exact D0.out.2.2.2.1 r (List.mem_of_mem_take hr)
          · exact HNW.out r hr
        · exact ((Turn.of_below _ B5.out).trans T6.out).setCell (p := ⟨g, 3, none⟩) (.inl (.inl rfl)) _
        · exact fun x hx => (F6.out x hx).imp id fun h => Nat.le_trans B5.out.size h
        · intro x hx h7
          have h1 := L5.out.lt x hx
          rcases F6.out x h7 with h | h
          · exact hT x h1.2 (.inr h)
          · omega
end Go.Proofs.Ytakoehgjgdcmmaa.Tp
