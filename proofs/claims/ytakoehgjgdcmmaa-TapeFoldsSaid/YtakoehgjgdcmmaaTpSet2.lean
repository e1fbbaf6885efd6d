/-
  What (*tape.Tape).Set tells, with where its deltas' rows lie; riffleref16.Fold. Conditions: as told in each.
-/
import Derived.Test.YtakoehgjgdcmmaaTpLives
import Derived.Test.YtakoehgjgdcmmaaTpFMath
set_option maxRecDepth 100000
namespace Go.Proofs.Ytakoehgjgdcmmaa.Tp
open Go.Proofs.Ytakoehgjgdcmmaa.Sh Go.Proofs.Ytakoehgjgdcmmaa.St
open Go.RowKit
set_option linter.unusedVariables false

/-- What Set tells. -/
def RetSet2 (base g : Nat) (V : Value) (wd f : Nat) (rows news : List (List Int)) (p : Nat) (w : World) (e : Ending) (w' : World) : Prop := ∃ Vd qs V', e = .returned (.tuple #[Vd, .int .i64 0]) ∧ Live w.heap.size w' Vd qs ∧ qs.map (·.1) = deltasL rows news p ∧ Tap base w' g V' wd f (setL rows news p) ∧ Turn (Tq g V) w w' ∧ Fresh w V V' ∧ ∀ q ∈ qs, ∀ k, (vq q).ownBlock = some k → ¬ Tq g V' k
set_option maxHeartbeats 16000000 in
theorem set_any2 (base g : Nat) (V : Value) (wd f : Nat) (rows news : List (List Int)) (p : Nat) (S : Nat → Prop) (U : Value) (w : World) (d : Tap base w g V wd f rows) (hf : f ≤ p) (hp : p ≤ rows.length) (hn : RwsIn S w U news) (hS : ∀ b, S b → ¬ Tq g V b) (hu : unfitB wd news = false) (hnl : p + news.length ≤ 900) (hbase : base ≤ w.heap.size) :
    Calls Try.prog 12 #[.pointer (some ⟨g, 0, none⟩), .int .i64 p, U] w (RetSet2 base g V wd f rows news p w) := by
  have hnw := unfit_no hu
  have CU := Lib.hid (contains_unfit S g wd U news false w hu d.1.all.2.1 (by omega) hn)
  have DE := Lib.hid (deltas_any base g V wd f rows news p S U w d hf hp hn hnw (by omega))
  have D0 := Lib.hid d
  have hall : ∀ x ∈ rows.drop f, x.length = wd := fun x hx => d.2.2.2.1 x (List.mem_of_mem_drop hx)
  have hll := flat_len hall
  rw [List.length_drop] at hll
  obtain ⟨j, hj⟩ : ∃ j, p - f = j := ⟨_, rfl⟩
  have hle : j * wd ≤ (rows.length - f) * wd := Nat.mul_le_mul_right wd (by omega)
  have hbd := bd (show rows.length - f ≤ 900 by have := d.2.2.2.2.2.2; omega) d.2.2.2.2.1
  have hcut := flat_take (wd := wd) j hall
  have hr9 := d.2.2.2.2.2.2
  have hwd := d.2.2.2.2.1
  obtain ⟨m, hm⟩ : ∃ m, j * wd = m := ⟨_, rfl⟩
  rw [hm] at hle hcut
  have w1 : IntKind.i64.wrap ((p : Int) - (f : Int)) = (j : Int) := by rw [IntWalk.i64_in _ (by omega)]; omega
  have w2 : IntKind.i64.wrap ((j : Int) * (wd : Int)) = (m : Int) := by rw [← Int.natCast_mul, hm]; exact IntWalk.i64_in _ (by omega)
  have w3 : IntKind.i64.wrap ((p : Int) + (news.length : Int)) = (p : Int) + (news.length : Int) := IntWalk.i64_in _ (by omega)
  obtain ⟨c0, c1, c2, c3⟩ := d.1.all
  obtain ⟨A0, n0, hV, hn0, hm0, -⟩ := own_seq d.2.1 (by decide)
  obtain ⟨N, hN⟩ : ∃ N, (rows.drop f).flatten.length = N := ⟨_, rfl⟩
  rw [hN] at hV hn0
  rw [hN] at hll
  have HV := Lib.hid hV
  have i4 : (m : Int) ≤ (n0 : Int) := by omega
  have i5 : (m : Int) ≤ (N : Int) := by omega
  have hmN : m ≤ N := by omega
  have HNL : Hid (A0 = none → N = 0) := Lib.hid (fun e => by
    subst e
    rcases d.2.1.2 with ⟨_, h0⟩ | ⟨g', cap, cur, e1, _⟩
    · omega
    · rw [hV] at e1; injection e1 with e1; cases e1)
  have hmn : m ≤ n0 := by omega
  have CT := Lib.hid (fun W (h : MineT 2 W base V (rows.drop f).flatten) => mine_cut (m := m) (by rw [← hV]; exact h) (by rw [hN, hll]; exact hle) hcut)
  have t1 : decide ((p : Int) < (f : Int)) = false := decide_eq_false (by omega)
  have t2 : decide ((p : Int) > (rows.length : Int)) = false := decide_eq_false (by omega)
  have t1' : decide (p < f) = false := decide_eq_false (by omega)
  have t2' : decide (rows.length < p) = false := decide_eq_false (by omega)
  have HNW := Lib.hid hnw
  have HSS := Lib.hid hS
  have HN := Lib.hid hn
  have HB0 := Lib.hid hbase
  have HIS : Hid ((rows.drop f).take j = (rows.take p).drop f) := Lib.hid (by rw [List.take_drop, show f + j = p by omega])
  obtain ⟨l0, hl0⟩ : ∃ l0, (rows.take p).drop f = l0 := ⟨_, rfl⟩
  rw [HIS.out, hl0] at CT
  have HL0 := Lib.hid hl0
  have hl0l : l0.length = p - f := by rw [← hl0, List.length_drop, List.length_take]; omega
  have HLL := Lib.hid (fun k (hk : k ≤ news.length) => flat_len (rs := l0 ++ news.take k) (wd := wd) (fun r hr => by
    rcases List.mem_append.1 hr with hr | hr
    · rw [← hl0] at hr
      exact d.2.2.2.1 r (List.mem_of_mem_take (List.mem_of_mem_drop hr))
    · exact hnw r (List.mem_of_mem_take hr)))
  have HLB := Lib.hid (fun k (hk : k ≤ news.length) => show (l0 ++ news.take k).flatten.length ≤ 57600 by
    rw [HLL.out k hk, List.length_append, hl0l, List.length_take]
    exact bd (by omega) hwd)
  obtain ⟨A, c, vs, rfl, -⟩ := hn
  clear d hnw hu hall hll hcut hm hle hbase hS hj hV hn0 hN hl0 hl0l
  rcases A0 with _ | ad
  · obtain rfl : N = 0 := HNL.out rfl
    obtain rfl : m = 0 := by omega
    go_enter Try.func12, Try.ntmps12
    go_wp2_with (first
      | (go_at_call 24; (with_reducible refine (CU.out).mono ?_); rintro r w4 ⟨rfl, rfl⟩)
      | (go_at_call 26; (with_reducible refine (DE.out).mono ?_); rintro r w5 ⟨Vd, qs, rfl, l5, e5, hb5⟩; have L5 := Lib.hid l5; have E5 := Lib.hid e5; have B5 := Lib.hid hb5; clear l5 e5 hb5))
    have D5 := Lib.hid (D0.out.next B5.out)
    have SA := Lib.hid (set_start (news := news) HV.out D5.out.1 (CT.out _ D5.out.2.1))
    have X5 := D5.out.1
    rw [HV.out] at X5
    obtain ⟨x0, x1, x2, x3⟩ := X5.all
    obtain ⟨z0, z2, z3⟩ := X5.froz
    clear X5
    clear c0 c1 c2 c3
    go_region
    go_wp2
    clear x0 x1 x2 x3 z0 z2 z3
    go_loopw [60] (fun i wr => ∃ k : Nat, k ≤ news.length ∧ i = .int .i64 k ∧ Hid (SetAt base w5 wr g V wd f rows.length l0 news k)) (fun i _ => news.length - (intOf i).toNat)
    case atStart => exact ⟨0, Nat.zero_le _, rfl, SA⟩
    case round =>
      obtain ⟨k, hk, rfl, HP⟩ := hrel
      obtain ⟨Vr, hx, hm6, ht, hfr⟩ := HP.out
      have X6 := Lib.hid hx
      have M6 := Lib.hid hm6
      have T6 := Lib.hid ht
      have F6 := Lib.hid hfr
      obtain ⟨y0, -, -, y3⟩ := X6.out.all
      obtain ⟨q0, -, q3⟩ := X6.out.froz
      have LB : Hid (base ≤ wr.heap.size) := Lib.hid (Nat.le_trans HB0.out (Nat.le_trans B5.out.size ht.size))
      by_cases hlt : k < news.length
      · obtain ⟨r, hr⟩ : ∃ r, news[k]? = some r := ⟨_, List.getElem?_eq_getElem hlt⟩
        obtain ⟨Ar, cr, vr, er, -, -, -, sr, hrr⟩ := (HN.out.next B5.out).turn ht HSS.out
        cases er
        obtain ⟨B, b, hvk, -, -, hsb⟩ := hrr k r hr
        obtain ⟨bb, off, rfl, -, -, hck⟩ := sr.one hvk
        have i1 : (k : Int) < (news.length : Int) := by omega
        have IR := Lib.hid hsb.ints
        have TL := Lib.hid (show (l0 ++ news.take k).flatten.length + r.length ≤ 100000 by have := HLB.out k hk; have := HNW.out r (List.mem_of_getElem? hr); omega)
        have HR := Lib.hid hr
        clear hx hm6 ht hfr hr hvk hsb sr hrr
        go_wp2_with (at_builtin; refine wpList_appI numL Try.underlying42 rfl (.tmp 68) (.tmp 69) rfl base Vr _ rfl M6.out B b r rfl IR.out TL.out LB.out ?_; intro v7 w7 hm7 hg7 ha7; have ST := Lib.hid (set_step HR.out X6.out M6.out T6.out F6.out hm7 hg7 ha7); obtain ⟨A7, n7, c7, e7⟩ : ∃ A n c, v7 = .slice A n c := (by obtain ⟨A, c, e, -⟩ := hm7.ints; exact ⟨_, _, _, e⟩); subst e7; have y0 := ST.out.1.c 0; have q0 := ST.out.1.f 0; clear hm7 hg7 ha7)
        exact ⟨⟨k + 1, by omega, by go_num, Lib.hid ST.out.2⟩, by simp [intOf]; omega⟩
      · obtain rfl : k = news.length := by omega
        clear hx hm6 ht hfr HP hlt hk
        go_wp2
        go_ret2
        have hlen : (setL rows news p).length = p + news.length := setL_len hp
        have hne : Vr.ownBlock ≠ some g := fun e => own_bk_ne (t := 52) M6.out X6.out (by decide) e.symm
        have hfl : (setL rows news p).drop f = l0 ++ news := by
          rw [← HL0.out]
          unfold setL
          rw [List.drop_append_of_le_length (by rw [List.length_take]; omega)]
        have hT : ∀ x, w.heap.size ≤ x → ¬ Tq g V x := fun x hx hq => by have := (D0.out.lt x hq).1; omega
        refine ⟨Vd, qs, Vr, rfl, ?_, E5.out, ⟨?_, ?_, by rw [hlen]; omega, ?_, hwd, D0.out.2.2.2.2.2.1, by rw [hlen]; exact hnl⟩, ?_, ?_, ?_⟩
        · have t7 := T6.out.setCell (p := ⟨g, 3, none⟩) (.inl (.inl rfl)) (.int .i64 ((p : Int) + (news.length : Int)))
          exact ⟨own_turn L5.out.1 t7 fun x hx => hT x (L5.out.lt x hx).2, fun q hq => own_turn (L5.out.2 q hq) t7 fun x hx => hT x (own_base (L5.out.2 q hq) x hx)⟩
        · have h := Bk.set_ X6.out 3 (.int .i64 ((p : Int) + (news.length : Int)))
          rw [hlen]
          unfold TapF
          rw [show ((p + news.length : Nat) : Int) = (p : Int) + (news.length : Int) by omega]
          exact h
        · rw [hfl]
          have := M6.out
          rw [List.take_length] at this
          exact MineT.setCell this (p := ⟨g, 3, none⟩) hne _
        · intro r hr
          rcases List.mem_append.1 hr with hr | hr
          · exact D0.out.2.2.2.1 r (List.mem_of_mem_take hr)
          · exact HNW.out r hr
        · exact ((Turn.of_below _ B5.out).trans T6.out).setCell (p := ⟨g, 3, none⟩) (.inl (.inl rfl)) _
        · exact fun x hx => (F6.out x hx).imp id fun h => Nat.le_trans B5.out.size h
        · intro q hq x hx h7
          have h1 := own_base (L5.out.2 q hq) x hx
          have h2 := own_lt (L5.out.2 q hq) x hx
          rcases h7 with h7 | h7
          · exact hT x h1 (.inl h7)
          · rcases F6.out x h7 with h | h
            · exact hT x h1 (.inr h)
            · omega
  · go_enter Try.func12, Try.ntmps12
    go_wp2_with (first
      | (go_at_call 24; (with_reducible refine (CU.out).mono ?_); rintro r w4 ⟨rfl, rfl⟩)
      | (go_at_call 26; (with_reducible refine (DE.out).mono ?_); rintro r w5 ⟨Vd, qs, rfl, l5, e5, hb5⟩; have L5 := Lib.hid l5; have E5 := Lib.hid e5; have B5 := Lib.hid hb5; clear l5 e5 hb5))
    have D5 := Lib.hid (D0.out.next B5.out)
    have SA := Lib.hid (set_start (news := news) HV.out D5.out.1 (CT.out _ D5.out.2.1))
    have X5 := D5.out.1
    rw [HV.out] at X5
    obtain ⟨x0, x1, x2, x3⟩ := X5.all
    obtain ⟨z0, z2, z3⟩ := X5.froz
    clear X5
    clear c0 c1 c2 c3
    go_region
    go_wp2
    clear x0 x1 x2 x3 z0 z2 z3
    go_loopw [60] (fun i wr => ∃ k : Nat, k ≤ news.length ∧ i = .int .i64 k ∧ Hid (SetAt base w5 wr g V wd f rows.length l0 news k)) (fun i _ => news.length - (intOf i).toNat)
    case atStart => exact ⟨0, Nat.zero_le _, rfl, SA⟩
    case round =>
      obtain ⟨k, hk, rfl, HP⟩ := hrel
      obtain ⟨Vr, hx, hm6, ht, hfr⟩ := HP.out
      have X6 := Lib.hid hx
      have M6 := Lib.hid hm6
      have T6 := Lib.hid ht
      have F6 := Lib.hid hfr
      obtain ⟨y0, -, -, y3⟩ := X6.out.all
      obtain ⟨q0, -, q3⟩ := X6.out.froz
      have LB : Hid (base ≤ wr.heap.size) := Lib.hid (Nat.le_trans HB0.out (Nat.le_trans B5.out.size ht.size))
      by_cases hlt : k < news.length
      · obtain ⟨r, hr⟩ : ∃ r, news[k]? = some r := ⟨_, List.getElem?_eq_getElem hlt⟩
        obtain ⟨Ar, cr, vr, er, -, -, -, sr, hrr⟩ := (HN.out.next B5.out).turn ht HSS.out
        cases er
        obtain ⟨B, b, hvk, -, -, hsb⟩ := hrr k r hr
        obtain ⟨bb, off, rfl, -, -, hck⟩ := sr.one hvk
        have i1 : (k : Int) < (news.length : Int) := by omega
        have IR := Lib.hid hsb.ints
        have TL := Lib.hid (show (l0 ++ news.take k).flatten.length + r.length ≤ 100000 by have := HLB.out k hk; have := HNW.out r (List.mem_of_getElem? hr); omega)
        have HR := Lib.hid hr
        clear hx hm6 ht hfr hr hvk hsb sr hrr
        go_wp2_with (at_builtin; refine wpList_appI numL Try.underlying42 rfl (.tmp 68) (.tmp 69) rfl base Vr _ rfl M6.out B b r rfl IR.out TL.out LB.out ?_; intro v7 w7 hm7 hg7 ha7; have ST := Lib.hid (set_step HR.out X6.out M6.out T6.out F6.out hm7 hg7 ha7); obtain ⟨A7, n7, c7, e7⟩ : ∃ A n c, v7 = .slice A n c := (by obtain ⟨A, c, e, -⟩ := hm7.ints; exact ⟨_, _, _, e⟩); subst e7; have y0 := ST.out.1.c 0; have q0 := ST.out.1.f 0; clear hm7 hg7 ha7)
        exact ⟨⟨k + 1, by omega, by go_num, Lib.hid ST.out.2⟩, by simp [intOf]; omega⟩
      · obtain rfl : k = news.length := by omega
        clear hx hm6 ht hfr HP hlt hk
        go_wp2
        go_ret2
        have hlen : (setL rows news p).length = p + news.length := setL_len hp
        have hne : Vr.ownBlock ≠ some g := fun e => own_bk_ne (t := 52) M6.out X6.out (by decide) e.symm
        have hfl : (setL rows news p).drop f = l0 ++ news := by
          rw [← HL0.out]
          unfold setL
          rw [List.drop_append_of_le_length (by rw [List.length_take]; omega)]
        have hT : ∀ x, w.heap.size ≤ x → ¬ Tq g V x := fun x hx hq => by have := (D0.out.lt x hq).1; omega
        refine ⟨Vd, qs, Vr, rfl, ?_, E5.out, ⟨?_, ?_, by rw [hlen]; omega, ?_, hwd, D0.out.2.2.2.2.2.1, by rw [hlen]; exact hnl⟩, ?_, ?_, ?_⟩
        · have t7 := T6.out.setCell (p := ⟨g, 3, none⟩) (.inl (.inl rfl)) (.int .i64 ((p : Int) + (news.length : Int)))
          exact ⟨own_turn L5.out.1 t7 fun x hx => hT x (L5.out.lt x hx).2, fun q hq => own_turn (L5.out.2 q hq) t7 fun x hx => hT x (own_base (L5.out.2 q hq) x hx)⟩
        · have h := Bk.set_ X6.out 3 (.int .i64 ((p : Int) + (news.length : Int)))
          rw [hlen]
          unfold TapF
          rw [show ((p + news.length : Nat) : Int) = (p : Int) + (news.length : Int) by omega]
          exact h
        · rw [hfl]
          have := M6.out
          rw [List.take_length] at this
          exact MineT.setCell this (p := ⟨g, 3, none⟩) hne _
        · intro r hr
          rcases List.mem_append.1 hr with hr | hr
          · exact D0.out.2.2.2.1 r (List.mem_of_mem_take hr)
          · exact HNW.out r hr
        · exact ((Turn.of_below _ B5.out).trans T6.out).setCell (p := ⟨g, 3, none⟩) (.inl (.inl rfl)) _
        · exact fun x hx => (F6.out x hx).imp id fun h => Nat.le_trans B5.out.size h
        · intro q hq x hx h7
          have h1 := own_base (L5.out.2 q hq) x hx
          have h2 := own_lt (L5.out.2 q hq) x hx
          rcases h7 with h7 | h7
          · exact hT x h1 (.inl h7)
          · rcases F6.out x h7 with h | h
            · exact hT x h1 (.inr h)
            · omega
end Go.Proofs.Ytakoehgjgdcmmaa.Tp
