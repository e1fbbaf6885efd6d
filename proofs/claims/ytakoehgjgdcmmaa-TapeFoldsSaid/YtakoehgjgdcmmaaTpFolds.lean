/-
  What rifflelaw16.TapeFolds answers: true, whatever the deeds. Condition: no more deeds than fit into a machine.
-/
import Derived.Test.YtakoehgjgdcmmaaTpFold
import Derived.Test.YtakoehgjgdcmmaaTpSame
set_option maxRecDepth 100000
namespace Go.Proofs.Ytakoehgjgdcmmaa.Tp
open Go.Proofs.Ytakoehgjgdcmmaa.Sh Go.Proofs.Ytakoehgjgdcmmaa.St
open Go.RowKit
set_option linter.unusedVariables false

theorem newone (w : World) : Calls Try.prog 6 #[.int .i64 1] w (RetNew 1 w) := new_yes 1 w (by omega)
/-- At the head of the loop: the tape, and the rows that were folded. -/
def FolAt (w0 wr : World) (g : Nat) (RV : Value) (k : Nat) : Prop := ∃ base V rows A c, RV = .slice A rows.length c ∧ Tap base wr g V 1 0 rows ∧ RwsIn (fun b => ¬ Tq g V b) wr RV rows ∧ rows.length ≤ 20 * k ∧ Below w0.heap.size w0 wr ∧ ∀ b, Tq g V b → w0.heap.size ≤ b
theorem FolAt.next {w0 wr w' : World} {g k : Nat} {RV : Value} (h : FolAt w0 wr g RV k) (hb : Below wr.heap.size wr w') : FolAt w0 w' g RV (k + 1) := by
  obtain ⟨base, V, rows, A, c, e, h1, h2, h3, h4, h5⟩ := h
  exact ⟨base, V, rows, A, c, e, h1.next hb, RwsIn.next h2 hb, by omega, below_next h4 hb, h5⟩
/-- What a tape that grew lies in. -/
theorem tq_new {g : Nat} {V V2 : Value} {w : World} (h : Fresh w V V2) : ∀ b, Tq g V2 b → Tq g V b ∨ w.heap.size ≤ b := fun b hb => by
  rcases hb with hb | hb
  · exact .inl (.inl hb)
  · exact (h b hb).imp .inr id
theorem rws_grew {g : Nat} {V V2 RV : Value} {w w1 w5 : World} {rows : List (List Int)} (h : RwsIn (fun b => ¬ Tq g V b) w RV rows) (hb : Below w.heap.size w w1) (ht : Turn (Tq g V) w1 w5) (hF : Fresh w1 V V2) : RwsIn (fun b => ¬ Tq g V2 b) w5 RV rows :=
  ((RwsIn.next (rws_cut h) hb).turn ht fun i hi => hi.1).mono fun i hi k => by
    have := hb.size
    rcases tq_new hF i k with k | k
    · exact hi.1 k
    · omega
theorem live_dls {base g : Nat} {w : World} {Vd V2 : Value} {qs : List Qd} {l : List Dl} (h : Live base w Vd qs) (e : qs.map (·.1) = l) (ho : ∀ q ∈ qs, ∀ k, (vq q).ownBlock = some k → ¬ Tq g V2 k) : DlsS (fun b => ¬ Tq g V2 b) w Vd l := by
  obtain ⟨A, c, rfl, -, -, hs⟩ := h.1.view
  refine ⟨A, c, qs, rfl, hs.mono fun _ _ => trivial, fun q hq => ?_, e⟩
  obtain ⟨m1, m2, m3⟩ := mine_sints (A := q.2.1) (n := q.1.2.2.length) (c := q.2.2) (h.2 q hq)
  exact ⟨q.2.1, q.2.2, rfl, m2, m3, Seq.mono (mine_seqS (A := q.2.1) (n := q.1.2.2.length) (c := q.2.2) (h.2 q hq)) fun i hi => ho q hq i hi⟩
/-- Rows from a place on. -/
theorem rws_drop {S : Nat → Prop} {w : World} {A A' : Option Addr} {n c c' p q : Nat} {rs : List (List Int)} (h : RwsIn S w (.slice A n c) rs) (hq : rs.length - p = q) (hp : p ≤ rs.length) (hA : 0 < q → ∃ b o, A = some ⟨b, o, none⟩ ∧ A' = some ⟨b, o + p, none⟩) (h1 : q ≤ c') (h2 : c' ≤ maxLen) : RwsIn S w (.slice A' q c') (rs.drop p) := by
  obtain ⟨A0, c0, vs, e, _, _, hl, hs, hr⟩ := h
  injection e with e1 e2 e3
  subst e1
  have hdl : (rs.drop p).length = q := by rw [List.length_drop]; exact hq
  refine ⟨A', c', vs.drop p, by rw [hdl], by rw [hdl]; exact h1, h2, by rw [List.length_drop, List.length_drop, hl], fun hpos => ?_, fun t r ht => ?_⟩
  · rw [List.length_drop, hl] at hpos
    obtain ⟨b, o, rfl, rfl⟩ := hA (by omega)
    obtain ⟨b', o', e, k1, k2, k3⟩ := hs (by omega)
    injection e with e
    injection e with e4 e5
    subst e4 e5
    refine ⟨b, o + p, rfl, k1, k2, fun j u hu => ?_⟩
    rw [List.getElem?_drop] at hu
    rw [Nat.add_assoc]
    exact k3 _ u hu
  · rw [List.getElem?_drop] at ht ⊢
    exact hr _ r ht
theorem tq_ne2 {t : TypeId} {base : Nat} {w : World} {g gx wd f : Nat} {V : Value} {rows : List (List Int)} {cs : List Value} (d : Tap base w g V wd f rows) (bx : Bk t w gx cs) (h1 : 52 ≠ t) (h2 : 2 ≠ t) : ¬ Tq g V gx := fun h => by
  rcases h with h | h
  · exact d.1.ne_ bx h1 h.symm
  · exact own_bk_ne d.2.1 bx h2 h.symm
set_option maxHeartbeats 16000000 in
theorem folds_any (A : Option Addr) (c : Nat) (ds : List Deed) (w : World) (hl : ds.length ≤ maxLen) (hD : Deeds w A ds) :
    Calls Try.prog 5 #[.slice A ds.length c] w fun e w' => e = .returned (.bool true) ∧ Below w.heap.size w w' := by
  have HD := Lib.hid hD
  have GR := great_any A c ds w hl hD
  clear hD hl
  by_cases hg : greatB ds = true
  · rw [hg] at GR
    have HGR := Lib.hid GR
    clear GR hg
    as_aux_lemma =>
    go_enter Try.func5, Try.ntmps5
    go_wp2_with (first
      | (go_at_call 8; (with_reducible refine (HGR.out).mono ?_); rintro r w2 ⟨rfl, rfl⟩)
      | (go_at_call 7; (with_reducible refine (lives_any _).mono ?_); rintro r w3 ⟨rfl, hb3⟩; have B3 := Lib.hid hb3; clear hb3))
    go_ret
    exact ⟨rfl, B3.out⟩
  · have hg' : greatB ds = false := by simpa using hg
    obtain ⟨hl8, hrows⟩ := great_no hg'
    rw [hg'] at GR
    have HGR := Lib.hid GR
    have HROWS := Lib.hid hrows
    clear GR hg hg' hrows
    go_enter Try.func5, Try.ntmps5
    go_wp2_with (first
      | (go_at_call 8; (with_reducible refine (HGR.out).mono ?_); rintro r w2 ⟨rfl, rfl⟩)
      | (go_at_call 6; (with_reducible refine (newone _).mono ?_); rintro r w1 ⟨g, rfl, h1, hb1⟩; have B1 := Lib.hid hb1; have O1 := Lib.hid h1; clear h1 hb1))
    have PA : Hid (FolAt w w1 g (.slice none 0 0) 0) := Lib.hid ⟨_, _, [], none, 0, rfl, O1.out, RwsIn.none _ _, Nat.zero_le _, B1.out, fun b hb => (O1.out.lt b hb).2⟩
    clear O1 B1
    go_loopw [5, 32] (fun RV i wr => ∃ k : Nat, k ≤ ds.length ∧ i = .int .i64 k ∧ Hid (FolAt w wr g RV k)) (fun _ i _ => ds.length - (intOf i).toNat)
    case atStart => exact ⟨0, Nat.zero_le _, rfl, PA⟩
    case round =>
      obtain ⟨k, hk, rfl, HP⟩ := hrel
      by_cases hlt : k < ds.length
      · obtain ⟨base, V, rows, AR, cR, rfl, p1, p3, p4, p5, p6⟩ := HP.out
        obtain ⟨d, hd⟩ : ∃ d, ds[k]? = some d := ⟨_, List.getElem?_eq_getElem hlt⟩
        have i1 : (k : Int) < (ds.length : Int) := by omega
        obtain ⟨b, off, rfl, hb, hc⟩ := HD.out (by omega)
        obtain ⟨U, c1, c2, c3, hU⟩ := hc k d hd
        have c1 := (p5.cell (p := ⟨b, off + k * 3, none⟩) hb).trans c1
        have c2 := (p5.cell (p := ⟨b, off + k * 3 + 1, none⟩) hb).trans c2
        have c3 := (p5.cell (p := ⟨b, off + k * 3 + 2, none⟩) hb).trans c3
        have hrow := HROWS.out d (List.mem_of_getElem? hd)
        have hUU := RwsIn.mono ((rws_cut hU).turn (Turn.of_below (fun i => w.heap.size ≤ i) p5) (fun i hi h => by omega)) (S' := fun b => b < w.heap.size) fun i hi => hi.2
        obtain ⟨AU, cU, vU, rfl, -⟩ := hU
        obtain ⟨db, di, news⟩ := d
        simp only at c1 c2 c3 hUU hrow
        have b1 := below_new wr (.cells #[.bool db, .int .i64 di, .slice AU news.length cU] 33)
        have BD1 := Lib.hid (Bk.new 33 wr [.bool db, .int .i64 di, .slice AU news.length cU])
        have B1 := Lib.hid b1
        have HU1 := Lib.hid (RwsIn.next hUU b1)
        have P1 := Lib.hid p1
        have P3 := Lib.hid p3
        have P5 := Lib.hid p5
        have P6 := Lib.hid p6
        have hr4 := p4
        clear hd hc hb hUU b1 p1 p3 p4 p5 p6
        by_cases h1 : di < ((0 : Nat) : Int) ∨ (rows.length : Int) < di
        · have SO := Lib.hid (set_out g V 1 0 rows.length di AU news.length cU _ (P1.out.1.next B1.out) (by omega))
          clear h1
          go_wp2_with (go_at_call 12; (with_reducible refine (SO.out).mono ?_); rintro r w5 ⟨rfl, rfl⟩)
          exact ⟨⟨k + 1, by omega, by go_num, Lib.hid (HP.out.next B1.out)⟩, by simp [intOf]; omega⟩
        · obtain ⟨p, rfl⟩ : ∃ p : Nat, di = p := ⟨di.toNat, by omega⟩
          have hp : p ≤ rows.length := by omega
          clear h1
          by_cases h2 : unfitB 1 news = true
          · have SO := Lib.hid (set_unfit _ g V 1 0 rows.length p _ news _ (P1.out.1.next B1.out) (Nat.zero_le _) hp HU1.out (by omega) h2)
            clear h2
            go_wp2_with (go_at_call 12; (with_reducible refine (SO.out).mono ?_); rintro r w5 ⟨rfl, rfl⟩)
            exact ⟨⟨k + 1, by omega, by go_num, Lib.hid (HP.out.next B1.out)⟩, by simp [intOf]; omega⟩
          · have hu : unfitB 1 news = false := by simpa using h2
            have ST := set_any2 base g V 1 0 rows news p (fun b => b < w.heap.size) _ _ (P1.out.next B1.out) (Nat.zero_le _) hp HU1.out (fun b hb hq => by have := P6.out b hq; omega) hu (by omega) (by have := (P1.out.lt g (.inl rfl)); have := B1.out.size; omega)
            have FC := Lib.hid (fold_changes rows news p hp)
            have hsl := setL_len (news := news) hp
            have hdl : (deltasL rows news p).length ≤ 10000 := by
              have h1 := acc_len (f := f2 rows news p) (k := max (rows.length - p) news.length)
              have h2 := acc_len (f := f3 rows news p) (k := max (rows.length - p) news.length)
              have h3 := acc_len (f := f1 rows news p) (k := max (rows.length - p) news.length)
              unfold deltasL
              simp only [List.length_append, List.length_reverse]
              omega
            obtain ⟨is, hIS⟩ : ∃ is, setL rows news p = is := ⟨_, rfl⟩
            obtain ⟨L, hLL⟩ : ∃ L, deltasL rows news p = L := ⟨_, rfl⟩
            unfold RetSet2 at ST
            rw [hIS, hLL] at ST
            rw [hIS, hLL] at FC
            rw [hIS] at hsl
            rw [hLL] at hdl
            have HST := Lib.hid ST
            have HDL := Lib.hid hdl
            clear h2 hu ST hIS hLL hdl
            go_wp2_with fail
            refine (HST.out).mono ?_
            rintro r w5 ⟨Vd, qs, V2, rfl, l5, e5, d5, t5, f5, o5⟩
            as_aux_lemma =>
            have D5 := Lib.hid d5
            have BD5 := Lib.hid (BD1.out.turn t5 (fun h => by have := (P1.out.lt _ h).1; omega))
            have R5 := Lib.hid (rws_grew P3.out B1.out t5 f5)
            have FO := Lib.hid (fold_any _ _ Vd rows is L w5 R5.out (live_dls l5 e5 o5) FC.out (by omega) HDL.out)
            have L5 := Lib.hid (show Below w.heap.size w w5 from (below_next P5.out B1.out).trans (t5.below (by have := P5.out.size; have := B1.out.size; omega) P6.out))
            have Q5 := Lib.hid (show ∀ b, Tq g V2 b → w.heap.size ≤ b from fun b hb => by
              rcases tq_new f5 b hb with h | h
              · exact P6.out b h
              · have := P5.out.size; have := B1.out.size; omega)
            have HSL := Lib.hid hsl
            clear l5 e5 d5 t5 f5 o5 HST hsl
            go_wp2_with fail
            refine (FO.out).mono ?_
            rintro r w6 ⟨A6, c6, rfl, r6, hb6⟩
            as_aux_lemma =>
            obtain ⟨m, hm⟩ : ∃ m, is.length = m := ⟨_, rfl⟩
            have HM := Lib.hid hm
            have hmp : m = p + news.length := by rw [← hm]; exact HSL.out
            rw [hm] at r6 ⊢
            have R6 := Lib.hid (RwsIn.mono r6 (S' := fun b => ¬ Tq g V2 b) fun i hi k => by
              rcases hi with hi | hi
              · exact hi k
              · have := (D5.out.lt i k).1; omega)
            have B6 := Lib.hid hb6
            have D6 := Lib.hid (D5.out.next hb6)
            have BD6 := Lib.hid (BD5.out.next hb6)
            have L6 := Lib.hid (below_next L5.out hb6)
            have EN := Lib.hid (end_any g V2 1 0 is.length w6 D6.out.1)
            rw [hm] at EN
            have y1 : w6.cell? ⟨wr.heap.size, 1, none⟩ = some (.int .i64 p) := BD6.out.c 1
            have t3 : decide ((p : Int) > (m : Int)) = false := decide_eq_false (by omega)
            have t3' : decide (m < p) = false := decide_eq_false (by omega)
            have HMP := Lib.hid hmp
            clear r6 hb6 hm FO c1 c2 c3 hmp
            go_wp2_with fail
            refine (EN.out).mono ?_
            rintro r w7 ⟨rfl, rfl⟩
            as_aux_lemma =>
            go_wp2
            clear y1
            generalize wr.heap.size = nD at *
            go_loopw [12] (fun j W => ∃ q : Nat, q ≤ m ∧ j = .int .i64 q ∧ Hid (Below w6.heap.size w6 W)) (fun j _ => m - (intOf j).toNat)
            case atStart => exact ⟨0, Nat.zero_le _, rfl, Lib.hid (Below.refl _ _)⟩
            case round =>
              obtain ⟨q, hq, rfl, HB⟩ := hrel
              by_cases hqm : q < m
              · have j1 : (q : Int) < (m : Int) := by omega
                have t4 : decide ((q : Int) < (m : Int)) = true := decide_eq_true j1
                have hm9 : m ≤ 900 := by have := HMP.out; omega
                have RW := row_any base g V2 1 0 is (q : Int) wr (D6.out.next HB.out)
                rcases row_cases 0 is (q : Int) with ⟨r, j, hj, -, -, hrj, hB, hLL⟩ | ⟨-, -, hout⟩
                · obtain rfl : q = j := by omega
                  rw [hB, hLL] at RW
                  have HRW := Lib.hid RW
                  obtain ⟨b2, o2, cb, B2, d2, ev2, hb2, hc2, ix, lx⟩ := rws_at (by rw [← HM.out] at R6; exact R6.out) hrj
                  rw [HM.out] at ev2
                  injection ev2 with ev2 _ ev2c
                  subst ev2 ev2c
                  have IX := Lib.hid ix
                  have LX := Lib.hid lx
                  have HB2 := Lib.hid hb2
                  have HC2 := Lib.hid hc2
                  clear RW hrj hB hLL hj ix lx hb2 hc2
                  as_aux_lemma =>
                  go_wp2_with (first
                    | (go_at_call 13; (with_reducible refine (HRW.out).mono ?_); rintro r3 w8 ⟨A3, c3', rfl, s3, h31, h32, hb3⟩; have B8 := Lib.hid (below_next HB.out hb3); have I3 := Lib.hid s3.ints; have H3 := Lib.hid (Nat.le_trans h31 h32); have z3 := (B8.out.cell (p := ⟨b2, o2 + q, none⟩) HB2.out).trans HC2.out; have IX3 := Lib.hid (SInts.ints (Seq.next IX.out B8.out)); clear s3 h31 h32 hb3)
                    | (go_at_call 19; (with_reducible refine (nums_refl A3 c3' r B2 d2 _ H3.out LX.out I3.out IX3.out).mono ?_); rintro r4 w9 ⟨rfl, hb4⟩; have B9 := Lib.hid (below_next B8.out hb4); clear hb4))
                  exact ⟨⟨q + 1, by omega, by go_num, B9⟩, by simp [intOf]; omega⟩
                · rcases hout with h | h
                  · omega
                  · rw [HM.out] at h; omega
              · obtain rfl : q = m := by omega
                have t4 : decide ((q : Int) < (q : Int)) = false := decide_eq_false (by omega)
                have D7 := Lib.hid (D6.out.next HB.out)
                have R7 := Lib.hid (RwsIn.next R6.out HB.out)
                have BD7 := Lib.hid (BD6.out.next HB.out)
                have L7 := Lib.hid (below_next L6.out HB.out)
                have hmp := HMP.out
                obtain ⟨a, hna⟩ : ∃ a, news.length = a := ⟨_, rfl⟩
                have ha : q - p = a := by omega
                have hq20 : q ≤ 20 * (k + 1) := by omega
                have i6 : p ≤ q := by omega
                have hq9 : q ≤ 900 := by omega
                clear hmp hna hrow hr4
                have hunf : unfitB 1 (is.drop p) = false := by
                  unfold unfitB
                  rw [List.any_eq_false]
                  intro r hr
                  simpa using D7.out.2.2.2.1 r (List.mem_of_mem_drop hr)
                have STA := Lib.hid (fun A' c' (h : RwsIn (fun b => ¬ Tq g V2 b) wr (.slice A' a c') (is.drop p)) => fun W (hW : Below wr.heap.size wr W) => set_any2 base g V2 1 0 is (is.drop p) p (fun b => ¬ Tq g V2 b) (.slice A' a c') W (D7.out.next hW) (Nat.zero_le _) (by rw [HM.out]; omega) (RwsIn.next h hW) (fun b hb => hb) hunf (by rw [List.length_drop, HM.out]; omega) (by have := (D7.out.lt g (.inl rfl)); have := hW.size; omega))
                have z1 : wr.cell? ⟨nD, 1, none⟩ = some (.int .i64 p) := BD7.out.c 1
                have LZ := Lib.hid (show wr.drew.cell? ⟨nD, 1, none⟩ = some (.int .i64 p) from z1)
                have LWD := Lib.hid (show Below wr.heap.size wr wr.drew from (Below.refl _ _).drew)
                have RS7 := R7.out
                obtain ⟨_, _, _, e7, hcap, hmax, -⟩ := RS7
                injection e7 with e7a e7b e7c
                subst e7a e7c
                clear e7b
                have i5 : (p : Int) ≤ (q : Int) := by omega
                have hcap : q ≤ c6 := by rw [← HM.out]; exact hcap
                have i7 : (q : Int) ≤ (c6 : Int) := by omega
                have i8 : (p : Int) ≤ (c6 : Int) := by omega
                have HQP : Hid (is.length - p = a) := Lib.hid (by rw [HM.out]; exact ha)
                have DN := Lib.hid (deltas_none is p (by rw [HM.out]; omega))
                have SG := Lib.hid (set_again is p)
                have HMX := Lib.hid hmax
                have hA6 : A6 = none → q = 0 := fun e => by
                  rcases Nat.eq_zero_or_pos q with h | h
                  · exact h
                  · obtain ⟨vs, hv, hs⟩ : ∃ vs : List Value, vs.length = is.length ∧ Seq (fun b => ¬ Tq g V2 b) wr A6 vs := by
                      obtain ⟨A0, c0, vs, e0, -, -, hv, hs, -⟩ := R7.out
                      injection e0 with e0
                      subst e0
                      exact ⟨vs, hv, hs⟩
                    obtain ⟨b, o, e2, _⟩ := hs (by rw [hv, HM.out]; exact h)
                    rw [e] at e2; cases e2
                have hq0 : q = 0 ∨ ∃ b6 o6, A6 = some ⟨b6, o6, none⟩ := by
                  rcases Nat.eq_zero_or_pos q with h | h
                  · exact .inl h
                  · right
                    obtain ⟨A0, c0, vs, e0, -, -, hv, hs, -⟩ := R7.out
                    injection e0 with e0
                    subst e0
                    obtain ⟨b, o, e2, _⟩ := hs (by rw [hv, HM.out]; exact h)
                    exact ⟨b, o, e2⟩
                clear hA6
                rcases hq0 with rfl | ⟨b6, o6, rfl⟩
                · obtain rfl : p = 0 := by omega
                  obtain rfl : a = 0 := by omega
                  have z0 : ((0 : Nat) : Int) = 0 := rfl
                  rw [z0] at STA z1 LZ BD7
                  clear ha
                  rcases A6 with _ | ad
                  · as_aux_lemma =>
                    have NB := Lib.hid (tq_ne2 D7.out BD7.out (by decide) (by decide))
                    have ST := Lib.hid (STA.out none c6 (rws_drop R7.out HQP.out (by rw [HM.out]; omega) (fun h => absurd h (by omega)) (Nat.zero_le _) HMX.out))
                    clear STA
                    go_wp2_with fail
                    go_region_held3 (fun w' => w'.cell? ⟨nD, 1, none⟩ = some (.int .i64 0))
                      (first
                        | with_reducible exact KK.out
                        | with_reducible exact LZ.out
                        | go_keep)
                      (first
                        | (go_at_call 12; (with_reducible refine (ST.out _ LWD.out).mono ?_); rintro r w10 ⟨Vd2, qs2, V3, rfl, l10, e10, d10, t10, f10, -⟩; have D10 := Lib.hid d10; have T10 := Lib.hid t10; have F10 := Lib.hid f10; have E10 := Lib.hid (And.intro l10 e10); have BD10 := Lib.hid (BD7.out.turn (w := wr.drew) t10 NB.out); have KK := Lib.hid (show w10.cell? ⟨nD, 1, none⟩ = some (.int .i64 0) from BD10.out.c 1); clear l10 e10 d10 t10 f10))
                    all_goals
                      have hqs : qs2 = [] := by
                        have h := E10.out.2
                        rw [DN.out] at h
                        exact List.map_eq_nil_iff.1 h
                      subst hqs
                      obtain ⟨Ad, cd, rfl, -, -, -⟩ := E10.out.1.1.view
                      have hD10 := D10.out
                      rw [SG.out] at hD10
                      have PZ : Hid (FolAt w w10 g (.slice none 0 c6) (k + 1)) := Lib.hid ⟨base, V3, is, none, c6, by rw [HM.out], hD10, rws_grew R7.out LWD.out T10.out F10.out, by rw [HM.out]; exact hq20, (below_next L7.out LWD.out).trans (T10.out.below (by have := L7.out.size; exact this) Q5.out), fun b hb => by
                        rcases tq_new F10.out b hb with h | h
                        · exact Q5.out b h
                        · exact Nat.le_trans L7.out.size h⟩
                      clear hD10
                      go_wp2_with fail
                      exact ⟨⟨k + 1, by omega, by go_num, PZ⟩, by simp [intOf]; omega⟩
                  · as_aux_lemma =>
                    have NB := Lib.hid (tq_ne2 D7.out BD7.out (by decide) (by decide))
                    have ST := Lib.hid (STA.out (some ad) c6 (rws_drop R7.out HQP.out (by rw [HM.out]; omega) (fun h => absurd h (by omega)) (Nat.zero_le _) HMX.out))
                    clear STA
                    go_wp2_with fail
                    go_region_held3 (fun w' => w'.cell? ⟨nD, 1, none⟩ = some (.int .i64 0))
                      (first
                        | with_reducible exact KK.out
                        | with_reducible exact LZ.out
                        | go_keep)
                      (first
                        | (go_at_call 12; (with_reducible refine (ST.out _ LWD.out).mono ?_); rintro r w10 ⟨Vd2, qs2, V3, rfl, l10, e10, d10, t10, f10, -⟩; have D10 := Lib.hid d10; have T10 := Lib.hid t10; have F10 := Lib.hid f10; have E10 := Lib.hid (And.intro l10 e10); have BD10 := Lib.hid (BD7.out.turn (w := wr.drew) t10 NB.out); have KK := Lib.hid (show w10.cell? ⟨nD, 1, none⟩ = some (.int .i64 0) from BD10.out.c 1); clear l10 e10 d10 t10 f10))
                    all_goals
                      have hqs : qs2 = [] := by
                        have h := E10.out.2
                        rw [DN.out] at h
                        exact List.map_eq_nil_iff.1 h
                      subst hqs
                      obtain ⟨Ad, cd, rfl, -, -, -⟩ := E10.out.1.1.view
                      have hD10 := D10.out
                      rw [SG.out] at hD10
                      have PZ : Hid (FolAt w w10 g (.slice (some ad) 0 c6) (k + 1)) := Lib.hid ⟨base, V3, is, (some ad), c6, by rw [HM.out], hD10, rws_grew R7.out LWD.out T10.out F10.out, by rw [HM.out]; exact hq20, (below_next L7.out LWD.out).trans (T10.out.below (by have := L7.out.size; exact this) Q5.out), fun b hb => by
                        rcases tq_new F10.out b hb with h | h
                        · exact Q5.out b h
                        · exact Nat.le_trans L7.out.size h⟩
                      clear hD10
                      go_wp2_with fail
                      exact ⟨⟨k + 1, by omega, by go_num, PZ⟩, by simp [intOf]; omega⟩
                · by_cases hc6 : c6 = p
                  · obtain rfl : a = 0 := by omega
                    have NB := Lib.hid (tq_ne2 D7.out BD7.out (by decide) (by decide))
                    have ST := Lib.hid (STA.out (some ⟨b6, o6, none⟩) 0 (rws_drop R7.out HQP.out (by rw [HM.out]; omega) (fun h => absurd h (by omega)) (Nat.zero_le _) (Nat.zero_le _)))
                    clear STA
                    go_wp2_with fail
                    go_region_held3 (fun w' => w'.cell? ⟨nD, 1, none⟩ = some (.int .i64 p))
                      (first
                        | with_reducible exact KK.out
                        | with_reducible exact LZ.out
                        | go_keep)
                      (first
                        | (go_at_call 12; (with_reducible refine (ST.out _ LWD.out).mono ?_); rintro r w10 ⟨Vd2, qs2, V3, rfl, l10, e10, d10, t10, f10, -⟩; have D10 := Lib.hid d10; have T10 := Lib.hid t10; have F10 := Lib.hid f10; have E10 := Lib.hid (And.intro l10 e10); have BD10 := Lib.hid (BD7.out.turn (w := wr.drew) t10 NB.out); have KK := Lib.hid (show w10.cell? ⟨nD, 1, none⟩ = some (.int .i64 p) from BD10.out.c 1); clear l10 e10 d10 t10 f10))
                    all_goals
                      have hqs : qs2 = [] := by
                        have h := E10.out.2
                        rw [DN.out] at h
                        exact List.map_eq_nil_iff.1 h
                      subst hqs
                      obtain ⟨Ad, cd, rfl, -, -, -⟩ := E10.out.1.1.view
                      have hD10 := D10.out
                      rw [SG.out] at hD10
                      have PZ : Hid (FolAt w w10 g (.slice (some ⟨b6, o6, none⟩) q c6) (k + 1)) := Lib.hid ⟨base, V3, is, (some ⟨b6, o6, none⟩), c6, by rw [HM.out], hD10, rws_grew R7.out LWD.out T10.out F10.out, by rw [HM.out]; exact hq20, (below_next L7.out LWD.out).trans (T10.out.below (by have := L7.out.size; exact this) Q5.out), fun b hb => by
                        rcases tq_new F10.out b hb with h | h
                        · exact Q5.out b h
                        · exact Nat.le_trans L7.out.size h⟩
                      clear hD10
                      rw [hc6] at PZ
                      go_wp2_with fail
                      exact ⟨⟨k + 1, by omega, by go_num, PZ⟩, by simp [intOf]; omega⟩
                  · as_aux_lemma =>
                    have NB := Lib.hid (tq_ne2 D7.out BD7.out (by decide) (by decide))
                    have ST := Lib.hid (STA.out (some ⟨b6, o6 + p, none⟩) (c6 - p) (rws_drop R7.out HQP.out (by rw [HM.out]; omega) (fun _ => ⟨b6, o6, rfl, rfl⟩) (by omega) (by have := HMX.out; omega)))
                    clear STA
                    go_wp2_with fail
                    go_region_held3 (fun w' => w'.cell? ⟨nD, 1, none⟩ = some (.int .i64 p))
                      (first
                        | with_reducible exact KK.out
                        | with_reducible exact LZ.out
                        | go_keep)
                      (first
                        | (go_at_call 12; (with_reducible refine (ST.out _ LWD.out).mono ?_); rintro r w10 ⟨Vd2, qs2, V3, rfl, l10, e10, d10, t10, f10, -⟩; have D10 := Lib.hid d10; have T10 := Lib.hid t10; have F10 := Lib.hid f10; have E10 := Lib.hid (And.intro l10 e10); have BD10 := Lib.hid (BD7.out.turn (w := wr.drew) t10 NB.out); have KK := Lib.hid (show w10.cell? ⟨nD, 1, none⟩ = some (.int .i64 p) from BD10.out.c 1); clear l10 e10 d10 t10 f10))
                    all_goals
                      have hqs : qs2 = [] := by
                        have h := E10.out.2
                        rw [DN.out] at h
                        exact List.map_eq_nil_iff.1 h
                      subst hqs
                      obtain ⟨Ad, cd, rfl, -, -, -⟩ := E10.out.1.1.view
                      have hD10 := D10.out
                      rw [SG.out] at hD10
                      have PZ : Hid (FolAt w w10 g (.slice (some ⟨b6, o6, none⟩) q c6) (k + 1)) := Lib.hid ⟨base, V3, is, (some ⟨b6, o6, none⟩), c6, by rw [HM.out], hD10, rws_grew R7.out LWD.out T10.out F10.out, by rw [HM.out]; exact hq20, (below_next L7.out LWD.out).trans (T10.out.below (by have := L7.out.size; exact this) Q5.out), fun b hb => by
                        rcases tq_new F10.out b hb with h | h
                        · exact Q5.out b h
                        · exact Nat.le_trans L7.out.size h⟩
                      clear hD10
                      go_wp2_with fail
                      exact ⟨⟨k + 1, by omega, by go_num, PZ⟩, by simp [intOf]; omega⟩
      · obtain rfl : k = ds.length := by omega
        obtain ⟨base, V, rows, AR, cR, rfl, -, -, -, p5, -⟩ := HP.out
        have L0 := Lib.hid p5
        clear HP p5 hlt
        as_aux_lemma =>
        go_wp2_with (go_at_call 7; (with_reducible refine (lives_any _).mono ?_); rintro r w3 ⟨rfl, hb3⟩; have B3 := Lib.hid (below_next L0.out hb3); clear hb3)
        go_ret
        exact ⟨rfl, B3.out⟩
end Go.Proofs.Ytakoehgjgdcmmaa.Tp
