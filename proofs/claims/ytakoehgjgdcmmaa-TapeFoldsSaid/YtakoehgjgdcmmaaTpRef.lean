/-
  riffleref16.Changes, Same, Forget and Set: what they tell. Conditions: as told in each.
-/
import Derived.Test.YtakoehgjgdcmmaaTpSet
import Derived.Deep.RegionHeld3
set_option maxRecDepth 100000
namespace Go.Proofs.Ytakoehgjgdcmmaa.Tp
open Go.Proofs.Ytakoehgjgdcmmaa.Sh Go.Proofs.Ytakoehgjgdcmmaa.St
open Go.RowKit
set_option linter.unusedVariables false

/-- The rows of deltas, in blocks of S. -/
def Vals (S : Nat → Prop) (w : World) (qs : List Qd) : Prop := ∀ q ∈ qs, SInts S w q.2.1 q.1.2.2 ∧ q.1.2.2.length ≤ maxLen
theorem Vals.turn {S T : Nat → Prop} {w w' : World} {qs : List Qd} (h : Vals S w qs) (hb : Turn T w w') (hT : ∀ i, S i → ¬ T i) : Vals S w' qs := fun q hq => ⟨Seq.turn (h q hq).1 hb hT, (h q hq).2⟩
theorem Vals.next {S : Nat → Prop} {w w' : World} {qs : List Qd} (h : Vals S w qs) (hb : Below w.heap.size w w') : Vals S w' qs := h.turn (Turn.of_below (fun _ => False) hb) fun _ _ h => h
theorem Vals.mono {S S' : Nat → Prop} {w : World} {qs : List Qd} (h : Vals S w qs) (hS : ∀ i, S i → S' i) : Vals S' w qs := fun q hq => ⟨Seq.mono (h q hq).1 hS, (h q hq).2⟩
theorem Live.vals {base : Nat} {w : World} {V : Value} {qs : List Qd} (h : Live base w V qs) : Vals (base ≤ ·) w qs := fun q hq => by
  obtain ⟨h1, h2, h3⟩ := mine_sints (A := q.2.1) (n := q.1.2.2.length) (c := q.2.2) (h.2 q hq)
  exact ⟨h1, Nat.le_trans h2 h3⟩
/-- A list of deltas whose rows lay ahead of the call, in blocks of S. -/
def Chl (S : Nat → Prop) (w wr : World) (V : Value) (l : List Dl) : Prop := ∃ qs, DRow w.heap.size wr V qs ∧ Vals S w qs ∧ qs.map (·.1) = l ∧ Below w.heap.size w wr
theorem Chl.next {S : Nat → Prop} {w wr w' : World} {V : Value} {l : List Dl} (h : Chl S w wr V l) (hb : Below wr.heap.size wr w') : Chl S w w' V l := by
  obtain ⟨qs, h1, h2, h3, h4⟩ := h
  exact ⟨qs, h1.next hb, h2, h3, below_next h4 hb⟩
theorem chl_app {S : Nat → Prop} {w wr w6 : World} {V V' : Value} {l : List Dl} {d : Dl} {A : Option Addr} {c : Nat} {o : Obj} {qs : List Qd} (h1 : DRow w.heap.size wr V qs) (h2 : Vals S w qs) (h3 : qs.map (·.1) = l) (h4 : Below w.heap.size w wr) (hv : SInts S w A d.2.2) (hl : d.2.2.length ≤ maxLen)
    (h6 : w6.ownsRow w.heap.size 54 3 V' (qs.length + 1) (flat3 qs ++ [.int .i64 d.1, .int .i64 (d.2.1 : Nat), .slice A d.2.2.length c])) (hg : (wr.alloc o).grownBy w6 V.ownBlock) : Chl S w w6 V' (l ++ [d]) := by
  refine ⟨qs ++ [(d, (A, c))], ?_, fun q hq => ?_, by rw [List.map_append, h3]; rfl, (h4.alloc h4.size _).grown hg (by have := h4.size; simp; omega) (own_base h1)⟩
  · unfold DRow
    rw [flat3_app, List.length_append]
    exact h6
  · rcases List.mem_append.1 hq with hq | hq
    · exact h2 q hq
    · simp at hq
      subst hq
      exact ⟨hv, hl⟩
theorem chl_nil (S : Nat → Prop) (w : World) : Chl S w w (.slice none 0 0) [] := ⟨[], DRow.nil' _ _, fun q h => by simp at h, rfl, Below.refl _ _⟩
/-- A row of rows, read at a place. -/
theorem rws_at {S : Nat → Prop} {w : World} {V : Value} {rs : List (List Int)} (h : RwsIn S w V rs) {k : Nat} {r : List Int} (hr : rs[k]? = some r) : ∃ b off c B d, V = .slice (some ⟨b, off, none⟩) rs.length c ∧ b < w.heap.size ∧ w.cell? ⟨b, off + k, none⟩ = some (.slice B r.length d) ∧ SInts S w B r ∧ r.length ≤ maxLen := by
  obtain ⟨A, c, vs, rfl, _, _, hvl, hs, hrr⟩ := h
  obtain ⟨B, d, hvk, h1, h2, h3⟩ := hrr k r hr
  obtain ⟨b, off, rfl, -, hlt, hck⟩ := hs.one hvk
  exact ⟨b, off, c, B, d, rfl, hlt, hck, h3, Nat.le_trans h1 h2⟩
theorem room3 {qs : List Qd} {l : List Dl} (h : qs.map (·.1) = l) (hl : l.length ≤ 90000) : qs.length + 1 ≤ 100000 := by
  have := congrArg List.length h
  rw [List.length_map] at this
  omega
def RetCh (S : Nat → Prop) (l : List Dl) (w : World) (e : Ending) (w' : World) : Prop := ∃ V, e = .returned V ∧ Chl S w w' V l
set_option maxHeartbeats 16000000 in
theorem changes_any (S : Nat → Prop) (V1 V2 : Value) (rows news : List (List Int)) (p : Nat) (w : World) (h1 : RwsIn S w V1 rows) (h2 : RwsIn S w V2 (setL rows news p)) (hp : p ≤ rows.length) (hr : rows.length ≤ 1000) (hn : p + news.length ≤ 1000) :
    Calls Try.prog 29 #[V1, V2, .int .i64 p] w (RetCh S (changesL rows news p) w) := by
  have H1 := Lib.hid h1
  have H2 := Lib.hid h2
  have hlen := setL_len (news := news) hp
  obtain ⟨A1, c1, -, rfl, -⟩ := h1
  obtain ⟨A2, c2, -, rfl, -⟩ := h2
  obtain ⟨e, he⟩ : ∃ e, rows.length = e := ⟨_, rfl⟩
  obtain ⟨n, hnn⟩ : ∃ n, news.length = n := ⟨_, rfl⟩
  rw [hnn] at hlen hn
  obtain ⟨m, hm⟩ : ∃ m, p + n = m := ⟨_, rfl⟩
  rw [hm] at hlen hn
  obtain ⟨M, hM⟩ : ∃ M, min e m = M := ⟨_, rfl⟩
  have HE := Lib.hid he
  have HN := Lib.hid hnn
  have HLN := Lib.hid hlen
  have HM := Lib.hid hM
  have HMM := Lib.hid hm
  rw [he] at hp hr ⊢
  rw [hlen]
  clear he hnn hlen hM hm
  go_enter Try.func29, Try.ntmps29
  go_wp2
  go_loopw [7, 8] (fun V i wr => ∃ q : Nat, p ≤ q ∧ q ≤ M ∧ i = .int .i64 (q : Int) ∧ Hid (Chl S w wr V (acc (f2 rows news p) (q - p)))) (fun _ i _ => e - (intOf i).toNat)
  case atStart => exact ⟨p, Nat.le_refl _, by have := HM.out; have := HMM.out; omega, rfl, Lib.hid (by rw [Nat.sub_self]; exact chl_nil S w)⟩
  case round =>
    obtain ⟨q, hpq, hqM, rfl, HC⟩ := hrel
    have hMb : M ≤ e ∧ M ≤ m := by have := HM.out; omega
    by_cases hlt : q < M
    · obtain ⟨r, hr1⟩ : ∃ r, rows[q]? = some r := ⟨_, List.getElem?_eq_getElem (by rw [HE.out]; omega)⟩
      obtain ⟨x, hx1⟩ : ∃ x, (setL rows news p)[q]? = some x := ⟨_, List.getElem?_eq_getElem (by rw [HLN.out]; omega)⟩
      have hgr : rows.getD (p + (q - p)) [] = r := by rw [show p + (q - p) = q by omega]; simp [List.getD, hr1]
      have hgx : news.getD (q - p) [] = x := by
        rw [← setL_at (rows := rows) (p := p) (by rw [HE.out]; exact hp), show p + (q - p) = q by omega]; simp [List.getD, hx1]
      obtain ⟨qs, k1, k2, k3, hB⟩ := HC.out
      obtain ⟨b1, o1, ca, B1, d1, ev1, hb1, hc1, ir, lr⟩ := rws_at H1.out hr1
      obtain ⟨b2, o2, cb, B2, d2, ev2, hb2, hc2, ix, lx⟩ := rws_at H2.out hx1
      injection ev1 with ev1 _ ev1c
      injection ev2 with ev2 _ ev2c
      subst ev1 ev2 ev1c ev2c
      have z1 := (hB.cell (p := ⟨b1, o1 + q, none⟩) hb1).trans hc1
      have z2 := (hB.cell (p := ⟨b2, o2 + q, none⟩) hb2).trans hc2
      have i1 : (q : Int) < (e : Int) := by omega
      have i2 : (q : Int) < (m : Int) := by omega
      have K1 := Lib.hid k1
      have K2 := Lib.hid k2
      have K3 := Lib.hid k3
      have HB := Lib.hid hB
      have LR := Lib.hid lr
      have LX := Lib.hid lx
      have IR := Lib.hid ir
      have IX := Lib.hid ix
      have TL := Lib.hid (room3 k3 (by have := acc_len (f := f2 rows news p) (k := q - p); omega))
      have IRD := Lib.hid (SInts.ints (Seq.next ir hB.drew))
      have IXD := Lib.hid (SInts.ints (Seq.next ix hB.drew))
      have LZ1 := Lib.hid (show wr.drew.cell? ⟨b1, o1 + q, none⟩ = some (.slice B1 r.length d1) ∧ wr.drew.cell? ⟨b2, o2 + q, none⟩ = some (.slice B2 x.length d2) from ⟨z1, z2⟩)
      have HB1 := Lib.hid hb1
      have HB2 := Lib.hid hb2
      have HC1 := Lib.hid hc1
      have HC2 := Lib.hid hc2
      obtain ⟨bo, hbo⟩ : ∃ bo, decide (r = x) = bo := ⟨_, rfl⟩
      have HF : Hid (f2 rows news p (q - p) = if bo = true then none else some (2, q, x)) := Lib.hid (by
        unfold f2
        rw [hgr, hgx, ← hbo, show p + (q - p) = q by omega]
        have hq1 : q - p < news.length ∧ q < rows.length := by rw [HE.out, HN.out]; have := HMM.out; omega
        by_cases h : r = x
        · rw [if_neg (fun h' => h'.2.2 h), if_pos (by simp [h])]
        · rw [if_pos ⟨hq1.1, hq1.2, h⟩, if_neg (by simp [h])])
      have HBO := Lib.hid hbo
      have HQ : Hid (q + 1 - p = q - p + 1) := Lib.hid (by omega)
      have HX := HC
      clear hr1 hx1 hgr hgx k1 k2 k3 hB hb1 hb2 hc1 hc2 lr lx ir ix hbo HC z1 z2
      cases bo
      · go_wp2_with fail
        go_region_held3 (fun w' => w'.cell? ⟨b1, o1 + q, none⟩ = some (.slice B1 r.length d1) ∧ w'.cell? ⟨b2, o2 + q, none⟩ = some (.slice B2 x.length d2))
          (first
            | with_reducible exact KK.out
            | with_reducible exact LZ1.out
            | go_keep)
          (first
            | (go_at_call 19; (with_reducible refine (nums_b B1 d1 r B2 d2 x _ LR.out LX.out IRD.out IXD.out).mono ?_); rintro r3 w3 ⟨rfl, hb3⟩; rw [HBO.out]; have B3 := Lib.hid (below_next (Below.refl _ wr).drew hb3); have B03 := Lib.hid (below_next HB.out B3.out); have KK := Lib.hid (show w3.cell? ⟨b1, o1 + q, none⟩ = some (.slice B1 r.length d1) ∧ w3.cell? ⟨b2, o2 + q, none⟩ = some (.slice B2 x.length d2) from ⟨(B03.out.cell (p := ⟨b1, o1 + q, none⟩) HB1.out).trans HC1.out, (B03.out.cell (p := ⟨b2, o2 + q, none⟩) HB2.out).trans HC2.out⟩); clear hb3))
        all_goals
          have K13 := Lib.hid (K1.out.next B3.out)
          have OW := Lib.hid (World.ownsRow.alloc K13.out (.cells #[.int .i64 2, .int .i64 (q : Int), .slice B2 x.length d2] 54))
          have YY := Lib.hid (seq_new 54 w3 [.int .i64 2, .int .i64 (q : Int), .slice B2 x.length d2])
          have LB := Lib.hid (show w.heap.size ≤ (w3.alloc (.cells #[.int .i64 2, .int .i64 (q : Int), .slice B2 x.length d2] 54)).heap.size from (by have := B03.out.size; simp; omega))
          have z2 := KK.out.2
          go_wp2_with (at_builtin; refine wpList_appS infoD rfl (by decide) (by decide) Try.underlying39 rfl (.tmp 34) (.tmp 41) rfl w.heap.size u7 qs.length (flat3 qs) rfl OW.out (fun _ => True) (some ⟨w3.heap.size, 0, none⟩) 1 1 [.int .i64 2, .int .i64 (q : Int), .slice B2 x.length d2] rfl rfl YY.out (three_one _ _ _ _ _) TL.out LB.out ?_; intro v5 w5 hv5 hg5 ha5; have V5 := Lib.hid hv5; have G5 := Lib.hid hg5; clear hv5 hg5 ha5)
          have PZ := Lib.hid (chl_app (d := (2, q, x)) K13.out K2.out K3.out B03.out IX.out LX.out V5.out G5.out)
          have PZ2 : Hid (Chl S w w5 v5 (acc (f2 rows news p) (q + 1 - p))) := Lib.hid (by rw [HQ.out, acc_yes HF.out]; exact PZ.out)
          exact ⟨⟨q + 1, by omega, by omega, by go_num, PZ2⟩, by simp [intOf]; omega⟩
      · go_wp2_with fail
        go_region_held3 (fun w' => w'.cell? ⟨b1, o1 + q, none⟩ = some (.slice B1 r.length d1) ∧ w'.cell? ⟨b2, o2 + q, none⟩ = some (.slice B2 x.length d2))
          (first
            | with_reducible exact KK.out
            | with_reducible exact LZ1.out
            | go_keep)
          (first
            | (go_at_call 19; (with_reducible refine (nums_b B1 d1 r B2 d2 x _ LR.out LX.out IRD.out IXD.out).mono ?_); rintro r3 w3 ⟨rfl, hb3⟩; rw [HBO.out]; have B3 := Lib.hid (below_next (Below.refl _ wr).drew hb3); have B03 := Lib.hid (below_next HB.out B3.out); have KK := Lib.hid (show w3.cell? ⟨b1, o1 + q, none⟩ = some (.slice B1 r.length d1) ∧ w3.cell? ⟨b2, o2 + q, none⟩ = some (.slice B2 x.length d2) from ⟨(B03.out.cell (p := ⟨b1, o1 + q, none⟩) HB1.out).trans HC1.out, (B03.out.cell (p := ⟨b2, o2 + q, none⟩) HB2.out).trans HC2.out⟩); clear hb3))
        all_goals
          go_wp2_with fail
          have PZ := Lib.hid (HX.out.next B3.out)
          have PZ2 : Hid (Chl S w w3 u7 (acc (f2 rows news p) (q + 1 - p))) := Lib.hid (by rw [HQ.out, acc_no HF.out]; exact PZ.out)
          exact ⟨⟨q + 1, by omega, by omega, by go_num, PZ2⟩, by simp [intOf]; omega⟩
    · obtain rfl : q = M := by omega
      have HA : Hid (acc (f2 rows news p) (q - p) = acc (f2 rows news p) (min (e - p) n)) := Lib.hid (by
        congr 1
        have := HM.out
        have := HMM.out
        omega)
      rw [HA.out] at HC
      obtain ⟨F0, hF0⟩ : ∃ F0, acc (f2 rows news p) (min (e - p) n) = F0 := ⟨_, rfl⟩
      have HF0 := Lib.hid hF0
      have hF0l : F0.length ≤ 1000 := by
        have := acc_len (f := f2 rows news p) (k := min (e - p) n)
        rw [hF0] at this
        omega
      rw [hF0] at HC
      have w1 : IntKind.i64.wrap ((e : Int) - 1) = (e : Int) - 1 := IntWalk.i64_in _ (by omega)
      have hend : q = e ∨ q = m := by have := HM.out; omega
      have HMB := Lib.hid hMb
      clear hF0 HA hlt hMb
      have hgl : ∀ k, (gone e k).length = k := fun k => by simp [gone]
      have hcl : ∀ k, (come news p e k).length = k := fun k => by simp [come]
      have HGL := Lib.hid (And.intro hgl hcl)
      clear hgl hcl
      rcases Nat.lt_or_ge q e with hq | hq
      · have i1 : (q : Int) < (e : Int) := by omega
        have t1 : decide ((q : Int) < (m : Int)) = false := decide_eq_false (by omega)
        have t1' : decide (q < m) = false := decide_eq_false (by omega)
        clear hend
        go_wp2
        go_loopw [7, 9] (fun V i wr => ∃ r : Nat, r ≤ e ∧ (m ≤ r ∨ r = e) ∧ i = .int .i64 ((r : Int) - 1) ∧ Hid (Chl S w wr V (F0 ++ gone e (e - r)))) (fun _ i _ => (intOf i + 1).toNat)
        case atStart => exact ⟨e, Nat.le_refl _, .inr rfl, rfl, by rw [Nat.sub_self, show gone e 0 = [] from rfl, List.append_nil]; exact HC⟩
        case round =>
          obtain ⟨r, hre, hrm, rfl, HD⟩ := hrel
          by_cases hlt : m < r
          · obtain ⟨s, rfl⟩ : ∃ s, r = s + 1 := ⟨r - 1, by omega⟩
            have hI : ((s + 1 : Nat) : Int) - 1 = (s : Int) := by omega
            rw [hI]
            have t2 : decide ((s : Int) ≥ (m : Int)) = true := decide_eq_true (by omega)
            have t2' : decide (m ≤ s) = true := decide_eq_true (by omega)
            have w3 : IntKind.i64.wrap ((s : Int) - 1) = (s : Int) - 1 := IntWalk.i64_in _ (by omega)
            obtain ⟨qs, k1, k2, k3, hB⟩ := HD.out
            have TL := Lib.hid (room3 k3 (by rw [List.length_append, HGL.out.1]; omega))
            have OW := Lib.hid (World.ownsRow.alloc k1 (.cells #[.int .i64 3, .int .i64 (s : Int), .slice none 0 0] 54))
            have YY := Lib.hid (seq_new 54 wr [.int .i64 3, .int .i64 (s : Int), .slice none 0 0])
            have LB := Lib.hid (show w.heap.size ≤ (wr.alloc (.cells #[.int .i64 3, .int .i64 (s : Int), .slice none 0 0] 54)).heap.size from (by have := hB.size; simp; omega))
            have K1 := Lib.hid k1
            have K2 := Lib.hid k2
            have K3 := Lib.hid k3
            have HB := Lib.hid hB
            clear k1 k2 k3 hB HD hI
            go_wp2_with (at_builtin; refine wpList_appS infoD rfl (by decide) (by decide) Try.underlying39 rfl (.tmp 52) (.tmp 55) rfl w.heap.size u7 qs.length (flat3 qs) rfl OW.out (fun _ => True) (some ⟨wr.heap.size, 0, none⟩) 1 1 [.int .i64 3, .int .i64 (s : Int), .slice none 0 0] rfl rfl YY.out (three_one _ _ _ _ _) TL.out LB.out ?_; intro v5 w5 hv5 hg5 ha5; have V5 := Lib.hid hv5; have G5 := Lib.hid hg5; clear hv5 hg5 ha5)
            have PZ := Lib.hid (chl_app (d := (3, s, [])) (A := none) (c := 0) K1.out K2.out K3.out HB.out (Seq.nil S w none) (by simp [maxLen]) V5.out G5.out)
            have PZ2 : Hid (Chl S w w5 v5 (F0 ++ gone e (e - s))) := Lib.hid (by
              rw [show e - s = (e - (s + 1)) + 1 by omega, gone_succ, ← List.append_assoc, show e - 1 - (e - (s + 1)) = s by omega]
              exact PZ.out)
            exact ⟨⟨s, by omega, by omega, by go_num, PZ2⟩, by simp [intOf]⟩
          · have t2 : decide ((r : Int) - 1 ≥ (m : Int)) = false := decide_eq_false (by omega)
            have t2' : decide ((m : Int) ≤ (r : Int) - 1) = false := decide_eq_false (by omega)
            have HG : Hid (gone e (e - r) = gone e (e - m)) := Lib.hid (by congr 1; omega)
            rw [HG.out] at HD
            obtain ⟨G0, hG0⟩ : ∃ G0, gone e (e - m) = G0 := ⟨_, rfl⟩
            have HG0 := Lib.hid hG0
            have hG0l : G0.length ≤ 1000 := by rw [← hG0, HGL.out.1]; omega
            rw [hG0] at HD
            clear hG0 HG
            go_wp2
            go_loopw [7, 10] (fun V i wr => ∃ t : Nat, e ≤ t ∧ (t ≤ m ∨ t = e) ∧ i = .int .i64 (t : Int) ∧ Hid (Chl S w wr V (F0 ++ (G0 ++ come news p e (t - e))))) (fun _ i _ => m - (intOf i).toNat)
            case atStart => exact ⟨e, Nat.le_refl _, .inr rfl, rfl, by rw [Nat.sub_self, show come news p e 0 = [] from rfl, List.append_nil]; exact HD⟩
            case round =>
              obtain ⟨t, het, htm, rfl, HD3⟩ := hrel
              by_cases hlt3 : t < m
              · obtain ⟨x, hx1⟩ : ∃ x, (setL rows news p)[t]? = some x := ⟨_, List.getElem?_eq_getElem (by rw [HLN.out]; omega)⟩
                have hgx : news.getD (e + (t - e) - p) [] = x := by
                  rw [← setL_at (rows := rows) (p := p) (by rw [HE.out]; exact hp), show p + (e + (t - e) - p) = t by omega]; simp [List.getD, hx1]
                obtain ⟨qs, k1, k2, k3, hB⟩ := HD3.out
                obtain ⟨b2, o2, cb, B2, d2, ev2, hb2, hc2, ix, lx⟩ := rws_at H2.out hx1
                injection ev2 with ev2 _ ev2c
                subst ev2 ev2c
                have z2 := (hB.cell (p := ⟨b2, o2 + t, none⟩) hb2).trans hc2
                have t3 : decide ((t : Int) < (m : Int)) = true := decide_eq_true (by omega)
                have i2 : (t : Int) < (m : Int) := by omega
                have TL := Lib.hid (room3 k3 (by rw [List.length_append, List.length_append, HGL.out.2]; omega))
                have OW := Lib.hid (World.ownsRow.alloc k1 (.cells #[.int .i64 1, .int .i64 (t : Int), .slice B2 x.length d2] 54))
                have YY := Lib.hid (seq_new 54 wr [.int .i64 1, .int .i64 (t : Int), .slice B2 x.length d2])
                have LB := Lib.hid (show w.heap.size ≤ (wr.alloc (.cells #[.int .i64 1, .int .i64 (t : Int), .slice B2 x.length d2] 54)).heap.size from (by have := hB.size; simp; omega))
                have K1 := Lib.hid k1
                have K2 := Lib.hid k2
                have K3 := Lib.hid k3
                have HB := Lib.hid hB
                have IX := Lib.hid ix
                have LX := Lib.hid lx
                have HGX := Lib.hid hgx
                clear k1 k2 k3 hB HD3 ix lx hx1 hgx hc2
                go_wp2_with (at_builtin; refine wpList_appS infoD rfl (by decide) (by decide) Try.underlying39 rfl (.tmp 65) (.tmp 72) rfl w.heap.size u7 qs.length (flat3 qs) rfl OW.out (fun _ => True) (some ⟨wr.heap.size, 0, none⟩) 1 1 [.int .i64 1, .int .i64 (t : Int), .slice B2 x.length d2] rfl rfl YY.out (three_one _ _ _ _ _) TL.out LB.out ?_; intro v5 w5 hv5 hg5 ha5; have V5 := Lib.hid hv5; have G5 := Lib.hid hg5; clear hv5 hg5 ha5)
                have PZ := Lib.hid (chl_app (d := (1, t, x)) K1.out K2.out K3.out HB.out IX.out LX.out V5.out G5.out)
                have PZ2 : Hid (Chl S w w5 v5 (F0 ++ (G0 ++ come news p e (t + 1 - e)))) := Lib.hid (by
                  rw [show t + 1 - e = (t - e) + 1 by omega, come_succ, HGX.out, show e + (t - e) = t by omega, ← List.append_assoc, ← List.append_assoc]
                  have := PZ.out
                  rw [← List.append_assoc] at this
                  exact this)
                exact ⟨⟨t + 1, by omega, by omega, by go_num, PZ2⟩, by simp [intOf]; omega⟩
              · have t3 : decide ((t : Int) < (m : Int)) = false := decide_eq_false (by omega)
                have t3' : decide (t < m) = false := decide_eq_false (by omega)
                have HF : Hid (F0 ++ (G0 ++ come news p e (t - e)) = changesL rows news p) := Lib.hid (by
                  unfold changesL
                  rw [← HF0.out, ← HG0.out, HE.out, HN.out, show t - e = p + n - e by have := HMM.out; omega, show e - m = e - (p + n) by have := HMM.out; omega])
                rw [HF.out] at HD3
                clear HF
                go_wp2
                go_ret
                exact ⟨_, rfl, HD3.out⟩
      · have t1 : decide ((q : Int) < (e : Int)) = false := decide_eq_false (by omega)
        have t1' : decide (q < e) = false := decide_eq_false (by omega)
        clear hend
        go_wp2
        go_loopw [7, 9] (fun V i wr => ∃ r : Nat, r ≤ e ∧ (m ≤ r ∨ r = e) ∧ i = .int .i64 ((r : Int) - 1) ∧ Hid (Chl S w wr V (F0 ++ gone e (e - r)))) (fun _ i _ => (intOf i + 1).toNat)
        case atStart => exact ⟨e, Nat.le_refl _, .inr rfl, rfl, by rw [Nat.sub_self, show gone e 0 = [] from rfl, List.append_nil]; exact HC⟩
        case round =>
          obtain ⟨r, hre, hrm, rfl, HD⟩ := hrel
          by_cases hlt : m < r
          · obtain ⟨s, rfl⟩ : ∃ s, r = s + 1 := ⟨r - 1, by omega⟩
            have hI : ((s + 1 : Nat) : Int) - 1 = (s : Int) := by omega
            rw [hI]
            have t2 : decide ((s : Int) ≥ (m : Int)) = true := decide_eq_true (by omega)
            have t2' : decide (m ≤ s) = true := decide_eq_true (by omega)
            have w3 : IntKind.i64.wrap ((s : Int) - 1) = (s : Int) - 1 := IntWalk.i64_in _ (by omega)
            obtain ⟨qs, k1, k2, k3, hB⟩ := HD.out
            have TL := Lib.hid (room3 k3 (by rw [List.length_append, HGL.out.1]; omega))
            have OW := Lib.hid (World.ownsRow.alloc k1 (.cells #[.int .i64 3, .int .i64 (s : Int), .slice none 0 0] 54))
            have YY := Lib.hid (seq_new 54 wr [.int .i64 3, .int .i64 (s : Int), .slice none 0 0])
            have LB := Lib.hid (show w.heap.size ≤ (wr.alloc (.cells #[.int .i64 3, .int .i64 (s : Int), .slice none 0 0] 54)).heap.size from (by have := hB.size; simp; omega))
            have K1 := Lib.hid k1
            have K2 := Lib.hid k2
            have K3 := Lib.hid k3
            have HB := Lib.hid hB
            clear k1 k2 k3 hB HD hI
            go_wp2_with (at_builtin; refine wpList_appS infoD rfl (by decide) (by decide) Try.underlying39 rfl (.tmp 52) (.tmp 55) rfl w.heap.size u7 qs.length (flat3 qs) rfl OW.out (fun _ => True) (some ⟨wr.heap.size, 0, none⟩) 1 1 [.int .i64 3, .int .i64 (s : Int), .slice none 0 0] rfl rfl YY.out (three_one _ _ _ _ _) TL.out LB.out ?_; intro v5 w5 hv5 hg5 ha5; have V5 := Lib.hid hv5; have G5 := Lib.hid hg5; clear hv5 hg5 ha5)
            have PZ := Lib.hid (chl_app (d := (3, s, [])) (A := none) (c := 0) K1.out K2.out K3.out HB.out (Seq.nil S w none) (by simp [maxLen]) V5.out G5.out)
            have PZ2 : Hid (Chl S w w5 v5 (F0 ++ gone e (e - s))) := Lib.hid (by
              rw [show e - s = (e - (s + 1)) + 1 by omega, gone_succ, ← List.append_assoc, show e - 1 - (e - (s + 1)) = s by omega]
              exact PZ.out)
            exact ⟨⟨s, by omega, by omega, by go_num, PZ2⟩, by simp [intOf]⟩
          · have t2 : decide ((r : Int) - 1 ≥ (m : Int)) = false := decide_eq_false (by omega)
            have t2' : decide ((m : Int) ≤ (r : Int) - 1) = false := decide_eq_false (by omega)
            have HG : Hid (gone e (e - r) = gone e (e - m)) := Lib.hid (by congr 1; omega)
            rw [HG.out] at HD
            obtain ⟨G0, hG0⟩ : ∃ G0, gone e (e - m) = G0 := ⟨_, rfl⟩
            have HG0 := Lib.hid hG0
            have hG0l : G0.length ≤ 1000 := by rw [← hG0, HGL.out.1]; omega
            rw [hG0] at HD
            clear hG0 HG
            go_wp2
            go_loopw [7, 10] (fun V i wr => ∃ t : Nat, e ≤ t ∧ (t ≤ m ∨ t = e) ∧ i = .int .i64 (t : Int) ∧ Hid (Chl S w wr V (F0 ++ (G0 ++ come news p e (t - e))))) (fun _ i _ => m - (intOf i).toNat)
            case atStart => exact ⟨e, Nat.le_refl _, .inr rfl, rfl, by rw [Nat.sub_self, show come news p e 0 = [] from rfl, List.append_nil]; exact HD⟩
            case round =>
              obtain ⟨t, het, htm, rfl, HD3⟩ := hrel
              by_cases hlt3 : t < m
              · obtain ⟨x, hx1⟩ : ∃ x, (setL rows news p)[t]? = some x := ⟨_, List.getElem?_eq_getElem (by rw [HLN.out]; omega)⟩
                have hgx : news.getD (e + (t - e) - p) [] = x := by
                  rw [← setL_at (rows := rows) (p := p) (by rw [HE.out]; exact hp), show p + (e + (t - e) - p) = t by omega]; simp [List.getD, hx1]
                obtain ⟨qs, k1, k2, k3, hB⟩ := HD3.out
                obtain ⟨b2, o2, cb, B2, d2, ev2, hb2, hc2, ix, lx⟩ := rws_at H2.out hx1
                injection ev2 with ev2 _ ev2c
                subst ev2 ev2c
                have z2 := (hB.cell (p := ⟨b2, o2 + t, none⟩) hb2).trans hc2
                have t3 : decide ((t : Int) < (m : Int)) = true := decide_eq_true (by omega)
                have i2 : (t : Int) < (m : Int) := by omega
                have TL := Lib.hid (room3 k3 (by rw [List.length_append, List.length_append, HGL.out.2]; omega))
                have OW := Lib.hid (World.ownsRow.alloc k1 (.cells #[.int .i64 1, .int .i64 (t : Int), .slice B2 x.length d2] 54))
                have YY := Lib.hid (seq_new 54 wr [.int .i64 1, .int .i64 (t : Int), .slice B2 x.length d2])
                have LB := Lib.hid (show w.heap.size ≤ (wr.alloc (.cells #[.int .i64 1, .int .i64 (t : Int), .slice B2 x.length d2] 54)).heap.size from (by have := hB.size; simp; omega))
                have K1 := Lib.hid k1
                have K2 := Lib.hid k2
                have K3 := Lib.hid k3
                have HB := Lib.hid hB
                have IX := Lib.hid ix
                have LX := Lib.hid lx
                have HGX := Lib.hid hgx
                clear k1 k2 k3 hB HD3 ix lx hx1 hgx hc2
                go_wp2_with (at_builtin; refine wpList_appS infoD rfl (by decide) (by decide) Try.underlying39 rfl (.tmp 65) (.tmp 72) rfl w.heap.size u7 qs.length (flat3 qs) rfl OW.out (fun _ => True) (some ⟨wr.heap.size, 0, none⟩) 1 1 [.int .i64 1, .int .i64 (t : Int), .slice B2 x.length d2] rfl rfl YY.out (three_one _ _ _ _ _) TL.out LB.out ?_; intro v5 w5 hv5 hg5 ha5; have V5 := Lib.hid hv5; have G5 := Lib.hid hg5; clear hv5 hg5 ha5)
                have PZ := Lib.hid (chl_app (d := (1, t, x)) K1.out K2.out K3.out HB.out IX.out LX.out V5.out G5.out)
                have PZ2 : Hid (Chl S w w5 v5 (F0 ++ (G0 ++ come news p e (t + 1 - e)))) := Lib.hid (by
                  rw [show t + 1 - e = (t - e) + 1 by omega, come_succ, HGX.out, show e + (t - e) = t by omega, ← List.append_assoc, ← List.append_assoc]
                  have := PZ.out
                  rw [← List.append_assoc] at this
                  exact this)
                exact ⟨⟨t + 1, by omega, by omega, by go_num, PZ2⟩, by simp [intOf]; omega⟩
              · have t3 : decide ((t : Int) < (m : Int)) = false := decide_eq_false (by omega)
                have t3' : decide (t < m) = false := decide_eq_false (by omega)
                have HF : Hid (F0 ++ (G0 ++ come news p e (t - e)) = changesL rows news p) := Lib.hid (by
                  unfold changesL
                  rw [← HF0.out, ← HG0.out, HE.out, HN.out, show t - e = p + n - e by have := HMM.out; omega, show e - m = e - (p + n) by have := HMM.out; omega])
                rw [HF.out] at HD3
                clear HF
                go_wp2
                go_ret
                exact ⟨_, rfl, HD3.out⟩
end Go.Proofs.Ytakoehgjgdcmmaa.Tp
