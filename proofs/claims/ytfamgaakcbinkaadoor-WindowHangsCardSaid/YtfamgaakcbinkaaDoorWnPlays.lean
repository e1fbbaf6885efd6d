/-
  What rifflelaw15.WindowPlays answers: true, whatever the window and the rows. Conditions: the table of traits holds what its text lays; the numbers have 64 bits; no more rows than fit into a machine.
-/
import Derived.Test.YtfamgaakcbinkaaDoorWnKeep
set_option maxRecDepth 100000
namespace Go.Proofs.YtfamgaakcbinkaaDoor.Wn
open Go.Proofs.YtfamgaakcbinkaaDoor.Sh Go.Proofs.YtfamgaakcbinkaaDoor.St Go.Proofs.YtfamgaakcbinkaaDoor.Fd
open Go.RowKit
set_option linter.unusedVariables false

theorem infoRw : (Tryd.prog.info? 27).map (fun i => (i.zero, i.size, i.bytes)) = some (some (.slice none 0 0), 1, 24) := by kernel_rfl
/-- The five cells of a window's terms. -/
theorem of_cells {w : World} {b : Nat} {c bk lk wd : Int} {s : Bool} (h : Bk 45 w b [.int .i64 c, .bool s, .int .i64 bk, .int .i64 lk, .int .i64 wd]) :
    w.cell? ⟨b, 0, none⟩ = some (.int .i64 c) ∧ w.cell? ⟨b, 1, none⟩ = some (.bool s) ∧ w.cell? ⟨b, 2, none⟩ = some (.int .i64 bk) ∧ w.cell? ⟨b, 3, none⟩ = some (.int .i64 lk) ∧ w.cell? ⟨b, 4, none⟩ = some (.int .i64 wd) := ⟨h.c 0, h.c 1, h.c 2, h.c 3, h.c 4⟩
/-- At the head of the loop over rows. -/
def PlayAt (w1 wr : World) (g : Nat) (V : Value) (c : Int) (s : Bool) (n : Nat) (Y : Nat → Value) (back look k : Nat) (X t : Value) : Prop :=
  ∃ rs, t = .int .i64 ((rs.length - look : Nat) : Int) ∧ Kw w1 wr w1.heap.size g V c s n Y back look X rs rs (rs.length - look) false ∧ rs.length ≤ k
/-- At the head of the loop over answers. -/
def DrainAt (w1 wr : World) (g : Nat) (V : Value) (c : Int) (s : Bool) (n : Nat) (Y : Nat → Value) (back look : Nat) (X : Value) (rs : List (List Int)) (told : Nat) : Prop :=
  ∃ over, Kw w1 wr w1.heap.size g V c s n Y back look X rs rs told over
set_option maxHeartbeats 8000000 in
theorem plays_yes (c : Int) (s : Bool) (n back look : Nat) (A : Option Addr) (cA : Nat) (ls : List (List Int)) (w : World) (h0 : 0 < w.heap.size) (hT : Sc.Tab w) (hV : RwsIn (fun b => b < w.heap.size) w (.slice A ls.length cA) ls) (hR : ∀ r ∈ ls, AllR r) (hml : ls.length ≤ maxLen) (hmr : ∀ r ∈ ls, r.length ≤ maxLen)
    (hn : n ≤ 64) (h2 : Sc.hasB c 2 = true) (hbl : back + look ≤ 31) (hw : whyW c (back : Nat) (look : Nat) (n : Nat) = 0) :
    Calls Tryd.prog 7 #[.agg #[.int .i64 c, .bool s, .int .i64 (back : Nat), .int .i64 (look : Nat), .int .i64 (n : Nat)], .slice A ls.length cA] w fun e w' => e = .returned (.bool true) ∧ Below w.heap.size w w' := by
  have b0 := below_new w (.cells #[.int .i64 c, .bool s, .int .i64 (back : Nat), .int .i64 (look : Nat), .int .i64 (n : Nat)] 45)
  have BN := Lib.hid (Bk.new 45 w [.int .i64 c, .bool s, .int .i64 (back : Nat), .int .i64 (look : Nat), .int .i64 (n : Nat)])
  have T1 := Lib.hid (hT.below b0)
  have V1 := Lib.hid ((hV.next b0).mono (S' := fun b => b < (w.alloc (.cells #[.int .i64 c, .bool s, .int .i64 (back : Nat), .int .i64 (look : Nat), .int .i64 (n : Nat)] 45)).heap.size) fun b hb => by simp; omega)
  have L0 := Lib.hid b0
  have H0 := Lib.hid (Nat.lt_of_lt_of_le h0 b0.size)
  have HR := Lib.hid hR
  have H2 := Lib.hid h2
  have HMR := Lib.hid hmr
  unfold maxLen at hml
  clear b0 h0 hT hV hR h2 hmr
  obtain ⟨x0, x1, x2, x3, x4⟩ := of_cells BN.out
  go_enter Tryd.func7, Tryd.ntmps7
  go_wp2_with fail
  generalize hW1 : w.alloc (.cells #[.int .i64 c, .bool s, .int .i64 (back : Nat), .int .i64 (look : Nat), .int .i64 (n : Nat)] 45) = w1 at *
  clear hW1
  refine (new_yes c s n back look w1 H0.out T1.out hn H2.out hbl).mono ?_
  rintro r w2 ⟨g, V, Y, T, rfl, d2, hb2⟩
  have K2 := Lib.hid (Kw.new d2 hb2)
  have L2 := Lib.hid hb2
  have MY := rmay_any c s (back : Nat) (look : Nat) (n : Nat) w2
  rw [hw] at MY
  have MYH := Lib.hid MY
  obtain ⟨y0, y1, y2, y3, y4⟩ := of_cells (BN.out.next hb2)
  clear d2 hb2 x0 x1 x2 x3 x4 MY hw
  go_wp2_with fail
  refine MYH.out.mono ?_
  rintro r w3 ⟨rfl, hb3⟩
  have K3 := Lib.hid (K2.out.next hb3)
  have L3 := Lib.hid (below_next L2.out hb3)
  have V3 := Lib.hid (V1.out.next L3.out)
  have B3 := Lib.hid (BN.out.next L3.out)
  have T3 := Lib.hid (T1.out.below L3.out)
  obtain ⟨x0, x1, x2, x3, x4⟩ := of_cells B3.out
  have WA := Lib.hid (fun W (h : Below w3.heap.size w3 W) => way_any c s W (T3.out.below h))
  have RA := Lib.hid (fun W => rway_any c s W)
  clear hb3 y0 y1 y2 y3 y4 K2 L2
  have S0 := Lib.hid (show w3.drew.cell? ⟨w.heap.size, 0, none⟩ = some (.int .i64 c) ∧ w3.drew.cell? ⟨w.heap.size, 1, none⟩ = some (.bool s) from ⟨B3.out.c 0, B3.out.c 1⟩)
  go_upto_region 5 with (fail)
  go_cut [70] (fun v wx => v = .bool false ∧ Hid (Below w3.heap.size w3 wx))
  case first =>
    go_region_held3 (fun w' => w'.cell? ⟨w.heap.size, 0, none⟩ = some (.int .i64 c) ∧ w'.cell? ⟨w.heap.size, 1, none⟩ = some (.bool s))
      (first
        | with_reducible exact KK.out
        | with_reducible exact S0.out
        | go_keep)
      (first
        | (go_at_call 25; (with_reducible refine (WA.out _ (Below.refl w3.heap.size w3).drew).mono ?_); rintro r w4 ⟨rfl, hb4⟩; have L4 := Lib.hid (below_next (Below.refl w3.heap.size w3).drew hb4); have X4 := Lib.hid (B3.out.next L4.out); have KK := Lib.hid (show w4.cell? ⟨w.heap.size, 0, none⟩ = some (.int .i64 c) ∧ w4.cell? ⟨w.heap.size, 1, none⟩ = some (.bool s) from ⟨X4.out.c 0, X4.out.c 1⟩); clear hb4)
        | (go_at_call 26; (with_reducible refine (RA.out w4).mono ?_); rintro r w5 ⟨rfl, hb5⟩; have L5 := Lib.hid (below_next L4.out hb5); have X5 := Lib.hid (B3.out.next L5.out); have KK := Lib.hid (show w5.cell? ⟨w.heap.size, 0, none⟩ = some (.int .i64 c) ∧ w5.cell? ⟨w.heap.size, 1, none⟩ = some (.bool s) from ⟨X5.out.c 0, X5.out.c 1⟩); clear hb5))
    all_goals
      go_wp2_with fail
      go_meet
      exact ⟨by simp, L5⟩
  case rest =>
    obtain ⟨rfl, L5⟩ := hcut
    have K5 := Lib.hid (K3.out.next L5.out)
    have V5 := Lib.hid (V3.out.next L5.out)
    clear x0 x1 x2 x3 x4 WA RA S0 MYH K3 V3 B3 T3
    generalize hwx : wc = w5 at *
    clear hwx
    go_wp2_with fail
    refine (great_any _ A cA ls w5 V5.out (by unfold maxLen; omega) HMR.out).mono ?_
    rintro r w6 ⟨b, rfl, hg, rfl⟩
    have L6 := Lib.hid (below_next L3.out L5.out)
    cases b with
    | true =>
      clear hg
      go_wp2_with fail
      refine (lives_any w5 (T1.out.below L6.out) (Nat.lt_of_lt_of_le H0.out L6.out.size)).mono ?_
      rintro r w7 ⟨rfl, hb7⟩
      have L7 := Lib.hid (below_next (below_next L0.out L6.out) hb7)
      clear hb7
      go_wp2
      go_ret
      exact ⟨rfl, L7.out⟩
    | false =>
      obtain ⟨g1, g2⟩ := hg rfl
      have G2 := Lib.hid g2
      have PA : Hid (PlayAt w1 w5 g V c s n Y back look 0 (.slice none 0 0) (.int .i64 0)) := Lib.hid ⟨[], by simp, by simpa using K5.out, by simp⟩
      clear hg g2 K5 L3 L5 L6
      go_wp2
      go_loopw [8, 9, 76] (fun s8 s9 i wr => ∃ (k : Nat) (X t : Value), X = s8 ∧ t = s9 ∧ k ≤ ls.length ∧ i = .int .i64 k ∧ Hid (PlayAt w1 wr g V c s n Y back look k X t)) (fun _ _ i _ => ls.length - (intOf i).toNat)
      case atStart => exact ⟨0, _, _, rfl, rfl, Nat.zero_le _, rfl, PA⟩
      case round =>
        obtain ⟨k, X, t, rfl, rfl, hk, rfl, HP⟩ := hrel
        by_cases hlt : k < ls.length
        · obtain ⟨rs, rfl, p2, p3⟩ := HP.out
          obtain ⟨r, hr⟩ : ∃ r, ls[k]? = some r := ⟨_, List.getElem?_eq_getElem hlt⟩
          have hmem := List.mem_of_getElem? hr
          have hrR := Lib.hid (HR.out r hmem)
          have hrl := G2.out r hmem
          have i1 : (k : Int) < (ls.length : Int) := by omega
          have i0 : (0 : Int) ≤ (k : Int) := by omega
          obtain ⟨b, off, B, d, rfl, q1, q2, q3, q4⟩ := row_at (V1.out.next p2.b) hr
          have hbn := q4
          have Q2 := Lib.hid q2
          have Q3 := Lib.hid q3
          have Q4 : Hid (SInts (fun b => b < w1.heap.size) w1 B r) := Lib.hid (by
            obtain ⟨b', off', B', d', e', q1', q2', q3', q4'⟩ := row_at V1.out hr
            injection e' with e'
            injection e' with e1' e2'
            subst e1' e2'
            have hc := q1'
            have hl1 := World.block_lt_of_cell? _ _ q1'
            rw [← p2.b.cell (p := ⟨b, off + k, none⟩) hl1, q1] at hc
            injection hc with hc
            injection hc with hc1 hc2 hc3
            subst hc1
            exact q4')
          have hbs : Hid (∀ b, b < w1.heap.size → b < wr.heap.size ∧ (b < w1.heap.size ∨ wr.heap.size ≤ b)) := Lib.hid fun b hb => ⟨Nat.lt_of_lt_of_le hb p2.b.size, .inl hb⟩
          have P2 := Lib.hid p2
          have HQ4 := Lib.hid q4
          obtain ⟨told, htd⟩ : ∃ told, rs.length - look = told := ⟨_, rfl⟩
          rw [htd] at P2
          have HTD := Lib.hid htd
          have ht6 : told ≤ 100 := by omega
          obtain ⟨m, hm⟩ : ∃ m, rs.length + 1 = m := ⟨_, rfl⟩
          have HM := Lib.hid hm
          have hm6 : m ≤ 100 := by omega
          have TN : Hid (rs.length + 1 ≤ 100000) := Lib.hid (by omega)
          have HP3 := Lib.hid p3
          clear hr hmem p2 q2 q3 q4 hbn HP PA
          by_cases hrn : r.length = n
          · have HRN := Lib.hid hrn
            rw [hrn] at q1
            by_cases hd : rs.length < look
            · have tD : decide (look < m) = false := decide_eq_false (by omega)
              have PU := Lib.hid (push_k_wait w1 wr wr w1.heap.size g V c s n Y back look X rs rs told (fun b => b < w1.heap.size) B d r P2.out (Below.refl _ _) HQ4.out hbs.out hrn hrR.out hn (by omega) (by omega))
              have HNX : Hid ((rs ++ [r]).length - look = told) := Lib.hid (by simp; omega)
              rw [htd]
              clear hrn hd htd hm
              go_wp2_with fail
              refine PU.out.mono ?_
              rintro r' w5 ⟨rfl, k5⟩
              obtain ⟨vs, o1, o2⟩ := k5.kept
              have O1 := Lib.hid o1
              have O2 := Lib.hid o2
              have O6 := Lib.hid (World.ownsRow.alloc o1 (.cells #[.slice B n d] 27))
              have L6 := Lib.hid (Nat.le_trans k5.b.size (below_new w5 (.cells #[.slice B n d] 27)).size)
              have Q5 := Lib.hid (Q4.out.next (show Below w1.heap.size w1 w5 from k5.b))
              obtain ⟨x0, x1, x2, x3, x4⟩ := of_cells (BN.out.next k5.b)
              have K5 := Lib.hid k5
              clear k5 o1 o2 PU
              go_wp2_with (at_builtin; refine wpList_appS infoRw rfl (by decide) (by decide) Tryd.underlying46 rfl (.tmp 102) (.tmp 104) rfl w1.heap.size _ rs.length vs rfl O6.out (fun _ => True) _ 1 1 [Value.slice B n d] rfl rfl (seq1 _ _ _) (one_sl _ _ _) TN.out L6.out ?_; intro v7 w7 hv7 hg7 ha7; have k7 := Kw.app K5.out O1.out O2.out Q5.out Q2.out Q3.out HRN.out hrR.out (by rw [HRN.out]; exact hv7) hg7 ha7; rw [HM.out] at hv7; obtain ⟨A7, c7, rfl, -⟩ := own_seq hv7 (by decide); have K7 := Lib.hid k7; obtain ⟨x0, x1, x2, x3, x4⟩ := of_cells (BN.out.next k7.b); clear hv7 hg7 ha7 k7)
              have ST := Lib.hid (stands_k w1 w7 w1.heap.size g V c s n Y back look (rs ++ [r]) told false A7 c7 m K7.out hn hm6 (by omega))
              go_wp2_with fail
              refine ST.out.mono ?_
              rintro r' w8 ⟨rfl, hb8⟩
              have PA : Hid (PlayAt w1 w8 g V c s n Y back look (k + 1) (.slice A7 m c7) (.int .i64 (told : Nat))) := Lib.hid ⟨rs ++ [r], by rw [HNX.out], by rw [HNX.out]; exact K7.out.next hb8, by simp; have := HP3.out; omega⟩
              clear hb8
              go_wp2
              exact ⟨⟨k + 1, _, _, rfl, rfl, by omega, by go_num, PA⟩, by simp [intOf]; omega⟩
            · have tD : decide (look < m) = true := decide_eq_true (by omega)
              obtain ⟨v, hv⟩ : ∃ v, ansI c s n ((rs ++ [r]).drop (told - back)) = v := ⟨_, rfl⟩
              have HVL := Lib.hid (show v.length = n by rw [← hv, ansI_len])
              have HV := Lib.hid hv
              have PU := Lib.hid (push_k_due w1 wr wr w1.heap.size g V c s n Y back look X rs rs told (fun b => b < w1.heap.size) B d r P2.out (Below.refl _ _) HQ4.out hbs.out hrn hrR.out hn (by omega) (by omega) H2.out v hv)
              have XL : Hid (∀ b, X.ownBlock = some b → b < wr.heap.size) := Lib.hid (by obtain ⟨vs, o1, _⟩ := P2.out.kept; exact own_lt o1)
              have HNX : Hid ((rs ++ [r]).length - look = told + 1) := Lib.hid (by simp; omega)
              have HMT : Hid (m ≤ told + look + 1 ∧ told ≤ m) := Lib.hid (by omega)
              rw [htd]
              clear hrn hd htd hm hv
              go_wp2_with fail
              refine PU.out.mono ?_
              rintro r' w5 ⟨A5, c5, rfl, m5, k5⟩
              have M5 := Lib.hid m5
              clear m5
              obtain ⟨vs, o1, o2⟩ := k5.kept
              have O1 := Lib.hid o1
              have O2 := Lib.hid o2
              have O6 := Lib.hid (World.ownsRow.alloc o1 (.cells #[.slice B n d] 27))
              have L6 := Lib.hid (Nat.le_trans k5.b.size (below_new w5 (.cells #[.slice B n d] 27)).size)
              have Q5 := Lib.hid (Q4.out.next (show Below w1.heap.size w1 w5 from k5.b))
              obtain ⟨x0, x1, x2, x3, x4⟩ := of_cells (BN.out.next k5.b)
              have K5 := Lib.hid k5
              clear k5 o1 o2 PU
              go_wp2_with (at_builtin; refine wpList_appS infoRw rfl (by decide) (by decide) Tryd.underlying46 rfl (.tmp 102) (.tmp 104) rfl w1.heap.size _ rs.length vs rfl O6.out (fun _ => True) _ 1 1 [Value.slice B n d] rfl rfl (seq1 _ _ _) (one_sl _ _ _) TN.out L6.out ?_; intro v7 w7 hv7 hg7 ha7; have k7 := Kw.app K5.out O1.out O2.out Q5.out Q2.out Q3.out HRN.out hrR.out (by rw [HRN.out]; exact hv7) hg7 ha7; have M7 := Lib.hid (own_turn M5.out ((Turn.of_below (fun b => X.ownBlock = some b) (below_new w5 _)).trans (Turn.of_grown hg7 fun g e => e)) (fun b hb hX => by have h1 := own_base M5.out b hb; have h2 := XL.out b hX; omega)); rw [HM.out] at hv7; obtain ⟨A7, c7, rfl, -⟩ := own_seq hv7 (by decide); have K7 := Lib.hid k7; obtain ⟨x0, x1, x2, x3, x4⟩ := of_cells (BN.out.next k7.b); clear hv7 hg7 ha7 k7)
              have AN := Lib.hid (ranswer_k w1 w7 w1.heap.size g V c s n Y back look (rs ++ [r]) (rs ++ [r]) (told + 1) false A7 c7 m K7.out hn hm6 told HMT.out.2 (by omega) (by omega) (by have := HMT.out.1; omega) v HV.out)
              go_wp2_with fail
              refine AN.out.mono ?_
              rintro r' w8 ⟨A8, c8, rfl, m8, hb8⟩
              have K8 := Lib.hid (K7.out.next hb8)
              have NM := Lib.hid (nums_same A5 c5 v A8 c8 w8 (by unfold maxLen; have := HVL.out; omega) (MineT.ints' (own_below M7.out hb8)) m8.ints')
              clear m8 hb8 AN x0 x1 x2 x3 x4
              go_wp2_with fail
              refine NM.out.mono ?_
              rintro r' w9 ⟨rfl, hb9⟩
              have K9 := Lib.hid (K8.out.next hb9)
              obtain ⟨x0, x1, x2, x3, x4⟩ := of_cells (BN.out.next K9.out.b)
              have ST := stands_k w1 w9 w1.heap.size g V c s n Y back look (rs ++ [r]) (told + 1) false A7 c7 m K9.out hn hm6 (by omega)
              rw [show ((told + 1 : Nat) : Int) = (told : Int) + 1 by omega] at ST
              have STH := Lib.hid ST
              clear hb9 ST NM
              go_wp2_with fail
              refine STH.out.mono ?_
              rintro r' w10 ⟨rfl, hb10⟩
              have PA : Hid (PlayAt w1 w10 g V c s n Y back look (k + 1) (.slice A7 m c7) (.int .i64 ((told : Int) + 1))) := Lib.hid ⟨rs ++ [r], by rw [HNX.out]; simp, by rw [HNX.out]; exact K9.out.next hb10, by simp; have := HP3.out; omega⟩
              clear hb10
              go_wp2
              exact ⟨⟨k + 1, _, _, rfl, rfl, by omega, by go_num, PA⟩, by simp [intOf]; omega⟩
          · have e1 : ((r.length : Int) != (n : Int)) = true := by simp; omega
            have PU := Lib.hid (push_k_len w1 wr w1.heap.size g V c s n Y back look X rs rs told B r.length d P2.out hrn)
            obtain ⟨x0, x1, x2, x3, x4⟩ := of_cells (BN.out.next P2.out.b)
            have PA : Hid (PlayAt w1 wr g V c s n Y back look (k + 1) X (.int .i64 (told : Nat))) := Lib.hid ⟨rs, by rw [htd], by rw [htd]; exact P2.out, by omega⟩
            rw [htd]
            clear hrn htd hm
            go_wp2_with fail
            refine PU.out.mono ?_
            rintro r' w5 ⟨rfl, rfl⟩
            go_wp2
            exact ⟨⟨k + 1, _, _, rfl, rfl, by omega, by go_num, PA⟩, by simp [intOf]; omega⟩
        · obtain rfl : k = ls.length := by omega
          obtain ⟨rs, rfl, p2, p3⟩ := HP.out
          obtain ⟨A7, c7, rfl, -⟩ := p2.rows
          have hm6 : rs.length ≤ 100 := by omega
          obtain ⟨told, htd⟩ : ∃ told, rs.length - look = told := ⟨_, rfl⟩
          have hmk := fun W => run_make_row' (P := Tryd.prog) 27 2 (.int .i64 0) 8 Tryd.underlying27 numL rfl .i64 .i64 n (by omega) (by omega) W
          rw [htd] at p2
          rw [htd]
          have PB : Hid (DrainAt w1 wr g V c s n Y back look (.slice A7 rs.length c7) rs told) := Lib.hid ⟨_, p2⟩
          clear p2 p3 HP PA htd
          go_wp2
          go_loopw [9] (fun s9 wr' => ∃ told : Nat, s9 = .int .i64 (told : Nat) ∧ Hid (DrainAt w1 wr' g V c s n Y back look (.slice A7 rs.length c7) rs told)) (fun s9 _ => rs.length - (intOf s9).toNat)
          case atStart => exact ⟨told, rfl, PB⟩
          case round =>
            obtain ⟨told, rfl, HD⟩ := hrel
            obtain ⟨over, kd⟩ := HD.out
            have htt := kd.tolds
            obtain ⟨x0, x1, x2, x3, x4⟩ := of_cells (BN.out.next kd.b)
            have KD := Lib.hid kd
            clear kd HD PB
            by_cases hlt : told < rs.length
            · have i1 : decide ((told : Int) < (rs.length : Int)) = true := decide_eq_true (by omega)
              have i2 : decide (told < rs.length) = true := decide_eq_true hlt
              obtain ⟨v, hv⟩ : ∃ v, ansI c s n (rs.drop (told - back)) = v := ⟨_, rfl⟩
              have HVL := Lib.hid (show v.length = n by rw [← hv, ansI_len])
              have HV := Lib.hid hv
              have PU := Lib.hid (drain_k_some w1 wr w1.heap.size g V c s n Y back look (.slice A7 rs.length c7) rs rs told over KD.out H2.out hn (by omega) hlt v hv)
              clear hv x0 x1 x2 x3 x4
              go_wp2_with fail
              refine PU.out.mono ?_
              rintro r' w5 ⟨A5, c5, rfl, m5, k5⟩
              have M5 := Lib.hid m5
              obtain ⟨x0, x1, x2, x3, x4⟩ := of_cells (BN.out.next k5.b)
              have K7 := Lib.hid k5
              have AN := Lib.hid (ranswer_k w1 w5 w1.heap.size g V c s n Y back look rs rs (told + 1) true A7 c7 rs.length K7.out hn hm6 told htt.1 (by omega) (by omega) (by omega) v HV.out)
              clear m5 k5 PU
              go_wp2_with fail
              refine AN.out.mono ?_
              rintro r' w8 ⟨A8, c8, rfl, m8, hb8⟩
              have K8 := Lib.hid (K7.out.next hb8)
              have NM := Lib.hid (nums_same A5 c5 v A8 c8 w8 (by unfold maxLen; have := HVL.out; omega) (MineT.ints' (own_below M5.out hb8)) m8.ints')
              clear m8 hb8 AN x0 x1 x2 x3 x4
              go_wp2_with fail
              refine NM.out.mono ?_
              rintro r' w9 ⟨rfl, hb9⟩
              have K9 := Lib.hid (K8.out.next hb9)
              obtain ⟨x0, x1, x2, x3, x4⟩ := of_cells (BN.out.next K9.out.b)
              have ST := stands_k w1 w9 w1.heap.size g V c s n Y back look rs (told + 1) true A7 c7 rs.length K9.out hn hm6 (by omega)
              rw [show ((told + 1 : Nat) : Int) = (told : Int) + 1 by omega] at ST
              have STH := Lib.hid ST
              clear hb9 ST NM
              go_wp2_with fail
              refine STH.out.mono ?_
              rintro r' w10 ⟨rfl, hb10⟩
              have PB : Hid (DrainAt w1 w10 g V c s n Y back look (.slice A7 rs.length c7) rs (told + 1)) := Lib.hid ⟨_, K9.out.next hb10⟩
              clear hb10
              go_wp2
              exact ⟨⟨told + 1, by go_num, PB⟩, by simp [intOf]; omega⟩
            · obtain rfl : told = rs.length := by omega
              have PU := Lib.hid (drain_k_none w1 wr w1.heap.size g V c s n Y back look (.slice A7 rs.length c7) rs rs rs.length over KD.out rfl)
              clear htt x0 x1 x2 x3 x4
              go_wp2_with fail
              refine PU.out.mono ?_
              rintro r' w5 ⟨rfl, k5⟩
              obtain ⟨x0, x1, x2, x3, x4⟩ := of_cells (BN.out.next k5.b)
              have K6 := Lib.hid (k5.next (show Below w5.heap.size w5 (w5.alloc (.cells (madeCells #[Value.int .i64 0] n) 2)) from below_new _ _))
              have PV := Lib.hid (push_k_over w1 (w5.alloc (.cells (madeCells #[Value.int .i64 0] n) 2)) w1.heap.size g V c s n Y back look (.slice A7 rs.length c7) rs rs rs.length (some ⟨w5.heap.size, 0, none⟩) n n K6.out)
              clear k5 PU
              go_wp2_with fail
              refine PV.out.mono ?_
              rintro r' w7 ⟨rfl, rfl⟩
              have LV := Lib.hid (lives_any _ (T1.out.below K6.out.b) (Nat.lt_of_lt_of_le H0.out K6.out.b.size))
              go_wp2_with fail
              refine LV.out.mono ?_
              rintro r' w9 ⟨rfl, hb9⟩
              have L9 := Lib.hid (below_next (below_next L0.out K6.out.b) hb9)
              clear hb9
              go_wp2
              go_ret
              exact ⟨rfl, L9.out⟩
set_option maxHeartbeats 4000000 in
theorem plays_no (c : Int) (s : Bool) (bk lk wd : Int) (V : Value) (w : World) (h0 : 0 < w.heap.size) (hT : Sc.Tab w) (hbR : Sc.InR bk) (hw : whyW c bk lk wd ≠ 0) :
    Calls Tryd.prog 7 #[.agg #[.int .i64 c, .bool s, .int .i64 bk, .int .i64 lk, .int .i64 wd], V] w fun e w' => e = .returned (.bool true) ∧ Below w.heap.size w w' := by
  have b0 := below_new w (.cells #[.int .i64 c, .bool s, .int .i64 bk, .int .i64 lk, .int .i64 wd] 45)
  have BN := Lib.hid (Bk.new 45 w [.int .i64 c, .bool s, .int .i64 bk, .int .i64 lk, .int .i64 wd])
  have T1 := Lib.hid (hT.below b0)
  have L0 := Lib.hid b0
  have H0 := Lib.hid h0
  have NN := Lib.hid (fun W (h : Sc.Tab W) => new_no c s bk lk wd W h hbR hw)
  have MM := Lib.hid (fun W => rmay_any c s bk lk wd W)
  obtain ⟨y, hy⟩ : ∃ y, whyW c bk lk wd = y := ⟨_, rfl⟩
  rw [hy] at NN MM hw
  have e1 : (y != 0) = true := by simpa using hw
  clear b0 h0 hT hw hy hbR
  obtain ⟨x0, x1, x2, x3, x4⟩ := of_cells BN.out
  go_enter Tryd.func7, Tryd.ntmps7
  go_wp2_with fail
  refine (NN.out _ T1.out).mono ?_
  rintro r w2 ⟨rfl, hb2⟩
  have L2 := Lib.hid (below_next L0.out hb2)
  have T2 := Lib.hid (T1.out.below hb2)
  obtain ⟨y0, y1, y2, y3, y4⟩ := of_cells (BN.out.next hb2)
  clear hb2 x0 x1 x2 x3 x4
  go_wp2_with fail
  refine (MM.out _).mono ?_
  rintro r w3 ⟨rfl, hb3⟩
  have L3 := Lib.hid (below_next L2.out hb3)
  have T3 := Lib.hid (T2.out.below hb3)
  clear hb3 y0 y1 y2 y3 y4
  go_wp2_with fail
  refine (lives_any _ T3.out (Nat.lt_of_lt_of_le H0.out L3.out.size)).mono ?_
  rintro r w5 ⟨rfl, hb5⟩
  have L5 := Lib.hid (below_next L3.out hb5)
  clear hb5
  go_wp2
  go_ret
  exact ⟨rfl, L5.out⟩
theorem plays_any (c : Int) (s : Bool) (bk lk wd : Int) (A : Option Addr) (cA : Nat) (ls : List (List Int)) (w : World) (h0 : 0 < w.heap.size) (hT : Sc.Tab w) (hbR : Sc.InR bk) (hV : RwsIn (fun b => b < w.heap.size) w (.slice A ls.length cA) ls) (hR : ∀ r ∈ ls, AllR r) (hml : ls.length ≤ maxLen) (hmr : ∀ r ∈ ls, r.length ≤ maxLen) :
    Calls Tryd.prog 7 #[.agg #[.int .i64 c, .bool s, .int .i64 bk, .int .i64 lk, .int .i64 wd], .slice A ls.length cA] w fun e w' => e = .returned (.bool true) ∧ Below w.heap.size w w' := by
  by_cases hw : whyW c bk lk wd = 0
  · obtain ⟨h1, h2, h3, h4, h5, h6⟩ := why_yes hw
    obtain ⟨n, rfl⟩ : ∃ k : Nat, wd = k := ⟨wd.toNat, by omega⟩
    obtain ⟨back, rfl⟩ : ∃ k : Nat, bk = k := ⟨bk.toNat, by omega⟩
    obtain ⟨look, rfl⟩ : ∃ k : Nat, lk = k := ⟨lk.toNat, by omega⟩
    exact plays_yes c s n back look A cA ls w h0 hT hV hR hml hmr (by omega) h3 (by omega) hw
  · exact plays_no c s bk lk wd _ w h0 hT hbR hw
end Go.Proofs.YtfamgaakcbinkaaDoor.Wn
