/-
  What rifflelaw15.WindowApart answers: true, whatever the window, the pairs and the row. Conditions: the table of traits holds what its text lays; the numbers have 64 bits; no more pairs than fit into a machine.
-/
import Derived.Test.YtfamgaakcbinkaaDoorWnKx
set_option maxRecDepth 100000
namespace Go.Proofs.YtfamgaakcbinkaaDoor.Wn
open Go.Proofs.YtfamgaakcbinkaaDoor.Sh Go.Proofs.YtfamgaakcbinkaaDoor.St Go.Proofs.YtfamgaakcbinkaaDoor.Fd
open Go.RowKit
set_option linter.unusedVariables false

/-- The boxes of the law: the window's terms, and the row. -/
def Bxs (w : World) (ob rb : Nat) (c : Int) (s : Bool) (back look : Nat) (x y : Int) : Prop :=
  Bk 45 w ob [.int .i64 c, .bool s, .int .i64 (back : Nat), .int .i64 (look : Nat), .int .i64 2] ∧ Bk 62 w rb [.int .i64 x, .int .i64 y]
/-- At the head of the loop over pairs. -/
def ApAt (w wr : World) (g : Nat) (V : Value) (c : Int) (s : Bool) (Y : Nat → Value) (back look : Nat) (x y : Int) (k : Nat) (X : Value) : Prop :=
  ∃ xs B, xs.length = k ∧ Kx w wr w.heap.size g V c s 2 Y back look X xs xs (xs.length - look) false B ∧ B w.heap.size ∧ B (w.heap.size + 1) ∧ Bxs wr w.heap.size (w.heap.size + 1) c s back look x y
theorem Bxs.turn {w w' : World} {ob rb n₀ : Nat} {c : Int} {s : Bool} {back look : Nat} {x y : Int} {B : Nat → Prop} (h : Bxs w ob rb c s back look x y) (t : Turn (Fr n₀ B) w w') (h1 : B ob) (h2 : B rb) : Bxs w' ob rb c s back look x y := ⟨h.1.turn t fun k => k.2 h1, h.2.turn t fun k => k.2 h2⟩
theorem Bxs.next {w w' : World} {ob rb : Nat} {c : Int} {s : Bool} {back look : Nat} {x y : Int} (h : Bxs w ob rb c s back look x y) (hb : Below w.heap.size w w') : Bxs w' ob rb c s back look x y := ⟨h.1.next hb, h.2.next hb⟩
theorem Bxs.of {w : World} {ob rb : Nat} {c : Int} {s : Bool} {back look : Nat} {x y : Int} (h : Bxs w ob rb c s back look x y) : w.cell? ⟨ob, 0, none⟩ = some (.int .i64 c) ∧ w.cell? ⟨ob, 1, none⟩ = some (.bool s) ∧ w.cell? ⟨ob, 2, none⟩ = some (.int .i64 (back : Nat)) ∧ w.cell? ⟨ob, 3, none⟩ = some (.int .i64 (look : Nat)) ∧ w.cell? ⟨ob, 4, none⟩ = some (.int .i64 2) := of_cells h.1
set_option maxHeartbeats 16000000 in
theorem apart_yes (c : Int) (s : Bool) (back look : Nat) (wd : Int) (A : Option Addr) (cA : Nat) (ls : List (Int × Int)) (x y : Int) (w : World) (h0 : 0 < w.heap.size) (hT : Sc.Tab w) (hV : Prs w A ls) (hR : ∀ q ∈ ls, Sc.InR q.1 ∧ Sc.InR q.2) (hx : Sc.InR x) (hy : Sc.InR y) (hl : ls.length ≤ 40) (h2 : Sc.hasB c 2 = true) (hbl : back + look ≤ 31) :
    Calls Tryd.prog 8 #[.agg #[.int .i64 c, .bool s, .int .i64 (back : Nat), .int .i64 (look : Nat), .int .i64 wd], .slice A ls.length cA, .agg #[.int .i64 x, .int .i64 y]] w fun e w' => e = .returned (.bool true) ∧ Below w.heap.size w w' := by
  have b0 := below_next (below_new w (.cells #[.int .i64 c, .bool s, .int .i64 (back : Nat), .int .i64 (look : Nat), .int .i64 wd] 45)) (below_new _ (.cells #[.int .i64 x, .int .i64 y] 62))
  have BO := Lib.hid ((Bk.new 45 w [.int .i64 c, .bool s, .int .i64 (back : Nat), .int .i64 (look : Nat), .int .i64 wd]).alloc (.cells #[.int .i64 x, .int .i64 y] 62))
  have BR := Bk.new 62 (w.alloc (.cells #[.int .i64 c, .bool s, .int .i64 (back : Nat), .int .i64 (look : Nat), .int .i64 wd] 45)) [.int .i64 x, .int .i64 y]
  rw [show (w.alloc (.cells #[.int .i64 c, .bool s, .int .i64 (back : Nat), .int .i64 (look : Nat), .int .i64 wd] 45)).heap.size = w.heap.size + 1 from by simp] at BR
  have BR := Lib.hid BR
  have hz1 : ((w.alloc (.cells #[.int .i64 c, .bool s, .int .i64 (back : Nat), .int .i64 (look : Nat), .int .i64 wd] 45)).alloc (.cells #[.int .i64 x, .int .i64 y] 62)).heap.size = w.heap.size + 1 + 1 := by simp
  have HZ1 := Lib.hid hz1
  have T1 := Lib.hid (hT.below b0)
  have TW := Lib.hid hT
  have PV := Lib.hid hV
  have L0 := Lib.hid b0
  have HRA := Lib.hid hR
  have H0 := Lib.hid h0
  have H2 := Lib.hid h2
  have XY : Hid (AllR [x, y]) := Lib.hid fun z hz => by
    simp at hz
    rcases hz with rfl | rfl
    · exact hx
    · exact hy
  have t1 : decide ((ls.length : Int) > 40) = false := decide_eq_false (by omega)
  clear b0 hT hV hR hx hy h0 h2 hz1
  go_enter Tryd.func8, Tryd.ntmps8
  go_wp2_with fail
  generalize hW1 : (w.alloc (.cells #[.int .i64 c, .bool s, .int .i64 (back : Nat), .int .i64 (look : Nat), .int .i64 wd] 45)).alloc (.cells #[.int .i64 x, .int .i64 y] 62) = w1 at *
  clear hW1
  refine (push_nil _ _ _ _).mono ?_
  rintro r w2 ⟨rfl, rfl⟩
  go_wp2_with fail
  refine (drain_nil _).mono ?_
  rintro r w2 ⟨rfl, rfl⟩
  go_wp2_with fail
  refine (came_nil _).mono ?_
  rintro r w2 ⟨rfl, rfl⟩
  go_wp2_with fail
  refine (told_nil _).mono ?_
  rintro r w2 ⟨rfl, rfl⟩
  go_wp2_with fail
  refine (words_nil _).mono ?_
  rintro r w2 ⟨rfl, rfl⟩
  go_wp2_with fail
  refine (clone_nil _).mono ?_
  rintro r w2 ⟨rfl, rfl⟩
  obtain ⟨x0, x1, x2, x3, x4⟩ := of_cells BO.out
  go_wp2_with fail
  have NW := Lib.hid (show Calls Tryd.prog 22 #[.agg #[.int .i64 c, .bool s], .int .i64 (back : Nat), .int .i64 (look : Nat), .int .i64 2] w1 (RetNew c s 2 back look w1) from new_yes c s 2 back look w1 (Nat.lt_of_lt_of_le H0.out L0.out.size) T1.out (by omega) H2.out hbl)
  refine NW.out.mono ?_
  rintro r w2 ⟨g, V, Y, T, rfl, d2, hb2⟩
  have K2 : Hid (Kx w w2 w.heap.size g V c s 2 Y back look (.slice none 0 0) [] [] 0 false (fun b => b = w.heap.size ∨ b = w.heap.size + 1)) := Lib.hid
    ⟨Kf.of (d2.lo (Nat.le_trans (Nat.le_succ _) (Nat.le_trans (Nat.le_succ _) (Nat.le_of_eq HZ1.out.symm))) H0.out) (below_next L0.out hb2) (fun b hb => by
      have h1 := HZ1.out
      have h2 := hb2.size
      have h3 : b = w.heap.size ∨ b = w.heap.size + 1 := hb.elim (fun h => by simp [Value.ownBlock] at h) id
      refine ⟨by omega, fun ht => ?_⟩
      have h4 := (d2.lt b ht).2
      omega), ⟨[], World.ownsRow_nil _ _ _ _, fun t r h => by simp at h⟩, fun b h => by simp [Value.ownBlock] at h, fun r h => by simp at h, fun r h => by simp at h⟩
  have BO2 := Lib.hid (BO.out.next hb2)
  have BR2 := Lib.hid (BR.out.next hb2)
  obtain ⟨y0, y1, y2, y3, y4⟩ := of_cells BO2.out
  have yf := BO2.out.f 4
  have PA : Hid (ApAt w (w2.setCell ⟨w.heap.size, 4, none⟩ (.int .i64 2)) g V c s Y back look x y 0 (.slice none 0 0)) := Lib.hid
    ⟨[], fun b => b = w.heap.size ∨ b = w.heap.size + 1, rfl, by
      rw [show ([] : List (List Int)).length - look = 0 by simp]
      exact K2.out.turn (S := fun b => b = w.heap.size) (Turn.setCell (p := ⟨w.heap.size, 4, none⟩) (Turn.refl (fun b => b = w.heap.size) w2) (.inl rfl) (.int .i64 2)) (fun b hb => .inl hb) (fun b hb cs hk => by subst hb; exact Bk.ne_ BO2.out hk (by decide) rfl) (fun b hb => Nat.le_of_eq hb.symm) rfl, .inl rfl, .inr rfl, BO2.out.set_ 4 (.int .i64 2), BR2.out.far (p := ⟨w.heap.size, 4, none⟩) (Nat.succ_ne_self _) _⟩
  have HG2 := Lib.hid K2.out.1.b
  clear d2 hb2 x0 x1 x2 x3 x4 NW
  go_wp2_with fail
  clear y0 y1 y2 y3 y4 yf BO2 BR2 K2 t1
  go_loopw [15, 106] (fun s15 i wr => ∃ (k : Nat) (X : Value), X = s15 ∧ k ≤ ls.length ∧ i = .int .i64 k ∧ Hid (ApAt w wr g V c s Y back look x y k X)) (fun _ i _ => ls.length - (intOf i).toNat)
  case atStart => exact ⟨0, _, rfl, Nat.zero_le _, rfl, PA⟩
  case round =>
    clear PA
    obtain ⟨k, X, rfl, hk, rfl, HP⟩ := hrel
    by_cases hlt : k < ls.length
    · obtain ⟨xs, B, p1, p2, p3, p4, p5⟩ := HP.out
      obtain ⟨d, hd⟩ : ∃ d, ls[k]? = some d := ⟨_, List.getElem?_eq_getElem hlt⟩
      have i1 : (k : Int) < (ls.length : Int) := by omega
      have i0 : (0 : Int) ≤ (k : Int) := by omega
      have DR := Lib.hid (HRA.out d (List.mem_of_getElem? hd))
      obtain ⟨b, off, rfl, hbl2, hc⟩ := (PV.out.next p2.1.b) (by omega)
      obtain ⟨c1, c2⟩ := hc k d hd
      obtain ⟨u, v⟩ := d
      have UV : Hid (AllR [u, v]) := Lib.hid fun z hz => by
        simp at hz
        rcases hz with rfl | rfl
        · exact DR.out.1
        · exact DR.out.2
      have K0 := Lib.hid (p2.more (below_new wr (.cells #[.int .i64 u, .int .i64 v] 62)) (B1 := fun b => B b ∨ b = wr.heap.size) (fun b hb => hb.imp id fun h => ⟨Nat.le_of_eq h.symm, by subst h; simp⟩) (fun b hb => .inl hb))
      have X0 := Lib.hid (p5.next (below_new wr (.cells #[.int .i64 u, .int .i64 v] 62)))
      have BP := Lib.hid (Bk.new 62 wr [.int .i64 u, .int .i64 v])
      have P1 := Lib.hid p1
      have P3 := Lib.hid p3
      have P4 := Lib.hid p4
      clear hc hd hbl2 p1 p2 p3 p4 p5 HP
      go_upto_region 14 with (fail)
      generalize hW0 : wr.alloc (.cells #[.int .i64 u, .int .i64 v] 62) = w0 at *
      clear hW0
      have PU := Lib.hid (push_x w w0 w.heap.size g V c s 2 Y back look X xs xs (fun b => B b ∨ b = wr.heap.size) (fun b => b = wr.heap.size) (some ⟨wr.heap.size, 0, none⟩) 2 [u, v] K0.out (two_sints BP.out) (fun b hb => ⟨by subst hb; exact BP.out.lt, .inr hb⟩) rfl UV.out (by omega) (by have := P1.out; omega) H2.out)
      go_wp2_with fail
      refine PU.out.mono ?_
      rintro r w5 ⟨v5, rfl, k5, t5⟩
      have K5 := Lib.hid k5
      have X5 := Lib.hid (X0.out.turn t5 (.inl P3.out) (.inl P4.out))
      have BP5 := Lib.hid (BP.out.turn t5 fun h => h.2 (.inr rfl))
      have IP5 := Lib.hid (two_sints BP5.out).ints
      have LY : Hid ([u, v].length ≤ 100000) := Lib.hid (by simp)
      have TN : Hid (xs.length + 1 ≤ 100000) := Lib.hid (by have := P1.out; omega)
      clear k5 t5 PU K0 X0 BP
      go_wp2_with (at_builtin; first
        | (refine wpList_copyI numL Tryd.underlying27 rfl (.tmp 114) (.tmp 115) rfl rfl _ _ [u, v] rfl IP5.out LY.out ?_; intro B7 c7 w7 hm7 hb7; have M7 := Lib.hid (show MineT 2 w7 w5.heap.size (.slice B7 2 c7) [u, v] from hm7); have K7 := Lib.hid (K5.out.more hb7 (B1 := fun b => (B b ∨ b = wr.heap.size) ∨ (w5.heap.size ≤ b ∧ b < w7.heap.size)) (fun b hb => hb) (fun b hb => .inl hb)); have X7 := Lib.hid (X5.out.next hb7); obtain ⟨vs, o1, o2⟩ := K7.out.2.1; have O1 := Lib.hid o1; have O2 := Lib.hid o2; have O7 := Lib.hid (World.ownsRow.alloc o1 (.cells #[.slice B7 2 c7] 27)); have LS := Lib.hid (Nat.le_trans K7.out.1.size (below_new w7 (.cells #[.slice B7 2 c7] 27)).size); clear hm7 hb7 o1 o2)
        | (refine wpList_appS infoRw rfl (by decide) (by decide) Tryd.underlying46 rfl (.tmp 113) (.tmp 117) rfl w.heap.size _ xs.length vs rfl O7.out (fun _ => True) _ 1 1 [Value.slice B7 2 c7] rfl rfl (seq1 _ _ _) (one_sl _ _ _) TN.out LS.out ?_; intro v8 w8 hv8 hg8 ha8; have V8 := Lib.hid hv8; have G8 := Lib.hid hg8; have A8 := Lib.hid ha8; clear hv8 hg8 ha8))
      have tn8 : Turn (Fr w.heap.size fun b => (B b ∨ b = wr.heap.size) ∨ (w5.heap.size ≤ b ∧ b < w7.heap.size)) w7 w8 := (Turn.of_below _ (below_new w7 _)).trans (Turn.of_grown G8.out fun g e => ⟨own_base O1.out g e, K7.out.2.2.1 g e⟩)
      have PA : Hid (ApAt w w8 g V c s Y back look x y (k + 1) v8) := Lib.hid ⟨xs ++ [[u, v]], fun b => (B b ∨ b = wr.heap.size) ∨ (w5.heap.size ≤ b ∧ b < w7.heap.size), by have := P1.out; simp; omega, by
        have h := Kx.app K7.out O1.out O2.out (Seq.mono (mine_in M7.out) fun b hb => .inr hb) (mine_cap M7.out).1 (mine_cap M7.out).2 rfl UV.out V8.out G8.out A8.out
        exact h, .inl (.inl P3.out), .inl (.inl P4.out), X7.out.turn tn8 (.inl (.inl P3.out)) (.inl (.inl P4.out))⟩
      clear tn8
      exact ⟨⟨k + 1, v8, rfl, by omega, by go_num, PA⟩, by simp [intOf]; omega⟩
    · obtain rfl : k = ls.length := by omega
      obtain ⟨xs, B, p1, p2, p3, p4, p5⟩ := HP.out
      obtain ⟨A7, c7, rfl, hx7⟩ := p2.rows
      have hxl : xs.length ≤ 40 := by omega
      obtain ⟨told, htd⟩ : ∃ told, xs.length - look = told := ⟨_, rfl⟩
      rw [htd] at p2
      obtain ⟨x0, x1, x2, x3, x4⟩ := p5.of
      have KK := Lib.hid p2
      have PB3 := Lib.hid p3
      have PB4 := Lib.hid p4
      have XX := Lib.hid p5
      have HX7 := Lib.hid hx7
      have HTD := Lib.hid htd
      have HT6 : Hid (told ≤ 100) := Lib.hid (by omega)
      have e1 : IntKind.i64.wrap ((xs.length : Int) - (look : Int)) = (xs.length : Int) - (look : Int) := IntWalk.i64_in _ (by omega)
      have hmx : max (0 : Int) ((xs.length : Int) - (look : Int)) = (told : Int) := by omega
      have CL := Lib.hid (clone_f w wr w.heap.size g V c s 2 Y back look xs _ p2.1 (by omega) (by omega))
      clear p1 p2 p3 p4 p5 hx7 HP htd
      go_wp2_with fail
      refine CL.out.mono ?_
      rintro r w10 ⟨g', V', Y', rfl, k10, hb10⟩
      have K10 := Lib.hid k10
      have B10 := Lib.hid hb10
      have HL := Lib.hid KK.out.2.2.2.1
      have HRR := Lib.hid KK.out.2.2.2.2
      have ST := Lib.hid (stands_f w w10 w.heap.size g' V' c s 2 Y' back look A7 c7 xs.length k10 (HX7.out.next hb10) rfl KK.out.2.2.2.1 (by omega) (by omega) (by omega))
      obtain ⟨y0, y1, y2, y3, y4⟩ := (XX.out.next hb10).of
      clear k10 hb10 CL x0 x1 x2 x3 x4 e1 hmx
      go_wp2_with fail
      refine ST.out.mono ?_
      rintro r w11 ⟨rfl, hb11⟩
      have K11 := Lib.hid (K10.out.next hb11)
      have B11 := Lib.hid (below_next B10.out hb11)
      obtain ⟨dd, hdd⟩ : ∃ dd, decide (look ≤ xs.length) = dd := ⟨_, rfl⟩
      obtain ⟨p, hp⟩ : ∃ p, ansI c s 2 ((xs ++ [[x, y]]).drop (told - back)) = p := ⟨_, rfl⟩
      have HPL := Lib.hid (show p.length = 2 by rw [← hp, ansI_len])
      have HP := Lib.hid hp
      have HDD := Lib.hid hdd
      have PU := Lib.hid (push_c w wr w11 w.heap.size g' V' c s 2 Y' back look xs dd (fun b => b = w.heap.size + 1) (some ⟨w.heap.size + 1, 0, none⟩) 2 [x, y] (by rw [HTD.out]; exact K11.out) B11.out (two_sints (XX.out.next B11.out).2) (fun b hb => by subst hb; exact XX.out.2.lt) rfl XY.out (by omega) (by omega) H2.out hdd p (by rw [HTD.out]; exact hp))
      clear hb11 ST y0 y1 y2 y3 y4 hdd hp K10 B10
      go_wp2_with fail
      refine PU.out.mono ?_
      rintro r w12 ⟨a12, rfl, m12, n12, hb12⟩
      have B12 := Lib.hid hb12
      have M12 := Lib.hid m12
      have N12 := Lib.hid n12
      have X12 := Lib.hid (XX.out.next hb12)
      have K12 := Lib.hid (KK.out.1.next hb12)
      have R12 := Lib.hid (HX7.out.next hb12)
      clear m12 n12 hb12 PU K11 B11
      have S0 := Lib.hid (show w12.drew.cell? ⟨w.heap.size, 0, none⟩ = some (.int .i64 c) ∧ w12.drew.cell? ⟨w.heap.size, 1, none⟩ = some (.bool s) ∧ w12.drew.cell? ⟨w.heap.size, 2, none⟩ = some (.int .i64 (back : Nat)) ∧ w12.drew.cell? ⟨w.heap.size, 3, none⟩ = some (.int .i64 (look : Nat)) from ⟨X12.out.of.1, X12.out.of.2.1, X12.out.of.2.2.1, X12.out.of.2.2.2.1⟩)
      go_upto_region 22 with (fail)
      go_cut [164] (fun v wx => v = .bool false ∧ Hid (Below w12.heap.size w12 wx))
      case first =>
        cases dd with
        | false =>
          obtain rfl := N12.out rfl
          have LD := Lib.hid (Below.refl w12.heap.size w12).drew
          go_region
          all_goals
            go_wp2_with fail
            go_meet
            exact ⟨rfl, LD⟩
        | true =>
          obtain ⟨A12, c12, rfl, m12⟩ := M12.out rfl
          have MM := Lib.hid m12
          clear m12
          obtain ⟨vs, o1, o2⟩ := KK.out.2.1.turn (Turn.of_below (fun _ => False) B12.out) (fun _ _ h => h) fun _ _ h => h
          have hvl : vs.length = xs.length := by simpa using o1.1
          have O2 := Lib.hid o2
          have HVE := Lib.hid hvl
          have HVL : Hid (vs.length = xs.length * 1) := Lib.hid (by omega)
          have VS1 := Lib.hid (xb_one hvl o2)
          obtain ⟨A7', c7', e7, -, -, sv⟩ := own_seq o1 (by decide)
          injection e7 with e7 _ e8
          subst e7 e8
          have TNA : Hid (0 + xs.length ≤ 100000) := Lib.hid (by omega)
          have TNB : Hid (0 + xs.length + 1 ≤ 100000) := Lib.hid (by omega)
          have S4 := Lib.hid (fun W (h : Below w12.heap.size w12 W) => show W.cell? ⟨w.heap.size, 0, none⟩ = some (.int .i64 c) ∧ W.cell? ⟨w.heap.size, 1, none⟩ = some (.bool s) ∧ W.cell? ⟨w.heap.size, 2, none⟩ = some (.int .i64 (back : Nat)) ∧ W.cell? ⟨w.heap.size, 3, none⟩ = some (.int .i64 (look : Nat)) from ⟨(X12.out.next h).of.1, (X12.out.next h).of.2.1, (X12.out.next h).of.2.2.1, (X12.out.next h).of.2.2.2.1⟩)
          have LA := Lib.hid (show Below w12.heap.size w12 (w12.alloc (.cells #[] 27)).drew from (below_new w12 (.cells #[] 27)).drew)
          have LB := Lib.hid (show Below w12.heap.size w12 (w12.alloc (.cells #[.slice (some ⟨w.heap.size + 1, 0, none⟩) 2 2] 27)).drew from (below_new w12 (.cells #[.slice (some ⟨w.heap.size + 1, 0, none⟩) 2 2] 27)).drew)
          have LAB := Lib.hid (show Below w12.heap.size w12 ((w12.alloc (.cells #[] 27)).alloc (.cells #[.slice (some ⟨w.heap.size + 1, 0, none⟩) 2 2] 27)).drew from (below_next (below_new w12 (.cells #[] 27)) (below_new _ (.cells #[.slice (some ⟨w.heap.size + 1, 0, none⟩) 2 2] 27))).drew)
          have LBA := Lib.hid (show Below w12.heap.size w12 ((w12.alloc (.cells #[.slice (some ⟨w.heap.size + 1, 0, none⟩) 2 2] 27)).alloc (.cells #[] 27)).drew from (below_next (below_new w12 (.cells #[.slice (some ⟨w.heap.size + 1, 0, none⟩) 2 2] 27)) (below_new _ (.cells #[] 27))).drew)
          have SA := Lib.hid (S4.out _ LA.out)
          have SB := Lib.hid (S4.out _ LB.out)
          have SAB := Lib.hid (S4.out _ LAB.out)
          have SBA := Lib.hid (S4.out _ LBA.out)
          have OA := Lib.hid (show ((w12.alloc (.cells #[] 27)).drew).ownsRow w12.heap.size 27 1 (.slice (some ⟨w12.heap.size, 0, none⟩) 0 0) 0 [] from own_empty w12 27 1 w12.heap.size w12.heap.size rfl (Nat.le_refl _))
          have OAB := Lib.hid (show (((w12.alloc (.cells #[] 27)).alloc (.cells #[.slice (some ⟨w.heap.size + 1, 0, none⟩) 2 2] 27)).drew).ownsRow w12.heap.size 27 1 (.slice (some ⟨w12.heap.size, 0, none⟩) 0 0) 0 [] from World.ownsRow.alloc (own_empty w12 27 1 w12.heap.size w12.heap.size rfl (Nat.le_refl _)) _)
          have OBA := Lib.hid (show (((w12.alloc (.cells #[.slice (some ⟨w.heap.size + 1, 0, none⟩) 2 2] 27)).alloc (.cells #[] 27)).drew).ownsRow w12.heap.size 27 1 (.slice (some ⟨w12.heap.size + 1, 0, none⟩) 0 0) 0 [] from own_empty (w12.alloc (.cells #[.slice (some ⟨w.heap.size + 1, 0, none⟩) 2 2] 27)) 27 1 w12.heap.size (w12.heap.size + 1) (by simp) (Nat.le_succ _))
          have VA := Lib.hid (Seq.next sv LA.out)
          have VAB := Lib.hid (Seq.next sv LAB.out)
          have VBA := Lib.hid (Seq.next sv LBA.out)
          have ZA := Lib.hid LA.out.size
          have ZAB := Lib.hid LAB.out.size
          have ZBA := Lib.hid LBA.out.size
          have QAB := Lib.hid (show Seq (fun b => b = w12.heap.size + 1) (((w12.alloc (.cells #[] 27)).alloc (.cells #[.slice (some ⟨w.heap.size + 1, 0, none⟩) 2 2] 27)).drew) (some ⟨w12.heap.size + 1, 0, none⟩) [Value.slice (some ⟨w.heap.size + 1, 0, none⟩) 2 2] from seq_lit (w12.alloc (.cells #[] 27)) 27 (Value.slice (some ⟨w.heap.size + 1, 0, none⟩) 2 2) _ (by simp))
          have QBA := Lib.hid (show Seq (fun b => b = w12.heap.size) (((w12.alloc (.cells #[.slice (some ⟨w.heap.size + 1, 0, none⟩) 2 2] 27)).alloc (.cells #[] 27)).drew) (some ⟨w12.heap.size, 0, none⟩) [Value.slice (some ⟨w.heap.size + 1, 0, none⟩) 2 2] from Seq.next (seq_lit w12 27 (Value.slice (some ⟨w.heap.size + 1, 0, none⟩) 2 2) _ rfl) (below_new _ _).drew)
          have ML : Hid (∀ q ∈ xs ++ [[x, y]], q.length = 2) := Lib.hid fun q hq => by
            rcases List.mem_append.1 hq with h | h
            · exact HL.out q h
            · simp at h; subst h; rfl
          have MR : Hid (∀ q ∈ xs ++ [[x, y]], AllR q) := Lib.hid fun q hq => by
            rcases List.mem_append.1 hq with h | h
            · exact HRR.out q h
            · simp at h; subst h; exact XY.out
          have HLK := Lib.hid (show look ≤ xs.length from of_decide_eq_true HDD.out)
          have M1 := Lib.hid (show xs.length + 1 ≤ told + look + 1 by have := HTD.out; have := HLK.out; omega)
          have ME := Lib.hid (show (xs ++ [[x, y]]).length = xs.length + 1 by simp)
          clear o1 o2 hvl sv
          go_region_held3 (fun w' => w'.cell? ⟨w.heap.size, 0, none⟩ = some (.int .i64 c) ∧ w'.cell? ⟨w.heap.size, 1, none⟩ = some (.bool s) ∧ w'.cell? ⟨w.heap.size, 2, none⟩ = some (.int .i64 (back : Nat)) ∧ w'.cell? ⟨w.heap.size, 3, none⟩ = some (.int .i64 (look : Nat)))
            (first
              | with_reducible exact S0.out
              | with_reducible exact SA.out
              | with_reducible exact SB.out
              | with_reducible exact SAB.out
              | with_reducible exact SBA.out
              | with_reducible exact KK.out
              | with_reducible exact KL.out
              | go_keep)
            (first -- arms
              | ((with_reducible refine step_appG infoRw rfl (by decide) (by decide) Tryd.underlying46 (by kernel_rfl) (.tmp 150) (.tmp 151) rfl w12.heap.size (.slice (some ⟨w12.heap.size, 0, none⟩) 0 0) 0 [] (by simp [Act.eval]) OA.out _ A7 xs.length c7 vs (by simp [Act.eval]) HVL.out VA.out VS1.out TNA.out ZA.out ?_); intro v20 w20 hv20 hg20 ha20; have L20 := Lib.hid (below_own LA.out OA.out hg20); have KL := Lib.hid (S4.out (w20.alloc (.cells #[.slice (some ⟨w.heap.size + 1, 0, none⟩) 2 2] 27)) (below_next L20.out (below_new w20 (.cells #[.slice (some ⟨w.heap.size + 1, 0, none⟩) 2 2] 27)))); have OC := Lib.hid (World.ownsRow.alloc hv20 (.cells #[.slice (some ⟨w.heap.size + 1, 0, none⟩) 2 2] 27)); have LC := Lib.hid (below_next L20.out (below_new w20 (.cells #[.slice (some ⟨w.heap.size + 1, 0, none⟩) 2 2] 27))); have ZC := Lib.hid LC.out.size; have QC := Lib.hid (seq_lit w20 27 (Value.slice (some ⟨w.heap.size + 1, 0, none⟩) 2 2) _ rfl); have O20 := Lib.hid hv20; have Z20 := Lib.hid L20.out.size; have KK := Lib.hid (S4.out w20 L20.out); clear hv20 hg20 ha20)
              | ((with_reducible refine step_appG infoRw rfl (by decide) (by decide) Tryd.underlying46 (by kernel_rfl) (.tmp 150) (.tmp 151) rfl w12.heap.size (.slice (some ⟨w12.heap.size, 0, none⟩) 0 0) 0 [] (by simp [Act.eval]) OAB.out _ A7 xs.length c7 vs (by simp [Act.eval]) HVL.out VAB.out VS1.out TNA.out ZAB.out ?_); intro v20 w20 hv20 hg20 ha20; have L20 := Lib.hid (below_own LAB.out OAB.out hg20); have Q20 := Lib.hid (Seq.turn QAB.out (Turn.of_grown (T := fun b => b = w12.heap.size) hg20 fun k e => by injection e with e; exact e.symm) (fun b hb e => by omega)); have O20 := Lib.hid hv20; have Z20 := Lib.hid L20.out.size; have KK := Lib.hid (S4.out w20 L20.out); clear hv20 hg20 ha20)
              | ((with_reducible refine step_appG infoRw rfl (by decide) (by decide) Tryd.underlying46 (by kernel_rfl) (.tmp 150) (.tmp 151) rfl w12.heap.size (.slice (some ⟨w12.heap.size + 1, 0, none⟩) 0 0) 0 [] (by simp [Act.eval]) OBA.out _ A7 xs.length c7 vs (by simp [Act.eval]) HVL.out VBA.out VS1.out TNA.out ZBA.out ?_); intro v20 w20 hv20 hg20 ha20; have L20 := Lib.hid (below_own LBA.out OBA.out hg20); have Q20 := Lib.hid (Seq.turn QBA.out (Turn.of_grown (T := fun b => b = w12.heap.size + 1) hg20 fun k e => by injection e with e; exact e.symm) (fun b hb e => by omega)); have O20 := Lib.hid hv20; have Z20 := Lib.hid L20.out.size; have KK := Lib.hid (S4.out w20 L20.out); clear hv20 hg20 ha20)
              | ((with_reducible refine step_appG infoRw rfl (by decide) (by decide) Tryd.underlying46 (by kernel_rfl) (.tmp 152) (.tmp 154) rfl w12.heap.size v20 (0 + xs.length) ([] ++ vs) (by simp [Act.eval]) OC.out _ (some ⟨w20.heap.size, 0, none⟩) 1 1 [Value.slice (some ⟨w.heap.size + 1, 0, none⟩) 2 2] (by simp [Act.eval]) rfl QC.out (one_sl _ _ _) TNB.out ZC.out ?_); intro v21 w21 hv21 hg21 ha21; have L21 := Lib.hid (below_own LC.out OC.out hg21); have KK := Lib.hid (S4.out w21 L21.out); obtain ⟨A21, c21, rfl, r21⟩ := rows_two (m := 2) HVE.out O2.out L21.out (two_sints X12.out.2) rfl (by unfold maxLen; omega) hv21; have AN := Lib.hid (ranswer_2 c s A21 c21 (xs.length + 1) (xs ++ [[x, y]]) told back look p w21 r21 ME.out ML.out MR.out (by omega) HT6.out (by omega) (by omega) M1.out HP.out); clear hv21 hg21 ha21 r21)
              | ((with_reducible refine step_appG infoRw rfl (by decide) (by decide) Tryd.underlying46 (by kernel_rfl) (.tmp 152) (.tmp 154) rfl w12.heap.size v20 (0 + xs.length) ([] ++ vs) (by simp [Act.eval]) O20.out _ (some ⟨w12.heap.size + 1, 0, none⟩) 1 1 [Value.slice (some ⟨w.heap.size + 1, 0, none⟩) 2 2] (by simp [Act.eval]) rfl Q20.out (one_sl _ _ _) TNB.out Z20.out ?_); intro v21 w21 hv21 hg21 ha21; have L21 := Lib.hid (below_own L20.out O20.out hg21); have KK := Lib.hid (S4.out w21 L21.out); obtain ⟨A21, c21, rfl, r21⟩ := rows_two (m := 2) HVE.out O2.out L21.out (two_sints X12.out.2) rfl (by unfold maxLen; omega) hv21; have AN := Lib.hid (ranswer_2 c s A21 c21 (xs.length + 1) (xs ++ [[x, y]]) told back look p w21 r21 ME.out ML.out MR.out (by omega) HT6.out (by omega) (by omega) M1.out HP.out); clear hv21 hg21 ha21 r21)
              | ((with_reducible refine step_appG infoRw rfl (by decide) (by decide) Tryd.underlying46 (by kernel_rfl) (.tmp 152) (.tmp 154) rfl w12.heap.size v20 (0 + xs.length) ([] ++ vs) (by simp [Act.eval]) O20.out _ (some ⟨w12.heap.size, 0, none⟩) 1 1 [Value.slice (some ⟨w.heap.size + 1, 0, none⟩) 2 2] (by simp [Act.eval]) rfl Q20.out (one_sl _ _ _) TNB.out Z20.out ?_); intro v21 w21 hv21 hg21 ha21; have L21 := Lib.hid (below_own L20.out O20.out hg21); have KK := Lib.hid (S4.out w21 L21.out); obtain ⟨A21, c21, rfl, r21⟩ := rows_two (m := 2) HVE.out O2.out L21.out (two_sints X12.out.2) rfl (by unfold maxLen; omega) hv21; have AN := Lib.hid (ranswer_2 c s A21 c21 (xs.length + 1) (xs ++ [[x, y]]) told back look p w21 r21 ME.out ML.out MR.out (by omega) HT6.out (by omega) (by omega) M1.out HP.out); clear hv21 hg21 ha21 r21)
              | (go_at_call 30; (with_reducible refine (AN.out).mono ?_); rintro r w23 ⟨A23, c23, rfl, m23, hb23⟩; have L23 := Lib.hid (below_next L21.out hb23); have KK := Lib.hid (S4.out w23 L23.out); have NM := Lib.hid (nums_same A12 c12 p A23 c23 w23 (by unfold maxLen; have := HPL.out; omega) (MineT.ints' (own_below MM.out L23.out)) (MineT.ints' m23)); clear hb23 m23)
              | (go_at_call 29; (with_reducible refine (NM.out).mono ?_); rintro r w24 ⟨rfl, hb24⟩; have L24 := Lib.hid (below_next L23.out hb24); have KK := Lib.hid (S4.out w24 L24.out); clear hb24))
          all_goals
            go_wp2_with fail
            go_meet
            exact ⟨rfl, L24⟩
      case rest =>
        obtain ⟨rfl, L13⟩ := hcut
        have K13 := Lib.hid (K12.out.next L13.out)
        have X13 := Lib.hid (X12.out.next L13.out)
        have B13 := Lib.hid (below_next B12.out L13.out)
        have XB13 := Lib.hid (KK.out.2.1.turn (Turn.of_below (fun _ => False) B13.out) (fun _ _ h => h) fun _ _ h => h)
        clear S0 M12 N12 K12 X12 R12 B12 L13
        generalize hwx : wc = w13 at *
        clear hwx
        have e6 : (dd == dd) = true := by cases dd <;> rfl
        by_cases hlt : told < xs.length
        · have i1 : decide (told < xs.length) = true := decide_eq_true hlt
          obtain ⟨v, hv⟩ : ∃ v, ansI c s 2 (xs.drop (told - back)) = v := ⟨_, rfl⟩
          have HVL := Lib.hid (show v.length = 2 by rw [← hv, ansI_len])
          have HV := Lib.hid hv
          have PD := Lib.hid (drain_f_some w w13 w.heap.size g V c s 2 Y back look xs told _ false K13.out H2.out (by omega) (by omega) hlt v hv)
          clear hv hlt
          go_wp2_with fail
          refine PD.out.mono ?_
          rintro r w14 ⟨A14, c14, rfl, m14, k14, t14⟩
          have M14 := Lib.hid m14
          have X14 := Lib.hid (X13.out.turn t14 (.inr PB3.out) (.inr PB4.out))
          obtain ⟨A', c', e', r14⟩ := (XB13.out.turn t14 (fun b hb h => h.2 (.inl hb)) (fun b hb h => h.2 (.inr hb))).rows
          injection e' with e1' _ e3'
          subst e1' e3'
          have L14 := Lib.hid k14.b
          obtain ⟨x0, x1, x2, x3, x4⟩ := X14.out.of
          have AN := Lib.hid (ranswer_2 c s _ _ xs.length xs told back look v w14 r14 rfl HL.out HRR.out (by omega) HT6.out (by omega) (by omega) (by have := HTD.out; omega) HV.out)
          clear m14 k14 t14 r14 PD K13 X13 B13 XB13
          go_wp2_with fail
          refine AN.out.mono ?_
          rintro r w15 ⟨A15, c15, rfl, m15, hb15⟩
          have NM := Lib.hid (nums_same A14 c14 v A15 c15 w15 (by unfold maxLen; have := HVL.out; omega) (MineT.ints' (own_below M14.out hb15)) (MineT.ints' m15))
          have X15 := Lib.hid (X14.out.next hb15)
          have L15 := Lib.hid (below_next L14.out hb15)
          clear m15 hb15 AN M14 X14 L14 x0 x1 x2 x3 x4
          go_wp2_with fail
          refine NM.out.mono ?_
          rintro r w16 ⟨rfl, hb16⟩
          obtain ⟨x0, x1, x2, x3, x4⟩ := (X15.out.next hb16).of
          have LE := Lib.hid (below_next L15.out hb16)
          have LV := Lib.hid (lives_any w16 (TW.out.below LE.out) (Nat.lt_of_lt_of_le H0.out LE.out.size))
          clear hb16 NM X15 L15
          have hdd := HDD.out
          go_wp2_with fail
          refine LV.out.mono ?_
          rintro r w17 ⟨rfl, hb17⟩
          have L17 := Lib.hid (below_next LE.out hb17)
          clear hb17
          go_wp2
          go_ret
          exact ⟨rfl, L17.out⟩
        · have i1 : decide (told < xs.length) = false := decide_eq_false hlt
          have PD := Lib.hid (drain_f_none w w13 w.heap.size g V c s 2 Y back look xs told _ false K13.out (by have := K13.out.tolds; omega))
          clear hlt
          go_wp2_with fail
          refine PD.out.mono ?_
          rintro r w14 ⟨rfl, k14, t14⟩
          have X14 := Lib.hid (X13.out.turn t14 (.inr PB3.out) (.inr PB4.out))
          have LE := Lib.hid k14.b
          obtain ⟨x0, x1, x2, x3, x4⟩ := X14.out.of
          have LV := Lib.hid (lives_any w14 (TW.out.below LE.out) (Nat.lt_of_lt_of_le H0.out LE.out.size))
          clear k14 t14 PD K13 X13 B13 XB13
          have hdd := HDD.out
          go_wp2_with fail
          refine LV.out.mono ?_
          rintro r w17 ⟨rfl, hb17⟩
          have L17 := Lib.hid (below_next LE.out hb17)
          clear hb17
          go_wp2
          go_ret
          exact ⟨rfl, L17.out⟩
set_option maxHeartbeats 4000000 in
theorem apart_none (c : Int) (s : Bool) (bk lk wd : Int) (A : Option Addr) (cA n : Nat) (x y : Int) (w : World) (h0 : 0 < w.heap.size) (hT : Sc.Tab w) (hbR : Sc.InR bk) (hw : whyW c bk lk 2 ≠ 0) (t1 : decide ((n : Int) > 40) = false) :
    Calls Tryd.prog 8 #[.agg #[.int .i64 c, .bool s, .int .i64 bk, .int .i64 lk, .int .i64 wd], .slice A n cA, .agg #[.int .i64 x, .int .i64 y]] w fun e w' => e = .returned (.bool true) ∧ Below w.heap.size w w' := by
  have b0 := below_next (below_new w (.cells #[.int .i64 c, .bool s, .int .i64 bk, .int .i64 lk, .int .i64 wd] 45)) (below_new _ (.cells #[.int .i64 x, .int .i64 y] 62))
  have BO := Lib.hid ((Bk.new 45 w [.int .i64 c, .bool s, .int .i64 bk, .int .i64 lk, .int .i64 wd]).alloc (.cells #[.int .i64 x, .int .i64 y] 62))
  have T1 := Lib.hid (hT.below b0)
  have L0 := Lib.hid b0
  have H0 := Lib.hid (Nat.lt_of_lt_of_le h0 b0.size)
  have NN := Lib.hid (fun W (h : Sc.Tab W) => new_no c s bk lk 2 W h hbR hw)
  have MM := Lib.hid (fun W => show Calls Tryd.prog 23 #[.agg #[.int .i64 c, .bool s], .int .i64 bk, .int .i64 lk, .int .i64 2] W fun e w' => e = .returned (.int .i64 (whyW c bk lk 2)) ∧ Below W.heap.size W w' from rmay_any c s bk lk 2 W)
  obtain ⟨z, hz⟩ : ∃ z, whyW c bk lk 2 = z := ⟨_, rfl⟩
  rw [hz] at NN hw MM
  have e1 : (z != 0) = true := by simpa using hw
  have e2 : (z == z) = true := by simp
  clear b0 hT hw hz hbR h0
  go_enter Tryd.func8, Tryd.ntmps8
  go_wp2_with fail
  generalize hW1 : (w.alloc (.cells #[.int .i64 c, .bool s, .int .i64 bk, .int .i64 lk, .int .i64 wd] 45)).alloc (.cells #[.int .i64 x, .int .i64 y] 62) = w1 at *
  clear hW1
  refine (push_nil _ _ _ _).mono ?_
  rintro r w2 ⟨rfl, rfl⟩
  go_wp2_with fail
  refine (drain_nil _).mono ?_
  rintro r w2 ⟨rfl, rfl⟩
  go_wp2_with fail
  refine (came_nil _).mono ?_
  rintro r w2 ⟨rfl, rfl⟩
  go_wp2_with fail
  refine (told_nil _).mono ?_
  rintro r w2 ⟨rfl, rfl⟩
  go_wp2_with fail
  refine (words_nil _).mono ?_
  rintro r w2 ⟨rfl, rfl⟩
  go_wp2_with fail
  refine (clone_nil _).mono ?_
  rintro r w2 ⟨rfl, rfl⟩
  obtain ⟨x0, x1, x2, x3, x4⟩ := of_cells BO.out
  go_wp2_with fail
  refine (NN.out _ T1.out).mono ?_
  rintro r w2 ⟨rfl, hb2⟩
  obtain ⟨y0, y1, y2, y3, y4⟩ := of_cells (BO.out.next hb2)
  have L1 := Lib.hid (below_next L0.out hb2)
  have T2 := Lib.hid (T1.out.below hb2)
  have H2 := Lib.hid (Nat.lt_of_lt_of_le H0.out hb2.size)
  clear hb2 x0 x1 x2 x3 x4
  go_wp2_with fail
  refine (MM.out _).mono ?_
  rintro r w3 ⟨rfl, hb3⟩
  have L2 := Lib.hid (below_next L1.out hb3)
  have LV := Lib.hid (lives_any w3 (T2.out.below hb3) (Nat.lt_of_lt_of_le H2.out hb3.size))
  clear hb3 y0 y1 y2 y3 y4
  go_wp2_with fail
  refine LV.out.mono ?_
  rintro r w5 ⟨rfl, hb5⟩
  have L5 := Lib.hid (below_next L2.out hb5)
  clear hb5
  go_wp2
  go_ret
  exact ⟨rfl, L5.out⟩
set_option maxHeartbeats 4000000 in
theorem apart_many_no (c : Int) (s : Bool) (bk lk wd : Int) (A : Option Addr) (cA n : Nat) (x y : Int) (w : World) (h0 : 0 < w.heap.size) (hT : Sc.Tab w) (hbR : Sc.InR bk) (hw : whyW c bk lk 2 ≠ 0) (t1 : decide ((n : Int) > 40) = true) :
    Calls Tryd.prog 8 #[.agg #[.int .i64 c, .bool s, .int .i64 bk, .int .i64 lk, .int .i64 wd], .slice A n cA, .agg #[.int .i64 x, .int .i64 y]] w fun e w' => e = .returned (.bool true) ∧ Below w.heap.size w w' := by
  have b0 := below_next (below_new w (.cells #[.int .i64 c, .bool s, .int .i64 bk, .int .i64 lk, .int .i64 wd] 45)) (below_new _ (.cells #[.int .i64 x, .int .i64 y] 62))
  have BO := Lib.hid ((Bk.new 45 w [.int .i64 c, .bool s, .int .i64 bk, .int .i64 lk, .int .i64 wd]).alloc (.cells #[.int .i64 x, .int .i64 y] 62))
  have T1 := Lib.hid (hT.below b0)
  have L0 := Lib.hid b0
  have H0 := Lib.hid (Nat.lt_of_lt_of_le h0 b0.size)
  have NN := Lib.hid (fun W (h : Sc.Tab W) => new_no c s bk lk 2 W h hbR hw)
  obtain ⟨z, hz⟩ : ∃ z, whyW c bk lk 2 = z := ⟨_, rfl⟩
  rw [hz] at NN hw
  have e1 : (z != 0) = true := by simpa using hw
  clear b0 hT hw hz hbR h0
  go_enter Tryd.func8, Tryd.ntmps8
  go_wp2_with fail
  generalize hW1 : (w.alloc (.cells #[.int .i64 c, .bool s, .int .i64 bk, .int .i64 lk, .int .i64 wd] 45)).alloc (.cells #[.int .i64 x, .int .i64 y] 62) = w1 at *
  clear hW1
  refine (push_nil _ _ _ _).mono ?_
  rintro r w2 ⟨rfl, rfl⟩
  go_wp2_with fail
  refine (drain_nil _).mono ?_
  rintro r w2 ⟨rfl, rfl⟩
  go_wp2_with fail
  refine (came_nil _).mono ?_
  rintro r w2 ⟨rfl, rfl⟩
  go_wp2_with fail
  refine (told_nil _).mono ?_
  rintro r w2 ⟨rfl, rfl⟩
  go_wp2_with fail
  refine (words_nil _).mono ?_
  rintro r w2 ⟨rfl, rfl⟩
  go_wp2_with fail
  refine (clone_nil _).mono ?_
  rintro r w2 ⟨rfl, rfl⟩
  obtain ⟨x0, x1, x2, x3, x4⟩ := of_cells BO.out
  go_wp2_with fail
  refine (NN.out _ T1.out).mono ?_
  rintro r w2 ⟨rfl, hb2⟩
  have L2 := Lib.hid (below_next L0.out hb2)
  have LV := Lib.hid (lives_any w2 (T1.out.below hb2) (Nat.lt_of_lt_of_le H0.out hb2.size))
  clear hb2 x0 x1 x2 x3 x4
  go_wp2_with fail
  refine LV.out.mono ?_
  rintro r w5 ⟨rfl, hb5⟩
  have L5 := Lib.hid (below_next L2.out hb5)
  clear hb5
  go_wp2
  go_ret
  exact ⟨rfl, L5.out⟩
set_option maxHeartbeats 4000000 in
theorem apart_many (c : Int) (s : Bool) (back look : Nat) (wd : Int) (A : Option Addr) (cA n : Nat) (x y : Int) (w : World) (h0 : 0 < w.heap.size) (hT : Sc.Tab w) (h2 : Sc.hasB c 2 = true) (hbl : back + look ≤ 31) (t1 : decide ((n : Int) > 40) = true) :
    Calls Tryd.prog 8 #[.agg #[.int .i64 c, .bool s, .int .i64 (back : Nat), .int .i64 (look : Nat), .int .i64 wd], .slice A n cA, .agg #[.int .i64 x, .int .i64 y]] w fun e w' => e = .returned (.bool true) ∧ Below w.heap.size w w' := by
  have b0 := below_next (below_new w (.cells #[.int .i64 c, .bool s, .int .i64 (back : Nat), .int .i64 (look : Nat), .int .i64 wd] 45)) (below_new _ (.cells #[.int .i64 x, .int .i64 y] 62))
  have BO := Lib.hid ((Bk.new 45 w [.int .i64 c, .bool s, .int .i64 (back : Nat), .int .i64 (look : Nat), .int .i64 wd]).alloc (.cells #[.int .i64 x, .int .i64 y] 62))
  have T1 := Lib.hid (hT.below b0)
  have L0 := Lib.hid b0
  have H0 := Lib.hid (Nat.lt_of_lt_of_le h0 b0.size)
  have NW := Lib.hid (fun W (hT : Sc.Tab W) (h0 : 0 < W.heap.size) => show Calls Tryd.prog 22 #[.agg #[.int .i64 c, .bool s], .int .i64 (back : Nat), .int .i64 (look : Nat), .int .i64 2] W (RetNew c s 2 back look W) from new_yes c s 2 back look W h0 hT (by omega) h2 hbl)
  clear b0 hT h0 h2
  go_enter Tryd.func8, Tryd.ntmps8
  go_wp2_with fail
  generalize hW1 : (w.alloc (.cells #[.int .i64 c, .bool s, .int .i64 (back : Nat), .int .i64 (look : Nat), .int .i64 wd] 45)).alloc (.cells #[.int .i64 x, .int .i64 y] 62) = w1 at *
  clear hW1
  refine (push_nil _ _ _ _).mono ?_
  rintro r w2 ⟨rfl, rfl⟩
  go_wp2_with fail
  refine (drain_nil _).mono ?_
  rintro r w2 ⟨rfl, rfl⟩
  go_wp2_with fail
  refine (came_nil _).mono ?_
  rintro r w2 ⟨rfl, rfl⟩
  go_wp2_with fail
  refine (told_nil _).mono ?_
  rintro r w2 ⟨rfl, rfl⟩
  go_wp2_with fail
  refine (words_nil _).mono ?_
  rintro r w2 ⟨rfl, rfl⟩
  go_wp2_with fail
  refine (clone_nil _).mono ?_
  rintro r w2 ⟨rfl, rfl⟩
  obtain ⟨x0, x1, x2, x3, x4⟩ := of_cells BO.out
  go_wp2_with fail
  refine (NW.out _ T1.out H0.out).mono ?_
  rintro r w2 ⟨g, V, Y, T, rfl, -, hb2⟩
  have L2 := Lib.hid (below_next L0.out hb2)
  have LV := Lib.hid (lives_any w2 (T1.out.below hb2) (Nat.lt_of_lt_of_le H0.out hb2.size))
  clear hb2 x0 x1 x2 x3 x4
  go_wp2_with fail
  refine LV.out.mono ?_
  rintro r w5 ⟨rfl, hb5⟩
  have L5 := Lib.hid (below_next L2.out hb5)
  clear hb5
  go_wp2
  go_ret
  exact ⟨rfl, L5.out⟩
theorem apart_any (c : Int) (s : Bool) (bk lk wd : Int) (A : Option Addr) (cA : Nat) (ps : List (Int × Int)) (x y : Int) (w : World) (h0 : 0 < w.heap.size) (hT : Sc.Tab w) (hbR : Sc.InR bk) (hV : Prs w A ps) (hR : ∀ q ∈ ps, Sc.InR q.1 ∧ Sc.InR q.2) (hm : ps.length ≤ maxLen) (hx : Sc.InR x) (hy : Sc.InR y) :
    Calls Tryd.prog 8 #[.agg #[.int .i64 c, .bool s, .int .i64 bk, .int .i64 lk, .int .i64 wd], .slice A ps.length cA, .agg #[.int .i64 x, .int .i64 y]] w fun e w' => e = .returned (.bool true) ∧ Below w.heap.size w w' := by
  unfold maxLen at hm
  by_cases hw : whyW c bk lk 2 = 0
  · obtain ⟨_, _, h3, h4, h5, h6⟩ := why_yes hw
    obtain ⟨back, rfl⟩ : ∃ k : Nat, bk = k := ⟨bk.toNat, by omega⟩
    obtain ⟨look, rfl⟩ : ∃ k : Nat, lk = k := ⟨lk.toNat, by omega⟩
    by_cases h1 : ps.length > 40
    · exact apart_many c s back look wd A cA ps.length x y w h0 hT h3 (by omega) (decide_eq_true (by omega))
    · exact apart_yes c s back look wd A cA ps x y w h0 hT hV hR hx hy (by omega) h3 (by omega)
  · by_cases h1 : ps.length > 40
    · exact apart_many_no c s bk lk wd A cA ps.length x y w h0 hT hbR hw (decide_eq_true (by omega))
    · exact apart_none c s bk lk wd A cA ps.length x y w h0 hT hbR hw (decide_eq_false (by omega))
end Go.Proofs.YtfamgaakcbinkaaDoor.Wn
