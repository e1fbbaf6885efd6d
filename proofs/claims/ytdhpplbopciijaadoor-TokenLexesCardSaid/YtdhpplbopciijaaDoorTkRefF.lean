/-
  Layer 17, token: riffleref17.Lex: its whole contract. Condition: the text is no longer than fits into a machine.
-/
import Derived.Test.YtdhpplbopciijaaDoorTkRefX
set_option maxRecDepth 100000
namespace Go.Proofs.YtdhpplbopciijaaDoor.Tk
open Go.Proofs.YtdhpplbopciijaaDoor.Sh Go.Proofs.YtdhpplbopciijaaDoor.St
open Go.RowKit
set_option linter.unusedVariables false

/-- The state of Lex' loop. -/
structure LexS (l : List UInt8) (w wr : World) (V : Value) (a : Nat) (qs : List Qt) : Prop where
  b3 : Bk 25 wr w.heap.size [.int .i64 0, .int .i64 0]
  live : Live (w.heap.size + 1) wr V qs
  bel : Below w.heap.size w wr
  few : OkT (qs.map Prod.fst)
  num : NoNum (qs.map Prod.fst) ∨ (cntB (l.drop a) = false ∧ blanksN (l.drop a) = 0)
  lex : ∀ R, Lexes l a (qs.map Prod.fst) R → Lexes l 0 [] R
section
variable {l : List UInt8} {w wr : World} {V : Value} {a : Nat} {qs : List Qt}
theorem LexS.start (l : List UInt8) (w : World) : LexS l w (w.alloc (.cells #[.int .i64 0, .int .i64 0] 25)) (.slice none 0 0) 0 [] :=
  ⟨Bk.new 25 w [.int .i64 0, .int .i64 0], Live.nil' _ _, (Below.refl _ w).alloc (Nat.le_refl _) _, ⟨by simp, fun t h => by simp at h⟩, .inl (fun ps q e => by simp at e), fun R h => h⟩
theorem LexS.next (h : LexS l w wr V a qs) {w' : World} (hb : Below wr.heap.size wr w') : LexS l w w' V a qs :=
  ⟨h.b3.next hb, h.live.next hb, Gl.below_next h.bel hb, h.few, h.num, h.lex⟩
theorem LexS.blanks (h : LexS l w wr V a qs) (ha : a ≤ l.length) (hm : blanksN (l.drop a) ≠ 0) : LexS l w wr V (a + blanksN (l.drop a)) qs :=
  ⟨h.b3, h.live, h.bel, h.few, h.num.elim .inl (fun k => absurd k.2 hm), fun R hR => h.lex R (lexes_past ha hR)⟩
theorem LexS.nonum (h : LexS l w wr V a qs) (hc : cntB (l.drop a) = true) : NoNum (qs.map Prod.fst) := h.num.elim id (fun k => by rw [k.1] at hc; cases hc)
theorem line_hit {r : List UInt8} {k : Nat} (h : (r.take k).all (fun c => decide (c ≠ 10)) = true) (hc : r[k]? = some 10) : lineN r = k := by
  have hk : k < r.length := (List.getElem?_eq_some_iff.1 hc).1
  have e := Gl.takeWhile_take (p := fun c => decide (c ≠ 10)) r k h (.inr ⟨10, hc, by decide⟩)
  unfold lineN
  rw [e, List.length_take]
  omega
theorem line_all {r : List UInt8} (h : r.all (fun c => decide (c ≠ 10)) = true) : lineN r = r.length := by
  unfold lineN
  rw [Gl.takeWhile_take (p := fun c => decide (c ≠ 10)) r r.length (by rw [List.take_length]; exact h) (.inl (Nat.le_refl _)), List.take_length]
theorem all_snocL {r : List UInt8} {k : Nat} {c : UInt8} (h : (r.take k).all (fun c => decide (c ≠ 10)) = true) (hc : r[k]? = some c) (hd : c ≠ 10) : (r.take (k + 1)).all (fun c => decide (c ≠ 10)) = true := by
  rw [List.take_add_one, hc, List.all_append, h]
  simp [hd]
theorem cnt_ten {r : List UInt8} (h : r = [] ∨ r[0]? = some 10) : cntB r = false ∧ blanksN r = 0 := by
  rcases h with rfl | h
  · exact ⟨by decide, rfl⟩
  · cases r with
    | nil => simp at h
    | cons c t =>
      obtain rfl : c = 10 := by simpa using h
      exact ⟨by unfold cntB; simp [Lib.hasPrefix, List.isPrefixOf]; decide, by unfold blanksN; rw [List.takeWhile_cons, if_neg (by decide)]; rfl⟩
theorem LexS.remark (h : LexS l w wr V a qs) (ha : a < l.length) (hc : clsN (l.drop a) = 4) {k : Nat} (hk : lineN (l.drop a) = k) (he : l.drop (a + k) = [] ∨ (l.drop (a + k))[0]? = some 10) : LexS l w wr V (a + k) qs :=
  ⟨h.b3, h.live, h.bel, h.few, .inr (cnt_ten he), fun R hR => h.lex R (.next ha (.inr (.inr (.inr (.inr (.inl ⟨hc, by rw [hk]⟩))))) hR)⟩
/-- One token more. -/
theorem LexS.step (h : LexS l w wr V a qs) {q : Qt} {p : Nat} {w2 : World} (hb2 : Below wr.heap.size wr w2) (hm : MineT 2 w2 wr.heap.size (vq q) q.1.nums) (hx : NxOk l a (qs.map Prod.fst) q.1 p) (h4 : qs.length ≠ 400) (o1 o2 o3 : Obj) {V' : Value} {w8 : World}
    (hv : w8.ownsRow (w.heap.size + 1) 37 5 V' (qs.length + 1) (flat5 qs ++ cq q)) (hg : (((w2.alloc o1).alloc o2).alloc o3).grownBy w8 V.ownBlock) : LexS l w w8 V' p (qs ++ [q]) := by
  have hs := h.next hb2
  have b1 := below_new w2 o1
  have h1 := hs.next b1
  have h2 := h1.next (below_new _ o2)
  have h3 := h2.next (below_new _ o3)
  have hlt := h.b3.lt
  have hq : MineT 2 (((w2.alloc o1).alloc o2).alloc o3) (w.heap.size + 1) (vq q) q.1.nums := own_weak (World.ownsRow.alloc (World.ownsRow.alloc (World.ownsRow.alloc hm o1) o2) o3) (by omega)
  refine ⟨h3.b3.grown hg (own_bk_ne h3.live.1 h3.b3 (by decide)), Live.app h3.live hq hv hg, h3.bel.grown hg h3.bel.size (fun k hk => ?_), ?_, ?_, ?_⟩
  · have := (h3.live.lt k hk).2; omega
  · refine ⟨?_, fun t ht => ?_⟩
    · have := h.few.1; simp at this ⊢; omega
    · rw [List.map_append] at ht
      rcases List.mem_append.1 ht with ht | ht
      · exact h.few.2 t ht
      · simp at ht; rw [ht]; exact hx.2.2.2.2.1
  · by_cases hk : q.1.kind = 1
    · exact .inr (hx.2.2.2.1 hk)
    · refine .inl (fun ps q' e => ?_)
      rw [List.map_append] at e
      obtain ⟨-, e2⟩ := List.append_inj' e rfl
      obtain rfl : q.1 = q' := by simpa using e2
      exact hk
  · intro R hR
    refine h.lex R (hx.1 R ?_)
    rw [List.map_append] at hR
    exact hR
end
theorem cls_rem {c : UInt8} {t : List UInt8} (h : c = 35 ∨ Lib.hasPrefix (c :: t) [226, 141, 157] = true) : clsN (c :: t) = 4 := by
  rcases h with rfl | h
  · unfold clsN
    have h1 : ¬ (diB 35 = true ∨ 0 < Dg.signL (35 :: t)) := by rw [sign_two]; simp [Lib.hasPrefix, List.isPrefixOf]; decide
    have h2 : ¬ leB 35 = true := by decide
    have h3 : Lib.hasPrefix (35 :: t) [35] = true := by simp [Lib.hasPrefix, List.isPrefixOf]
    simp [h1, h2, h3]
  · obtain ⟨u, hu⟩ := (has_iff _ _).1 h
    simp at hu
    obtain ⟨rfl, rfl⟩ := hu
    unfold clsN
    have h1 : ¬ (diB 226 = true ∨ 0 < Dg.signL (226 :: 141 :: 157 :: u)) := by rw [sign_two]; simp [Lib.hasPrefix, List.isPrefixOf]; decide
    have h2 : ¬ leB 226 = true := by decide
    simp [h1, h2, h]
theorem cls_rem' {c : UInt8} {t : List UInt8} (h : clsN (c :: t) = 4) : c = 35 ∨ Lib.hasPrefix (c :: t) [226, 141, 157] = true := by
  unfold clsN at h
  simp only at h
  repeat' split at h
  all_goals first
    | omega
    | (rename_i g
       rcases g with g | g
       · exact .inr g
       · obtain ⟨u, hu⟩ := (has_iff _ _).1 g
         simp at hu
         exact .inl hu.1.symm)
theorem cls_bl {c : UInt8} {t : List UInt8} (h : blanksN (c :: t) = 0) : clsN (c :: t) ≠ 0 := by
  intro h0
  have hb : blB c = true := by
    unfold clsN at h0
    simp only at h0
    split at h0
    · rename_i g; unfold blB; simp [g]
    · repeat' split at h0
      all_goals omega
  unfold blanksN at h
  rw [List.takeWhile_cons, if_pos hb] at h
  cases h
theorem res_tc {fn : Func} {wr : World} {g : Nat} {e0 e1 : Value} (h : fn.results = #[.tmp 2, .cell 3 25]) (tmps : Array Value) (h3 : tmps.getD 3 undef = .pointer (some ⟨g, 0, none⟩))
    (b3 : Bk 25 wr g [e0, e1]) : (results fn tmps).run Tryd.prog wr = .ok (.tuple #[tmps.getD 2 undef, .agg #[e0, e1]]) wr := by
  have a0 : wr.cell? ⟨g, 0, none⟩ = some e0 := b3.c 0
  have a1 : wr.cell? ⟨g, 1, none⟩ = some e1 := b3.c 1
  rw [Array.getD_eq_getD_getElem?] at h3
  simp [results, h, h3, go_sem, a0, a1]
theorem at_drop {l : List UInt8} {a k : Nat} {c : UInt8} (h : l[a + k]? = some c) : (l.drop a)[k]? = some c := by rw [List.getElem?_drop]; exact h
set_option maxHeartbeats 8000000 in
theorem rlex_any (s : ByteArray) (w : World) (hs : s.size ≤ maxLen) : Calls Tryd.prog 5 #[.string s] w (RetX s w) := by
  have HSL := Lib.hid (show s.data.toList.length = s.size by simp)
  by_cases hbig : 2000 < s.size
  · have tb : decide ((2000 : Int) < (s.size : Int)) = true := by simp; omega
    have HB := Lib.hid hbig
    clear hbig
    go_enter Tryd.func5, Tryd.ntmps5
    go_wp2
    refine bodyPost_ret (res_tc Tryd.results5 _ rfl (Bk.new 25 w [.int .i64 8, .int .i64 2000])) rfl ?_
    refine ⟨.inr (8, 2000), ?_, rfl, (Below.refl _ w).alloc (Nat.le_refl _) _⟩
    unfold LexIs
    rw [if_pos (by rw [HSL.out]; exact HB.out)]
  · have tb : decide ((2000 : Int) < (s.size : Int)) = false := by simp; omega
    have hsz : s.size ≤ 2000 := by omega
    have HBL := Lib.hid (fun p W => rblanks_any (restB s p) W (by rw [rest_size]; omega))
    have HBG := Lib.hid (fun p b W hb => rbegins_any (restB s p) ⟨#[226, 141, 157]⟩ b W (by rw [rest_size]; omega) (by decide) hb)
    simp only [rest_list] at HBL HBG
    have HNX := Lib.hid (fun a full ts W => rnext_any s a full ts W hs)
    have HSB := Lib.hid hsz
    clear hbig hs
    go_enter Tryd.func5, Tryd.ntmps5
    go_wp2_with fail
    go_loopw [4, 5] (fun V i wr => ∃ (a n : Nat) (A : Option Addr) (c : Nat) (qs : List Qt), a ≤ s.size ∧ i = .int .i64 (a : Int) ∧ V = .slice A n c ∧ Hid (n = qs.length) ∧ Hid (LexS s.data.toList w wr (.slice A n c) a qs)) (fun _ i _ => s.size - (intOf i).toNat)
    case atStart => exact ⟨0, 0, none, 0, [], Nat.zero_le _, rfl, rfl, Lib.hid rfl, Lib.hid (LexS.start _ _)⟩
    case round =>
      obtain ⟨a, n, A, c, qs, ha, rfl, rfl, HN, HS⟩ := hrel
      by_cases hlt : a < s.size
      · have tl : decide (a < s.size) = true := by simp [hlt]
        have hat : (a : Int) ≤ (s.size : Int) := by omega
        obtain ⟨m, hm⟩ : ∃ m, blanksN (s.data.toList.drop a) = m := ⟨_, rfl⟩
        have H1 := Lib.hid (fun W => HBL.out a W)
        rw [hm] at H1
        have HM := Lib.hid hm
        have hml : a + m ≤ s.size := by
          have := blanks_le (s.data.toList.drop a)
          rw [hm, List.length_drop, HSL.out] at this
          omega
        obtain ⟨c0, hc0⟩ : ∃ c0, s[a] = c0 := ⟨_, rfl⟩
        have HC0 := Lib.hid (show s.data.toList[a]? = some c0 by rw [← hc0]; exact Gl.at_list s a hlt)
        have hct : s.data.toList.drop a = c0 :: s.data.toList.drop (a + 1) := by
          obtain ⟨c1, h1, h2⟩ := drop_cons' (l := s.data.toList) (a := a) (by rw [HSL.out]; exact hlt)
          rw [HC0.out] at h1
          injection h1 with h1
          rw [h1]; exact h2
        have HCT := Lib.hid hct
        clear hm hct
        by_cases hm0 : m = 0
        · have g1 : decide ((0 : Int) < (m : Int)) = false := by simp; omega
          have g2 : decide (0 < m) = false := by simp; omega
          have HM0 := Lib.hid hm0
          have h35 : ((c0.toNat : Int) == 35) = decide (c0 = 35) := eq_dec c0 35 (by omega)
          have HLT := Lib.hid hlt
          clear hm0
          obtain ⟨b, hb⟩ : ∃ b, Lib.hasPrefix (s.data.toList.drop a) [226, 141, 157] = b := ⟨_, rfl⟩
          have H2 := Lib.hid (fun W => HBG.out a b W hb)
          have HBB := Lib.hid hb
          clear hb
          by_cases hrem : c0 = 35 ∨ b = true
          · have HCL := Lib.hid (show clsN (s.data.toList.drop a) = 4 by rw [HCT.out]; exact cls_rem (hrem.imp id (fun h => by rw [← HCT.out, HBB.out]; exact h)))
            by_cases h1 : c0 = 35
            · rw [decide_eq_true h1] at h35
              clear hrem h1
              go_wp2_with fail
              refine (H1.out _).mono ?_
              rintro e w1 ⟨rfl, rfl⟩
              go_wp2_with fail
              go_loop [5] (fun i => ∃ j : Nat, a ≤ j ∧ j ≤ s.size ∧ i = .int .i64 (j : Int) ∧ ((s.data.toList.drop a).take (j - a)).all (fun c => decide (c ≠ 10)) = true) (fun i => s.size - (intOf i).toNat)
              case atStart => exact ⟨a, Nat.le_refl _, ha, rfl, by rw [Nat.sub_self]; simp⟩
              case round =>
                obtain ⟨j, haj, hj, rfl, hal⟩ := hrel
                have HAL := Lib.hid hal
                clear hal
                by_cases hlj : j < s.size
                · have tj : decide (j < s.size) = true := by simp [hlj]
                  obtain ⟨cj, hcj⟩ : ∃ cj, s[j] = cj := ⟨_, rfl⟩
                  have HCJ := Lib.hid (show (s.data.toList.drop a)[j - a]? = some cj by rw [← hcj]; exact at_drop (by rw [show a + (j - a) = j by omega]; exact Gl.at_list s j hlj))
                  have h10 : ((cj.toNat : Int) == 10) = decide (cj = 10) := eq_dec cj 10 (by omega)
                  by_cases he : cj = 10
                  · rw [decide_eq_true he] at h10
                    have h10' : ((cj.toNat : Int) != 10) = false := by rw [bne, h10]; rfl
                    have HE := Lib.hid he
                    clear he
                    go_wp2
                    go_round
                    case rel =>
                      have HJ := HCJ.out
                      rw [HE.out] at HJ
                      exact ⟨j, n, A, c, qs, hj, rfl, rfl, HN, Lib.hid (by
                        have h := HS.out.remark (by rw [HSL.out]; exact HLT.out) HCL.out (line_hit HAL.out HJ) (.inr (by rw [show a + (j - a) = j by omega]; rw [List.getElem?_drop] at HJ ⊢; rw [show a + (j - a) = j by omega] at HJ; exact HJ))
                        rwa [show a + (j - a) = j by omega] at h)⟩
                    case measure =>
                      have h3 : a ≠ j := fun e => by
                        subst e
                        have h1 := HCT.out
                        have h2 := HCJ.out
                        rw [Nat.sub_self, h1, HE.out] at h2
                        simp at h2
                        have h4 := HCL.out
                        rw [h1, h2] at h4
                        cases h4
                      simp [intOf]; omega
                  · rw [decide_eq_false he] at h10
                    have h10' : ((cj.toNat : Int) != 10) = true := by rw [bne, h10]; rfl
                    have HE := Lib.hid he
                    have hs1 : IntKind.i64.wrap ((j : Int) + 1) = (j : Int) + 1 := IntWalk.i64_in _ (by have := HSB.out; omega)
                    clear he
                    go_wp2
                    go_round
                    case rel => exact ⟨j + 1, by omega, by omega, by go_num, by rw [show j + 1 - a = (j - a) + 1 by omega]; exact all_snocL HAL.out HCJ.out HE.out⟩
                    case measure => simp [intOf]; omega
                · have tj : decide (j < s.size) = false := by simp; omega
                  go_wp2
                  go_round
                  case rel =>
                    exact ⟨j, n, A, c, qs, hj, rfl, rfl, HN, Lib.hid (by
                      have hlen : (s.data.toList.drop a).length = j - a := by rw [List.length_drop, HSL.out]; omega
                      have hal := HAL.out
                      rw [List.take_of_length_le (by omega)] at hal
                      have h := HS.out.remark (by rw [HSL.out]; exact HLT.out) HCL.out ((line_all hal).trans hlen) (.inl (List.drop_eq_nil_of_le (by rw [HSL.out]; omega)))
                      rwa [show a + (j - a) = j by omega] at h)⟩
                  case measure => simp [intOf]; have := HLT.out; omega

            · obtain rfl : b = true := hrem.resolve_left h1
              rw [decide_eq_false h1] at h35
              clear hrem h1
              go_wp2_with fail
              refine (H1.out _).mono ?_
              rintro e w1 ⟨rfl, rfl⟩
              go_wp2_with fail
              refine (H2.out _).mono ?_
              rintro e w1 ⟨rfl, rfl⟩
              go_wp2_with fail
              go_loop [5] (fun i => ∃ j : Nat, a ≤ j ∧ j ≤ s.size ∧ i = .int .i64 (j : Int) ∧ ((s.data.toList.drop a).take (j - a)).all (fun c => decide (c ≠ 10)) = true) (fun i => s.size - (intOf i).toNat)
              case atStart => exact ⟨a, Nat.le_refl _, ha, rfl, by rw [Nat.sub_self]; simp⟩
              case round =>
                obtain ⟨j, haj, hj, rfl, hal⟩ := hrel
                have HAL := Lib.hid hal
                clear hal
                by_cases hlj : j < s.size
                · have tj : decide (j < s.size) = true := by simp [hlj]
                  obtain ⟨cj, hcj⟩ : ∃ cj, s[j] = cj := ⟨_, rfl⟩
                  have HCJ := Lib.hid (show (s.data.toList.drop a)[j - a]? = some cj by rw [← hcj]; exact at_drop (by rw [show a + (j - a) = j by omega]; exact Gl.at_list s j hlj))
                  have h10 : ((cj.toNat : Int) == 10) = decide (cj = 10) := eq_dec cj 10 (by omega)
                  by_cases he : cj = 10
                  · rw [decide_eq_true he] at h10
                    have h10' : ((cj.toNat : Int) != 10) = false := by rw [bne, h10]; rfl
                    have HE := Lib.hid he
                    clear he
                    go_wp2
                    go_round
                    case rel =>
                      have HJ := HCJ.out
                      rw [HE.out] at HJ
                      exact ⟨j, n, A, c, qs, hj, rfl, rfl, HN, Lib.hid (by
                        have h := HS.out.remark (by rw [HSL.out]; exact HLT.out) HCL.out (line_hit HAL.out HJ) (.inr (by rw [show a + (j - a) = j by omega]; rw [List.getElem?_drop] at HJ ⊢; rw [show a + (j - a) = j by omega] at HJ; exact HJ))
                        rwa [show a + (j - a) = j by omega] at h)⟩
                    case measure =>
                      have h3 : a ≠ j := fun e => by
                        subst e
                        have h1 := HCT.out
                        have h2 := HCJ.out
                        rw [Nat.sub_self, h1, HE.out] at h2
                        simp at h2
                        have h4 := HCL.out
                        rw [h1, h2] at h4
                        cases h4
                      simp [intOf]; omega
                  · rw [decide_eq_false he] at h10
                    have h10' : ((cj.toNat : Int) != 10) = true := by rw [bne, h10]; rfl
                    have HE := Lib.hid he
                    have hs1 : IntKind.i64.wrap ((j : Int) + 1) = (j : Int) + 1 := IntWalk.i64_in _ (by have := HSB.out; omega)
                    clear he
                    go_wp2
                    go_round
                    case rel => exact ⟨j + 1, by omega, by omega, by go_num, by rw [show j + 1 - a = (j - a) + 1 by omega]; exact all_snocL HAL.out HCJ.out HE.out⟩
                    case measure => simp [intOf]; omega
                · have tj : decide (j < s.size) = false := by simp; omega
                  go_wp2
                  go_round
                  case rel =>
                    exact ⟨j, n, A, c, qs, hj, rfl, rfl, HN, Lib.hid (by
                      have hlen : (s.data.toList.drop a).length = j - a := by rw [List.length_drop, HSL.out]; omega
                      have hal := HAL.out
                      rw [List.take_of_length_le (by omega)] at hal
                      have h := HS.out.remark (by rw [HSL.out]; exact HLT.out) HCL.out ((line_all hal).trans hlen) (.inl (List.drop_eq_nil_of_le (by rw [HSL.out]; omega)))
                      rwa [show a + (j - a) = j by omega] at h)⟩
                  case measure => simp [intOf]; have := HLT.out; omega
          · have hb0 : b = false := by cases b with
              | false => rfl
              | true => exact absurd (.inr rfl) hrem
            subst hb0
            have h1 : ¬ c0 = 35 := fun e => hrem (.inl e)
            rw [decide_eq_false h1] at h35
            have HCL : Hid (clsN (s.data.toList.drop a) ≠ 4 ∧ clsN (s.data.toList.drop a) ≠ 0) := Lib.hid (by
              have h2 := HBB.out
              have h3 := HM.out
              rw [HCT.out] at h2 h3 ⊢
              refine ⟨fun h => ?_, cls_bl (h3.trans HM0.out)⟩
              rcases cls_rem' h with h | h
              · exact h1 h
              · rw [h2] at h; cases h)
            obtain ⟨full, hfull⟩ : ∃ full, ((n : Int) == 400) = full := ⟨_, rfl⟩
            have hff : full = decide ((qs.map Prod.fst).length = 400) := by
              rw [← hfull, List.length_map, ← HN.out]
              by_cases h : n = 400
              · subst h; rfl
              · have : ¬ ((n : Int) = 400) := by omega
                simp [h, this]
            have H3 := Lib.hid (fun W => HNX.out a full (qs.map Prod.fst) W HLT.out HCL.out.2 HCL.out.1 HS.out.nonum hff)
            have HFF := Lib.hid hff
            clear hrem h1 hff
            go_wp2_with fail
            refine (H1.out _).mono ?_
            rintro e w1 ⟨rfl, rfl⟩
            go_wp2_with fail
            refine (H2.out _).mono ?_
            rintro e w1 ⟨rfl, rfl⟩
            go_wp2_with fail
            refine (H3.out _).mono ?_
            rintro e w2 ⟨q, p, E, P, rfl, hb2, hr⟩
            have HB2 := Lib.hid hb2
            have HR := Lib.hid hr
            clear hb2 hr
            generalize hkd : (q.1.kind : Int) = kd at *
            generalize hps : (q.1.pos : Int) = ps at *
            generalize hcd : (q.1.code : Int) = cd at *
            generalize hln : q.1.nums.length = ln at *
            generalize hnm : nm q.1.name = Nm at *
            have HK := Lib.hid (show cq q = [.int .i64 kd, .int .i64 ps, .int .i64 cd, .slice q.2.1 ln q.2.2, .string Nm] by unfold cq vq; rw [hkd, hps, hcd, hln, hnm])
            clear hkd hps hcd hln hnm
            have B3 := Lib.hid (((HS.out.b3.next HB2.out).alloc (.cells #[.int .i64 kd, .int .i64 ps, .int .i64 cd, .slice q.2.1 ln q.2.2, .string Nm] 37)).alloc (.cells #[.int .i64 (E : Int), .int .i64 (P : Int)] 25))
            have x0 := B3.out.c 0
            have x1 := B3.out.c 1
            have f0 := B3.out.f 0
            have f1 := B3.out.f 1
            simp only [List.getElem?_cons_zero, List.getElem?_cons_succ] at x0 x1
            by_cases hE : E = 0
            · have hz : (E : Int) = 0 := by rw [hE]; rfl
              have HR2 : Hid (MineT 2 w2 wr.heap.size (vq q) q.1.nums ∧ NxOk s.data.toList a (qs.map Prod.fst) q.1 p) := Lib.hid (by
                rcases HR.out with ⟨r1, r2, r3, r4⟩ | ⟨r1, r2⟩
                · exact ⟨r3, r4⟩
                · exact absurd hE r1)
              have hps : p ≤ s.size := by have := HR2.out.2.2.2.1; rw [HSL.out] at this; exact this
              have hpa : a < p := HR2.out.2.2.1
              have hn4 : Hid (n ≠ 400) := Lib.hid (fun h => HR2.out.2.2.2.2.2.2 (by rw [List.length_map, ← HN.out]; exact h))
              have HPA := Lib.hid hpa
              have HPS := Lib.hid hps
              clear hE HR hfull x0 x1 f0 f1 B3
              generalize (E : Int) = ei at *
              generalize (P : Int) = pj at *
              subst hz
              have LV := Lib.hid (((HS.out.live.next HB2.out).next (below_new w2 (.cells #[.int .i64 kd, .int .i64 ps, .int .i64 cd, .slice q.2.1 ln q.2.2, .string Nm] 37))).next (below_new _ (.cells #[.int .i64 0, .int .i64 pj] 25)))
              have OW : Hid ((((w2.alloc (.cells #[.int .i64 kd, .int .i64 ps, .int .i64 cd, .slice q.2.1 ln q.2.2, .string Nm] 37)).alloc (.cells #[.int .i64 0, .int .i64 pj] 25)).alloc (.cells #[.int .i64 kd, .int .i64 ps, .int .i64 cd, .slice q.2.1 ln q.2.2, .string Nm] 37)).ownsRow (w.heap.size + 1) 37 5 (.slice A n c) n (flat5 qs)) := Lib.hid (by
                rw [HN.out]
                have h := World.ownsRow.alloc LV.out.1 (.cells #[.int .i64 kd, .int .i64 ps, .int .i64 cd, .slice q.2.1 ln q.2.2, .string Nm] 37)
                rw [HN.out] at h
                exact h)
              have SQ := Lib.hid (seq_new 37 ((w2.alloc (.cells #[.int .i64 kd, .int .i64 ps, .int .i64 cd, .slice q.2.1 ln q.2.2, .string Nm] 37)).alloc (.cells #[.int .i64 0, .int .i64 pj] 25)) [.int .i64 kd, .int .i64 ps, .int .i64 cd, .slice q.2.1 ln q.2.2, .string Nm])
              have e5 : ((w2.alloc (.cells #[.int .i64 kd, .int .i64 ps, .int .i64 cd, .slice q.2.1 ln q.2.2, .string Nm] 37)).alloc (.cells #[.int .i64 0, .int .i64 pj] 25)).heap.size = w2.heap.size + 1 + 1 := by simp
              rw [e5] at SQ
              have YA : Hid (∀ u ∈ ([.int .i64 kd, .int .i64 ps, .int .i64 cd, .slice q.2.1 ln q.2.2, .string Nm] : List Value), u.oneCell' = true) := Lib.hid (by intro u hu; simp at hu; rcases hu with rfl | rfl | rfl | rfl | rfl <;> rfl)
              have TL : Hid (n + 1 ≤ 100000) := Lib.hid (by have := HS.out.few.1; rw [List.length_map, ← HN.out] at this; omega)
              have LB : Hid (w.heap.size + 1 ≤ (((w2.alloc (.cells #[.int .i64 kd, .int .i64 ps, .int .i64 cd, .slice q.2.1 ln q.2.2, .string Nm] 37)).alloc (.cells #[.int .i64 0, .int .i64 pj] 25)).alloc (.cells #[.int .i64 kd, .int .i64 ps, .int .i64 cd, .slice q.2.1 ln q.2.2, .string Nm] 37)).heap.size) := Lib.hid (by have h1 := HS.out.b3.lt; have h2 := HB2.out.size; simp; omega)
              clear hpa hps e5
              go_wp2_with (at_builtin; refine wpList_appS infoT rfl (by decide) (by decide) Tryd.underlying22 rfl (.tmp 64) (.tmp 66) rfl (w.heap.size + 1) (.slice A n c) n (flat5 qs) rfl OW.out (fun _ => True) _ 1 1 [.int .i64 kd, .int .i64 ps, .int .i64 cd, .slice q.2.1 ln q.2.2, .string Nm] rfl rfl SQ.out YA.out TL.out LB.out ?_; intro v8 w8 hv8 hg8 ha8; obtain ⟨A8, c8, rfl, -⟩ := own_seq hv8 (by decide); have HV8 := Lib.hid hv8; have HG8 := Lib.hid hg8; clear hv8 hg8 ha8)
              go_wp2
              go_round
              case rel =>
                have HNN := HN.out
                have HV9 := HV8.out
                rw [← HK.out] at HV9
                subst HNN
                exact ⟨p, qs.length + 1, A8, c8, qs ++ [q], HPS.out, rfl, rfl, Lib.hid (by simp), Lib.hid (HS.out.step HB2.out HR2.out.1 HR2.out.2 hn4.out _ _ _ HV9 HG8.out)⟩
              case measure => simp [intOf]; have := HPA.out; have := HPS.out; omega
            · have hz : ((E : Int) != 0) = true := by simp; omega
              have HR2 : Hid (Lexes s.data.toList a (qs.map Prod.fst) (.inr (E, P))) := Lib.hid (by
                rcases HR.out with ⟨r1, r2, r3, r4⟩ | ⟨r1, r2⟩
                · exact absurd r1 hE
                · exact r2)
              clear hE
              go_wp2
              go_region
              go_wp2
              refine bodyPost_ret (res_tc Tryd.results5 _ rfl ((B3.out.set_ 0 _).set_ 1 _)) rfl ?_
              refine ⟨.inr (E, P), ?_, rfl, ?_⟩
              · unfold LexIs
                rw [if_neg (by rw [HSL.out]; have := HSB.out; omega)]
                exact HS.out.lex _ HR2.out
              · have h1 := Gl.below_next HS.out.bel HB2.out
                have h2 := Gl.below_next (Gl.below_next h1 (below_new w2 (.cells #[.int .i64 kd, .int .i64 ps, .int .i64 cd, .slice q.2.1 ln q.2.2, .string Nm] 37))) (below_new _ (.cells #[.int .i64 (E : Int), .int .i64 (P : Int)] 25))
                exact ((h2.setCell (p := ⟨w.heap.size, 0, none⟩) (Nat.le_refl _) _).setCell (p := ⟨w.heap.size, 1, none⟩) (Nat.le_refl _) _).drew
        · have g1 : decide ((0 : Int) < (m : Int)) = true := by simp; omega
          have g2 : decide (0 < m) = true := by simp; omega
          have hsum : IntKind.i64.wrap ((a : Int) + (m : Int)) = (a : Int) + (m : Int) := IntWalk.i64_in _ (by omega)
          have HM0 := Lib.hid hm0
          clear hm0 hc0
          go_wp2_with fail
          refine (H1.out _).mono ?_
          rintro e w1 ⟨rfl, rfl⟩
          go_wp2_with fail
          refine (H1.out _).mono ?_
          rintro e w1 ⟨rfl, rfl⟩
          go_wp2
          go_round
          case rel => exact ⟨a + m, n, A, c, qs, hml, by go_num, rfl, HN, Lib.hid (by have h := HS.out.blanks (by rw [HSL.out]; exact ha) (by rw [HM.out]; exact HM0.out); rw [HM.out] at h; exact h)⟩
          case measure => simp [intOf]; have := HM0.out; omega
      · have tl : decide (a < s.size) = false := by simp; omega
        have HE := Lib.hid (show s.data.toList.length ≤ a by rw [HSL.out]; omega)
        have x0 := HS.out.b3.c 0
        have x1 := HS.out.b3.c 1
        have f0 := HS.out.b3.f 0
        have f1 := HS.out.b3.f 1
        simp only [List.getElem?_cons_zero, List.getElem?_cons_succ] at x0 x1
        go_wp2
        refine bodyPost_ret (res_tc Tryd.results5 _ rfl ((HS.out.b3.set_ 0 _).set_ 1 _)) rfl ?_
        refine ⟨.inl (qs.map Prod.fst), ?_, .slice A n c, qs, rfl, ?_, rfl, HS.out.few, (HS.out.bel.setCell (p := ⟨w.heap.size, 0, none⟩) (Nat.le_refl _) _).setCell (p := ⟨w.heap.size, 1, none⟩) (Nat.le_refl _) _⟩
        · unfold LexIs
          rw [if_neg (by rw [HSL.out]; have := HSB.out; omega)]
          exact HS.out.lex _ (.done HE.out)
        · have far : ∀ (W : World) (i : Nat) (u : Value), Live (w.heap.size + 1) W (.slice A n c) qs → Live (w.heap.size + 1) (W.setCell ⟨w.heap.size, i, none⟩ u) (.slice A n c) qs := fun W i u h =>
            ⟨ownsRow_setCell_below (a := ⟨w.heap.size, i, none⟩) h.1 (Nat.lt_succ_self _) u, fun q hq => ownsRow_setCell_below (a := ⟨w.heap.size, i, none⟩) (h.2 q hq) (Nat.lt_succ_self _) u⟩
          have h := far _ 1 (.int .i64 0) (far wr 0 (.int .i64 0) HS.out.live)
          exact ⟨own_weak h.1 (by omega), fun q hq => own_weak (h.2 q hq) (by omega)⟩
end Go.Proofs.YtdhpplbopciijaaDoor.Tk
