/-
  Layer 17, token: riffleref17.next: what it answers, as a step of the relation. Conditions: as told.
-/
import Derived.Test.YtdhpplbopciijaaDoorTkRefM
import Derived.Test.YtdhpplbopciijaaDoorGlyphRef3
set_option maxRecDepth 100000
namespace Go.Proofs.YtdhpplbopciijaaDoor.Tk
open Go.Proofs.YtdhpplbopciijaaDoor.Sh Go.Proofs.YtdhpplbopciijaaDoor.St
open Go.RowKit
set_option linter.unusedVariables false

theorem nx_ok {l : List UInt8} {a p : Nat} {ts : List Tk} {t : Tk} (ha : a < l.length) (hs : Step l a ts (addO ts t p)) (hts : ts.length ≠ 400) (hk : t.kind ≠ 1) (hn : t.nums = []) : NxOk l a ts t p := by
  have hs' : Step l a ts (.next p (ts ++ [t])) := by unfold addO at hs; rw [if_neg hts] at hs; exact hs
  have h := step_on ha hs'
  exact ⟨fun R hR => .next ha hs' hR, h.1, h.2, fun h => absurd h hk, by rw [hn]; simp, hts⟩
theorem nx_full {l : List UInt8} {a p : Nat} {ts : List Tk} {t : Tk} (ha : a < l.length) (hs : Step l a ts (addO ts t p)) (hts : ts.length = 400) (hp : t.pos = a) : Lexes l a ts (.inr (8, a)) := by
  unfold addO at hs
  rw [if_pos hts, hp] at hs
  exact .bad ha hs
theorem named_vals (l : List UInt8) : namedN l = 0 ∨ namedN l = 2 ∨ namedN l = 3 := by
  unfold namedN
  split
  · exact .inl rfl
  · split
    · exact .inl rfl
    · repeat' split
      all_goals simp
theorem cls_name {c : UInt8} {t : List UInt8} (hb : cntB (c :: t) = false) (hl : letN c ≠ 0) : clsN (c :: t) = 3 := by
  have h2 : ¬ clsN (c :: t) = 2 := fun h => by rw [cls_cnt h] at hb; cases hb
  have ha : anB c = true := by
    cases h : anB c with
    | true => rfl
    | false => exact absurd ((letN_an c).1.2 h) hl
  have hd : diB c = false := by
    cases h : diB c with
    | false => rfl
    | true => unfold cntB at hb; simp [h] at hb
  have hle : leB c = true := by unfold anB at ha; rw [hd, Bool.or_false] at ha; exact ha
  have hne : ¬ (c = 32 ∨ c = 9) ∧ ¬ c = 10 := by
    refine ⟨?_, ?_⟩
    · rintro (e | e) <;> subst e <;> revert hle <;> decide
    · rintro e; subst e; revert hle; decide
  unfold clsN at h2 ⊢
  simp only [hne.1, hne.2, if_false] at h2 ⊢
  by_cases h3 : diB c = true ∨ 0 < Dg.signL (c :: t)
  · rw [if_pos h3] at h2; exact absurd rfl h2
  · rw [if_neg h3, if_pos hle]
theorem cls_end {t : List UInt8} : clsN (10 :: t) = 1 := rfl
theorem cls_sign {c : UInt8} {t : List UInt8} (h0 : clsN (c :: t) ≠ 0) (h4 : clsN (c :: t) ≠ 4) (hb : cntB (c :: t) = false) (hl : letN c = 0) (h10 : c ≠ 10) : clsN (c :: t) = 5 := by
  have h2 : ¬ clsN (c :: t) = 2 := fun h => by rw [cls_cnt h] at hb; cases hb
  have ha : anB c = false := (letN_an c).1.1 hl
  have hle : leB c = false := by unfold anB at ha; cases h : leB c <;> simp [h] at ha ⊢
  unfold clsN at h0 h2 h4 ⊢
  simp only at h0 h2 h4 ⊢
  by_cases g0 : c = 32 ∨ c = 9
  · rw [if_pos g0] at h0; exact absurd rfl h0
  · rw [if_neg g0] at h2 h4 ⊢
    rw [if_neg h10] at h2 h4 ⊢
    by_cases g2 : diB c = true ∨ 0 < Dg.signL (c :: t)
    · rw [if_pos g2] at h2; exact absurd rfl h2
    · rw [if_neg g2] at h4 ⊢
      rw [if_neg (by rw [hle]; simp)] at h4 ⊢
      split at h4
      · exact absurd rfl h4
      · rename_i g; rw [if_neg g]
theorem first_zero {r : List UInt8} {c n : Nat} (h : Gl.FirstIs r c n) : c = 0 ↔ n = 0 := by
  constructor
  · rintro rfl
    rcases h with ⟨hd, hl, rfl⟩ | ⟨hd, hl, rfl⟩
    · rfl
    · simp
  · intro hn
    by_cases hc : c = 0
    · exact hc
    · have := first_pos h hc; omega
def TokB (kd a cd : Nat) (n : ByteArray) : List Value := [.int .i64 (kd : Int), .int .i64 (a : Int), .int .i64 (cd : Int), .slice none 0 0, .string n]
set_option maxHeartbeats 8000000 in
theorem rnext_any (s : ByteArray) (a : Nat) (full : Bool) (ts : List Tk) (w : World) (hs : s.size ≤ maxLen) (ha : a < s.size) (h0 : clsN (s.data.toList.drop a) ≠ 0) (h4 : clsN (s.data.toList.drop a) ≠ 4) (hn : cntB (s.data.toList.drop a) = true → NoNum ts) (hf : full = decide (ts.length = 400)) :
    Calls Tryd.prog 14 #[.string s, .int .i64 (a : Int), .bool full] w (RetNx s.data.toList a ts w) := by
  have HSL := Lib.hid (show s.data.toList.length = s.size by simp)
  have hat : (a : Int) ≤ (s.size : Int) := by omega
  have hrs : (restB s a).size = s.size - a := rest_size s a
  have hrl : (restB s a).data.toList = s.data.toList.drop a := rest_list s a
  have h1 : 0 < (restB s a).size := by omega
  have e1 : (w.alloc (.cells #[.int .i64 0, .int .i64 0, .int .i64 0, .slice none 0 0, .string ⟨#[]⟩] 37)).heap.size = w.heap.size + 1 := by simp
  have e2 : ((w.alloc (.cells #[.int .i64 0, .int .i64 0, .int .i64 0, .slice none 0 0, .string ⟨#[]⟩] 37)).alloc (.cells #[.int .i64 0, .int .i64 0] 25)).heap.size = w.heap.size + 1 + 1 := by simp
  have B6 := Lib.hid ((Bk.new 37 w [.int .i64 0, .int .i64 0, .int .i64 0, .slice none 0 0, .string ⟨#[]⟩]).alloc (.cells #[.int .i64 0, .int .i64 0] 25))
  have B8 : Hid (Bk 25 ((w.alloc (.cells #[.int .i64 0, .int .i64 0, .int .i64 0, .slice none 0 0, .string ⟨#[]⟩] 37)).alloc (.cells #[.int .i64 0, .int .i64 0] 25)) (w.heap.size + 1) [.int .i64 0, .int .i64 0]) := Lib.hid (by rw [← e1]; exact Bk.new 25 _ [.int .i64 0, .int .i64 0])
  have LB := Lib.hid (((Below.refl _ w).alloc (Nat.le_refl _) (.cells #[.int .i64 0, .int .i64 0, .int .i64 0, .slice none 0 0, .string ⟨#[]⟩] 37)).alloc (by simp) (.cells #[.int .i64 0, .int .i64 0] 25))
  cases hcb : cntB (s.data.toList.drop a) with
  | true =>
    have H1 := Lib.hid (fun W => rcounts_any (restB s a) true W (by omega) (by rw [hrl]; exact hcb))
    have H2 := Lib.hid (fun W => rnumbers_any s a full ts W hs ha hcb (hn hcb) hf)
    have E2 := Lib.hid e2
    unfold maxLen at hs
    clear hrs hrl h1 hcb hn hf h0 h4 e1 e2
    go_enter Tryd.func14, Tryd.ntmps14
    go_wp2_with fail
    refine (H1.out _).mono ?_
    rintro e w1 ⟨rfl, rfl⟩
    go_wp2_with fail
    refine (H2.out _).mono ?_
    rintro e w2 ⟨q, p, E, P, rfl, hb2, hr⟩
    have B6n := Lib.hid (B6.out.next hb2)
    have B8n := Lib.hid (B8.out.next hb2)
    have LBn := Lib.hid (Gl.below_next LB.out hb2)
    rw [E2.out] at hr
    have HR := Lib.hid hr
    obtain ⟨y0, y1, y2, y3, y4, z0, z1⟩ : w2.cell? ⟨w.heap.size, 0, none⟩ = some (.int .i64 0) ∧ w2.cell? ⟨w.heap.size, 1, none⟩ = some (.int .i64 0) ∧ w2.cell? ⟨w.heap.size, 2, none⟩ = some (.int .i64 0) ∧ w2.cell? ⟨w.heap.size, 3, none⟩ = some (.slice none 0 0) ∧ w2.cell? ⟨w.heap.size, 4, none⟩ = some (.string ⟨#[]⟩) ∧ w2.cell? ⟨w.heap.size + 1, 0, none⟩ = some (.int .i64 0) ∧ w2.cell? ⟨w.heap.size + 1, 1, none⟩ = some (.int .i64 0) := ⟨B6n.out.c 0, B6n.out.c 1, B6n.out.c 2, B6n.out.c 3, B6n.out.c 4, B8n.out.c 0, B8n.out.c 1⟩
    obtain ⟨yf0, yf1, yf2, yf3, yf4, zf0, zf1⟩ : w2.frozen? ⟨w.heap.size, 0, none⟩ = false ∧ w2.frozen? ⟨w.heap.size, 1, none⟩ = false ∧ w2.frozen? ⟨w.heap.size, 2, none⟩ = false ∧ w2.frozen? ⟨w.heap.size, 3, none⟩ = false ∧ w2.frozen? ⟨w.heap.size, 4, none⟩ = false ∧ w2.frozen? ⟨w.heap.size + 1, 0, none⟩ = false ∧ w2.frozen? ⟨w.heap.size + 1, 1, none⟩ = false := ⟨B6n.out.f 0, B6n.out.f 1, B6n.out.f 2, B6n.out.f 3, B6n.out.f 4, B8n.out.f 0, B8n.out.f 1⟩
    clear hb2 hr
    have HQ := Lib.hid (rfl : vq q = .slice q.2.1 q.1.nums.length q.2.2)
    generalize hkd : (q.1.kind : Int) = kd at *
    generalize hps : (q.1.pos : Int) = ps at *
    generalize hcd : (q.1.code : Int) = cd at *
    generalize hln : q.1.nums.length = ln at *
    generalize hnm : nm q.1.name = Nm at *
    have HK := Lib.hid (show kd = (q.1.kind : Int) ∧ ps = (q.1.pos : Int) ∧ cd = (q.1.code : Int) ∧ ln = q.1.nums.length ∧ Nm = nm q.1.name from ⟨hkd.symm, hps.symm, hcd.symm, hln.symm, hnm.symm⟩)
    clear hkd hps hcd hln hnm
    go_wp2
    refine bodyPost_ret (res_ctc Tryd.results14 _ rfl rfl (wSet_6 B6n.out (by omega)) (wSet_8 B8n.out (by omega))) rfl ?_
    obtain ⟨k1, k2, k3, k4, k5⟩ := HK.out
    refine ⟨q, p, E, P, by rw [← k1, ← k2, ← k3, ← k4, ← k5]; rfl, wSet_below LBn.out (Nat.le_refl _) (by omega), ?_⟩
    rcases HR.out with ⟨r1, r2, r3, r4⟩ | r
    · exact .inl ⟨r1, r2, own_weak (b := w.heap.size + 1 + 1) (wSet_own r3 (by omega) (by omega)) (by omega), r4⟩
    · exact .inr r
  | false =>
    obtain ⟨c, t, hct⟩ : ∃ c t, s.data.toList.drop a = c :: t := by
      cases hd : s.data.toList.drop a with
      | nil => have := congrArg List.length hd; rw [List.length_drop, HSL.out] at this; simp at this; omega
      | cons c t => exact ⟨c, t, rfl⟩
    have hc0 : (restB s a)[0] = c := by
      have h := Gl.at_list (restB s a) 0 h1
      rw [hrl, hct] at h
      simpa using h.symm
    have H1 := Lib.hid (fun W => rcounts_any (restB s a) false W (by omega) (by rw [hrl]; exact hcb))
    have HA := Lib.hid ha
    have HF := Lib.hid hf
    have HRL := Lib.hid hrl
    have HCT := Lib.hid hct
    have H0 := Lib.hid h0
    have H4 := Lib.hid h4
    have HCB := Lib.hid hcb
    have HRS := Lib.hid hrs
    have HFI := Lib.hid (fun W => Gl.refFirst_any (restB s a) W (by omega))
    have HNA := Lib.hid (fun k W => rnamed_any ((restB s a).extract 0 k) W (by rw [ByteArray.size_extract]; omega))
    obtain ⟨u, hu⟩ : ∃ u, letN c = u := ⟨_, rfl⟩
    have HL := Lib.hid (fun W => rletter_n c u W hu)
    have HU := Lib.hid hu
    have B10 := Lib.hid (Bk.new 37 ((w.alloc (.cells #[.int .i64 0, .int .i64 0, .int .i64 0, .slice none 0 0, .string ⟨#[]⟩] 37)).alloc (.cells #[.int .i64 0, .int .i64 0] 25)) (TokB 4 a 0 ⟨#[]⟩))
    rw [e2] at B10
    have L3 := Lib.hid (LB.out.alloc LB.out.size (.cells (TokB 4 a 0 ⟨#[]⟩).toArray 37))
    have D6 := Lib.hid (B6.out.alloc (.cells (TokB 4 a 0 ⟨#[]⟩).toArray 37))
    have D8 := Lib.hid (B8.out.alloc (.cells (TokB 4 a 0 ⟨#[]⟩).toArray 37))
    unfold TokB at B10 L3 D6 D8
    unfold maxLen at hs
    have hcl : ((c.toNat : Int) == 10) = decide (c = 10) := eq_dec c 10 (by omega)
    clear hrl hcb hn hf h0 h4 e1 e2 hct hu B6 B8 LB ha
    generalize hr : restB s a = r at *
    have HR := Lib.hid hr
    go_enter Tryd.func14, Tryd.ntmps14
    go_wp2_with fail
    rw [show s.extract a s.size = r from hr]
    refine (H1.out _).mono ?_
    rintro e w1 ⟨rfl, rfl⟩
    clear hr
    go_wp2_with fail
    refine (HL.out _).mono ?_
    rintro e w1 ⟨rfl, rfl⟩
    generalize hw3 : (((w.alloc (.cells #[.int .i64 0, .int .i64 0, .int .i64 0, .slice none 0 0, .string ⟨#[]⟩] 37)).alloc (.cells #[.int .i64 0, .int .i64 0] 25)).alloc (.cells #[.int .i64 4, .int .i64 (a : Int), .int .i64 0, .slice none 0 0, .string ⟨#[]⟩] 37)) = w3 at *
    have C6 : Hid (Bk 37 w3 w.heap.size [.int .i64 0, .int .i64 0, .int .i64 0, .slice none 0 0, .string ⟨#[]⟩]) := Lib.hid D6.out
    have C8 : Hid (Bk 25 w3 (w.heap.size + 1) [.int .i64 0, .int .i64 0]) := Lib.hid D8.out
    have C10 : Hid (Bk 37 w3 (w.heap.size + 1 + 1) [.int .i64 4, .int .i64 (a : Int), .int .i64 0, .slice none 0 0, .string ⟨#[]⟩]) := Lib.hid B10.out
    have L4 : Hid (Below w.heap.size w w3) := Lib.hid L3.out
    clear hw3 D6 D8 B10 L3
    by_cases hu0 : u = 0
    · have g1 : decide ((0 : Int) < (u : Int)) = false := by simp; omega
      have g2 : decide (0 < u) = false := by simp; omega
      have HU0 := Lib.hid hu0
      clear hu0
      by_cases h10 : c = 10
      · rw [decide_eq_true h10] at hcl
        have H10 := Lib.hid h10
        have hsum : IntKind.i64.wrap ((a : Int) + 1) = (a : Int) + 1 := IntWalk.i64_in _ (by have := HA.out; omega)
        clear h10
        obtain ⟨y0, y1, y2, y3, y4, z0, z1⟩ : w3.cell? ⟨w.heap.size, 0, none⟩ = some (.int .i64 0) ∧ w3.cell? ⟨w.heap.size, 1, none⟩ = some (.int .i64 0) ∧ w3.cell? ⟨w.heap.size, 2, none⟩ = some (.int .i64 0) ∧ w3.cell? ⟨w.heap.size, 3, none⟩ = some (.slice none 0 0) ∧ w3.cell? ⟨w.heap.size, 4, none⟩ = some (.string ⟨#[]⟩) ∧ w3.cell? ⟨w.heap.size + 1, 0, none⟩ = some (.int .i64 0) ∧ w3.cell? ⟨w.heap.size + 1, 1, none⟩ = some (.int .i64 0) := ⟨C6.out.c 0, C6.out.c 1, C6.out.c 2, C6.out.c 3, C6.out.c 4, C8.out.c 0, C8.out.c 1⟩
        obtain ⟨yf0, yf1, yf2, yf3, yf4, zf0, zf1⟩ : w3.frozen? ⟨w.heap.size, 0, none⟩ = false ∧ w3.frozen? ⟨w.heap.size, 1, none⟩ = false ∧ w3.frozen? ⟨w.heap.size, 2, none⟩ = false ∧ w3.frozen? ⟨w.heap.size, 3, none⟩ = false ∧ w3.frozen? ⟨w.heap.size, 4, none⟩ = false ∧ w3.frozen? ⟨w.heap.size + 1, 0, none⟩ = false ∧ w3.frozen? ⟨w.heap.size + 1, 1, none⟩ = false := ⟨C6.out.f 0, C6.out.f 1, C6.out.f 2, C6.out.f 3, C6.out.f 4, C8.out.f 0, C8.out.f 1⟩
        obtain ⟨x0, x1, x2, x3, x4⟩ : w3.cell? ⟨w.heap.size + 1 + 1, 0, none⟩ = some (.int .i64 4) ∧ w3.cell? ⟨w.heap.size + 1 + 1, 1, none⟩ = some (.int .i64 (a : Int)) ∧ w3.cell? ⟨w.heap.size + 1 + 1, 2, none⟩ = some (.int .i64 0) ∧ w3.cell? ⟨w.heap.size + 1 + 1, 3, none⟩ = some (.slice none 0 0) ∧ w3.cell? ⟨w.heap.size + 1 + 1, 4, none⟩ = some (.string ⟨#[]⟩) := ⟨C10.out.c 0, C10.out.c 1, C10.out.c 2, C10.out.c 3, C10.out.c 4⟩
        obtain ⟨xf0, xf1, xf2, xf3, xf4⟩ : w3.frozen? ⟨w.heap.size + 1 + 1, 0, none⟩ = false ∧ w3.frozen? ⟨w.heap.size + 1 + 1, 1, none⟩ = false ∧ w3.frozen? ⟨w.heap.size + 1 + 1, 2, none⟩ = false ∧ w3.frozen? ⟨w.heap.size + 1 + 1, 3, none⟩ = false ∧ w3.frozen? ⟨w.heap.size + 1 + 1, 4, none⟩ = false := ⟨C10.out.f 0, C10.out.f 1, C10.out.f 2, C10.out.f 3, C10.out.f 4⟩
        cases full with
        | true =>
          have hts : ts.length = 400 := by have := HF.out; simpa using this
          clear HF
          have HTS := Lib.hid hts; clear hts
          go_wp2
          refine bodyPost_ret (res_ctc Tryd.results14 _ rfl rfl (wSet_6 (C6.out.far (p := ⟨w.heap.size + 1 + 1, 0, none⟩) (show w.heap.size ≠ w.heap.size + 1 + 1 by omega) _) (by omega)) (wSet_8 (C8.out.far (p := ⟨w.heap.size + 1 + 1, 0, none⟩) (show w.heap.size + 1 ≠ w.heap.size + 1 + 1 by omega) _) (by omega))) rfl ?_
          exact ⟨(⟨5, a, 0, [], []⟩, (none, 0)), a, 8, a, rfl, wSet_below (L4.out.setCell (p := ⟨w.heap.size + 1 + 1, 0, none⟩) (show w.heap.size ≤ w.heap.size + 1 + 1 by omega) _) (Nat.le_refl _) (by omega), .inr ⟨by omega, nx_full (p := (a + 1)) (by rw [HSL.out]; exact HA.out) (.inr (.inl ⟨by rw [HCT.out, H10.out]; exact cls_end, rfl⟩)) HTS.out rfl⟩⟩
        | false =>
          have hts : ts.length ≠ 400 := by have := HF.out; simpa using this
          clear HF
          have HTS := Lib.hid hts; clear hts
          go_wp2
          refine bodyPost_ret (res_ctc Tryd.results14 _ rfl rfl (wSet_6 (C6.out.far (p := ⟨w.heap.size + 1 + 1, 0, none⟩) (show w.heap.size ≠ w.heap.size + 1 + 1 by omega) _) (by omega)) (wSet_8 (C8.out.far (p := ⟨w.heap.size + 1 + 1, 0, none⟩) (show w.heap.size + 1 ≠ w.heap.size + 1 + 1 by omega) _) (by omega))) rfl ?_
          exact ⟨(⟨5, a, 0, [], []⟩, (none, 0)), (a + 1), 0, 0, by rw [Int.natCast_add]; rfl, wSet_below (L4.out.setCell (p := ⟨w.heap.size + 1 + 1, 0, none⟩) (show w.heap.size ≤ w.heap.size + 1 + 1 by omega) _) (Nat.le_refl _) (by omega), .inl ⟨rfl, rfl, World.ownsRow_nil _ _ _ _, nx_ok (by rw [HSL.out]; exact HA.out) (.inr (.inl ⟨by rw [HCT.out, H10.out]; exact cls_end, rfl⟩)) HTS.out (by show _ ≠ _; simp) rfl⟩⟩
      · rw [decide_eq_false h10] at hcl
        have H10 := Lib.hid h10
        clear h10
        go_wp2_with fail
        refine (HFI.out _).mono ?_
        rintro e w4 ⟨cc, n, rfl, hfi, hb4⟩
        rw [HRL.out] at hfi
        have HFF := Lib.hid hfi
        have M6 := Lib.hid (C6.out.next hb4)
        have M8 := Lib.hid (C8.out.next hb4)
        have M10 := Lib.hid (C10.out.next hb4)
        have L5 := Lib.hid (Gl.below_next L4.out hb4)
        have HZ := Lib.hid (first_zero hfi)
        have hpos : cc ≠ 0 → a + n ≤ s.size := fun h => by have := (first_pos hfi h).2; rw [List.length_drop, HSL.out] at this; have := HA.out; omega
        clear hfi hb4 C6 C8 C10 L4
        obtain ⟨y0, y1, y2, y3, y4, z0, z1⟩ : w4.cell? ⟨w.heap.size, 0, none⟩ = some (.int .i64 0) ∧ w4.cell? ⟨w.heap.size, 1, none⟩ = some (.int .i64 0) ∧ w4.cell? ⟨w.heap.size, 2, none⟩ = some (.int .i64 0) ∧ w4.cell? ⟨w.heap.size, 3, none⟩ = some (.slice none 0 0) ∧ w4.cell? ⟨w.heap.size, 4, none⟩ = some (.string ⟨#[]⟩) ∧ w4.cell? ⟨w.heap.size + 1, 0, none⟩ = some (.int .i64 0) ∧ w4.cell? ⟨w.heap.size + 1, 1, none⟩ = some (.int .i64 0) := ⟨M6.out.c 0, M6.out.c 1, M6.out.c 2, M6.out.c 3, M6.out.c 4, M8.out.c 0, M8.out.c 1⟩
        obtain ⟨yf0, yf1, yf2, yf3, yf4, zf0, zf1⟩ : w4.frozen? ⟨w.heap.size, 0, none⟩ = false ∧ w4.frozen? ⟨w.heap.size, 1, none⟩ = false ∧ w4.frozen? ⟨w.heap.size, 2, none⟩ = false ∧ w4.frozen? ⟨w.heap.size, 3, none⟩ = false ∧ w4.frozen? ⟨w.heap.size, 4, none⟩ = false ∧ w4.frozen? ⟨w.heap.size + 1, 0, none⟩ = false ∧ w4.frozen? ⟨w.heap.size + 1, 1, none⟩ = false := ⟨M6.out.f 0, M6.out.f 1, M6.out.f 2, M6.out.f 3, M6.out.f 4, M8.out.f 0, M8.out.f 1⟩
        obtain ⟨x0, x1, x2, x3, x4⟩ : w4.cell? ⟨w.heap.size + 1 + 1, 0, none⟩ = some (.int .i64 4) ∧ w4.cell? ⟨w.heap.size + 1 + 1, 1, none⟩ = some (.int .i64 (a : Int)) ∧ w4.cell? ⟨w.heap.size + 1 + 1, 2, none⟩ = some (.int .i64 0) ∧ w4.cell? ⟨w.heap.size + 1 + 1, 3, none⟩ = some (.slice none 0 0) ∧ w4.cell? ⟨w.heap.size + 1 + 1, 4, none⟩ = some (.string ⟨#[]⟩) := ⟨M10.out.c 0, M10.out.c 1, M10.out.c 2, M10.out.c 3, M10.out.c 4⟩
        obtain ⟨xf0, xf1, xf2, xf3, xf4⟩ : w4.frozen? ⟨w.heap.size + 1 + 1, 0, none⟩ = false ∧ w4.frozen? ⟨w.heap.size + 1 + 1, 1, none⟩ = false ∧ w4.frozen? ⟨w.heap.size + 1 + 1, 2, none⟩ = false ∧ w4.frozen? ⟨w.heap.size + 1 + 1, 3, none⟩ = false ∧ w4.frozen? ⟨w.heap.size + 1 + 1, 4, none⟩ = false := ⟨M10.out.f 0, M10.out.f 1, M10.out.f 2, M10.out.f 3, M10.out.f 4⟩
        by_cases hn0 : n = 0
        · have b0 : ((n : Int) == 0) = true := by rw [hn0]; rfl
          have HC0 := Lib.hid (HZ.out.2 hn0)
          clear hn0 hpos
          go_wp2
          refine bodyPost_ret (res_ctc Tryd.results14 _ rfl rfl (wSet_6 (M6.out.far (p := ⟨w.heap.size + 1 + 1, 2, none⟩) (show w.heap.size ≠ w.heap.size + 1 + 1 by omega) _) (by omega)) (wSet_8 (M8.out.far (p := ⟨w.heap.size + 1 + 1, 2, none⟩) (show w.heap.size + 1 ≠ w.heap.size + 1 + 1 by omega) _) (by omega))) rfl ?_
          exact ⟨(⟨4, a, cc, [], []⟩, (none, 0)), a, 6, a, rfl, wSet_below (L5.out.setCell (p := ⟨w.heap.size + 1 + 1, 2, none⟩) (show w.heap.size ≤ w.heap.size + 1 + 1 by omega) _) (Nat.le_refl _) (by omega), .inr ⟨by omega, .bad (by rw [HSL.out]; exact HA.out) (.inr (.inr (.inr (.inr (.inr ⟨by rw [HCT.out]; exact cls_sign (by rw [← HCT.out]; exact H0.out) (by rw [← HCT.out]; exact H4.out) (by rw [← HCT.out]; exact HCB.out) (by rw [HU.out]; exact HU0.out) H10.out, cc, n, HFF.out, by unfold signO; rw [if_pos HC0.out]⟩)))))⟩⟩
        · have b0 : ((n : Int) == 0) = false := by simp; omega
          have hc0' : cc ≠ 0 := fun h => hn0 (HZ.out.1 h)
          have hpos := hpos hc0'
          have HC0 := Lib.hid hc0'
          have hsum : IntKind.i64.wrap ((a : Int) + (n : Int)) = (a : Int) + (n : Int) := IntWalk.i64_in _ (by omega)
          clear hn0 hc0'
          by_cases h43 : cc = 43
          · have b43 : ((cc : Int) == 43) = true := by rw [h43]; rfl
            have H43 := Lib.hid h43
            clear h43
            cases full with
            | true =>
              have hts : ts.length = 400 := by have := HF.out; simpa using this
              clear HF
              have HTS := Lib.hid hts; clear hts
              go_wp2
              refine bodyPost_ret (res_ctc Tryd.results14 _ rfl rfl (wSet_6 ((((((M6.out.far (p := ⟨w.heap.size + 1 + 1, 2, none⟩) (show w.heap.size ≠ w.heap.size + 1 + 1 by omega) _).far (p := ⟨w.heap.size + 1 + 1, 0, none⟩) (show w.heap.size ≠ w.heap.size + 1 + 1 by omega) _).far (p := ⟨w.heap.size + 1 + 1, 1, none⟩) (show w.heap.size ≠ w.heap.size + 1 + 1 by omega) _).far (p := ⟨w.heap.size + 1 + 1, 2, none⟩) (show w.heap.size ≠ w.heap.size + 1 + 1 by omega) _).far (p := ⟨w.heap.size + 1 + 1, 3, none⟩) (show w.heap.size ≠ w.heap.size + 1 + 1 by omega) _).far (p := ⟨w.heap.size + 1 + 1, 4, none⟩) (show w.heap.size ≠ w.heap.size + 1 + 1 by omega) _) (by omega)) (wSet_8 ((((((M8.out.far (p := ⟨w.heap.size + 1 + 1, 2, none⟩) (show w.heap.size + 1 ≠ w.heap.size + 1 + 1 by omega) _).far (p := ⟨w.heap.size + 1 + 1, 0, none⟩) (show w.heap.size + 1 ≠ w.heap.size + 1 + 1 by omega) _).far (p := ⟨w.heap.size + 1 + 1, 1, none⟩) (show w.heap.size + 1 ≠ w.heap.size + 1 + 1 by omega) _).far (p := ⟨w.heap.size + 1 + 1, 2, none⟩) (show w.heap.size + 1 ≠ w.heap.size + 1 + 1 by omega) _).far (p := ⟨w.heap.size + 1 + 1, 3, none⟩) (show w.heap.size + 1 ≠ w.heap.size + 1 + 1 by omega) _).far (p := ⟨w.heap.size + 1 + 1, 4, none⟩) (show w.heap.size + 1 ≠ w.heap.size + 1 + 1 by omega) _) (by omega))) rfl ?_
              exact ⟨(⟨5, a, 0, [], []⟩, (none, 0)), a, 8, a, rfl, wSet_below ((((((L5.out.setCell (p := ⟨w.heap.size + 1 + 1, 2, none⟩) (show w.heap.size ≤ w.heap.size + 1 + 1 by omega) _).setCell (p := ⟨w.heap.size + 1 + 1, 0, none⟩) (show w.heap.size ≤ w.heap.size + 1 + 1 by omega) _).setCell (p := ⟨w.heap.size + 1 + 1, 1, none⟩) (show w.heap.size ≤ w.heap.size + 1 + 1 by omega) _).setCell (p := ⟨w.heap.size + 1 + 1, 2, none⟩) (show w.heap.size ≤ w.heap.size + 1 + 1 by omega) _).setCell (p := ⟨w.heap.size + 1 + 1, 3, none⟩) (show w.heap.size ≤ w.heap.size + 1 + 1 by omega) _).setCell (p := ⟨w.heap.size + 1 + 1, 4, none⟩) (show w.heap.size ≤ w.heap.size + 1 + 1 by omega) _) (Nat.le_refl _) (by omega), .inr ⟨by omega, nx_full (p := (a + n)) (by rw [HSL.out]; exact HA.out) (.inr (.inr (.inr (.inr (.inr ⟨by rw [HCT.out]; exact cls_sign (by rw [← HCT.out]; exact H0.out) (by rw [← HCT.out]; exact H4.out) (by rw [← HCT.out]; exact HCB.out) (by rw [HU.out]; exact HU0.out) H10.out, cc, n, HFF.out, by unfold signO; rw [if_neg HC0.out, if_pos H43.out]⟩))))) HTS.out rfl⟩⟩
            | false =>
              have hts : ts.length ≠ 400 := by have := HF.out; simpa using this
              clear HF
              have HTS := Lib.hid hts; clear hts
              go_wp2
              refine bodyPost_ret (res_ctc Tryd.results14 _ rfl rfl (wSet_6 ((((((M6.out.far (p := ⟨w.heap.size + 1 + 1, 2, none⟩) (show w.heap.size ≠ w.heap.size + 1 + 1 by omega) _).far (p := ⟨w.heap.size + 1 + 1, 0, none⟩) (show w.heap.size ≠ w.heap.size + 1 + 1 by omega) _).far (p := ⟨w.heap.size + 1 + 1, 1, none⟩) (show w.heap.size ≠ w.heap.size + 1 + 1 by omega) _).far (p := ⟨w.heap.size + 1 + 1, 2, none⟩) (show w.heap.size ≠ w.heap.size + 1 + 1 by omega) _).far (p := ⟨w.heap.size + 1 + 1, 3, none⟩) (show w.heap.size ≠ w.heap.size + 1 + 1 by omega) _).far (p := ⟨w.heap.size + 1 + 1, 4, none⟩) (show w.heap.size ≠ w.heap.size + 1 + 1 by omega) _) (by omega)) (wSet_8 ((((((M8.out.far (p := ⟨w.heap.size + 1 + 1, 2, none⟩) (show w.heap.size + 1 ≠ w.heap.size + 1 + 1 by omega) _).far (p := ⟨w.heap.size + 1 + 1, 0, none⟩) (show w.heap.size + 1 ≠ w.heap.size + 1 + 1 by omega) _).far (p := ⟨w.heap.size + 1 + 1, 1, none⟩) (show w.heap.size + 1 ≠ w.heap.size + 1 + 1 by omega) _).far (p := ⟨w.heap.size + 1 + 1, 2, none⟩) (show w.heap.size + 1 ≠ w.heap.size + 1 + 1 by omega) _).far (p := ⟨w.heap.size + 1 + 1, 3, none⟩) (show w.heap.size + 1 ≠ w.heap.size + 1 + 1 by omega) _).far (p := ⟨w.heap.size + 1 + 1, 4, none⟩) (show w.heap.size + 1 ≠ w.heap.size + 1 + 1 by omega) _) (by omega))) rfl ?_
              exact ⟨(⟨5, a, 0, [], []⟩, (none, 0)), (a + n), 0, 0, by rw [Int.natCast_add]; rfl, wSet_below ((((((L5.out.setCell (p := ⟨w.heap.size + 1 + 1, 2, none⟩) (show w.heap.size ≤ w.heap.size + 1 + 1 by omega) _).setCell (p := ⟨w.heap.size + 1 + 1, 0, none⟩) (show w.heap.size ≤ w.heap.size + 1 + 1 by omega) _).setCell (p := ⟨w.heap.size + 1 + 1, 1, none⟩) (show w.heap.size ≤ w.heap.size + 1 + 1 by omega) _).setCell (p := ⟨w.heap.size + 1 + 1, 2, none⟩) (show w.heap.size ≤ w.heap.size + 1 + 1 by omega) _).setCell (p := ⟨w.heap.size + 1 + 1, 3, none⟩) (show w.heap.size ≤ w.heap.size + 1 + 1 by omega) _).setCell (p := ⟨w.heap.size + 1 + 1, 4, none⟩) (show w.heap.size ≤ w.heap.size + 1 + 1 by omega) _) (Nat.le_refl _) (by omega), .inl ⟨rfl, rfl, World.ownsRow_nil _ _ _ _, nx_ok (by rw [HSL.out]; exact HA.out) (.inr (.inr (.inr (.inr (.inr ⟨by rw [HCT.out]; exact cls_sign (by rw [← HCT.out]; exact H0.out) (by rw [← HCT.out]; exact H4.out) (by rw [← HCT.out]; exact HCB.out) (by rw [HU.out]; exact HU0.out) H10.out, cc, n, HFF.out, by unfold signO; rw [if_neg HC0.out, if_pos H43.out]⟩))))) HTS.out (by show _ ≠ _; simp) rfl⟩⟩
          · have b43 : ((cc : Int) == 43) = false := by simp; omega
            have H43 := Lib.hid h43
            clear h43
            cases full with
            | true =>
              have hts : ts.length = 400 := by have := HF.out; simpa using this
              clear HF
              have HTS := Lib.hid hts; clear hts
              go_wp2
              refine bodyPost_ret (res_ctc Tryd.results14 _ rfl rfl (wSet_6 (M6.out.far (p := ⟨w.heap.size + 1 + 1, 2, none⟩) (show w.heap.size ≠ w.heap.size + 1 + 1 by omega) _) (by omega)) (wSet_8 (M8.out.far (p := ⟨w.heap.size + 1 + 1, 2, none⟩) (show w.heap.size + 1 ≠ w.heap.size + 1 + 1 by omega) _) (by omega))) rfl ?_
              exact ⟨(⟨4, a, cc, [], []⟩, (none, 0)), a, 8, a, rfl, wSet_below (L5.out.setCell (p := ⟨w.heap.size + 1 + 1, 2, none⟩) (show w.heap.size ≤ w.heap.size + 1 + 1 by omega) _) (Nat.le_refl _) (by omega), .inr ⟨by omega, nx_full (p := (a + n)) (by rw [HSL.out]; exact HA.out) (.inr (.inr (.inr (.inr (.inr ⟨by rw [HCT.out]; exact cls_sign (by rw [← HCT.out]; exact H0.out) (by rw [← HCT.out]; exact H4.out) (by rw [← HCT.out]; exact HCB.out) (by rw [HU.out]; exact HU0.out) H10.out, cc, n, HFF.out, by unfold signO; rw [if_neg HC0.out, if_neg H43.out]⟩))))) HTS.out rfl⟩⟩
            | false =>
              have hts : ts.length ≠ 400 := by have := HF.out; simpa using this
              clear HF
              have HTS := Lib.hid hts; clear hts
              go_wp2
              refine bodyPost_ret (res_ctc Tryd.results14 _ rfl rfl (wSet_6 (M6.out.far (p := ⟨w.heap.size + 1 + 1, 2, none⟩) (show w.heap.size ≠ w.heap.size + 1 + 1 by omega) _) (by omega)) (wSet_8 (M8.out.far (p := ⟨w.heap.size + 1 + 1, 2, none⟩) (show w.heap.size + 1 ≠ w.heap.size + 1 + 1 by omega) _) (by omega))) rfl ?_
              exact ⟨(⟨4, a, cc, [], []⟩, (none, 0)), (a + n), 0, 0, by rw [Int.natCast_add]; rfl, wSet_below (L5.out.setCell (p := ⟨w.heap.size + 1 + 1, 2, none⟩) (show w.heap.size ≤ w.heap.size + 1 + 1 by omega) _) (Nat.le_refl _) (by omega), .inl ⟨rfl, rfl, World.ownsRow_nil _ _ _ _, nx_ok (by rw [HSL.out]; exact HA.out) (.inr (.inr (.inr (.inr (.inr ⟨by rw [HCT.out]; exact cls_sign (by rw [← HCT.out]; exact H0.out) (by rw [← HCT.out]; exact H4.out) (by rw [← HCT.out]; exact HCB.out) (by rw [HU.out]; exact HU0.out) H10.out, cc, n, HFF.out, by unfold signO; rw [if_neg HC0.out, if_neg H43.out]⟩))))) HTS.out (by show _ ≠ _; simp) rfl⟩⟩
    · have g1 : decide ((0 : Int) < (u : Int)) = true := by simp; omega
      have g2 : decide (0 < u) = true := by simp; omega
      have HU0 := Lib.hid hu0
      clear hu0 hcl
      go_wp2_with fail
      go_loop [11] (fun i => ∃ k : Nat, k ≤ r.size ∧ i = .int .i64 (k : Int) ∧ (r.data.toList.take k).all anB = true) (fun i => r.size - (intOf i).toNat)
      case atStart => exact ⟨0, Nat.zero_le _, rfl, by simp⟩
      case round =>
        obtain ⟨k, hk, rfl, hal⟩ := hrel
        have HAL := Lib.hid hal
        clear hal
        by_cases hlt : k < r.size
        · have HBK := Lib.hid (Gl.at_list r k hlt)
          have tl : decide (k < r.size) = true := by simp [hlt]
          obtain ⟨v, hv⟩ : ∃ v, letN r[k] = v := ⟨_, rfl⟩
          have HLK := Lib.hid (fun W => rletter_n r[k] v W hv)
          by_cases hv0 : v = 0
          · have HK := Lib.hid (show runA (s.data.toList.drop a) = k by rw [← HRL.out]; exact runA_hit HAL.out HBK.out ((letN_an r[k]).1.1 (by rw [hv]; exact hv0)))
            have q1 : decide ((0 : Int) < (v : Int)) = false := by simp; omega
            have q2 : decide (0 < v) = false := by simp; omega
            clear hv hv0
            go_wp2_with fail
            refine (HLK.out _).mono ?_
            rintro e w'' ⟨rfl, rfl⟩
            obtain ⟨N0, hN0⟩ : ∃ N0, r.extract 0 k = N0 := ⟨_, rfl⟩
            have HN0 : Hid (N0.data.toList = (s.data.toList.drop a).take (runA (s.data.toList.drop a))) := Lib.hid (by rw [← hN0, Dg.ext_list, List.drop_zero, Nat.sub_zero, HRL.out, ← HK.out])
            obtain ⟨kd, hkd⟩ : ∃ kd, namedN N0.data.toList = kd := ⟨_, rfl⟩
            have HKD := Lib.hid hkd
            have HKV := named_vals N0.data.toList
            rw [hkd] at HKV
            have HNK : Hid (∀ W, Calls Tryd.prog 8 #[.string N0] W fun e w' => e = .returned (.int .i64 (kd : Int)) ∧ W = w') := Lib.hid (fun W => by have h := HNA.out k W; rw [hN0, hkd] at h; exact h)
            have HKW := Lib.hid HKV
            have hak : a + k ≤ s.size := by have := HRS.out; omega
            have hsum : IntKind.i64.wrap ((a : Int) + (k : Int)) = (a : Int) + (k : Int) := IntWalk.i64_in _ (by omega)
            have HNM : Hid (nm ((s.data.toList.drop a).take (runA (s.data.toList.drop a))) = N0) := Lib.hid (by rw [← HN0.out]; simp [nm])
            have HEX := Lib.hid hN0
            clear hkd HKV hN0
            obtain ⟨y0, y1, y2, y3, y4, z0, z1⟩ : w3.cell? ⟨w.heap.size, 0, none⟩ = some (.int .i64 0) ∧ w3.cell? ⟨w.heap.size, 1, none⟩ = some (.int .i64 0) ∧ w3.cell? ⟨w.heap.size, 2, none⟩ = some (.int .i64 0) ∧ w3.cell? ⟨w.heap.size, 3, none⟩ = some (.slice none 0 0) ∧ w3.cell? ⟨w.heap.size, 4, none⟩ = some (.string ⟨#[]⟩) ∧ w3.cell? ⟨w.heap.size + 1, 0, none⟩ = some (.int .i64 0) ∧ w3.cell? ⟨w.heap.size + 1, 1, none⟩ = some (.int .i64 0) := ⟨C6.out.c 0, C6.out.c 1, C6.out.c 2, C6.out.c 3, C6.out.c 4, C8.out.c 0, C8.out.c 1⟩
            obtain ⟨yf0, yf1, yf2, yf3, yf4, zf0, zf1⟩ : w3.frozen? ⟨w.heap.size, 0, none⟩ = false ∧ w3.frozen? ⟨w.heap.size, 1, none⟩ = false ∧ w3.frozen? ⟨w.heap.size, 2, none⟩ = false ∧ w3.frozen? ⟨w.heap.size, 3, none⟩ = false ∧ w3.frozen? ⟨w.heap.size, 4, none⟩ = false ∧ w3.frozen? ⟨w.heap.size + 1, 0, none⟩ = false ∧ w3.frozen? ⟨w.heap.size + 1, 1, none⟩ = false := ⟨C6.out.f 0, C6.out.f 1, C6.out.f 2, C6.out.f 3, C6.out.f 4, C8.out.f 0, C8.out.f 1⟩
            obtain ⟨x0, x1, x2, x3, x4⟩ : w3.cell? ⟨w.heap.size + 1 + 1, 0, none⟩ = some (.int .i64 4) ∧ w3.cell? ⟨w.heap.size + 1 + 1, 1, none⟩ = some (.int .i64 (a : Int)) ∧ w3.cell? ⟨w.heap.size + 1 + 1, 2, none⟩ = some (.int .i64 0) ∧ w3.cell? ⟨w.heap.size + 1 + 1, 3, none⟩ = some (.slice none 0 0) ∧ w3.cell? ⟨w.heap.size + 1 + 1, 4, none⟩ = some (.string ⟨#[]⟩) := ⟨C10.out.c 0, C10.out.c 1, C10.out.c 2, C10.out.c 3, C10.out.c 4⟩
            obtain ⟨xf0, xf1, xf2, xf3, xf4⟩ : w3.frozen? ⟨w.heap.size + 1 + 1, 0, none⟩ = false ∧ w3.frozen? ⟨w.heap.size + 1 + 1, 1, none⟩ = false ∧ w3.frozen? ⟨w.heap.size + 1 + 1, 2, none⟩ = false ∧ w3.frozen? ⟨w.heap.size + 1 + 1, 3, none⟩ = false ∧ w3.frozen? ⟨w.heap.size + 1 + 1, 4, none⟩ = false := ⟨C10.out.f 0, C10.out.f 1, C10.out.f 2, C10.out.f 3, C10.out.f 4⟩
            go_wp2_with fail
            rw [show r.extract 0 k = N0 from HEX.out]
            refine (HNK.out _).mono ?_
            rintro e w5 ⟨rfl, rfl⟩
            by_cases hk0 : kd = 0
            · have HK0 := Lib.hid hk0
              have b0 : ((kd : Int) == 0) = true := by rw [hk0]; rfl
              clear hk0
              go_wp2
              refine bodyPost_ret (res_ctc Tryd.results14 _ rfl rfl (wSet_6 ((C6.out.far (p := ⟨w.heap.size + 1 + 1, 4, none⟩) (show w.heap.size ≠ w.heap.size + 1 + 1 by omega) _).far (p := ⟨w.heap.size + 1 + 1, 0, none⟩) (show w.heap.size ≠ w.heap.size + 1 + 1 by omega) _) (by omega)) (wSet_8 ((C8.out.far (p := ⟨w.heap.size + 1 + 1, 4, none⟩) (show w.heap.size + 1 ≠ w.heap.size + 1 + 1 by omega) _).far (p := ⟨w.heap.size + 1 + 1, 0, none⟩) (show w.heap.size + 1 ≠ w.heap.size + 1 + 1 by omega) _) (by omega))) rfl ?_
              exact ⟨(⟨kd, a, 0, [], (s.data.toList.drop a).take (runA (s.data.toList.drop a))⟩, (none, 0)), a, 11, a, by rw [HNM.out]; rfl, wSet_below ((L4.out.setCell (p := ⟨w.heap.size + 1 + 1, 4, none⟩) (show w.heap.size ≤ w.heap.size + 1 + 1 by omega) _).setCell (p := ⟨w.heap.size + 1 + 1, 0, none⟩) (show w.heap.size ≤ w.heap.size + 1 + 1 by omega) _) (Nat.le_refl _) (by omega), .inr ⟨by omega, .bad (by rw [HSL.out]; exact HA.out) (.inr (.inr (.inr (.inl ⟨by rw [HCT.out]; exact cls_name (by rw [← HCT.out]; exact HCB.out) (by rw [HU.out]; exact HU0.out), by unfold nameO; rw [if_pos (by rw [← HN0.out, HKD.out]; exact HK0.out)]⟩))))⟩⟩
            · have HK0 := Lib.hid hk0
              have b0 : ((kd : Int) == 0) = false := by simp; omega
              clear hk0
              cases full with
              | true =>
                have hts : ts.length = 400 := by have := HF.out; simpa using this
                clear HF
                have HTS := Lib.hid hts; clear hts
                go_wp2
                refine bodyPost_ret (res_ctc Tryd.results14 _ rfl rfl (wSet_6 ((C6.out.far (p := ⟨w.heap.size + 1 + 1, 4, none⟩) (show w.heap.size ≠ w.heap.size + 1 + 1 by omega) _).far (p := ⟨w.heap.size + 1 + 1, 0, none⟩) (show w.heap.size ≠ w.heap.size + 1 + 1 by omega) _) (by omega)) (wSet_8 ((C8.out.far (p := ⟨w.heap.size + 1 + 1, 4, none⟩) (show w.heap.size + 1 ≠ w.heap.size + 1 + 1 by omega) _).far (p := ⟨w.heap.size + 1 + 1, 0, none⟩) (show w.heap.size + 1 ≠ w.heap.size + 1 + 1 by omega) _) (by omega))) rfl ?_
                exact ⟨(⟨kd, a, 0, [], (s.data.toList.drop a).take (runA (s.data.toList.drop a))⟩, (none, 0)), a, 8, a, by rw [HNM.out]; rfl, wSet_below ((L4.out.setCell (p := ⟨w.heap.size + 1 + 1, 4, none⟩) (show w.heap.size ≤ w.heap.size + 1 + 1 by omega) _).setCell (p := ⟨w.heap.size + 1 + 1, 0, none⟩) (show w.heap.size ≤ w.heap.size + 1 + 1 by omega) _) (Nat.le_refl _) (by omega), .inr ⟨by omega, nx_full (p := (a + k)) (by rw [HSL.out]; exact HA.out) (.inr (.inr (.inr (.inl ⟨by rw [HCT.out]; exact cls_name (by rw [← HCT.out]; exact HCB.out) (by rw [HU.out]; exact HU0.out), by unfold nameO; rw [if_neg (by rw [← HN0.out, HKD.out]; exact HK0.out), ← HN0.out, HKD.out, HN0.out, HK.out]⟩)))) HTS.out rfl⟩⟩
              | false =>
                have hts : ts.length ≠ 400 := by have := HF.out; simpa using this
                clear HF
                have HTS := Lib.hid hts; clear hts
                go_wp2
                refine bodyPost_ret (res_ctc Tryd.results14 _ rfl rfl (wSet_6 ((C6.out.far (p := ⟨w.heap.size + 1 + 1, 4, none⟩) (show w.heap.size ≠ w.heap.size + 1 + 1 by omega) _).far (p := ⟨w.heap.size + 1 + 1, 0, none⟩) (show w.heap.size ≠ w.heap.size + 1 + 1 by omega) _) (by omega)) (wSet_8 ((C8.out.far (p := ⟨w.heap.size + 1 + 1, 4, none⟩) (show w.heap.size + 1 ≠ w.heap.size + 1 + 1 by omega) _).far (p := ⟨w.heap.size + 1 + 1, 0, none⟩) (show w.heap.size + 1 ≠ w.heap.size + 1 + 1 by omega) _) (by omega))) rfl ?_
                exact ⟨(⟨kd, a, 0, [], (s.data.toList.drop a).take (runA (s.data.toList.drop a))⟩, (none, 0)), (a + k), 0, 0, by rw [HNM.out, Int.natCast_add]; rfl, wSet_below ((L4.out.setCell (p := ⟨w.heap.size + 1 + 1, 4, none⟩) (show w.heap.size ≤ w.heap.size + 1 + 1 by omega) _).setCell (p := ⟨w.heap.size + 1 + 1, 0, none⟩) (show w.heap.size ≤ w.heap.size + 1 + 1 by omega) _) (Nat.le_refl _) (by omega), .inl ⟨rfl, rfl, World.ownsRow_nil _ _ _ _, nx_ok (by rw [HSL.out]; exact HA.out) (.inr (.inr (.inr (.inl ⟨by rw [HCT.out]; exact cls_name (by rw [← HCT.out]; exact HCB.out) (by rw [HU.out]; exact HU0.out), by unfold nameO; rw [if_neg (by rw [← HN0.out, HKD.out]; exact HK0.out), ← HN0.out, HKD.out, HN0.out, HK.out]⟩)))) HTS.out (by have h0 := HK0.out; have h1 := HKW.out; show kd ≠ 1; omega) rfl⟩⟩
          · have HN := Lib.hid (show anB r[k] = true by
              cases h : anB r[k] with
              | true => rfl
              | false => exact absurd ((letN_an r[k]).1.2 h) (by rw [hv]; exact hv0))
            have q1 : decide ((0 : Int) < (v : Int)) = true := by simp; omega
            have q2 : decide (0 < v) = true := by simp; omega
            clear hv hv0
            go_wp2_with fail
            refine (HLK.out _).mono ?_
            rintro e w'' ⟨rfl, rfl⟩
            go_wp2
            go_round
            case rel => exact ⟨k + 1, by omega, by go_num, all_snocA HAL.out HBK.out HN.out⟩
            case measure => simp [intOf]; omega
        · have tl : decide (k < r.size) = false := by simp; omega
          have HK := Lib.hid (show runA (s.data.toList.drop a) = k by
            have hrl2 : r.data.toList.length = r.size := by simp
            have h := HAL.out
            rw [List.take_of_length_le (by omega)] at h
            rw [← HRL.out, runA_all h]; omega)
          obtain ⟨N0, hN0⟩ : ∃ N0, r.extract 0 k = N0 := ⟨_, rfl⟩
          have HN0 : Hid (N0.data.toList = (s.data.toList.drop a).take (runA (s.data.toList.drop a))) := Lib.hid (by rw [← hN0, Dg.ext_list, List.drop_zero, Nat.sub_zero, HRL.out, ← HK.out])
          obtain ⟨kd, hkd⟩ : ∃ kd, namedN N0.data.toList = kd := ⟨_, rfl⟩
          have HKD := Lib.hid hkd
          have HKV := named_vals N0.data.toList
          rw [hkd] at HKV
          have HNK : Hid (∀ W, Calls Tryd.prog 8 #[.string N0] W fun e w' => e = .returned (.int .i64 (kd : Int)) ∧ W = w') := Lib.hid (fun W => by have h := HNA.out k W; rw [hN0, hkd] at h; exact h)
          have HKW := Lib.hid HKV
          have hak : a + k ≤ s.size := by have := HRS.out; omega
          have hsum : IntKind.i64.wrap ((a : Int) + (k : Int)) = (a : Int) + (k : Int) := IntWalk.i64_in _ (by omega)
          have HNM : Hid (nm ((s.data.toList.drop a).take (runA (s.data.toList.drop a))) = N0) := Lib.hid (by rw [← HN0.out]; simp [nm])
          have HEX := Lib.hid hN0
          clear hkd HKV hN0
          obtain ⟨y0, y1, y2, y3, y4, z0, z1⟩ : w3.cell? ⟨w.heap.size, 0, none⟩ = some (.int .i64 0) ∧ w3.cell? ⟨w.heap.size, 1, none⟩ = some (.int .i64 0) ∧ w3.cell? ⟨w.heap.size, 2, none⟩ = some (.int .i64 0) ∧ w3.cell? ⟨w.heap.size, 3, none⟩ = some (.slice none 0 0) ∧ w3.cell? ⟨w.heap.size, 4, none⟩ = some (.string ⟨#[]⟩) ∧ w3.cell? ⟨w.heap.size + 1, 0, none⟩ = some (.int .i64 0) ∧ w3.cell? ⟨w.heap.size + 1, 1, none⟩ = some (.int .i64 0) := ⟨C6.out.c 0, C6.out.c 1, C6.out.c 2, C6.out.c 3, C6.out.c 4, C8.out.c 0, C8.out.c 1⟩
          obtain ⟨yf0, yf1, yf2, yf3, yf4, zf0, zf1⟩ : w3.frozen? ⟨w.heap.size, 0, none⟩ = false ∧ w3.frozen? ⟨w.heap.size, 1, none⟩ = false ∧ w3.frozen? ⟨w.heap.size, 2, none⟩ = false ∧ w3.frozen? ⟨w.heap.size, 3, none⟩ = false ∧ w3.frozen? ⟨w.heap.size, 4, none⟩ = false ∧ w3.frozen? ⟨w.heap.size + 1, 0, none⟩ = false ∧ w3.frozen? ⟨w.heap.size + 1, 1, none⟩ = false := ⟨C6.out.f 0, C6.out.f 1, C6.out.f 2, C6.out.f 3, C6.out.f 4, C8.out.f 0, C8.out.f 1⟩
          obtain ⟨x0, x1, x2, x3, x4⟩ : w3.cell? ⟨w.heap.size + 1 + 1, 0, none⟩ = some (.int .i64 4) ∧ w3.cell? ⟨w.heap.size + 1 + 1, 1, none⟩ = some (.int .i64 (a : Int)) ∧ w3.cell? ⟨w.heap.size + 1 + 1, 2, none⟩ = some (.int .i64 0) ∧ w3.cell? ⟨w.heap.size + 1 + 1, 3, none⟩ = some (.slice none 0 0) ∧ w3.cell? ⟨w.heap.size + 1 + 1, 4, none⟩ = some (.string ⟨#[]⟩) := ⟨C10.out.c 0, C10.out.c 1, C10.out.c 2, C10.out.c 3, C10.out.c 4⟩
          obtain ⟨xf0, xf1, xf2, xf3, xf4⟩ : w3.frozen? ⟨w.heap.size + 1 + 1, 0, none⟩ = false ∧ w3.frozen? ⟨w.heap.size + 1 + 1, 1, none⟩ = false ∧ w3.frozen? ⟨w.heap.size + 1 + 1, 2, none⟩ = false ∧ w3.frozen? ⟨w.heap.size + 1 + 1, 3, none⟩ = false ∧ w3.frozen? ⟨w.heap.size + 1 + 1, 4, none⟩ = false := ⟨C10.out.f 0, C10.out.f 1, C10.out.f 2, C10.out.f 3, C10.out.f 4⟩
          go_wp2_with fail
          rw [show r.extract 0 k = N0 from HEX.out]
          refine (HNK.out _).mono ?_
          rintro e w5 ⟨rfl, rfl⟩
          by_cases hk0 : kd = 0
          · have HK0 := Lib.hid hk0
            have b0 : ((kd : Int) == 0) = true := by rw [hk0]; rfl
            clear hk0
            go_wp2
            refine bodyPost_ret (res_ctc Tryd.results14 _ rfl rfl (wSet_6 ((C6.out.far (p := ⟨w.heap.size + 1 + 1, 4, none⟩) (show w.heap.size ≠ w.heap.size + 1 + 1 by omega) _).far (p := ⟨w.heap.size + 1 + 1, 0, none⟩) (show w.heap.size ≠ w.heap.size + 1 + 1 by omega) _) (by omega)) (wSet_8 ((C8.out.far (p := ⟨w.heap.size + 1 + 1, 4, none⟩) (show w.heap.size + 1 ≠ w.heap.size + 1 + 1 by omega) _).far (p := ⟨w.heap.size + 1 + 1, 0, none⟩) (show w.heap.size + 1 ≠ w.heap.size + 1 + 1 by omega) _) (by omega))) rfl ?_
            exact ⟨(⟨kd, a, 0, [], (s.data.toList.drop a).take (runA (s.data.toList.drop a))⟩, (none, 0)), a, 11, a, by rw [HNM.out]; rfl, wSet_below ((L4.out.setCell (p := ⟨w.heap.size + 1 + 1, 4, none⟩) (show w.heap.size ≤ w.heap.size + 1 + 1 by omega) _).setCell (p := ⟨w.heap.size + 1 + 1, 0, none⟩) (show w.heap.size ≤ w.heap.size + 1 + 1 by omega) _) (Nat.le_refl _) (by omega), .inr ⟨by omega, .bad (by rw [HSL.out]; exact HA.out) (.inr (.inr (.inr (.inl ⟨by rw [HCT.out]; exact cls_name (by rw [← HCT.out]; exact HCB.out) (by rw [HU.out]; exact HU0.out), by unfold nameO; rw [if_pos (by rw [← HN0.out, HKD.out]; exact HK0.out)]⟩))))⟩⟩
          · have HK0 := Lib.hid hk0
            have b0 : ((kd : Int) == 0) = false := by simp; omega
            clear hk0
            cases full with
            | true =>
              have hts : ts.length = 400 := by have := HF.out; simpa using this
              clear HF
              have HTS := Lib.hid hts; clear hts
              go_wp2
              refine bodyPost_ret (res_ctc Tryd.results14 _ rfl rfl (wSet_6 ((C6.out.far (p := ⟨w.heap.size + 1 + 1, 4, none⟩) (show w.heap.size ≠ w.heap.size + 1 + 1 by omega) _).far (p := ⟨w.heap.size + 1 + 1, 0, none⟩) (show w.heap.size ≠ w.heap.size + 1 + 1 by omega) _) (by omega)) (wSet_8 ((C8.out.far (p := ⟨w.heap.size + 1 + 1, 4, none⟩) (show w.heap.size + 1 ≠ w.heap.size + 1 + 1 by omega) _).far (p := ⟨w.heap.size + 1 + 1, 0, none⟩) (show w.heap.size + 1 ≠ w.heap.size + 1 + 1 by omega) _) (by omega))) rfl ?_
              exact ⟨(⟨kd, a, 0, [], (s.data.toList.drop a).take (runA (s.data.toList.drop a))⟩, (none, 0)), a, 8, a, by rw [HNM.out]; rfl, wSet_below ((L4.out.setCell (p := ⟨w.heap.size + 1 + 1, 4, none⟩) (show w.heap.size ≤ w.heap.size + 1 + 1 by omega) _).setCell (p := ⟨w.heap.size + 1 + 1, 0, none⟩) (show w.heap.size ≤ w.heap.size + 1 + 1 by omega) _) (Nat.le_refl _) (by omega), .inr ⟨by omega, nx_full (p := (a + k)) (by rw [HSL.out]; exact HA.out) (.inr (.inr (.inr (.inl ⟨by rw [HCT.out]; exact cls_name (by rw [← HCT.out]; exact HCB.out) (by rw [HU.out]; exact HU0.out), by unfold nameO; rw [if_neg (by rw [← HN0.out, HKD.out]; exact HK0.out), ← HN0.out, HKD.out, HN0.out, HK.out]⟩)))) HTS.out rfl⟩⟩
            | false =>
              have hts : ts.length ≠ 400 := by have := HF.out; simpa using this
              clear HF
              have HTS := Lib.hid hts; clear hts
              go_wp2
              refine bodyPost_ret (res_ctc Tryd.results14 _ rfl rfl (wSet_6 ((C6.out.far (p := ⟨w.heap.size + 1 + 1, 4, none⟩) (show w.heap.size ≠ w.heap.size + 1 + 1 by omega) _).far (p := ⟨w.heap.size + 1 + 1, 0, none⟩) (show w.heap.size ≠ w.heap.size + 1 + 1 by omega) _) (by omega)) (wSet_8 ((C8.out.far (p := ⟨w.heap.size + 1 + 1, 4, none⟩) (show w.heap.size + 1 ≠ w.heap.size + 1 + 1 by omega) _).far (p := ⟨w.heap.size + 1 + 1, 0, none⟩) (show w.heap.size + 1 ≠ w.heap.size + 1 + 1 by omega) _) (by omega))) rfl ?_
              exact ⟨(⟨kd, a, 0, [], (s.data.toList.drop a).take (runA (s.data.toList.drop a))⟩, (none, 0)), (a + k), 0, 0, by rw [HNM.out, Int.natCast_add]; rfl, wSet_below ((L4.out.setCell (p := ⟨w.heap.size + 1 + 1, 4, none⟩) (show w.heap.size ≤ w.heap.size + 1 + 1 by omega) _).setCell (p := ⟨w.heap.size + 1 + 1, 0, none⟩) (show w.heap.size ≤ w.heap.size + 1 + 1 by omega) _) (Nat.le_refl _) (by omega), .inl ⟨rfl, rfl, World.ownsRow_nil _ _ _ _, nx_ok (by rw [HSL.out]; exact HA.out) (.inr (.inr (.inr (.inl ⟨by rw [HCT.out]; exact cls_name (by rw [← HCT.out]; exact HCB.out) (by rw [HU.out]; exact HU0.out), by unfold nameO; rw [if_neg (by rw [← HN0.out, HKD.out]; exact HK0.out), ← HN0.out, HKD.out, HN0.out, HK.out]⟩)))) HTS.out (by have h0 := HK0.out; have h1 := HKW.out; show kd ≠ 1; omega) rfl⟩⟩
end Go.Proofs.YtdhpplbopciijaaDoor.Tk
