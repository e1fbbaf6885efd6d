/-
  Layer 18, tree: High, and what rifflelaw18.lives answers: true. Conditions: as told in each.
-/
import Derived.Test.YtffccemipkhjnaaTrHigh
set_option maxRecDepth 100000
namespace Go.Proofs.Ytffccemipkhjnaa.Tr
open Go.Proofs.Ytffccemipkhjnaa.Sh Go.Proofs.Ytffccemipkhjnaa.St
open Go.RowKit
set_option linter.unusedVariables false

theorem ahead_ord {qs : List Nq} {t : List Int} (h : ordTo qs qs.length = some t) : Ahead qs := by
  intro k q hq x hx
  have hk : k < qs.length := (List.getElem?_eq_some_iff.1 hq).1
  cases hs : ordTo qs (k + 1) with
  | none => rw [ordTo_none hs qs.length (by omega)] at h; cases h
  | some t2 =>
    cases ht : ordTo qs k with
    | none => rw [ordTo_none ht (k + 1) (by omega)] at hs; cases hs
    | some tops =>
      rw [ordTo_succ ht hq] at hs
      have hin := (ordTo_in k tops ht).1
      unfold ordStep at hs
      repeat' split at hs
      all_goals first
        | cases hs
        | skip
      rename_i h1 h2 h3 h4
      simp at h2
      rw [← h2] at hx
      have := hin x (List.mem_of_mem_drop hx)
      exact ⟨this.1, this.2⟩
theorem ahead_right {p : Pq} (h : rightT p = true) : Ahead p.nodes := by
  unfold rightT at h
  simp only [Bool.and_eq_true] at h
  obtain ⟨-, -, -, -, h⟩ := h
  split at h
  · rename_i t ht; exact ahead_ord ht
  · cases h
/-- How high the nodes below one stand, of a program that may be. -/
def highN (p : Pq) (i : Int) : Nat := if thereB p.nodes.length i = true ∧ rightT p = true then hgt p.nodes i else 0
def RetI (n : Nat) (w : World) (e : Ending) (w' : World) : Prop := e = .returned (.int .i64 (n : Int)) ∧ Below w.heap.size w w'
set_option maxHeartbeats 8000000 in
theorem high_any (p : Pq) (i : Int) (w : World) (hp : ProgIn w p) (hf : FitP p) : Calls Try.prog 12 #[progV p, .int .i64 i] w (RetI (highN p i) w) := by
  have BX := Lib.hid (Bk.new 26 w [.string p.name, .slice p.da p.dims.length p.dc, .slice p.na p.nodes.length p.nc, .slice p.fa p.defs.length p.fc, .int .i64 p.root])
  have LX := Lib.hid (below_new w (.cells #[.string p.name, .slice p.da p.dims.length p.dc, .slice p.na p.nodes.length p.nc, .slice p.fa p.defs.length p.fc, .int .i64 p.root] 26))
  obtain ⟨tb, htb⟩ : ∃ tb, thereB p.nodes.length i = tb := ⟨_, rfl⟩
  obtain ⟨rb, hrb⟩ : ∃ rb, rightT p = rb := ⟨_, rfl⟩
  have HT := Lib.hid (fun W => there_b p i tb W htb)
  have HR := Lib.hid (fun W (hw : Below w.heap.size w W) => right_b p rb W (hp.next hw) hf hrb)
  unfold progV at HT HR ⊢
  cases tb with
  | false =>
    have HS := Lib.hid (show highN p i = 0 by unfold highN; rw [htb]; simp)
    clear htb hrb hp hf HR
    go_enter Try.func12, Try.ntmps12
    go_wp2_with fail
    refine (HT.out _).mono ?_
    rintro e w1 ⟨rfl, hb1⟩
    have L1 := Lib.hid (Gl.below_next LX.out hb1)
    clear hb1
    go_wp2
    go_ret
    exact ⟨by rw [HS.out]; rfl, L1.out⟩
  | true =>
    cases rb with
    | false =>
      have HS := Lib.hid (show highN p i = 0 by unfold highN; rw [hrb]; simp)
      clear htb hrb hp hf
      go_enter Try.func12, Try.ntmps12
      go_wp2_with fail
      refine (HT.out _).mono ?_
      rintro e w1 ⟨rfl, hb1⟩
      have L1 := Lib.hid (Gl.below_next LX.out hb1)
      have x0 := (BX.out.next hb1).c 0
      have x1 := (BX.out.next hb1).c 1
      have x2 := (BX.out.next hb1).c 2
      have x3 := (BX.out.next hb1).c 3
      have x4 := (BX.out.next hb1).c 4
      simp only [List.getElem?_cons_zero, List.getElem?_cons_succ] at x0 x1 x2 x3 x4
      have HR1 := Lib.hid (HR.out w1 L1.out)
      clear hb1
      go_wp2_with fail
      refine (HR1.out).mono ?_
      rintro e w2 ⟨rfl, hb2⟩
      have L2 := Lib.hid (Gl.below_next L1.out hb2)
      clear hb2 x0 x1 x2 x3 x4
      go_wp2
      go_ret
      exact ⟨by rw [HS.out]; rfl, L2.out⟩
    | true =>
      obtain ⟨k, hk⟩ : ∃ k : Nat, i = (k : Int) := ⟨i.toNat, by unfold thereB at htb; simp at htb; omega⟩
      subst hk
      have hkl : k < p.nodes.length := by unfold thereB at htb; simp at htb; omega
      have HS := Lib.hid (show highN p (k : Int) = hgt p.nodes (k : Int) by unfold highN; rw [if_pos ⟨htb, hrb⟩])
      have HH := Lib.hid (fun W (hw : Below w.heap.size w W) => height_k p.na p.nc p.nodes (by have := hf.nodes; omega) (fun q hq => by have := hf.kids q hq; omega) (ahead_right hrb) k W (hp.2.1.next hw) hkl)
      clear htb hrb hp hf hkl
      go_enter Try.func12, Try.ntmps12
      go_wp2_with fail
      refine (HT.out _).mono ?_
      rintro e w1 ⟨rfl, hb1⟩
      have L1 := Lib.hid (Gl.below_next LX.out hb1)
      have x0 := (BX.out.next hb1).c 0
      have x1 := (BX.out.next hb1).c 1
      have x2 := (BX.out.next hb1).c 2
      have x3 := (BX.out.next hb1).c 3
      have x4 := (BX.out.next hb1).c 4
      simp only [List.getElem?_cons_zero, List.getElem?_cons_succ] at x0 x1 x2 x3 x4
      have HR1 := Lib.hid (HR.out w1 L1.out)
      have B1 := Lib.hid (BX.out.next hb1)
      clear hb1
      go_wp2_with fail
      refine (HR1.out).mono ?_
      rintro e w2 ⟨rfl, hb2⟩
      have L2 := Lib.hid (Gl.below_next L1.out hb2)
      have y2 := (B1.out.next hb2).c 2
      simp only [List.getElem?_cons_zero, List.getElem?_cons_succ] at y2
      have HH2 := Lib.hid (HH.out w2 L2.out)
      clear hb2 x0 x1 x2 x3 x4
      go_wp2_with fail
      refine (HH2.out).mono ?_
      rintro e w3 ⟨rfl, hb3⟩
      have L3 := Lib.hid (Gl.below_next L2.out hb3)
      clear hb3
      go_wp2
      go_ret
      exact ⟨by rw [HS.out]; rfl, L3.out⟩
/-- The program +x, its parts' slice at a block. -/
def plusQ (g : Nat) : List Nq := [⟨⟨5, 0, 1, [], [], ⟨#[]⟩⟩, none, 0, none, 0⟩, ⟨⟨2, 0, 0, [], [], ⟨#[120]⟩⟩, none, 0, none, 0⟩, ⟨⟨3, 0, 0, [0, 1], [], ⟨#[]⟩⟩, some ⟨g, 0, none⟩, 2, none, 0⟩]
def plusP (g : Nat) : Pq := ⟨⟨#[120]⟩, none, 0, [], some ⟨g + 1, 0, none⟩, 3, plusQ g, none, 0, [], 2⟩
theorem plus_right (g : Nat) : rightT (plusP g) = true := by kernel_rfl
theorem plus_fit (g : Nat) : FitP (plusP g) := ⟨by show (3 : Nat) ≤ 320; omega, by show (0 : Nat) ≤ 320; omega, by show (0 : Nat) ≤ 20; omega, fun q hq => by
  simp [plusP, plusQ] at hq
  rcases hq with rfl | rfl | rfl <;> simp, fun q hq => by
  simp [plusP, plusQ] at hq
  rcases hq with rfl | rfl | rfl <;> simp⟩
theorem plus_high (g : Nat) : highN (plusP g) 2 = 2 := by
  unfold highN
  rw [if_pos ⟨rfl, plus_right g⟩]
  rfl
theorem res_prog {fn : Func} {W : World} {g : Nat} {v0 v1 v2 v3 v4 : Value} (h : fn.results = #[.cell 0 26]) (tmps : Array Value) (h0 : tmps.getD 0 undef = .pointer (some ⟨g, 0, none⟩))
    (b : Bk 26 W g [v0, v1, v2, v3, v4]) : (results fn tmps).run Try.prog W = .ok (.agg #[v0, v1, v2, v3, v4]) W := by
  have a0 : W.cell? ⟨g, 0, none⟩ = some v0 := b.c 0
  have a1 : W.cell? ⟨g, 1, none⟩ = some v1 := b.c 1
  have a2 : W.cell? ⟨g, 2, none⟩ = some v2 := b.c 2
  have a3 : W.cell? ⟨g, 3, none⟩ = some v3 := b.c 3
  have a4 : W.cell? ⟨g, 4, none⟩ = some v4 := b.c 4
  rw [Array.getD_eq_getD_getElem?] at h0
  simp [results, h, h0, go_sem, a0, a1, a2, a3, a4]
set_option maxHeartbeats 8000000 in
theorem plus_any (w : World) : Calls Try.prog 14 #[] w fun e w' => ∃ g, e = .returned (progV (plusP g)) ∧ ProgIn w' (plusP g) ∧ Below w.heap.size w w' := by
  go_enter Try.func14, Try.ntmps14
  go_wp2
  have e1 : (w.alloc (.cells #[.string ⟨#[120]⟩, .slice none 0 0, .slice (some ⟨w.heap.size + 1 + 1, 0, none⟩) 3 3, .slice none 0 0, .int .i64 2] 26)).heap.size = w.heap.size + 1 := by simp
  have e2 : ((w.alloc (.cells #[.string ⟨#[120]⟩, .slice none 0 0, .slice (some ⟨w.heap.size + 1 + 1, 0, none⟩) 3 3, .slice none 0 0, .int .i64 2] 26)).alloc (.cells #[.int .i64 0, .int .i64 1] 3)).heap.size = w.heap.size + 1 + 1 := by simp
  have BP := ((Bk.new 26 w [.string ⟨#[120]⟩, .slice none 0 0, .slice (some ⟨w.heap.size + 1 + 1, 0, none⟩) 3 3, .slice none 0 0, .int .i64 2]).alloc (.cells #[.int .i64 0, .int .i64 1] 3)).alloc (.cells #[.int .i64 5, .int .i64 0, .int .i64 1, .slice none 0 0, .slice none 0 0, .string ⟨#[]⟩, .int .i64 2, .int .i64 0, .int .i64 0, .slice none 0 0, .slice none 0 0, .string ⟨#[120]⟩, .int .i64 3, .int .i64 0, .int .i64 0, .slice (some ⟨w.heap.size + 1, 0, none⟩) 2 2, .slice none 0 0, .string ⟨#[]⟩] 37)
  have BI := (Bk.new 3 (w.alloc (.cells #[.string ⟨#[120]⟩, .slice none 0 0, .slice (some ⟨w.heap.size + 1 + 1, 0, none⟩) 3 3, .slice none 0 0, .int .i64 2] 26)) [.int .i64 0, .int .i64 1]).alloc (.cells #[.int .i64 5, .int .i64 0, .int .i64 1, .slice none 0 0, .slice none 0 0, .string ⟨#[]⟩, .int .i64 2, .int .i64 0, .int .i64 0, .slice none 0 0, .slice none 0 0, .string ⟨#[120]⟩, .int .i64 3, .int .i64 0, .int .i64 0, .slice (some ⟨w.heap.size + 1, 0, none⟩) 2 2, .slice none 0 0, .string ⟨#[]⟩] 37)
  have BN := Bk.new 37 ((w.alloc (.cells #[.string ⟨#[120]⟩, .slice none 0 0, .slice (some ⟨w.heap.size + 1 + 1, 0, none⟩) 3 3, .slice none 0 0, .int .i64 2] 26)).alloc (.cells #[.int .i64 0, .int .i64 1] 3)) [.int .i64 5, .int .i64 0, .int .i64 1, .slice none 0 0, .slice none 0 0, .string ⟨#[]⟩, .int .i64 2, .int .i64 0, .int .i64 0, .slice none 0 0, .slice none 0 0, .string ⟨#[120]⟩, .int .i64 3, .int .i64 0, .int .i64 0, .slice (some ⟨w.heap.size + 1, 0, none⟩) 2 2, .slice none 0 0, .string ⟨#[]⟩]
  rw [e1] at BI
  rw [e2] at BN
  have LB := ((below_new w (.cells #[.string ⟨#[120]⟩, .slice none 0 0, .slice (some ⟨w.heap.size + 1 + 1, 0, none⟩) 3 3, .slice none 0 0, .int .i64 2] 26)).alloc (by simp) (.cells #[.int .i64 0, .int .i64 1] 3)).alloc (by simp; omega) (.cells #[.int .i64 5, .int .i64 0, .int .i64 1, .slice none 0 0, .slice none 0 0, .string ⟨#[]⟩, .int .i64 2, .int .i64 0, .int .i64 0, .slice none 0 0, .slice none 0 0, .string ⟨#[120]⟩, .int .i64 3, .int .i64 0, .int .i64 0, .slice (some ⟨w.heap.size + 1, 0, none⟩) 2 2, .slice none 0 0, .string ⟨#[]⟩] 37)
  have t0 := BP.c 0
  have t1 := BP.c 1
  have t2 := BP.c 2
  have t3 := BP.c 3
  have t4 := BP.c 4
  simp only [List.getElem?_cons_zero, List.getElem?_cons_succ] at t0 t1 t2 t3 t4
  have hWN : w.heap.size + 1 < (((w.alloc (.cells #[.string ⟨#[120]⟩, .slice none 0 0, .slice (some ⟨w.heap.size + 1 + 1, 0, none⟩) 3 3, .slice none 0 0, .int .i64 2] 26)).alloc (.cells #[.int .i64 0, .int .i64 1] 3)).alloc (.cells #[.int .i64 5, .int .i64 0, .int .i64 1, .slice none 0 0, .slice none 0 0, .string ⟨#[]⟩, .int .i64 2, .int .i64 0, .int .i64 0, .slice none 0 0, .slice none 0 0, .string ⟨#[120]⟩, .int .i64 3, .int .i64 0, .int .i64 0, .slice (some ⟨w.heap.size + 1, 0, none⟩) 2 2, .slice none 0 0, .string ⟨#[]⟩] 37)).heap.size := by simp
  have hWN2 : w.heap.size + 1 + 1 < (((w.alloc (.cells #[.string ⟨#[120]⟩, .slice none 0 0, .slice (some ⟨w.heap.size + 1 + 1, 0, none⟩) 3 3, .slice none 0 0, .int .i64 2] 26)).alloc (.cells #[.int .i64 0, .int .i64 1] 3)).alloc (.cells #[.int .i64 5, .int .i64 0, .int .i64 1, .slice none 0 0, .slice none 0 0, .string ⟨#[]⟩, .int .i64 2, .int .i64 0, .int .i64 0, .slice none 0 0, .slice none 0 0, .string ⟨#[120]⟩, .int .i64 3, .int .i64 0, .int .i64 0, .slice (some ⟨w.heap.size + 1, 0, none⟩) 2 2, .slice none 0 0, .string ⟨#[]⟩] 37)).heap.size := by simp
  generalize (((w.alloc (.cells #[.string ⟨#[120]⟩, .slice none 0 0, .slice (some ⟨w.heap.size + 1 + 1, 0, none⟩) 3 3, .slice none 0 0, .int .i64 2] 26)).alloc (.cells #[.int .i64 0, .int .i64 1] 3)).alloc (.cells #[.int .i64 5, .int .i64 0, .int .i64 1, .slice none 0 0, .slice none 0 0, .string ⟨#[]⟩, .int .i64 2, .int .i64 0, .int .i64 0, .slice none 0 0, .slice none 0 0, .string ⟨#[120]⟩, .int .i64 3, .int .i64 0, .int .i64 0, .slice (some ⟨w.heap.size + 1, 0, none⟩) 2 2, .slice none 0 0, .string ⟨#[]⟩] 37)) = W at *
  refine bodyPost_ret (res_prog Try.results14 _ rfl BP) rfl ?_
  refine ⟨w.heap.size + 1, rfl, ?_, LB⟩
  have nil : Ints W none [] := fun hp => absurd hp (by simp)
  have two : Ints W (some ⟨w.heap.size + 1, 0, none⟩) [0, 1] := fun _ => ⟨w.heap.size + 1, 0, rfl, hWN, fun i hi => by
    rw [Nat.zero_add, BI.c]
    rcases (show i = 0 ∨ i = 1 by simp at hi; omega) with rfl | rfl <;> rfl⟩
  refine ⟨nil, ⟨fun _ => ⟨w.heap.size + 1 + 1, 0, rfl, hWN2, fun k q hq => ?_⟩, fun q hq => ?_⟩, ⟨fun hp => absurd hp (by show ¬ 0 < 0; omega), fun d hd => by cases hd⟩, by show (1 : Nat) ≤ maxLen; unfold maxLen; omega, by show (0 : Nat) ≤ maxLen; omega, by show (3 : Nat) ≤ maxLen; unfold maxLen; omega, by show (0 : Nat) ≤ maxLen; omega⟩
  · rcases k with _ | _ | _ | k
    · injection hq with hq
      subst hq
      exact ⟨BN.c 0, BN.c 1, BN.c 2, BN.c 3, BN.c 4, BN.c 5⟩
    · injection hq with hq
      subst hq
      exact ⟨BN.c 6, BN.c 7, BN.c 8, BN.c 9, BN.c 10, BN.c 11⟩
    · injection hq with hq
      subst hq
      exact ⟨BN.c 12, BN.c 13, BN.c 14, BN.c 15, BN.c 16, BN.c 17⟩
    · cases hq
  · simp [plusP, plusQ] at hq
    rcases hq with rfl | rfl | rfl
    · exact ⟨nil, nil, by simp, by simp, by show (0 : Nat) ≤ maxLen; omega⟩
    · exact ⟨nil, nil, by simp, by simp, by show (1 : Nat) ≤ maxLen; unfold maxLen; omega⟩
    · exact ⟨two, nil, by show (2 : Nat) ≤ maxLen; unfold maxLen; omega, by simp, by show (0 : Nat) ≤ maxLen; omega⟩
set_option maxHeartbeats 8000000 in
theorem lives_any (w : World) : Calls Try.prog 6 #[] w (RetBl true w) := by
  have HP := Lib.hid (fun W => plus_any W)
  go_enter Try.func6, Try.ntmps6
  go_wp2_with fail
  refine (HP.out _).mono ?_
  rintro e w1 ⟨g, rfl, hp, hb1⟩
  have HR := Lib.hid (right_b (plusP g) true w1 hp (plus_fit g) (plus_right g))
  have L1 := Lib.hid hb1
  clear hp hb1
  go_wp2_with fail
  refine (HR.out).mono ?_
  rintro e w2 ⟨rfl, hb2⟩
  have L2 := Lib.hid (Gl.below_next L1.out hb2)
  clear hb2
  go_wp2_with fail
  refine (HP.out _).mono ?_
  rintro e w3 ⟨g3, rfl, hp3, hb3⟩
  have L3 := Lib.hid (Gl.below_next L2.out hb3)
  have HH := Lib.hid (high_any (plusP g3) 2 w3 hp3 (plus_fit g3))
  rw [plus_high] at HH
  clear hp3 hb3
  go_wp2_with fail
  refine (HH.out).mono ?_
  rintro e w4 ⟨rfl, hb4⟩
  have L4 := Lib.hid (Gl.below_next L3.out hb4)
  clear hb4
  go_wp2
  go_ret
  exact ⟨rfl, L4.out⟩
end Go.Proofs.Ytffccemipkhjnaa.Tr
