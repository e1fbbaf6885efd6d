/-
  rifflelaw16.lives says yes.
-/
import Derived.Test.YtakoehgjgdcmmaaTpDeed
set_option maxRecDepth 100000
namespace Go.Proofs.Ytakoehgjgdcmmaa.Tp
open Go.Proofs.Ytakoehgjgdcmmaa.Sh Go.Proofs.Ytakoehgjgdcmmaa.St
open Go.RowKit
set_option linter.unusedVariables false

theorem drow_keep {base b2 : Nat} {w w' : World} {Vd V : Value} {qs : List Qd} {g wd f : Nat} {rows : List (List Int)} (h : DRow base w Vd qs) (d : Tap b2 w g V wd f rows) (ht : Turn (Tq g V) w w') : DRow base w' Vd qs :=
  own_turn h ht fun k hk hq => by
    rcases hq with rfl | hq
    · exact own_bk_ne (t := 52) h d.1 (by decide) hk.symm
    · rcases own_apart h d.2.1 (by decide) with e | e
      · rw [e] at hk; cases hk
      · exact e (hk.trans hq.symm)
/-- A delta's kind and place, as they are read. -/
theorem drow_one {base : Nat} {w : World} {V : Value} {qs : List Qd} {l : List Dl} (h : DRow base w V qs) (e : qs.map (·.1) = l) {k : Nat} {d : Dl} (hd : l[k]? = some d) : ∃ b c, V = .slice (some ⟨b, 0, none⟩) l.length c ∧ w.cell? ⟨b, k * 3, none⟩ = some (.int .i64 d.1) ∧ w.cell? ⟨b, k * 3 + 1, none⟩ = some (.int .i64 (d.2.1 : Nat)) := by
  subst e
  rw [List.getElem?_map] at hd
  cases hq : qs[k]? with
  | none => rw [hq] at hd; simp at hd
  | some q =>
    rw [hq] at hd
    obtain rfl : q.1 = d := by simpa using hd
    obtain ⟨y0, y1, y2⟩ := flat3_at qs k q hq
    have hk := (List.getElem?_eq_some_iff.1 hq).1
    rcases h.2 with ⟨_, h0⟩ | ⟨g, cap, cur, rfl, hb, hg, hn, hm, hs, ht⟩
    · omega
    · have hc := World.ownsRow.cells h (g := g) rfl
      have k0 := hc _ _ y0
      have k1 := hc _ _ y1
      rw [Go.WideShapes.add_plain, Nat.zero_add] at k0 k1
      exact ⟨g, cap, by rw [List.length_map], k0, k1⟩
/-- One row of one number, and two of them, just laid. -/
theorem one_row (w : World) (x : Int) (W : World) (hW : W = (w.alloc (.cells #[.int .i64 x] 2)).alloc (.cells #[.slice (some ⟨w.heap.size, 0, none⟩) 1 1] 42)) : RwsIn (w.heap.size ≤ ·) W (.slice (some ⟨w.heap.size + 1, 0, none⟩) 1 1) [[x]] := by
  have h2 := Bk.new 42 (w.alloc (.cells #[.int .i64 x] 2)) [.slice (some ⟨w.heap.size, 0, none⟩) 1 1]
  rw [show (w.alloc (.cells #[.int .i64 x] 2)).heap.size = w.heap.size + 1 from by simp] at h2
  have h1 := (Bk.new 2 w [.int .i64 x]).alloc (.cells #[.slice (some ⟨w.heap.size, 0, none⟩) 1 1] 42)
  subst hW
  refine ⟨_, 1, [.slice (some ⟨w.heap.size, 0, none⟩) 1 1], rfl, Nat.le_refl _, by simp [maxLen], rfl, fun _ => ⟨w.heap.size + 1, 0, rfl, Nat.le_succ _, Bk.lt h2, fun j u hu => ?_⟩, fun t r hr => ?_⟩
  · rw [Nat.zero_add]; exact (Bk.c h2 j).trans hu
  · obtain rfl : t = 0 := by have := (List.getElem?_eq_some_iff.1 hr).1; simp at this; omega
    obtain rfl : [x] = r := by simpa using hr
    exact ⟨_, 1, rfl, Nat.le_refl _, by simp [maxLen], fun _ => ⟨w.heap.size, 0, rfl, Nat.le_refl _, Bk.lt h1, fun j u hu => by rw [Nat.zero_add]; exact (Bk.c h1 j).trans hu⟩⟩
theorem two_rows (w : World) (x y : Int) (W : World) (hW : W = ((w.alloc (.cells #[.int .i64 x] 2)).alloc (.cells #[.int .i64 y] 2)).alloc (.cells #[.slice (some ⟨w.heap.size, 0, none⟩) 1 1, .slice (some ⟨w.heap.size + 1, 0, none⟩) 1 1] 42)) : RwsIn (w.heap.size ≤ ·) W (.slice (some ⟨w.heap.size + 1 + 1, 0, none⟩) 2 2) [[x], [y]] := by
  have h1 := ((Bk.new 2 w [.int .i64 x]).alloc (.cells #[.int .i64 y] 2)).alloc (.cells #[.slice (some ⟨w.heap.size, 0, none⟩) 1 1, .slice (some ⟨w.heap.size + 1, 0, none⟩) 1 1] 42)
  have h2 := Bk.new 2 (w.alloc (.cells #[.int .i64 x] 2)) [.int .i64 y]
  rw [show (w.alloc (.cells #[.int .i64 x] 2)).heap.size = w.heap.size + 1 from by simp] at h2
  have h2 := h2.alloc (.cells #[.slice (some ⟨w.heap.size, 0, none⟩) 1 1, .slice (some ⟨w.heap.size + 1, 0, none⟩) 1 1] 42)
  have h3 := Bk.new 42 ((w.alloc (.cells #[.int .i64 x] 2)).alloc (.cells #[.int .i64 y] 2)) [.slice (some ⟨w.heap.size, 0, none⟩) 1 1, .slice (some ⟨w.heap.size + 1, 0, none⟩) 1 1]
  rw [show ((w.alloc (.cells #[.int .i64 x] 2)).alloc (.cells #[.int .i64 y] 2)).heap.size = w.heap.size + 1 + 1 from by simp] at h3
  subst hW
  refine ⟨_, 2, [.slice (some ⟨w.heap.size, 0, none⟩) 1 1, .slice (some ⟨w.heap.size + 1, 0, none⟩) 1 1], rfl, Nat.le_refl _, by simp [maxLen], rfl, fun _ => ⟨w.heap.size + 1 + 1, 0, rfl, by omega, Bk.lt h3, fun j u hu => ?_⟩, fun t r hr => ?_⟩
  · rw [Nat.zero_add]; exact (Bk.c h3 j).trans hu
  · have ht : t = 0 ∨ t = 1 := by have := (List.getElem?_eq_some_iff.1 hr).1; simp at this; omega
    rcases ht with rfl | rfl
    · obtain rfl : [x] = r := by simpa using hr
      exact ⟨_, 1, rfl, Nat.le_refl _, by simp [maxLen], fun _ => ⟨w.heap.size, 0, rfl, Nat.le_refl _, Bk.lt h1, fun j u hu => by rw [Nat.zero_add]; exact (Bk.c h1 j).trans hu⟩⟩
    · obtain rfl : [y] = r := by simpa using hr
      exact ⟨_, 1, rfl, Nat.le_refl _, by simp [maxLen], fun _ => ⟨w.heap.size + 1, 0, rfl, Nat.le_succ _, Bk.lt h2, fun j u hu => by rw [Nat.zero_add]; exact (Bk.c h2 j).trans hu⟩⟩
theorem new1 (w : World) : Calls Try.prog 6 #[.int .i64 1] w (RetNew 1 w) := new_yes 1 w (by omega)
/-- Set, told of the rows of the deltas alone. -/
def RetS (base g : Nat) (V : Value) (n : Nat) (l : List Dl) (rows' : List (List Int)) (w : World) (e : Ending) (w' : World) : Prop := ∃ A c qs V', e = .returned (.tuple #[.slice A n c, .int .i64 0]) ∧ DRow w.heap.size w' (.slice A n c) qs ∧ qs.map (·.1) = l ∧ Tap base w' g V' 1 0 rows' ∧ Turn (Tq g V) w w' ∧ Fresh w V V'
theorem set_l (base g : Nat) (V : Value) (rows news : List (List Int)) (p : Nat) (S : Nat → Prop) (U : Value) (w : World) (l : List Dl) (n : Nat) (rows' : List (List Int)) (d : Tap base w g V 1 0 rows) (hp : p ≤ rows.length) (hn : RwsIn S w U news) (hS : ∀ b, S b → ¬ Tq g V b) (hu : unfitB 1 news = false) (hnl : p + news.length ≤ 900) (hl : deltasL rows news p = l) (hn2 : l.length = n) (hr : setL rows news p = rows') :
    Calls Try.prog 12 #[.pointer (some ⟨g, 0, none⟩), .int .i64 p, U] w (RetS base g V n l rows' w) := by
  subst hl hn2 hr
  refine (set_any base g V 1 0 rows news p S U w d (Nat.zero_le _) hp hn hS hu hnl (by have := d.1.lt; have := d.2.2.2.2.2.1; omega)).mono ?_
  rintro e w' ⟨Vd, qs, V', rfl, h1, h2, h3, h4, h5, -⟩
  obtain ⟨A, c, rfl, -, -, -⟩ := h1.1.view
  have hq : qs.length = (deltasL rows news p).length := by rw [← h2, List.length_map]
  refine ⟨A, c, qs, V', by rw [hq], by rw [← hq]; exact h1.1, h2, h3, h4, h5⟩
set_option maxHeartbeats 8000000 in
theorem lives_any (w : World) : Calls Try.prog 7 #[] w fun e w' => e = .returned (.bool true) ∧ Below w.heap.size w w' := by
  go_enter Try.func7, Try.ntmps7
  go_wp2_with fail
  refine (new1 w).mono ?_
  rintro r w1 ⟨g, rfl, d1, hb1⟩
  have D1 := Lib.hid d1
  have L1 := Lib.hid hb1
  have A1 := Lib.hid (two_rows w1 1 2 _ rfl)
  have B1 := Lib.hid (below_next (below_next (below_new w1 (.cells #[.int .i64 1] 2)) (below_new _ (.cells #[.int .i64 2] 2))) (below_new _ (.cells #[.slice (some ⟨w1.heap.size, 0, none⟩) 1 1, .slice (some ⟨w1.heap.size + 1, 0, none⟩) 1 1] 42)))
  have S1 := Lib.hid (set_l w.heap.size g (.slice none 0 0) [] [[1], [2]] 0 (w1.heap.size ≤ ·) _ _ [(1, 0, [1]), (1, 1, [2])] 2 [[1], [2]] (D1.out.next B1.out) (Nat.le_refl _) A1.out (fun b hb hq => by have := (D1.out.lt b hq).1; omega) rfl (by simp) (by decide) rfl (by decide))
  clear d1 hb1
  go_wp2_with fail
  refine (S1.out).mono ?_
  rintro r w2 ⟨A2, c2, qs2, V2, rfl, r2, e2, d2, t2, f2⟩
  have N2 : Hid (∀ b, Tq g V2 b → w.heap.size ≤ b) := Lib.hid (fun b hb => (d2.lt b hb).2)
  have D2 := Lib.hid d2
  have R2 := Lib.hid r2
  have E2 := Lib.hid e2
  have L2 := Lib.hid (show Below w.heap.size w w2 from (below_next L1.out B1.out).trans (t2.below (by have := L1.out.size; have := B1.out.size; omega) fun i hi => (D1.out.lt i hi).2))
  have A2' := Lib.hid (one_row w2 3 _ rfl)
  have B2 := Lib.hid (below_next (below_new w2 (.cells #[.int .i64 3] 2)) (below_new _ (.cells #[.slice (some ⟨w2.heap.size, 0, none⟩) 1 1] 42)))
  have S2 := Lib.hid (set_l w.heap.size g V2 [[1], [2]] [[3]] 1 (w2.heap.size ≤ ·) _ _ [(2, 1, [3])] 1 [[1], [3]] (D2.out.next B2.out) (by decide) A2'.out (fun b hb hq => by have := (D2.out.lt b hq).1; omega) rfl (by simp) (by decide) rfl (by decide))
  clear r2 e2 d2 t2 f2 S1
  go_wp2_with fail
  refine (S2.out).mono ?_
  rintro r w3 ⟨A3, c3, qs3, V3, rfl, r3, e3, d3, t3, f3⟩
  have D3 := Lib.hid d3
  have R3 := Lib.hid r3
  have E3 := Lib.hid e3
  have R23 := Lib.hid (drow_keep (R2.out.next B2.out) (D2.out.next B2.out) t3)
  have L3 := Lib.hid (show Below w.heap.size w w3 from (below_next L2.out B2.out).trans (t3.below (by have := L2.out.size; have := B2.out.size; omega) fun i hi => (D2.out.lt i hi).2))
  have S3 := Lib.hid (set_l w.heap.size g V3 [[1], [3]] [] 1 (fun _ => False) _ _ [(3, 1, [])] 1 [[1]] D3.out (by decide) (RwsIn.none _ w3) (fun b hb => hb.elim) rfl (by simp) (by decide) rfl (by decide))
  clear r3 e3 d3 t3 f3 S2
  go_wp2_with fail
  refine (S3.out).mono ?_
  rintro r w4 ⟨A4, c4, qs4, V4, rfl, r4, e4, d4, t4, f4⟩
  have L4 := Lib.hid (show Below w.heap.size w w4 from L3.out.trans (t4.below L3.out.size fun i hi => (D3.out.lt i hi).2))
  obtain ⟨b2, cb2, ev2, x0, -⟩ := drow_one (drow_keep R23.out D3.out t4) E2.out (k := 1) (d := (1, 1, [2])) rfl
  obtain ⟨b3, cb3, ev3, y0, y1⟩ := drow_one (drow_keep R3.out D3.out t4) E3.out (k := 0) (d := (2, 1, [3])) rfl
  obtain ⟨b4, cb4, ev4, z0, z1⟩ := drow_one r4 e4 (k := 0) (d := (3, 1, [])) rfl
  injection ev2 with ev2 p2 q2
  injection ev3 with ev3 p3 q3
  injection ev4 with ev4 p4 q4
  subst ev2 ev3 ev4 q2 q3 q4
  clear p2 p3 p4
  have x0 : w4.cell? ⟨b2, 3, none⟩ = some (.int .i64 1) := x0
  have y0 : w4.cell? ⟨b3, 0, none⟩ = some (.int .i64 2) := y0
  have y1 : w4.cell? ⟨b3, 1, none⟩ = some (.int .i64 1) := y1
  have z0 : w4.cell? ⟨b4, 0, none⟩ = some (.int .i64 3) := z0
  have z1 : w4.cell? ⟨b4, 1, none⟩ = some (.int .i64 1) := z1
  clear r4 e4 d4 t4 f4 S3
  go_wp2
  go_ret
  exact ⟨rfl, L4.out⟩
end Go.Proofs.Ytakoehgjgdcmmaa.Tp
