/-
  rifflelaw16.same: do the tape and the document's rows have the same? Conditions: as told in it.
-/
import Derived.Test.YtakoehgjgdcmmaaTpDo
import Derived.Test.YtakoehgjgdcmmaaPkC
set_option maxRecDepth 100000
namespace Go.Proofs.Ytakoehgjgdcmmaa.Tp
open Go.Proofs.Ytakoehgjgdcmmaa.Sh Go.Proofs.Ytakoehgjgdcmmaa.St
open Go.RowKit
set_option linter.unusedVariables false

theorem nums_refl (A : Option Addr) (c : Nat) (a : List Int) (B : Option Addr) (d : Nat) (w : World) (hl : a.length ≤ maxLen) (hl2 : a.length ≤ maxLen) (ha : Ints w A a) (hb : Ints w B a) :
    Calls Try.prog 19 #[.slice A a.length c, .slice B a.length d] w fun e w' => e = .returned (.bool true) ∧ Below w.heap.size w w' :=
  (nums_b A c a B d a w hl hl2 ha hb).mono fun _ _ ⟨e, h⟩ => ⟨by rw [e, decide_eq_true (show a = a from rfl)], h⟩
/-- A row is told that the document has, too. -/
theorem row_cases (f : Nat) (rows : List (List Int)) (i : Int) : (∃ r k, i = (k : Nat) ∧ f ≤ k ∧ k < rows.length ∧ rows[k]? = some r ∧ rowB f rows.length i = true ∧ rowL f rows i = r) ∨ (rowB f rows.length i = false ∧ rowL f rows i = [] ∧ (i < f ∨ rows.length ≤ i)) := by
  by_cases h : (f : Int) ≤ i ∧ i < rows.length
  · obtain ⟨k, rfl⟩ : ∃ k : Nat, i = k := ⟨i.toNat, by omega⟩
    obtain ⟨r, hr⟩ : ∃ r, rows[k]? = some r := ⟨_, List.getElem?_eq_getElem (by omega)⟩
    have hb : rowB f rows.length (k : Int) = true := by simpa [rowB] using h
    exact .inl ⟨r, k, rfl, by omega, by omega, hr, hb, by unfold rowL; rw [if_pos hb]; simp [List.getD, hr]⟩
  · have hb : rowB f rows.length i = false := by simpa [rowB] using h
    exact .inr ⟨hb, by unfold rowL; rw [if_neg (by simp [hb])], by omega⟩
set_option maxHeartbeats 16000000 in
theorem same_any (base g wd f : Nat) (T T2 : Nat → Prop) (RV : Value) (rows : List (List Int)) (i : Int) (w : World) (h : Ob base w g wd f rows T) (hL : Rws T2 w RV rows) :
    Calls Try.prog 10 #[.pointer (some ⟨g, 0, none⟩), tv RV f wd, .int .i64 i] w fun e w' => e = .returned (.bool true) ∧ Below w.heap.size w w' := by
  obtain ⟨V, d, -⟩ := h
  have HR := Lib.hid hL
  have DN := Lib.hid (fun W (hb : Below w.heap.size w W) => d.next hb)
  have RO := Lib.hid (fun i W (hb : Below w.heap.size w W) => row_any base g V wd f rows i W (d.next hb))
  have RC := Lib.hid (fun i => row_cases f rows i)
  have hfr := d.2.2.1
  have hr9 := d.2.2.2.2.2.2
  have hwd := d.2.2.2.2.1
  have FI := Lib.hid (fun W (hb : Below w.heap.size w W) => first_any g V wd f rows.length W (d.1.next hb))
  have EN := Lib.hid (fun W (hb : Below w.heap.size w W) => end_any g V wd f rows.length W (d.1.next hb))
  have WO := Lib.hid (fun W (hb : Below w.heap.size w W) => words_any base g V wd f rows W (d.next hb))
  obtain ⟨A, c, vs, rfl, -⟩ := hL
  obtain ⟨N, hN⟩ : ∃ N, rows.length = N := ⟨_, rfl⟩
  have HN := Lib.hid hN
  rw [hN] at hfr hr9 EN WO RO RC ⊢
  obtain ⟨q, hq⟩ : ∃ q, N - f = q := ⟨_, rfl⟩
  obtain ⟨m, hm⟩ : ∃ m, q * wd = m := ⟨_, rfl⟩
  rw [hq, hm] at WO
  have hbd := bd (show q ≤ 900 by omega) hwd
  have w1 : IntKind.i64.wrap ((N : Int) - (f : Int)) = (q : Int) := by rw [IntWalk.i64_in _ (by omega)]; omega
  have w2 : IntKind.i64.wrap ((q : Int) * (wd : Int)) = (m : Int) := by rw [← Int.natCast_mul, hm]; exact IntWalk.i64_in _ (by omega)
  have L0 := Lib.hid (below_new w (.cells #[.slice A N c, .int .i64 f, .int .i64 wd] 31))
  have BX := Lib.hid (Bk.new 31 w [.slice A N c, .int .i64 f, .int .i64 wd])
  obtain ⟨W1, hW1⟩ : ∃ W1, w.alloc (.cells #[.slice A N c, .int .i64 f, .int .i64 wd] 31) = W1 := ⟨_, rfl⟩
  rw [hW1] at L0 BX
  have HI := Lib.hid (RC.out i)
  have x0 := BX.out.c 0
  clear d hN hq hm hbd
  unfold tv
  go_enter Try.func10, Try.ntmps10
  go_wp2
  clear hW1 x0
  go_loopw [7] (fun j wr => ∃ k : Nat, k ≤ N + 2 ∧ j = .int .i64 ((k : Int) - 1) ∧ Hid (Below W1.heap.size W1 wr)) (fun j _ => N + 2 - (intOf j + 1).toNat)
  case atStart => exact ⟨0, Nat.zero_le _, rfl, Lib.hid (Below.refl _ _)⟩
  case round =>
    obtain ⟨k, hk, rfl, HB⟩ := hrel
    have BX1 := Lib.hid (BX.out.next HB.out)
    have x0 := BX1.out.c 0
    have x1 := BX1.out.c 1
    have x2 := BX1.out.c 2
    have LB := Lib.hid (below_next L0.out HB.out)
    by_cases hlt : k < N + 2
    · have t0 : decide ((k : Int) - 1 ≤ (N : Int)) = true := decide_eq_true (by omega)
      have w3 : IntKind.i64.wrap ((k : Int) - 1 + 1) = (k : Int) := by rw [show (k : Int) - 1 + 1 = k by omega]; exact IntWalk.i64_in _ (by omega)
      have RW := Lib.hid (RO.out ((k : Int) - 1) wr LB.out)
      have HJ : Hid (((k + 1 : Nat) : Int) - 1 = (k : Int)) := Lib.hid (by omega)
      rcases RC.out ((k : Int) - 1) with ⟨r, j, hjk, hfj, hjN, hrj, hB, hLL⟩ | ⟨hB, hLL, hout⟩
      · rw [hB, hLL] at RW
        rw [hjk] at RW w3 t0 ⊢
        have KJ : Hid (k = j + 1) := Lib.hid (by omega)
        obtain ⟨b2, o2, cb, B2, d2, ev2, hb2, hc2, ix, lx⟩ := rws_at HR.out hrj
        injection ev2 with ev2 _ ev2c
        subst ev2 ev2c
        have z2 := (LB.out.cell (p := ⟨b2, o2 + j, none⟩) hb2).trans hc2
        have IX := Lib.hid ix
        have LX := Lib.hid lx
        have HB2 := Lib.hid hb2
        have HC2 := Lib.hid hc2
        have t1 : decide ((j : Int) ≥ (f : Int)) = true := decide_eq_true (by omega)
        have t1' : decide (f ≤ j) = true := decide_eq_true hfj
        have t2 : decide ((j : Int) < (N : Int)) = true := decide_eq_true (by omega)
        have t2' : decide (j < N) = true := decide_eq_true hjN
        have i1 : (j : Int) < (N : Int) := by omega
        clear hrj hB hLL hjk ix lx hb2 hc2
        go_wp2_with (first
          | (go_at_call 13; (with_reducible refine (RW.out).mono ?_); rintro r3 w3' ⟨A3, c3, rfl, s3, h31, h32, hb3⟩; have B3 := Lib.hid (below_next HB.out hb3); have L3 := Lib.hid (below_next LB.out hb3); have I3 := Lib.hid s3.ints; have H3 := Lib.hid (Nat.le_trans h31 h32); have BX3 := Lib.hid (BX1.out.next hb3); have x0 := BX3.out.c 0; have x1 := BX3.out.c 1; have x2 := BX3.out.c 2; have z3 := (L3.out.cell (p := ⟨b2, o2 + j, none⟩) HB2.out).trans HC2.out; have IX3 := Lib.hid (SInts.ints (Seq.next IX.out L3.out)); clear s3 h31 h32 hb3)
          | (go_at_call 19; (with_reducible refine (nums_refl A3 c3 r B2 d2 _ H3.out LX.out I3.out IX3.out).mono ?_); rintro r4 w4 ⟨rfl, hb4⟩; have B4 := Lib.hid (below_next B3.out hb4); clear hb4))
        exact ⟨⟨k + 1, by omega, by first | go_num | (rw [HJ.out, KJ.out]; go_num), B4⟩, by have := KJ.out; simp [intOf]; omega⟩
      · rw [hB, hLL] at RW
        obtain ⟨j, hj⟩ : ∃ j : Int, (k : Int) - 1 = j := ⟨_, rfl⟩
        rw [hj] at RW w3 t0 hout ⊢
        have KJ : Hid ((k : Int) = j + 1) := Lib.hid (by omega)
        have wj : IntKind.i64.wrap (j + 1) = (k : Int) := by rw [← KJ.out]; exact IntWalk.i64_in _ (by omega)
        have hjb : -1 ≤ j ∧ j ≤ 1000 := by omega
        clear hB hLL hj
        by_cases h1 : j < (f : Int)
        · have t1 : decide (j ≥ (f : Int)) = false := decide_eq_false (by omega)
          clear hout h1
          go_wp2_with (go_at_call 13; (with_reducible refine (RW.out).mono ?_); rintro r3 w3' ⟨A3, c3, rfl, s3, h31, h32, hb3⟩; have B3 := Lib.hid (below_next HB.out hb3); have BX3 := Lib.hid (BX1.out.next hb3); have x0 := BX3.out.c 0; have x1 := BX3.out.c 1; have x2 := BX3.out.c 2; clear s3 h31 h32 hb3)
          exact ⟨⟨k + 1, by omega, by first | go_num | (rw [HJ.out]; go_num), B3⟩, by have := KJ.out; simp [intOf]; omega⟩
        · have t1 : decide (j ≥ (f : Int)) = true := decide_eq_true (by omega)
          have t2 : decide (j < (N : Int)) = false := decide_eq_false (by omega)
          clear hout h1
          go_wp2_with (go_at_call 13; (with_reducible refine (RW.out).mono ?_); rintro r3 w3' ⟨A3, c3, rfl, s3, h31, h32, hb3⟩; have B3 := Lib.hid (below_next HB.out hb3); have BX3 := Lib.hid (BX1.out.next hb3); have x0 := BX3.out.c 0; have x1 := BX3.out.c 1; have x2 := BX3.out.c 2; clear s3 h31 h32 hb3)
          exact ⟨⟨k + 1, by omega, by first | go_num | (rw [HJ.out]; go_num), B3⟩, by have := KJ.out; simp [intOf]; omega⟩
    · have t0 : decide ((k : Int) - 1 ≤ (N : Int)) = false := decide_eq_false (by omega)
      have RW := Lib.hid (RO.out i wr LB.out)
      clear hlt hk
      rcases HI.out with ⟨r, j, rfl, hfj, hjN, hrj, hB, hLL⟩ | ⟨hB, hLL, hout⟩
      · rw [hB, hLL] at RW
        have t1 : decide ((j : Int) ≥ (f : Int)) = true := decide_eq_true (by omega)
        have t1' : decide (f ≤ j) = true := decide_eq_true hfj
        have t2 : decide ((j : Int) < (N : Int)) = true := decide_eq_true (by omega)
        have t2' : decide (j < N) = true := decide_eq_true hjN
        clear hrj hB hLL HI
        go_wp2_with (go_at_call 13; (with_reducible refine (RW.out).mono ?_); rintro r3 w3' ⟨A3, c3, rfl, s3, h31, h32, hb3⟩; have L3 := Lib.hid (below_next LB.out hb3); have BX3 := Lib.hid (BX1.out.next hb3); clear s3 h31 h32 hb3)
        have hs0 := BX3.out.c 0
        have hs1 := BX3.out.c 1
        have hs2 := BX3.out.c 2
        have HS0 := Lib.hid (show w3'.drew.cell? ⟨w.heap.size, 0, none⟩ = some (.slice A N c) ∧ w3'.drew.cell? ⟨w.heap.size, 1, none⟩ = some (.int .i64 f) ∧ w3'.drew.cell? ⟨w.heap.size, 2, none⟩ = some (.int .i64 wd) from ⟨hs0, hs1, hs2⟩)
        have LD := Lib.hid (show Below w.heap.size w w3'.drew from L3.out.drew)
        have LE := LD
        clear hs0 hs1 hs2
        refine wp_region_held_drew (S := fun w' => w'.cell? ⟨w.heap.size, 0, none⟩ = some (.slice A N c) ∧ w'.cell? ⟨w.heap.size, 1, none⟩ = some (.int .i64 f) ∧ w'.cell? ⟨w.heap.size, 2, none⟩ = some (.int .i64 wd)) (by kernel_rfl) HS0.out (fun hHeld => ?_)
        refine take_yes (i := 0) (some 68) (.pointer (some ⟨g, 0, none⟩)) rfl rfl (by kernel_rfl) (by kernel_rfl) (by kernel_rfl) (fun _ _ _ h => h) (by rfl) HS0.out ?_ ?_
        · (intro wq hSw; obtain ⟨k0, k1, k2⟩ := hSw; go_simp)
        simp only [Act.put, List.setIfInBounds_toArray, List.set_cons_zero, List.set_cons_succ]
        refine take_yes (i := 2) (some 70) (.pointer (some ⟨w.heap.size, 1, none⟩)) rfl rfl (by kernel_rfl) (by kernel_rfl) (by kernel_rfl) (fun _ _ _ h => h) (by rfl) HS0.out ?_ ?_
        · (intro wq hSw; obtain ⟨k0, k1, k2⟩ := hSw; go_simp)
        simp only [Act.put, List.setIfInBounds_toArray, List.set_cons_zero, List.set_cons_succ]
        refine take_yes (i := 3) (some 71) (.int .i64 f) rfl rfl (by kernel_rfl) (by kernel_rfl) (by kernel_rfl) (fun _ _ _ h => h) (by rfl) HS0.out ?_ ?_
        · (intro wq hSw; obtain ⟨k0, k1, k2⟩ := hSw; go_simp)
        simp only [Act.put, List.setIfInBounds_toArray, List.set_cons_zero, List.set_cons_succ]
        refine wpAnyH_ready (rs := [1]) (by kernel_rfl) (by simp) ?_
        refine AllReadyH.cons rfl (fun K hK => ?_) AllReadyH.nil
        go_simp
        (go_at_call 14; (with_reducible refine (FI.out _ LD.out).mono ?_); rintro rc wc ⟨rfl, rfl⟩)
        go_wp2_with fail
        refine hK.out _ _ HS0.out (fun hHeld2 => ?_)
        clear hK K
        refine take_yes (i := 4) (some 72) (.bool true) rfl rfl (by kernel_rfl) (by kernel_rfl) (by kernel_rfl) (fun _ _ _ h => h) (by rfl) HS0.out ?_ ?_
        · (intro wq hSw; obtain ⟨k0, k1, k2⟩ := hSw; go_simp)
        simp only [Act.put, List.setIfInBounds_toArray, List.set_cons_zero, List.set_cons_succ]
        refine take_yes (i := 5) (some 73) (.bool true) rfl rfl (by kernel_rfl) (by kernel_rfl) (by kernel_rfl) (fun _ _ _ h => h) (by rfl) HS0.out ?_ ?_
        · (intro wq hSw; obtain ⟨k0, k1, k2⟩ := hSw; go_simp)
        simp only [Act.put, List.setIfInBounds_toArray, List.set_cons_zero, List.set_cons_succ]
        refine take_yes (i := 6) (some 74) (.pointer (some ⟨g, 0, none⟩)) rfl rfl (by kernel_rfl) (by kernel_rfl) (by kernel_rfl) (fun _ _ _ h => h) (by rfl) HS0.out ?_ ?_
        · (intro wq hSw; obtain ⟨k0, k1, k2⟩ := hSw; go_simp)
        simp only [Act.put, List.setIfInBounds_toArray, List.set_cons_zero, List.set_cons_succ]
        refine take_yes (i := 8) (some 76) (.pointer (some ⟨w.heap.size, 0, none⟩)) rfl rfl (by kernel_rfl) (by kernel_rfl) (by kernel_rfl) (fun _ _ _ h => h) (by rfl) HS0.out ?_ ?_
        · (intro wq hSw; obtain ⟨k0, k1, k2⟩ := hSw; go_simp)
        simp only [Act.put, List.setIfInBounds_toArray, List.set_cons_zero, List.set_cons_succ]
        refine take_yes (i := 9) (some 77) (.slice A N c) rfl rfl (by kernel_rfl) (by kernel_rfl) (by kernel_rfl) (fun _ _ _ h => h) (by rfl) HS0.out ?_ ?_
        · (intro wq hSw; obtain ⟨k0, k1, k2⟩ := hSw; go_simp)
        simp only [Act.put, List.setIfInBounds_toArray, List.set_cons_zero, List.set_cons_succ]
        refine take_yes (i := 10) (some 78) (.int .i64 N) rfl rfl (by kernel_rfl) (by kernel_rfl) (by kernel_rfl) (fun _ _ _ h => h) (by rfl) HS0.out ?_ ?_
        · (intro wq hSw; obtain ⟨k0, k1, k2⟩ := hSw; go_simp)
        simp only [Act.put, List.setIfInBounds_toArray, List.set_cons_zero, List.set_cons_succ]
        refine wpAnyH_ready (rs := [7]) (by kernel_rfl) (by simp) ?_
        refine AllReadyH.cons rfl (fun K hK => ?_) AllReadyH.nil
        go_simp
        (go_at_call 15; (with_reducible refine (EN.out _ LD.out).mono ?_); rintro rc wc ⟨rfl, rfl⟩)
        go_wp2_with fail
        refine hK.out _ _ HS0.out (fun hHeld2 => ?_)
        clear hK K
        refine take_yes (i := 11) (some 79) (.bool true) rfl rfl (by kernel_rfl) (by kernel_rfl) (by kernel_rfl) (fun _ _ _ h => h) (by rfl) HS0.out ?_ ?_
        · (intro wq hSw; obtain ⟨k0, k1, k2⟩ := hSw; go_simp)
        simp only [Act.put, List.setIfInBounds_toArray, List.set_cons_zero, List.set_cons_succ]
        refine take_yes (i := 12) (some 80) (.bool true) rfl rfl (by kernel_rfl) (by kernel_rfl) (by kernel_rfl) (fun _ _ _ h => h) (by rfl) HS0.out ?_ ?_
        · (intro wq hSw; obtain ⟨k0, k1, k2⟩ := hSw; go_simp)
        simp only [Act.put, List.setIfInBounds_toArray, List.set_cons_zero, List.set_cons_succ]
        refine take_yes (i := 13) (some 81) (.bool true) rfl rfl (by kernel_rfl) (by kernel_rfl) (by kernel_rfl) (fun _ _ _ h => h) (by rfl) HS0.out ?_ ?_
        · (intro wq hSw; obtain ⟨k0, k1, k2⟩ := hSw; go_simp)
        simp only [Act.put, List.setIfInBounds_toArray, List.set_cons_zero, List.set_cons_succ]
        refine take_yes (i := 14) (some 82) (.pointer (some ⟨g, 0, none⟩)) rfl rfl (by kernel_rfl) (by kernel_rfl) (by kernel_rfl) (fun _ _ _ h => h) (by rfl) HS0.out ?_ ?_
        · (intro wq hSw; obtain ⟨k0, k1, k2⟩ := hSw; go_simp)
        simp only [Act.put, List.setIfInBounds_toArray, List.set_cons_zero, List.set_cons_succ]
        refine take_yes (i := 16) (some 84) (.pointer (some ⟨w.heap.size, 0, none⟩)) rfl rfl (by kernel_rfl) (by kernel_rfl) (by kernel_rfl) (fun _ _ _ h => h) (by rfl) HS0.out ?_ ?_
        · (intro wq hSw; obtain ⟨k0, k1, k2⟩ := hSw; go_simp)
        simp only [Act.put, List.setIfInBounds_toArray, List.set_cons_zero, List.set_cons_succ]
        refine take_yes (i := 17) (some 85) (.slice A N c) rfl rfl (by kernel_rfl) (by kernel_rfl) (by kernel_rfl) (fun _ _ _ h => h) (by rfl) HS0.out ?_ ?_
        · (intro wq hSw; obtain ⟨k0, k1, k2⟩ := hSw; go_simp)
        simp only [Act.put, List.setIfInBounds_toArray, List.set_cons_zero, List.set_cons_succ]
        refine take_yes (i := 18) (some 86) (.int .i64 N) rfl rfl (by kernel_rfl) (by kernel_rfl) (by kernel_rfl) (fun _ _ _ h => h) (by rfl) HS0.out ?_ ?_
        · (intro wq hSw; obtain ⟨k0, k1, k2⟩ := hSw; go_simp)
        simp only [Act.put, List.setIfInBounds_toArray, List.set_cons_zero, List.set_cons_succ]
        refine take_yes (i := 19) (some 87) (.pointer (some ⟨w.heap.size, 1, none⟩)) rfl rfl (by kernel_rfl) (by kernel_rfl) (by kernel_rfl) (fun _ _ _ h => h) (by rfl) HS0.out ?_ ?_
        · (intro wq hSw; obtain ⟨k0, k1, k2⟩ := hSw; go_simp)
        simp only [Act.put, List.setIfInBounds_toArray, List.set_cons_zero, List.set_cons_succ]
        refine take_yes (i := 20) (some 88) (.int .i64 f) rfl rfl (by kernel_rfl) (by kernel_rfl) (by kernel_rfl) (fun _ _ _ h => h) (by rfl) HS0.out ?_ ?_
        · (intro wq hSw; obtain ⟨k0, k1, k2⟩ := hSw; go_simp)
        simp only [Act.put, List.setIfInBounds_toArray, List.set_cons_zero, List.set_cons_succ]
        refine take_yes (i := 21) (some 89) (.int .i64 q) rfl rfl (by kernel_rfl) (by kernel_rfl) (by kernel_rfl) (fun _ _ _ h => h) (by rfl) HS0.out ?_ ?_
        · (intro wq hSw; obtain ⟨k0, k1, k2⟩ := hSw; go_simp)
        simp only [Act.put, List.setIfInBounds_toArray, List.set_cons_zero, List.set_cons_succ]
        refine take_yes (i := 22) (some 90) (.pointer (some ⟨w.heap.size, 2, none⟩)) rfl rfl (by kernel_rfl) (by kernel_rfl) (by kernel_rfl) (fun _ _ _ h => h) (by rfl) HS0.out ?_ ?_
        · (intro wq hSw; obtain ⟨k0, k1, k2⟩ := hSw; go_simp)
        simp only [Act.put, List.setIfInBounds_toArray, List.set_cons_zero, List.set_cons_succ]
        refine take_yes (i := 23) (some 91) (.int .i64 wd) rfl rfl (by kernel_rfl) (by kernel_rfl) (by kernel_rfl) (fun _ _ _ h => h) (by rfl) HS0.out ?_ ?_
        · (intro wq hSw; obtain ⟨k0, k1, k2⟩ := hSw; go_simp)
        simp only [Act.put, List.setIfInBounds_toArray, List.set_cons_zero, List.set_cons_succ]
        refine take_yes (i := 24) (some 92) (.int .i64 m) rfl rfl (by kernel_rfl) (by kernel_rfl) (by kernel_rfl) (fun _ _ _ h => h) (by rfl) HS0.out ?_ ?_
        · (intro wq hSw; obtain ⟨k0, k1, k2⟩ := hSw; go_simp)
        simp only [Act.put, List.setIfInBounds_toArray, List.set_cons_zero, List.set_cons_succ]
        refine wpAnyH_ready (rs := [15]) (by kernel_rfl) (by simp) ?_
        refine AllReadyH.cons rfl (fun K hK => ?_) AllReadyH.nil
        go_simp
        (go_at_call 16; (with_reducible refine (WO.out _ LD.out).mono ?_); rintro rc wc ⟨rfl, rfl⟩)
        go_wp2_with fail
        refine hK.out _ _ HS0.out (fun hHeld2 => ?_)
        clear hK K
        refine take_yes (i := 25) (some 93) (.bool true) rfl rfl (by kernel_rfl) (by kernel_rfl) (by kernel_rfl) (fun _ _ _ h => h) (by rfl) HS0.out ?_ ?_
        · (intro wq hSw; obtain ⟨k0, k1, k2⟩ := hSw; go_simp)
        simp only [Act.put, List.setIfInBounds_toArray, List.set_cons_zero, List.set_cons_succ]
        refine take_yes (i := 26) (some 94) (.bool true) rfl rfl (by kernel_rfl) (by kernel_rfl) (by kernel_rfl) (fun _ _ _ h => h) (by rfl) HS0.out ?_ ?_
        · (intro wq hSw; obtain ⟨k0, k1, k2⟩ := hSw; go_simp)
        simp only [Act.put, List.setIfInBounds_toArray, List.set_cons_zero, List.set_cons_succ]
        refine take_yes (i := 27) (some 95) (.bool true) rfl rfl (by kernel_rfl) (by kernel_rfl) (by kernel_rfl) (fun _ _ _ h => h) (by rfl) HS0.out ?_ ?_
        · (intro wq hSw; obtain ⟨k0, k1, k2⟩ := hSw; go_simp)
        simp only [Act.put, List.setIfInBounds_toArray, List.set_cons_zero, List.set_cons_succ]
        refine take_yes (i := 28) (some 96) (.bool true) rfl rfl (by kernel_rfl) (by kernel_rfl) (by kernel_rfl) (fun _ _ _ h => h) (by rfl) HS0.out ?_ ?_
        · (intro wq hSw; obtain ⟨k0, k1, k2⟩ := hSw; go_simp)
        simp only [Act.put, List.setIfInBounds_toArray, List.set_cons_zero, List.set_cons_succ]
        refine take_yes (i := 29) (some 97) (.int .i64 j) rfl rfl (by kernel_rfl) (by kernel_rfl) (by kernel_rfl) (fun _ _ _ h => h) (by rfl) HS0.out ?_ ?_
        · (intro wq hSw; obtain ⟨k0, k1, k2⟩ := hSw; go_simp)
        simp only [Act.put, List.setIfInBounds_toArray, List.set_cons_zero, List.set_cons_succ]
        refine take_yes (i := 30) (some 98) (.pointer (some ⟨w.heap.size, 1, none⟩)) rfl rfl (by kernel_rfl) (by kernel_rfl) (by kernel_rfl) (fun _ _ _ h => h) (by rfl) HS0.out ?_ ?_
        · (intro wq hSw; obtain ⟨k0, k1, k2⟩ := hSw; go_simp)
        simp only [Act.put, List.setIfInBounds_toArray, List.set_cons_zero, List.set_cons_succ]
        refine take_yes (i := 31) (some 99) (.int .i64 f) rfl rfl (by kernel_rfl) (by kernel_rfl) (by kernel_rfl) (fun _ _ _ h => h) (by rfl) HS0.out ?_ ?_
        · (intro wq hSw; obtain ⟨k0, k1, k2⟩ := hSw; go_simp)
        simp only [Act.put, List.setIfInBounds_toArray, List.set_cons_zero, List.set_cons_succ]
        refine take_yes (i := 32) (some 100) (.bool true) rfl rfl (by kernel_rfl) (by kernel_rfl) (by kernel_rfl) (fun _ _ _ h => h) (by rfl) HS0.out ?_ ?_
        · (intro wq hSw; obtain ⟨k0, k1, k2⟩ := hSw; go_simp)
        simp only [Act.put, List.setIfInBounds_toArray, List.set_cons_zero, List.set_cons_succ]
        refine take_yes (i := 33) (some 101) (.bool true) rfl rfl (by kernel_rfl) (by kernel_rfl) (by kernel_rfl) (fun _ _ _ h => h) (by rfl) HS0.out ?_ ?_
        · (intro wq hSw; obtain ⟨k0, k1, k2⟩ := hSw; go_simp)
        simp only [Act.put, List.setIfInBounds_toArray, List.set_cons_zero, List.set_cons_succ]
        refine take_yes (i := 34) (some 102) (.int .i64 j) rfl rfl (by kernel_rfl) (by kernel_rfl) (by kernel_rfl) (fun _ _ _ h => h) (by rfl) HS0.out ?_ ?_
        · (intro wq hSw; obtain ⟨k0, k1, k2⟩ := hSw; go_simp)
        simp only [Act.put, List.setIfInBounds_toArray, List.set_cons_zero, List.set_cons_succ]
        refine take_yes (i := 35) (some 103) (.pointer (some ⟨w.heap.size, 0, none⟩)) rfl rfl (by kernel_rfl) (by kernel_rfl) (by kernel_rfl) (fun _ _ _ h => h) (by rfl) HS0.out ?_ ?_
        · (intro wq hSw; obtain ⟨k0, k1, k2⟩ := hSw; go_simp)
        simp only [Act.put, List.setIfInBounds_toArray, List.set_cons_zero, List.set_cons_succ]
        refine take_yes (i := 36) (some 104) (.slice A N c) rfl rfl (by kernel_rfl) (by kernel_rfl) (by kernel_rfl) (fun _ _ _ h => h) (by rfl) HS0.out ?_ ?_
        · (intro wq hSw; obtain ⟨k0, k1, k2⟩ := hSw; go_simp)
        simp only [Act.put, List.setIfInBounds_toArray, List.set_cons_zero, List.set_cons_succ]
        refine take_yes (i := 37) (some 105) (.int .i64 N) rfl rfl (by kernel_rfl) (by kernel_rfl) (by kernel_rfl) (fun _ _ _ h => h) (by rfl) HS0.out ?_ ?_
        · (intro wq hSw; obtain ⟨k0, k1, k2⟩ := hSw; go_simp)
        simp only [Act.put, List.setIfInBounds_toArray, List.set_cons_zero, List.set_cons_succ]
        refine take_yes (i := 38) (some 106) (.bool true) rfl rfl (by kernel_rfl) (by kernel_rfl) (by kernel_rfl) (fun _ _ _ h => h) (by rfl) HS0.out ?_ ?_
        · (intro wq hSw; obtain ⟨k0, k1, k2⟩ := hSw; go_simp)
        simp only [Act.put, List.setIfInBounds_toArray, List.set_cons_zero, List.set_cons_succ]
        refine take_yes (i := 39) (some 107) (.bool true) rfl rfl (by kernel_rfl) (by kernel_rfl) (by kernel_rfl) (fun _ _ _ h => h) (by rfl) HS0.out ?_ ?_
        · (intro wq hSw; obtain ⟨k0, k1, k2⟩ := hSw; go_simp)
        simp only [Act.put, List.setIfInBounds_toArray, List.set_cons_zero, List.set_cons_succ]
        refine take_yes (i := 40) (some 108) (.bool true) rfl rfl (by kernel_rfl) (by kernel_rfl) (by kernel_rfl) (fun _ _ _ h => h) (by rfl) HS0.out ?_ ?_
        · (intro wq hSw; obtain ⟨k0, k1, k2⟩ := hSw; go_simp)
        simp only [Act.put, List.setIfInBounds_toArray, List.set_cons_zero, List.set_cons_succ]
        refine take_yes (i := 41) (some 109) (.bool true) rfl rfl (by kernel_rfl) (by kernel_rfl) (by kernel_rfl) (fun _ _ _ h => h) (by rfl) HS0.out ?_ ?_
        · (intro wq hSw; obtain ⟨k0, k1, k2⟩ := hSw; go_simp)
        simp only [Act.put, List.setIfInBounds_toArray, List.set_cons_zero, List.set_cons_succ]
        refine take_yes (i := 42) (some 6) (.bool true) rfl rfl (by kernel_rfl) (by kernel_rfl) (by kernel_rfl) (fun _ _ _ h => h) (by rfl) HS0.out ?_ ?_
        · (intro wq hSw; obtain ⟨k0, k1, k2⟩ := hSw; go_simp)
        simp only [Act.put, List.setIfInBounds_toArray, List.set_cons_zero, List.set_cons_succ]
        refine wpAnyH_done (by kernel_rfl) ?_ _
        go_wp2_with fail
        go_ret
        exact ⟨rfl, LE.out⟩
      · rw [hB, hLL] at RW
        by_cases h1 : i < (f : Int)
        · have t1 : decide (i ≥ (f : Int)) = false := decide_eq_false (by omega)
          clear hout h1 hB hLL HI
          go_wp2_with (go_at_call 13; (with_reducible refine (RW.out).mono ?_); rintro r3 w3' ⟨A3, c3, rfl, s3, h31, h32, hb3⟩; have L3 := Lib.hid (below_next LB.out hb3); have BX3 := Lib.hid (BX1.out.next hb3); clear s3 h31 h32 hb3)
          have hs0 := BX3.out.c 0
          have hs1 := BX3.out.c 1
          have hs2 := BX3.out.c 2
          have HS0 := Lib.hid (show w3'.drew.cell? ⟨w.heap.size, 0, none⟩ = some (.slice A N c) ∧ w3'.drew.cell? ⟨w.heap.size, 1, none⟩ = some (.int .i64 f) ∧ w3'.drew.cell? ⟨w.heap.size, 2, none⟩ = some (.int .i64 wd) from ⟨hs0, hs1, hs2⟩)
          have LD := Lib.hid (show Below w.heap.size w w3'.drew from L3.out.drew)
          have LE := LD
          clear hs0 hs1 hs2
          refine wp_region_held_drew (S := fun w' => w'.cell? ⟨w.heap.size, 0, none⟩ = some (.slice A N c) ∧ w'.cell? ⟨w.heap.size, 1, none⟩ = some (.int .i64 f) ∧ w'.cell? ⟨w.heap.size, 2, none⟩ = some (.int .i64 wd)) (by kernel_rfl) HS0.out (fun hHeld => ?_)
          refine take_yes (i := 0) (some 68) (.pointer (some ⟨g, 0, none⟩)) rfl rfl (by kernel_rfl) (by kernel_rfl) (by kernel_rfl) (fun _ _ _ h => h) (by rfl) HS0.out ?_ ?_
          · (intro wq hSw; obtain ⟨k0, k1, k2⟩ := hSw; go_simp)
          simp only [Act.put, List.setIfInBounds_toArray, List.set_cons_zero, List.set_cons_succ]
          refine take_yes (i := 2) (some 70) (.pointer (some ⟨w.heap.size, 1, none⟩)) rfl rfl (by kernel_rfl) (by kernel_rfl) (by kernel_rfl) (fun _ _ _ h => h) (by rfl) HS0.out ?_ ?_
          · (intro wq hSw; obtain ⟨k0, k1, k2⟩ := hSw; go_simp)
          simp only [Act.put, List.setIfInBounds_toArray, List.set_cons_zero, List.set_cons_succ]
          refine take_yes (i := 3) (some 71) (.int .i64 f) rfl rfl (by kernel_rfl) (by kernel_rfl) (by kernel_rfl) (fun _ _ _ h => h) (by rfl) HS0.out ?_ ?_
          · (intro wq hSw; obtain ⟨k0, k1, k2⟩ := hSw; go_simp)
          simp only [Act.put, List.setIfInBounds_toArray, List.set_cons_zero, List.set_cons_succ]
          refine wpAnyH_ready (rs := [1]) (by kernel_rfl) (by simp) ?_
          refine AllReadyH.cons rfl (fun K hK => ?_) AllReadyH.nil
          go_simp
          (go_at_call 14; (with_reducible refine (FI.out _ LD.out).mono ?_); rintro rc wc ⟨rfl, rfl⟩)
          go_wp2_with fail
          refine hK.out _ _ HS0.out (fun hHeld2 => ?_)
          clear hK K
          refine take_yes (i := 4) (some 72) (.bool true) rfl rfl (by kernel_rfl) (by kernel_rfl) (by kernel_rfl) (fun _ _ _ h => h) (by rfl) HS0.out ?_ ?_
          · (intro wq hSw; obtain ⟨k0, k1, k2⟩ := hSw; go_simp)
          simp only [Act.put, List.setIfInBounds_toArray, List.set_cons_zero, List.set_cons_succ]
          refine take_yes (i := 5) (some 73) (.bool true) rfl rfl (by kernel_rfl) (by kernel_rfl) (by kernel_rfl) (fun _ _ _ h => h) (by rfl) HS0.out ?_ ?_
          · (intro wq hSw; obtain ⟨k0, k1, k2⟩ := hSw; go_simp)
          simp only [Act.put, List.setIfInBounds_toArray, List.set_cons_zero, List.set_cons_succ]
          refine take_yes (i := 6) (some 74) (.pointer (some ⟨g, 0, none⟩)) rfl rfl (by kernel_rfl) (by kernel_rfl) (by kernel_rfl) (fun _ _ _ h => h) (by rfl) HS0.out ?_ ?_
          · (intro wq hSw; obtain ⟨k0, k1, k2⟩ := hSw; go_simp)
          simp only [Act.put, List.setIfInBounds_toArray, List.set_cons_zero, List.set_cons_succ]
          refine take_yes (i := 8) (some 76) (.pointer (some ⟨w.heap.size, 0, none⟩)) rfl rfl (by kernel_rfl) (by kernel_rfl) (by kernel_rfl) (fun _ _ _ h => h) (by rfl) HS0.out ?_ ?_
          · (intro wq hSw; obtain ⟨k0, k1, k2⟩ := hSw; go_simp)
          simp only [Act.put, List.setIfInBounds_toArray, List.set_cons_zero, List.set_cons_succ]
          refine take_yes (i := 9) (some 77) (.slice A N c) rfl rfl (by kernel_rfl) (by kernel_rfl) (by kernel_rfl) (fun _ _ _ h => h) (by rfl) HS0.out ?_ ?_
          · (intro wq hSw; obtain ⟨k0, k1, k2⟩ := hSw; go_simp)
          simp only [Act.put, List.setIfInBounds_toArray, List.set_cons_zero, List.set_cons_succ]
          refine take_yes (i := 10) (some 78) (.int .i64 N) rfl rfl (by kernel_rfl) (by kernel_rfl) (by kernel_rfl) (fun _ _ _ h => h) (by rfl) HS0.out ?_ ?_
          · (intro wq hSw; obtain ⟨k0, k1, k2⟩ := hSw; go_simp)
          simp only [Act.put, List.setIfInBounds_toArray, List.set_cons_zero, List.set_cons_succ]
          refine wpAnyH_ready (rs := [7]) (by kernel_rfl) (by simp) ?_
          refine AllReadyH.cons rfl (fun K hK => ?_) AllReadyH.nil
          go_simp
          (go_at_call 15; (with_reducible refine (EN.out _ LD.out).mono ?_); rintro rc wc ⟨rfl, rfl⟩)
          go_wp2_with fail
          refine hK.out _ _ HS0.out (fun hHeld2 => ?_)
          clear hK K
          refine take_yes (i := 11) (some 79) (.bool true) rfl rfl (by kernel_rfl) (by kernel_rfl) (by kernel_rfl) (fun _ _ _ h => h) (by rfl) HS0.out ?_ ?_
          · (intro wq hSw; obtain ⟨k0, k1, k2⟩ := hSw; go_simp)
          simp only [Act.put, List.setIfInBounds_toArray, List.set_cons_zero, List.set_cons_succ]
          refine take_yes (i := 12) (some 80) (.bool true) rfl rfl (by kernel_rfl) (by kernel_rfl) (by kernel_rfl) (fun _ _ _ h => h) (by rfl) HS0.out ?_ ?_
          · (intro wq hSw; obtain ⟨k0, k1, k2⟩ := hSw; go_simp)
          simp only [Act.put, List.setIfInBounds_toArray, List.set_cons_zero, List.set_cons_succ]
          refine take_yes (i := 13) (some 81) (.bool true) rfl rfl (by kernel_rfl) (by kernel_rfl) (by kernel_rfl) (fun _ _ _ h => h) (by rfl) HS0.out ?_ ?_
          · (intro wq hSw; obtain ⟨k0, k1, k2⟩ := hSw; go_simp)
          simp only [Act.put, List.setIfInBounds_toArray, List.set_cons_zero, List.set_cons_succ]
          refine take_yes (i := 14) (some 82) (.pointer (some ⟨g, 0, none⟩)) rfl rfl (by kernel_rfl) (by kernel_rfl) (by kernel_rfl) (fun _ _ _ h => h) (by rfl) HS0.out ?_ ?_
          · (intro wq hSw; obtain ⟨k0, k1, k2⟩ := hSw; go_simp)
          simp only [Act.put, List.setIfInBounds_toArray, List.set_cons_zero, List.set_cons_succ]
          refine take_yes (i := 16) (some 84) (.pointer (some ⟨w.heap.size, 0, none⟩)) rfl rfl (by kernel_rfl) (by kernel_rfl) (by kernel_rfl) (fun _ _ _ h => h) (by rfl) HS0.out ?_ ?_
          · (intro wq hSw; obtain ⟨k0, k1, k2⟩ := hSw; go_simp)
          simp only [Act.put, List.setIfInBounds_toArray, List.set_cons_zero, List.set_cons_succ]
          refine take_yes (i := 17) (some 85) (.slice A N c) rfl rfl (by kernel_rfl) (by kernel_rfl) (by kernel_rfl) (fun _ _ _ h => h) (by rfl) HS0.out ?_ ?_
          · (intro wq hSw; obtain ⟨k0, k1, k2⟩ := hSw; go_simp)
          simp only [Act.put, List.setIfInBounds_toArray, List.set_cons_zero, List.set_cons_succ]
          refine take_yes (i := 18) (some 86) (.int .i64 N) rfl rfl (by kernel_rfl) (by kernel_rfl) (by kernel_rfl) (fun _ _ _ h => h) (by rfl) HS0.out ?_ ?_
          · (intro wq hSw; obtain ⟨k0, k1, k2⟩ := hSw; go_simp)
          simp only [Act.put, List.setIfInBounds_toArray, List.set_cons_zero, List.set_cons_succ]
          refine take_yes (i := 19) (some 87) (.pointer (some ⟨w.heap.size, 1, none⟩)) rfl rfl (by kernel_rfl) (by kernel_rfl) (by kernel_rfl) (fun _ _ _ h => h) (by rfl) HS0.out ?_ ?_
          · (intro wq hSw; obtain ⟨k0, k1, k2⟩ := hSw; go_simp)
          simp only [Act.put, List.setIfInBounds_toArray, List.set_cons_zero, List.set_cons_succ]
          refine take_yes (i := 20) (some 88) (.int .i64 f) rfl rfl (by kernel_rfl) (by kernel_rfl) (by kernel_rfl) (fun _ _ _ h => h) (by rfl) HS0.out ?_ ?_
          · (intro wq hSw; obtain ⟨k0, k1, k2⟩ := hSw; go_simp)
          simp only [Act.put, List.setIfInBounds_toArray, List.set_cons_zero, List.set_cons_succ]
          refine take_yes (i := 21) (some 89) (.int .i64 q) rfl rfl (by kernel_rfl) (by kernel_rfl) (by kernel_rfl) (fun _ _ _ h => h) (by rfl) HS0.out ?_ ?_
          · (intro wq hSw; obtain ⟨k0, k1, k2⟩ := hSw; go_simp)
          simp only [Act.put, List.setIfInBounds_toArray, List.set_cons_zero, List.set_cons_succ]
          refine take_yes (i := 22) (some 90) (.pointer (some ⟨w.heap.size, 2, none⟩)) rfl rfl (by kernel_rfl) (by kernel_rfl) (by kernel_rfl) (fun _ _ _ h => h) (by rfl) HS0.out ?_ ?_
          · (intro wq hSw; obtain ⟨k0, k1, k2⟩ := hSw; go_simp)
          simp only [Act.put, List.setIfInBounds_toArray, List.set_cons_zero, List.set_cons_succ]
          refine take_yes (i := 23) (some 91) (.int .i64 wd) rfl rfl (by kernel_rfl) (by kernel_rfl) (by kernel_rfl) (fun _ _ _ h => h) (by rfl) HS0.out ?_ ?_
          · (intro wq hSw; obtain ⟨k0, k1, k2⟩ := hSw; go_simp)
          simp only [Act.put, List.setIfInBounds_toArray, List.set_cons_zero, List.set_cons_succ]
          refine take_yes (i := 24) (some 92) (.int .i64 m) rfl rfl (by kernel_rfl) (by kernel_rfl) (by kernel_rfl) (fun _ _ _ h => h) (by rfl) HS0.out ?_ ?_
          · (intro wq hSw; obtain ⟨k0, k1, k2⟩ := hSw; go_simp)
          simp only [Act.put, List.setIfInBounds_toArray, List.set_cons_zero, List.set_cons_succ]
          refine wpAnyH_ready (rs := [15]) (by kernel_rfl) (by simp) ?_
          refine AllReadyH.cons rfl (fun K hK => ?_) AllReadyH.nil
          go_simp
          (go_at_call 16; (with_reducible refine (WO.out _ LD.out).mono ?_); rintro rc wc ⟨rfl, rfl⟩)
          go_wp2_with fail
          refine hK.out _ _ HS0.out (fun hHeld2 => ?_)
          clear hK K
          refine take_yes (i := 25) (some 93) (.bool true) rfl rfl (by kernel_rfl) (by kernel_rfl) (by kernel_rfl) (fun _ _ _ h => h) (by rfl) HS0.out ?_ ?_
          · (intro wq hSw; obtain ⟨k0, k1, k2⟩ := hSw; go_simp)
          simp only [Act.put, List.setIfInBounds_toArray, List.set_cons_zero, List.set_cons_succ]
          refine take_yes (i := 26) (some 94) (.bool true) rfl rfl (by kernel_rfl) (by kernel_rfl) (by kernel_rfl) (fun _ _ _ h => h) (by rfl) HS0.out ?_ ?_
          · (intro wq hSw; obtain ⟨k0, k1, k2⟩ := hSw; go_simp)
          simp only [Act.put, List.setIfInBounds_toArray, List.set_cons_zero, List.set_cons_succ]
          refine take_yes (i := 27) (some 95) (.bool true) rfl rfl (by kernel_rfl) (by kernel_rfl) (by kernel_rfl) (fun _ _ _ h => h) (by rfl) HS0.out ?_ ?_
          · (intro wq hSw; obtain ⟨k0, k1, k2⟩ := hSw; go_simp)
          simp only [Act.put, List.setIfInBounds_toArray, List.set_cons_zero, List.set_cons_succ]
          refine take_yes (i := 28) (some 96) (.bool false) rfl rfl (by kernel_rfl) (by kernel_rfl) (by kernel_rfl) (fun _ _ _ h => h) (by rfl) HS0.out ?_ ?_
          · (intro wq hSw; obtain ⟨k0, k1, k2⟩ := hSw; go_simp)
          simp only [Act.put, List.setIfInBounds_toArray, List.set_cons_zero, List.set_cons_succ]
          refine take_yes (i := 29) (some 97) (.int .i64 i) rfl rfl (by kernel_rfl) (by kernel_rfl) (by kernel_rfl) (fun _ _ _ h => h) (by rfl) HS0.out ?_ ?_
          · (intro wq hSw; obtain ⟨k0, k1, k2⟩ := hSw; go_simp)
          simp only [Act.put, List.setIfInBounds_toArray, List.set_cons_zero, List.set_cons_succ]
          refine take_yes (i := 30) (some 98) (.pointer (some ⟨w.heap.size, 1, none⟩)) rfl rfl (by kernel_rfl) (by kernel_rfl) (by kernel_rfl) (fun _ _ _ h => h) (by rfl) HS0.out ?_ ?_
          · (intro wq hSw; obtain ⟨k0, k1, k2⟩ := hSw; go_simp)
          simp only [Act.put, List.setIfInBounds_toArray, List.set_cons_zero, List.set_cons_succ]
          refine take_yes (i := 31) (some 99) (.int .i64 f) rfl rfl (by kernel_rfl) (by kernel_rfl) (by kernel_rfl) (fun _ _ _ h => h) (by rfl) HS0.out ?_ ?_
          · (intro wq hSw; obtain ⟨k0, k1, k2⟩ := hSw; go_simp)
          simp only [Act.put, List.setIfInBounds_toArray, List.set_cons_zero, List.set_cons_succ]
          refine take_yes (i := 32) (some 100) (.bool false) rfl rfl (by kernel_rfl) (by kernel_rfl) (by kernel_rfl) (fun _ _ _ h => h) (by rfl) HS0.out ?_ ?_
          · (intro wq hSw; obtain ⟨k0, k1, k2⟩ := hSw; go_simp)
          simp only [Act.put, List.setIfInBounds_toArray, List.set_cons_zero, List.set_cons_succ]
          refine take_yes (i := 33) (some 101) (.bool false) rfl rfl (by kernel_rfl) (by kernel_rfl) (by kernel_rfl) (fun _ _ _ h => h) (by rfl) HS0.out ?_ ?_
          · (intro wq hSw; obtain ⟨k0, k1, k2⟩ := hSw; go_simp)
          simp only [Act.put, List.setIfInBounds_toArray, List.set_cons_zero, List.set_cons_succ]
          refine take_no (i := 34) (some 102) rfl rfl (by kernel_rfl) (by kernel_rfl) (by kernel_rfl) (fun _ _ _ h => h) (by rfl) HS0.out ?_
          simp only [Act.put, List.setIfInBounds_toArray, List.set_cons_zero, List.set_cons_succ]
          refine take_no (i := 35) (some 103) rfl rfl (by kernel_rfl) (by kernel_rfl) (by kernel_rfl) (fun _ _ _ h => h) (by rfl) HS0.out ?_
          simp only [Act.put, List.setIfInBounds_toArray, List.set_cons_zero, List.set_cons_succ]
          refine take_no (i := 36) (some 104) rfl rfl (by kernel_rfl) (by kernel_rfl) (by kernel_rfl) (fun _ _ _ h => h) (by rfl) HS0.out ?_
          simp only [Act.put, List.setIfInBounds_toArray, List.set_cons_zero, List.set_cons_succ]
          refine take_no (i := 37) (some 105) rfl rfl (by kernel_rfl) (by kernel_rfl) (by kernel_rfl) (fun _ _ _ h => h) (by rfl) HS0.out ?_
          simp only [Act.put, List.setIfInBounds_toArray, List.set_cons_zero, List.set_cons_succ]
          refine take_no (i := 38) (some 106) rfl rfl (by kernel_rfl) (by kernel_rfl) (by kernel_rfl) (fun _ _ _ h => h) (by rfl) HS0.out ?_
          simp only [Act.put, List.setIfInBounds_toArray, List.set_cons_zero, List.set_cons_succ]
          refine take_yes (i := 39) (some 107) (.bool false) rfl rfl (by kernel_rfl) (by kernel_rfl) (by kernel_rfl) (fun _ _ _ h => h) (by rfl) HS0.out ?_ ?_
          · (intro wq hSw; obtain ⟨k0, k1, k2⟩ := hSw; go_simp)
          simp only [Act.put, List.setIfInBounds_toArray, List.set_cons_zero, List.set_cons_succ]
          refine take_yes (i := 40) (some 108) (.bool true) rfl rfl (by kernel_rfl) (by kernel_rfl) (by kernel_rfl) (fun _ _ _ h => h) (by rfl) HS0.out ?_ ?_
          · (intro wq hSw; obtain ⟨k0, k1, k2⟩ := hSw; go_simp)
          simp only [Act.put, List.setIfInBounds_toArray, List.set_cons_zero, List.set_cons_succ]
          refine take_yes (i := 41) (some 109) (.bool true) rfl rfl (by kernel_rfl) (by kernel_rfl) (by kernel_rfl) (fun _ _ _ h => h) (by rfl) HS0.out ?_ ?_
          · (intro wq hSw; obtain ⟨k0, k1, k2⟩ := hSw; go_simp)
          simp only [Act.put, List.setIfInBounds_toArray, List.set_cons_zero, List.set_cons_succ]
          refine take_yes (i := 42) (some 6) (.bool true) rfl rfl (by kernel_rfl) (by kernel_rfl) (by kernel_rfl) (fun _ _ _ h => h) (by rfl) HS0.out ?_ ?_
          · (intro wq hSw; obtain ⟨k0, k1, k2⟩ := hSw; go_simp)
          simp only [Act.put, List.setIfInBounds_toArray, List.set_cons_zero, List.set_cons_succ]
          refine wpAnyH_done (by kernel_rfl) ?_ _
          go_wp2_with fail
          go_ret
          exact ⟨rfl, LE.out⟩
        · have t1 : decide (i ≥ (f : Int)) = true := decide_eq_true (by omega)
          have t2 : decide (i < (N : Int)) = false := decide_eq_false (by omega)
          clear hout h1 hB hLL HI
          go_wp2_with (go_at_call 13; (with_reducible refine (RW.out).mono ?_); rintro r3 w3' ⟨A3, c3, rfl, s3, h31, h32, hb3⟩; have L3 := Lib.hid (below_next LB.out hb3); have BX3 := Lib.hid (BX1.out.next hb3); clear s3 h31 h32 hb3)
          have hs0 := BX3.out.c 0
          have hs1 := BX3.out.c 1
          have hs2 := BX3.out.c 2
          have HS0 := Lib.hid (show w3'.drew.cell? ⟨w.heap.size, 0, none⟩ = some (.slice A N c) ∧ w3'.drew.cell? ⟨w.heap.size, 1, none⟩ = some (.int .i64 f) ∧ w3'.drew.cell? ⟨w.heap.size, 2, none⟩ = some (.int .i64 wd) from ⟨hs0, hs1, hs2⟩)
          have LD := Lib.hid (show Below w.heap.size w w3'.drew from L3.out.drew)
          have LE := LD
          clear hs0 hs1 hs2
          refine wp_region_held_drew (S := fun w' => w'.cell? ⟨w.heap.size, 0, none⟩ = some (.slice A N c) ∧ w'.cell? ⟨w.heap.size, 1, none⟩ = some (.int .i64 f) ∧ w'.cell? ⟨w.heap.size, 2, none⟩ = some (.int .i64 wd)) (by kernel_rfl) HS0.out (fun hHeld => ?_)
          refine take_yes (i := 0) (some 68) (.pointer (some ⟨g, 0, none⟩)) rfl rfl (by kernel_rfl) (by kernel_rfl) (by kernel_rfl) (fun _ _ _ h => h) (by rfl) HS0.out ?_ ?_
          · (intro wq hSw; obtain ⟨k0, k1, k2⟩ := hSw; go_simp)
          simp only [Act.put, List.setIfInBounds_toArray, List.set_cons_zero, List.set_cons_succ]
          refine take_yes (i := 2) (some 70) (.pointer (some ⟨w.heap.size, 1, none⟩)) rfl rfl (by kernel_rfl) (by kernel_rfl) (by kernel_rfl) (fun _ _ _ h => h) (by rfl) HS0.out ?_ ?_
          · (intro wq hSw; obtain ⟨k0, k1, k2⟩ := hSw; go_simp)
          simp only [Act.put, List.setIfInBounds_toArray, List.set_cons_zero, List.set_cons_succ]
          refine take_yes (i := 3) (some 71) (.int .i64 f) rfl rfl (by kernel_rfl) (by kernel_rfl) (by kernel_rfl) (fun _ _ _ h => h) (by rfl) HS0.out ?_ ?_
          · (intro wq hSw; obtain ⟨k0, k1, k2⟩ := hSw; go_simp)
          simp only [Act.put, List.setIfInBounds_toArray, List.set_cons_zero, List.set_cons_succ]
          refine wpAnyH_ready (rs := [1]) (by kernel_rfl) (by simp) ?_
          refine AllReadyH.cons rfl (fun K hK => ?_) AllReadyH.nil
          go_simp
          (go_at_call 14; (with_reducible refine (FI.out _ LD.out).mono ?_); rintro rc wc ⟨rfl, rfl⟩)
          go_wp2_with fail
          refine hK.out _ _ HS0.out (fun hHeld2 => ?_)
          clear hK K
          refine take_yes (i := 4) (some 72) (.bool true) rfl rfl (by kernel_rfl) (by kernel_rfl) (by kernel_rfl) (fun _ _ _ h => h) (by rfl) HS0.out ?_ ?_
          · (intro wq hSw; obtain ⟨k0, k1, k2⟩ := hSw; go_simp)
          simp only [Act.put, List.setIfInBounds_toArray, List.set_cons_zero, List.set_cons_succ]
          refine take_yes (i := 5) (some 73) (.bool true) rfl rfl (by kernel_rfl) (by kernel_rfl) (by kernel_rfl) (fun _ _ _ h => h) (by rfl) HS0.out ?_ ?_
          · (intro wq hSw; obtain ⟨k0, k1, k2⟩ := hSw; go_simp)
          simp only [Act.put, List.setIfInBounds_toArray, List.set_cons_zero, List.set_cons_succ]
          refine take_yes (i := 6) (some 74) (.pointer (some ⟨g, 0, none⟩)) rfl rfl (by kernel_rfl) (by kernel_rfl) (by kernel_rfl) (fun _ _ _ h => h) (by rfl) HS0.out ?_ ?_
          · (intro wq hSw; obtain ⟨k0, k1, k2⟩ := hSw; go_simp)
          simp only [Act.put, List.setIfInBounds_toArray, List.set_cons_zero, List.set_cons_succ]
          refine take_yes (i := 8) (some 76) (.pointer (some ⟨w.heap.size, 0, none⟩)) rfl rfl (by kernel_rfl) (by kernel_rfl) (by kernel_rfl) (fun _ _ _ h => h) (by rfl) HS0.out ?_ ?_
          · (intro wq hSw; obtain ⟨k0, k1, k2⟩ := hSw; go_simp)
          simp only [Act.put, List.setIfInBounds_toArray, List.set_cons_zero, List.set_cons_succ]
          refine take_yes (i := 9) (some 77) (.slice A N c) rfl rfl (by kernel_rfl) (by kernel_rfl) (by kernel_rfl) (fun _ _ _ h => h) (by rfl) HS0.out ?_ ?_
          · (intro wq hSw; obtain ⟨k0, k1, k2⟩ := hSw; go_simp)
          simp only [Act.put, List.setIfInBounds_toArray, List.set_cons_zero, List.set_cons_succ]
          refine take_yes (i := 10) (some 78) (.int .i64 N) rfl rfl (by kernel_rfl) (by kernel_rfl) (by kernel_rfl) (fun _ _ _ h => h) (by rfl) HS0.out ?_ ?_
          · (intro wq hSw; obtain ⟨k0, k1, k2⟩ := hSw; go_simp)
          simp only [Act.put, List.setIfInBounds_toArray, List.set_cons_zero, List.set_cons_succ]
          refine wpAnyH_ready (rs := [7]) (by kernel_rfl) (by simp) ?_
          refine AllReadyH.cons rfl (fun K hK => ?_) AllReadyH.nil
          go_simp
          (go_at_call 15; (with_reducible refine (EN.out _ LD.out).mono ?_); rintro rc wc ⟨rfl, rfl⟩)
          go_wp2_with fail
          refine hK.out _ _ HS0.out (fun hHeld2 => ?_)
          clear hK K
          refine take_yes (i := 11) (some 79) (.bool true) rfl rfl (by kernel_rfl) (by kernel_rfl) (by kernel_rfl) (fun _ _ _ h => h) (by rfl) HS0.out ?_ ?_
          · (intro wq hSw; obtain ⟨k0, k1, k2⟩ := hSw; go_simp)
          simp only [Act.put, List.setIfInBounds_toArray, List.set_cons_zero, List.set_cons_succ]
          refine take_yes (i := 12) (some 80) (.bool true) rfl rfl (by kernel_rfl) (by kernel_rfl) (by kernel_rfl) (fun _ _ _ h => h) (by rfl) HS0.out ?_ ?_
          · (intro wq hSw; obtain ⟨k0, k1, k2⟩ := hSw; go_simp)
          simp only [Act.put, List.setIfInBounds_toArray, List.set_cons_zero, List.set_cons_succ]
          refine take_yes (i := 13) (some 81) (.bool true) rfl rfl (by kernel_rfl) (by kernel_rfl) (by kernel_rfl) (fun _ _ _ h => h) (by rfl) HS0.out ?_ ?_
          · (intro wq hSw; obtain ⟨k0, k1, k2⟩ := hSw; go_simp)
          simp only [Act.put, List.setIfInBounds_toArray, List.set_cons_zero, List.set_cons_succ]
          refine take_yes (i := 14) (some 82) (.pointer (some ⟨g, 0, none⟩)) rfl rfl (by kernel_rfl) (by kernel_rfl) (by kernel_rfl) (fun _ _ _ h => h) (by rfl) HS0.out ?_ ?_
          · (intro wq hSw; obtain ⟨k0, k1, k2⟩ := hSw; go_simp)
          simp only [Act.put, List.setIfInBounds_toArray, List.set_cons_zero, List.set_cons_succ]
          refine take_yes (i := 16) (some 84) (.pointer (some ⟨w.heap.size, 0, none⟩)) rfl rfl (by kernel_rfl) (by kernel_rfl) (by kernel_rfl) (fun _ _ _ h => h) (by rfl) HS0.out ?_ ?_
          · (intro wq hSw; obtain ⟨k0, k1, k2⟩ := hSw; go_simp)
          simp only [Act.put, List.setIfInBounds_toArray, List.set_cons_zero, List.set_cons_succ]
          refine take_yes (i := 17) (some 85) (.slice A N c) rfl rfl (by kernel_rfl) (by kernel_rfl) (by kernel_rfl) (fun _ _ _ h => h) (by rfl) HS0.out ?_ ?_
          · (intro wq hSw; obtain ⟨k0, k1, k2⟩ := hSw; go_simp)
          simp only [Act.put, List.setIfInBounds_toArray, List.set_cons_zero, List.set_cons_succ]
          refine take_yes (i := 18) (some 86) (.int .i64 N) rfl rfl (by kernel_rfl) (by kernel_rfl) (by kernel_rfl) (fun _ _ _ h => h) (by rfl) HS0.out ?_ ?_
          · (intro wq hSw; obtain ⟨k0, k1, k2⟩ := hSw; go_simp)
          simp only [Act.put, List.setIfInBounds_toArray, List.set_cons_zero, List.set_cons_succ]
          refine take_yes (i := 19) (some 87) (.pointer (some ⟨w.heap.size, 1, none⟩)) rfl rfl (by kernel_rfl) (by kernel_rfl) (by kernel_rfl) (fun _ _ _ h => h) (by rfl) HS0.out ?_ ?_
          · (intro wq hSw; obtain ⟨k0, k1, k2⟩ := hSw; go_simp)
          simp only [Act.put, List.setIfInBounds_toArray, List.set_cons_zero, List.set_cons_succ]
          refine take_yes (i := 20) (some 88) (.int .i64 f) rfl rfl (by kernel_rfl) (by kernel_rfl) (by kernel_rfl) (fun _ _ _ h => h) (by rfl) HS0.out ?_ ?_
          · (intro wq hSw; obtain ⟨k0, k1, k2⟩ := hSw; go_simp)
          simp only [Act.put, List.setIfInBounds_toArray, List.set_cons_zero, List.set_cons_succ]
          refine take_yes (i := 21) (some 89) (.int .i64 q) rfl rfl (by kernel_rfl) (by kernel_rfl) (by kernel_rfl) (fun _ _ _ h => h) (by rfl) HS0.out ?_ ?_
          · (intro wq hSw; obtain ⟨k0, k1, k2⟩ := hSw; go_simp)
          simp only [Act.put, List.setIfInBounds_toArray, List.set_cons_zero, List.set_cons_succ]
          refine take_yes (i := 22) (some 90) (.pointer (some ⟨w.heap.size, 2, none⟩)) rfl rfl (by kernel_rfl) (by kernel_rfl) (by kernel_rfl) (fun _ _ _ h => h) (by rfl) HS0.out ?_ ?_
          · (intro wq hSw; obtain ⟨k0, k1, k2⟩ := hSw; go_simp)
          simp only [Act.put, List.setIfInBounds_toArray, List.set_cons_zero, List.set_cons_succ]
          refine take_yes (i := 23) (some 91) (.int .i64 wd) rfl rfl (by kernel_rfl) (by kernel_rfl) (by kernel_rfl) (fun _ _ _ h => h) (by rfl) HS0.out ?_ ?_
          · (intro wq hSw; obtain ⟨k0, k1, k2⟩ := hSw; go_simp)
          simp only [Act.put, List.setIfInBounds_toArray, List.set_cons_zero, List.set_cons_succ]
          refine take_yes (i := 24) (some 92) (.int .i64 m) rfl rfl (by kernel_rfl) (by kernel_rfl) (by kernel_rfl) (fun _ _ _ h => h) (by rfl) HS0.out ?_ ?_
          · (intro wq hSw; obtain ⟨k0, k1, k2⟩ := hSw; go_simp)
          simp only [Act.put, List.setIfInBounds_toArray, List.set_cons_zero, List.set_cons_succ]
          refine wpAnyH_ready (rs := [15]) (by kernel_rfl) (by simp) ?_
          refine AllReadyH.cons rfl (fun K hK => ?_) AllReadyH.nil
          go_simp
          (go_at_call 16; (with_reducible refine (WO.out _ LD.out).mono ?_); rintro rc wc ⟨rfl, rfl⟩)
          go_wp2_with fail
          refine hK.out _ _ HS0.out (fun hHeld2 => ?_)
          clear hK K
          refine take_yes (i := 25) (some 93) (.bool true) rfl rfl (by kernel_rfl) (by kernel_rfl) (by kernel_rfl) (fun _ _ _ h => h) (by rfl) HS0.out ?_ ?_
          · (intro wq hSw; obtain ⟨k0, k1, k2⟩ := hSw; go_simp)
          simp only [Act.put, List.setIfInBounds_toArray, List.set_cons_zero, List.set_cons_succ]
          refine take_yes (i := 26) (some 94) (.bool true) rfl rfl (by kernel_rfl) (by kernel_rfl) (by kernel_rfl) (fun _ _ _ h => h) (by rfl) HS0.out ?_ ?_
          · (intro wq hSw; obtain ⟨k0, k1, k2⟩ := hSw; go_simp)
          simp only [Act.put, List.setIfInBounds_toArray, List.set_cons_zero, List.set_cons_succ]
          refine take_yes (i := 27) (some 95) (.bool true) rfl rfl (by kernel_rfl) (by kernel_rfl) (by kernel_rfl) (fun _ _ _ h => h) (by rfl) HS0.out ?_ ?_
          · (intro wq hSw; obtain ⟨k0, k1, k2⟩ := hSw; go_simp)
          simp only [Act.put, List.setIfInBounds_toArray, List.set_cons_zero, List.set_cons_succ]
          refine take_yes (i := 28) (some 96) (.bool false) rfl rfl (by kernel_rfl) (by kernel_rfl) (by kernel_rfl) (fun _ _ _ h => h) (by rfl) HS0.out ?_ ?_
          · (intro wq hSw; obtain ⟨k0, k1, k2⟩ := hSw; go_simp)
          simp only [Act.put, List.setIfInBounds_toArray, List.set_cons_zero, List.set_cons_succ]
          refine take_yes (i := 29) (some 97) (.int .i64 i) rfl rfl (by kernel_rfl) (by kernel_rfl) (by kernel_rfl) (fun _ _ _ h => h) (by rfl) HS0.out ?_ ?_
          · (intro wq hSw; obtain ⟨k0, k1, k2⟩ := hSw; go_simp)
          simp only [Act.put, List.setIfInBounds_toArray, List.set_cons_zero, List.set_cons_succ]
          refine take_yes (i := 30) (some 98) (.pointer (some ⟨w.heap.size, 1, none⟩)) rfl rfl (by kernel_rfl) (by kernel_rfl) (by kernel_rfl) (fun _ _ _ h => h) (by rfl) HS0.out ?_ ?_
          · (intro wq hSw; obtain ⟨k0, k1, k2⟩ := hSw; go_simp)
          simp only [Act.put, List.setIfInBounds_toArray, List.set_cons_zero, List.set_cons_succ]
          refine take_yes (i := 31) (some 99) (.int .i64 f) rfl rfl (by kernel_rfl) (by kernel_rfl) (by kernel_rfl) (fun _ _ _ h => h) (by rfl) HS0.out ?_ ?_
          · (intro wq hSw; obtain ⟨k0, k1, k2⟩ := hSw; go_simp)
          simp only [Act.put, List.setIfInBounds_toArray, List.set_cons_zero, List.set_cons_succ]
          refine take_yes (i := 32) (some 100) (.bool true) rfl rfl (by kernel_rfl) (by kernel_rfl) (by kernel_rfl) (fun _ _ _ h => h) (by rfl) HS0.out ?_ ?_
          · (intro wq hSw; obtain ⟨k0, k1, k2⟩ := hSw; go_simp)
          simp only [Act.put, List.setIfInBounds_toArray, List.set_cons_zero, List.set_cons_succ]
          refine take_yes (i := 33) (some 101) (.bool true) rfl rfl (by kernel_rfl) (by kernel_rfl) (by kernel_rfl) (fun _ _ _ h => h) (by rfl) HS0.out ?_ ?_
          · (intro wq hSw; obtain ⟨k0, k1, k2⟩ := hSw; go_simp)
          simp only [Act.put, List.setIfInBounds_toArray, List.set_cons_zero, List.set_cons_succ]
          refine take_yes (i := 34) (some 102) (.int .i64 i) rfl rfl (by kernel_rfl) (by kernel_rfl) (by kernel_rfl) (fun _ _ _ h => h) (by rfl) HS0.out ?_ ?_
          · (intro wq hSw; obtain ⟨k0, k1, k2⟩ := hSw; go_simp)
          simp only [Act.put, List.setIfInBounds_toArray, List.set_cons_zero, List.set_cons_succ]
          refine take_yes (i := 35) (some 103) (.pointer (some ⟨w.heap.size, 0, none⟩)) rfl rfl (by kernel_rfl) (by kernel_rfl) (by kernel_rfl) (fun _ _ _ h => h) (by rfl) HS0.out ?_ ?_
          · (intro wq hSw; obtain ⟨k0, k1, k2⟩ := hSw; go_simp)
          simp only [Act.put, List.setIfInBounds_toArray, List.set_cons_zero, List.set_cons_succ]
          refine take_yes (i := 36) (some 104) (.slice A N c) rfl rfl (by kernel_rfl) (by kernel_rfl) (by kernel_rfl) (fun _ _ _ h => h) (by rfl) HS0.out ?_ ?_
          · (intro wq hSw; obtain ⟨k0, k1, k2⟩ := hSw; go_simp)
          simp only [Act.put, List.setIfInBounds_toArray, List.set_cons_zero, List.set_cons_succ]
          refine take_yes (i := 37) (some 105) (.int .i64 N) rfl rfl (by kernel_rfl) (by kernel_rfl) (by kernel_rfl) (fun _ _ _ h => h) (by rfl) HS0.out ?_ ?_
          · (intro wq hSw; obtain ⟨k0, k1, k2⟩ := hSw; go_simp)
          simp only [Act.put, List.setIfInBounds_toArray, List.set_cons_zero, List.set_cons_succ]
          refine take_yes (i := 38) (some 106) (.bool false) rfl rfl (by kernel_rfl) (by kernel_rfl) (by kernel_rfl) (fun _ _ _ h => h) (by rfl) HS0.out ?_ ?_
          · (intro wq hSw; obtain ⟨k0, k1, k2⟩ := hSw; go_simp)
          simp only [Act.put, List.setIfInBounds_toArray, List.set_cons_zero, List.set_cons_succ]
          refine take_yes (i := 39) (some 107) (.bool false) rfl rfl (by kernel_rfl) (by kernel_rfl) (by kernel_rfl) (fun _ _ _ h => h) (by rfl) HS0.out ?_ ?_
          · (intro wq hSw; obtain ⟨k0, k1, k2⟩ := hSw; go_simp)
          simp only [Act.put, List.setIfInBounds_toArray, List.set_cons_zero, List.set_cons_succ]
          refine take_yes (i := 40) (some 108) (.bool true) rfl rfl (by kernel_rfl) (by kernel_rfl) (by kernel_rfl) (fun _ _ _ h => h) (by rfl) HS0.out ?_ ?_
          · (intro wq hSw; obtain ⟨k0, k1, k2⟩ := hSw; go_simp)
          simp only [Act.put, List.setIfInBounds_toArray, List.set_cons_zero, List.set_cons_succ]
          refine take_yes (i := 41) (some 109) (.bool true) rfl rfl (by kernel_rfl) (by kernel_rfl) (by kernel_rfl) (fun _ _ _ h => h) (by rfl) HS0.out ?_ ?_
          · (intro wq hSw; obtain ⟨k0, k1, k2⟩ := hSw; go_simp)
          simp only [Act.put, List.setIfInBounds_toArray, List.set_cons_zero, List.set_cons_succ]
          refine take_yes (i := 42) (some 6) (.bool true) rfl rfl (by kernel_rfl) (by kernel_rfl) (by kernel_rfl) (fun _ _ _ h => h) (by rfl) HS0.out ?_ ?_
          · (intro wq hSw; obtain ⟨k0, k1, k2⟩ := hSw; go_simp)
          simp only [Act.put, List.setIfInBounds_toArray, List.set_cons_zero, List.set_cons_succ]
          refine wpAnyH_done (by kernel_rfl) ?_ _
          go_wp2_with fail
          go_ret
          exact ⟨rfl, LE.out⟩
end Go.Proofs.Ytakoehgjgdcmmaa.Tp
