/-
  What New and Clone of package ring make. Conditions: as told in each.
-/
import Derived.Test.YtocdejjkmfnnnaaRgOps2
set_option maxRecDepth 100000
namespace Go.Proofs.Ytocdejjkmfnnnaa.Rg
open Go.Proofs.Ytocdejjkmfnnnaa.Sh Go.Proofs.Ytocdejjkmfnnnaa.St
open Go.RowKit
set_option linter.unusedVariables false

def mayB (n s : Int) : Bool := decide (1 ≤ n ∧ n ≤ 64 ∧ 0 ≤ s ∧ s ≤ 64)
set_option maxHeartbeats 1000000 in
theorem new_no (n s : Int) (w : World) (h : mayB n s = false) :
    Calls Try.prog 9 #[.int .i64 n, .int .i64 s] w fun e w' => e = .returned (.tuple #[.pointer none, .int .i64 1]) ∧ Below w.heap.size w w' := by
  have h' : ¬ (1 ≤ n ∧ n ≤ 64 ∧ 0 ≤ s ∧ s ≤ 64) := by simpa [mayB] using h
  clear h
  by_cases h1 : n < 1
  · have t1 : decide (n < 1) = true := decide_eq_true h1
    clear h'
    go_enter Try.func9, Try.ntmps9
    go_wp2
    go_ret2
    exact ⟨rfl, Below.refl _ _⟩
  · have t1 : decide (n < 1) = false := decide_eq_false h1
    by_cases h2 : n > 64
    · have t2 : decide (n > 64) = true := decide_eq_true h2
      clear h'
      go_enter Try.func9, Try.ntmps9
      go_wp2
      go_ret2
      exact ⟨rfl, Below.refl _ _⟩
    · have t2 : decide (n > 64) = false := decide_eq_false h2
      by_cases h3 : s < 0
      · have t3 : decide (s < 0) = true := decide_eq_true h3
        clear h'
        go_enter Try.func9, Try.ntmps9
        go_wp2
        go_ret2
        exact ⟨rfl, Below.refl _ _⟩
      · have t3 : decide (s < 0) = false := decide_eq_false h3
        have h4 : s > 64 := by omega
        have t4 : decide (s > 64) = true := decide_eq_true h4
        clear h'
        go_enter Try.func9, Try.ntmps9
        go_wp2
        go_ret2
        exact ⟨rfl, Below.refl _ _⟩

def RetNew (n s : Nat) (w : World) (e : Ending) (w' : World) : Prop := ∃ g h, e = .returned (.tuple #[.pointer (some ⟨g, 0, none⟩), .int .i64 0]) ∧ Ring w' g h n s [] ∧ w.heap.size ≤ g ∧ w.heap.size ≤ h ∧ Below w.heap.size w w'
set_option maxHeartbeats 1000000 in
theorem new_yes (n s : Nat) (w : World) (hn0 : 0 < n) (hn : n ≤ 64) (hs : s ≤ 64) :
    Calls Try.prog 9 #[.int .i64 n, .int .i64 s] w (RetNew n s w) := by
  obtain ⟨N, hN⟩ : ∃ N, n * s = N := ⟨_, rfl⟩
  have hNb : N ≤ 4096 := by rw [← hN]; exact Nat.mul_le_mul hn hs
  have hmk := fun W => run_make_row' (P := Try.prog) 33 2 (.int .i64 0) 8 Try.underlying33 infoL rfl .i64 .i64 N (by omega) (by omega) W
  have hNi : (n : Int) * (s : Int) = (N : Int) := by rw [← hN]; simp
  have t1 : decide ((n : Int) < 1) = false := decide_eq_false (by omega)
  have t2 : decide ((n : Int) > 64) = false := decide_eq_false (by omega)
  have t3 : decide ((s : Int) < 0) = false := decide_eq_false (by omega)
  have t4 : decide ((s : Int) > 64) = false := decide_eq_false (by omega)
  have HN := Lib.hid hN
  clear hN
  go_enter Try.func9, Try.ntmps9
  go_wp2
  go_ret2
  have A1 : Bk 2 (w.alloc (.cells (madeCells #[Value.int .i64 0] N) 2)) w.heap.size (vals (List.replicate N 0)) := by
    rw [cells_made]; exact Bk.new 2 w (vals (List.replicate N 0))
  have A2 := Bk.new 77 (w.alloc (.cells (madeCells #[Value.int .i64 0] N) 2)) [.slice (some ⟨w.heap.size, 0, none⟩) N N, .int .i64 n, .int .i64 s, .int .i64 0, .int .i64 0]
  rw [show (w.alloc (.cells (madeCells #[Value.int .i64 0] N) 2)).heap.size = w.heap.size + 1 from by simp] at A2
  refine ⟨w.heap.size + 1, w.heap.size, rfl, ⟨0, N, vals (List.replicate N 0), ?_, A1.alloc _, by simp [vals], by unfold maxLen; omega, ?_, hn, hs, ?_⟩, by omega, by omega, ((Below.refl _ _).alloc (Nat.le_refl _) _).alloc (by simp) _⟩
  · rw [HN.out]; exact A2
  · exact Rd.new hn0 (by simp [vals]; exact Nat.le_of_eq HN.out)
  · intro i hi
    rw [HN.out] at hi
    exact ⟨0, by simp [vals, hi]⟩

/-- The numbers of the first N cells. -/
theorem AllI.list {cs : List Value} {N : Nat} (h : AllI cs N) (hl : N ≤ cs.length) : ∃ d : List Int, d.length = N ∧ vals d = cs.take N := by
  refine ⟨(cs.take N).map intOf, by simp; omega, ?_⟩
  unfold vals
  rw [List.map_map]
  conv => rhs; rw [← List.map_id (cs.take N)]
  apply List.map_congr_left
  intro u hu
  obtain ⟨i, hi⟩ := List.getElem?_of_mem hu
  have hiN : i < N := by
    have := (List.getElem?_eq_some_iff.1 hi).1
    simp at this; omega
  rw [List.getElem?_take_of_lt hiN] at hi
  obtain ⟨x, hx⟩ := h i hiN
  rw [hx] at hi
  injection hi with hi
  subst hi
  rfl
def RetClone (n s : Nat) (rs : List (List Int)) (w : World) (e : Ending) (w' : World) : Prop := ∃ g h, e = .returned (.pointer (some ⟨g, 0, none⟩)) ∧ Ring w' g h n s rs ∧ w.heap.size ≤ g ∧ w.heap.size ≤ h ∧ Below w.heap.size w w'
set_option maxHeartbeats 1000000 in
theorem clone_any (g h n s : Nat) (rs : List (List Int)) (w : World) (r : Ring w g h n s rs) (hpos : 0 < n * s) (hN : n * s ≤ 1000) :
    Calls Try.prog 21 #[.pointer (some ⟨g, 0, none⟩)] w (RetClone n s rs w) := by
  have RR := Lib.hid r
  obtain ⟨f, c1, cs, h1, h2, hc, hcm, hrd, hn, hs, hall⟩ := r
  obtain ⟨d, hd, hv⟩ := hall.list (N := n * s) hrd.1
  have F1 : RingF w g h n s rs.length f c1 := h1
  have FF := Lib.hid F1
  obtain ⟨q0, q1, q2, q3, q4⟩ := F1.all
  have RD := Lib.hid hrd
  have HV := Lib.hid hv
  have HD := Lib.hid hd
  have ID : Hid (Ints w (some ⟨h, 0, none⟩) d) := Lib.hid (fun _ => ⟨h, 0, rfl, h2.lt, fun i hi => by
    rw [h2.c, Nat.zero_add]
    have e1 : (vals d)[i]? = (cs.take (n * s))[i]? := by rw [hv]
    rw [List.getElem?_take_of_lt (by omega)] at e1
    rw [← e1]
    simp [vals, List.getD, hi]⟩)
  obtain ⟨N, hNe⟩ : ∃ N, n * s = N := ⟨_, rfl⟩
  rw [hNe] at hN hpos q0
  have HN := Lib.hid hNe
  have q5 : (w.alloc (.cells #[.slice (some ⟨h, 0, none⟩) N c1, .int .i64 n, .int .i64 s, .int .i64 f, .int .i64 rs.length] 77)).cell? ⟨g, 0, none⟩ = some (.slice (some ⟨h, 0, none⟩) N c1) := (World.cell?_alloc_past _ _ _ F1.lt).trans q0
  have hgl : g < w.heap.size := F1.lt
  clear F1 h1 h2 hrd hv hall hc hd hNe
  go_enter Try.func21, Try.ntmps21
  go_wp2_with fail
  refine (clone_s (some ⟨h, 0, none⟩) c1 N d _ (HD.out.trans HN.out) (by omega) (ID.out.below (below_new _ _))).mono ?_
  rintro r w1 ⟨B, c3, rfl, hm, hb1⟩
  have K0 := Lib.hid (below_new w (.cells #[.slice (some ⟨h, 0, none⟩) N c1, .int .i64 n, .int .i64 s, .int .i64 f, .int .i64 rs.length] 77))
  have G0 := Lib.hid (Bk.new 77 w [.slice (some ⟨h, 0, none⟩) N c1, .int .i64 n, .int .i64 s, .int .i64 f, .int .i64 rs.length])
  have G1 := Lib.hid (G0.out.next hb1)
  have K1 := Lib.hid (below_next K0.out hb1)
  have M1 := Lib.hid hm
  obtain ⟨d0, e0⟩ : w1.cell? ⟨w.heap.size, 0, none⟩ = some (.slice (some ⟨h, 0, none⟩) N c1) ∧ w1.frozen? ⟨w.heap.size, 0, none⟩ = false := ⟨G1.out.c 0, G1.out.f 0⟩
  clear hb1 hm q0 q1 q2 q3 q4 q5
  go_wp2
  go_ret
  obtain ⟨v, hm2⟩ := M1.out
  have hdN : d.length = N := HD.out.trans HN.out
  rcases hm2 with ⟨_, h0⟩ | ⟨g', cap, cur, e, hb, hg, hle, hmx, hsz, htk⟩
  · omega
  · injection e with e1 e2 e3
    subst e1 e3
    have hb' : w.heap.size + 1 ≤ g' := by simpa using hb
    have G2 := G1.out.set_ 0 (.slice (some ⟨g', 0, none⟩) N c3)
    have H1 : Bk 2 w1 g' cur.toList := by unfold Bk; simpa using hg
    have H2 := H1.far (p := ⟨w.heap.size, 0, none⟩) (by show g' ≠ w.heap.size; omega) (.slice (some ⟨g', 0, none⟩) N c3)
    have htk' : cur.toList.take (n * s) = vals d := by rw [HN.out, ← hdN]; simpa [vals] using htk
    have hcl : cur.toList.length = c3 := by simpa using hsz
    refine ⟨w.heap.size, g', rfl, ⟨f, c3, cur.toList, ?_, H2, hcl, hmx, RD.out.same (by rw [hcl, HN.out]; omega) (htk'.trans HV.out), hn, hs, ?_⟩, Nat.le_refl _, by omega, K1.out.setCell (p := ⟨w.heap.size, 0, none⟩) (Nat.le_refl _) _⟩
    · rw [HN.out]; exact G2
    · intro i hi
      have e1 : (cur.toList.take (n * s))[i]? = (vals d)[i]? := by rw [htk']
      rw [List.getElem?_take_of_lt hi] at e1
      rw [e1]
      have hid : i < d.length := by rw [HD.out]; exact hi
      exact ⟨_, by unfold vals; rw [List.getElem?_map, List.getElem?_eq_getElem hid]; rfl⟩
end Go.Proofs.Ytocdejjkmfnnnaa.Rg
