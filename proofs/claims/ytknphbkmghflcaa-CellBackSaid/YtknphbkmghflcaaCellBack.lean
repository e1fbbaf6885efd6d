/-
  Proved: for any cell rifflelaw03.CellBack returns true, and the argument reads afterwards as it read before. No condition.
-/
import Derived.Test.YtknphbkmghflcaaRows
import Derived.Test.YtknphbkmghflcaaShapeRow
import Derived.Test.YtknphbkmghflcaaCellBack1
import Derived.Lib.SmallJoins
import Derived.WalkKit
import Derived.ProofKit
import Derived.OpenShut
import Derived.ChangeOld
import Derived.Below
namespace Go.Proofs.Ytknphbkmghflcaa.cellBack
open Go.Proofs.Ytknphbkmghflcaa.Sh
open Go.Joins Go.ChangeShapes Go.WideShapes Go.ChangeAt Go.RowKit Go.Deep
set_option linter.unusedVariables false

theorem own : ownKnob Try.prog.godebug = none := by kernel_rfl
theorem laidOut : laidOutB Try.prog = true := by kernel_rfl

set_option maxHeartbeats 2000000 in
set_option maxRecDepth 100000 in
theorem back_any (A : Option Addr) (c : Nat) (d : List Int) (B : Option Addr) (c2 : Nat) (v : List Int) (w : World) (hcv : v.length ≤ c2) (hcm : c2 ≤ maxLen) (id : Ints w A d) (iv : Ints w B v) :
    Calls Try.prog 6 #[.agg #[.slice A d.length c, .slice B v.length c2]] w fun e w' => e = .returned (.bool true) ∧ Below w.heap.size w w' := by
  by_cases h4 : itemB d v.length 0 = true
  · have hcell : cellB d v.length = true := by
      simp only [itemB, Bool.and_eq_true] at h4
      exact h4.1.1.1
    obtain ⟨x, s, k, t, rfl, hr, hrt, hst, hn, hk0, hk, hks, hn64, hx, hl3⟩ := item_parts h4
    exact back_main A c x s t B c2 v w (by simpa using hl3) hn hn64 (by omega) hx hcv hcm hrt hst hr hcell id iv
  · have B0 := Lib.hid (Box.new w (.slice A d.length c) (.slice B v.length c2))
    have L0 := Lib.hid (below_box (Below.refl (w.alloc (.cells #[.slice A d.length c, .slice B v.length c2] 25)).heap.size _))
    by_cases h1 : d.length ≤ 10 ∧ v.length ≤ 200
    · by_cases h2 : cellB d v.length = true
      · have H1 := Lib.hid h1
        have H2 := Lib.hid h2
        have ID := Lib.hid id
        have hz : ∀ y t, d = y :: t → y = 0 := by
          rintro y t rfl
          simp only [itemB, h2] at h4
          obtain ⟨hr, _⟩ := cellB_parts h2
          obtain ⟨_, hall, _⟩ := rightB_all hr
          have hy := okAx_bd (by simpa using (List.all_eq_true.1 hall) y (by simp))
          simp at h4
          omega
        clear h1 h2 id iv h4 hcv hcm
        cases d with
        | nil =>
          clear hz
          go_enter Try.func6, Try.ntmps6
          go_wp2_with fail
          refine (great_no _ _ _ _ _ _ _ H1.out.1 H1.out.2).mono ?_
          rintro r w1 ⟨rfl, hb1⟩
          have L1 := Lib.hid (below_next L0.out hb1)
          have B1 := Lib.hid (B0.out.next hb1)
          obtain ⟨q0, q1, _, _⟩ := B1.out.all
          clear hb1
          go_wp2_with fail
          refine (cright_yes _ _ [] _ _ _ _ (by simp) (ID.out.below L1.out) H2.out).mono ?_
          rintro r w2 ⟨rfl, hb2⟩
          have L2 := Lib.hid (below_next L1.out hb2)
          obtain ⟨p0, p1, _, _⟩ := (B1.out.next hb2).all
          clear hb2 q0 q1
          go_wp2_with fail
          refine (lives_any _).mono ?_
          rintro r w3 ⟨rfl, hb3⟩
          have L3 := Lib.hid (below_next L2.out hb3)
          clear hb3
          go_wp2
          go_ret
          exact ⟨rfl, L3.out⟩
        | cons y t =>
          obtain rfl := hz y t rfl
          clear hz
          obtain ⟨d, hd⟩ : ∃ d, d = (0 : Int) :: t := ⟨_, rfl⟩
          rw [← hd] at H1 H2 ID B0 L0 ⊢
          have hd1 : 0 < d.length := by rw [hd]; simp
          have hz0 : ((d.length : Int) == 0) = false := by simp; intro e; rw [e] at hd1; simp at hd1
          have hz1 : d.length ≠ 0 := by omega
          have HD := Lib.hid hd
          clear hd
          go_enter Try.func6, Try.ntmps6
          go_wp2_with fail
          refine (great_no _ _ _ _ _ _ _ H1.out.1 H1.out.2).mono ?_
          rintro r w1 ⟨rfl, hb1⟩
          have L1 := Lib.hid (below_next L0.out hb1)
          have B1 := Lib.hid (B0.out.next hb1)
          obtain ⟨q0, q1, _, _⟩ := B1.out.all
          clear hb1
          go_wp2_with fail
          refine (cright_yes _ _ d _ _ _ _ (by have := H1.out.1; unfold maxLen; omega) (ID.out.below L1.out) H2.out).mono ?_
          rintro r w2 ⟨rfl, hb2⟩
          have L2 := Lib.hid (below_next L1.out hb2)
          obtain ⟨p0, p1, _, _⟩ := (B1.out.next hb2).all
          obtain ⟨b, off, rfl, hbb, hcs⟩ := ID.out.below L2.out hd1
          have hx : w2.cell? ⟨b, off, none⟩ = some (.int .i64 0) := by have := hcs 0 hd1; rw [HD.out] at this; simpa using this
          clear hb2 q0 q1 hcs
          go_wp2_with fail
          refine (lives_any _).mono ?_
          rintro r w3 ⟨rfl, hb3⟩
          have L3 := Lib.hid (below_next L2.out hb3)
          clear hb3
          go_wp2
          go_ret
          exact ⟨rfl, L3.out⟩
      · have H1 := Lib.hid h1
        have H2 := Lib.hid (show cellB d v.length = false by simpa using h2)
        have ID := Lib.hid id
        clear h1 h2 id iv h4 hcv hcm
        go_enter Try.func6, Try.ntmps6
        go_wp2_with fail
        refine (great_no _ _ _ _ _ _ _ H1.out.1 H1.out.2).mono ?_
        rintro r w1 ⟨rfl, hb1⟩
        have L1 := Lib.hid (below_next L0.out hb1)
        obtain ⟨q0, q1, _, _⟩ := (B0.out.next hb1).all
        clear hb1
        go_wp2_with fail
        refine (cright_no _ _ d _ _ _ _ (by have := H1.out.1; unfold maxLen; omega) (ID.out.below L1.out) H2.out).mono ?_
        rintro r w2 ⟨rfl, hb2⟩
        have L2 := Lib.hid (below_next L1.out hb2)
        clear hb2 q0 q1
        go_wp2_with fail
        refine (lives_any _).mono ?_
        rintro r w3 ⟨rfl, hb3⟩
        have L3 := Lib.hid (below_next L2.out hb3)
        clear hb3
        go_wp2
        go_ret
        exact ⟨rfl, L3.out⟩
    · have H1 := Lib.hid h1
      clear h1 id iv h4 hcv hcm
      go_enter Try.func6, Try.ntmps6
      go_wp2_with fail
      refine (great_yes _ _ _ _ _ _ _ H1.out).mono ?_
      rintro r w1 ⟨rfl, hb1⟩
      have L1 := Lib.hid (below_next L0.out hb1)
      clear hb1
      go_wp2_with fail
      refine (lives_any _).mono ?_
      rintro r w3 ⟨rfl, hb3⟩
      have L3 := Lib.hid (below_next L1.out hb3)
      clear hb3
      go_wp2
      go_ret
      exact ⟨rfl, L3.out⟩

theorem view_caps {w : World} {a : Option Addr} {len cap : Nat} {zs : List Int} (h : IsRow .i64 w a len cap zs) : len ≤ cap ∧ cap ≤ maxLen := by
  rcases h with ⟨_, rfl, rfl, _⟩ | ⟨x, _, h1, h2, _⟩
  · simp
  · exact ⟨h1, h2⟩
/-- The law returns true and writes nothing that was there. -/
theorem walk (a0 : Option Addr) (len0 cap0 : Nat) (z0 : List Int) (b0 : Option Addr) (ln0 cp0 : Nat) (u0 : List Int) (w : World) (w0 : IsRow .i64 w a0 len0 cap0 z0) (q0 : IsRow .i64 w b0 ln0 cp0 u0) :
    Calls Try.prog 6 #[.agg #[.slice a0 len0 cap0, .slice b0 ln0 cp0]] w fun e w' => e = .returned (.bool true) ∧ Below w.heap.size w w' := by
  have k1 := view_caps q0
  obtain ⟨d, rfl, hd, id, _⟩ := w0.view
  obtain ⟨v, rfl, hv, iv, _⟩ := q0.view
  exact back_any a0 cap0 d b0 cp0 v w k1.1 k1.2 id iv

/-! ### THE ROW's STEP: WRITTEN OUT: LEAVE IT -/
set_option maxRecDepth 100000 in
theorem lifted (os : Os) (started : os.Started) (H : Type) (enc : TypeId × Value → H) :
    ReturnsInHanded {} Try.checked os 6 .any (Rows.cellBackSpec.pre6 enc Try.prog Try.f6 Rows.cellBackRow.domain false) (Rows.cellBackSpec.post enc Try.prog Try.f6 false true false false) := by
  refine returnsInHanded_of_change (C := Try.checked) own started (by kernel_rfl) Try.func6
    (ChangeSpec.witness6 (enc := enc) (C := Try.checked) false ⟨#[], #[.agg #[.slice none 0 0, .slice none 0 0]], []⟩ 8 (by kernel_rfl) (by kernel_rfl) (by kernel_rfl) (by kernel_rfl)) ?_
  intro W base args ds gs before hval0 hW hcnd _
  have hval : ∀ (j : Nat) t v, Try.f6.params[j]? = some t → args[j]? = some v → Value.okWide Try.prog W .any base t v := hval0
  have hW' := hW
  obtain ⟨p, q, hA0, hV, rfl, hfz, hnd⟩ := hW
  have hA : DataW.TrodAll enc Try.prog W 0 (fun _ => true) true Try.f6.params.toList args.toList ds p := hA0
  rw [Try.params6] at hA hval
  obtain ⟨v0, vs0, d0, ds0, p0, q0, hargs, rfl, rfl, h0, r0⟩ := trodAll_cons hA
  obtain ⟨rfl, rfl, rfl⟩ := trodAll_nil r0
  obtain rfl : args = #[v0] := by cases args; simp_all
  obtain ⟨rfl, rfl⟩ := trodVars_none hV
  have k0 := h0
  have lt0 : ∀ x ∈ p0, x.block < W.heap.size := by obtain ⟨m, hm⟩ := k0; exact DataW.trod_lt m _ _ _ hm
  obtain ⟨x0, y0, ya0, yb0, fu0, rfl, _, _, ta0, tb0⟩ := open_agg2 Try.underlying25 (by kernel_rfl) (by kernel_rfl) (hval 0 25 v0 rfl rfl) h0
  obtain ⟨a0, len0, cap0, z0, rfl, w0⟩ : ∃ a len cap zs, x0 = .slice a len cap ∧ IsRow .i64 W a len cap zs := by
    rcases open_ints Try.underlying22 Try.underlying3 (by kernel_rfl) ta0 with ⟨hcs, _⟩ | ⟨x, l, c, zs, hcs, _, hl, hm, hz, _, hcell, hwz⟩
    · injection hcs with hcs
      exact ⟨none, 0, 0, [], hcs, .inl ⟨rfl, rfl, rfl, rfl⟩⟩
    · injection hcs with hcs
      exact ⟨_, l, c, zs, hcs, .inr ⟨_, rfl, hl, hm, by simpa using hz, hcell, hwz⟩⟩
  obtain ⟨b0, ln0, cp0, u0, rfl, q0w⟩ : ∃ a len cap zs, y0 = .slice a len cap ∧ IsRow .i64 W a len cap zs := by
    rcases open_ints Try.underlying23 Try.underlying2 (by kernel_rfl) tb0 with ⟨hcs, _⟩ | ⟨x, l, c, zs, hcs, _, hl, hm, hz, _, hcell, hwz⟩
    · injection hcs with hcs
      exact ⟨none, 0, 0, [], hcs, .inl ⟨rfl, rfl, rfl, rfl⟩⟩
    · injection hcs with hcs
      exact ⟨_, l, c, zs, hcs, .inr ⟨_, rfl, hl, hm, by simpa using hz, hcell, hwz⟩⟩
  clear hA0 hval0
  refine (walk a0 len0 cap0 z0 b0 ln0 cp0 u0 W w0 q0w).mono fun e W' ⟨he, bel⟩ => ?_
  subst he
  exact ⟨_, rfl, _, _, _, [], _, [], hW', trodAll_mk1 (shut_bool Try.underlying4 _), (trodAll_cons_mk (Below.trod laidOut (by kernel_rfl) (of_decide_eq_true (by kernel_rfl)) k0 bel lt0) trodAll_mk0), rfl, bel.frame _, fun h => by cases h⟩

theorem over : Rows.cellBackRow.holds Try.pinned (OpenSpec.ofChange Rows.cellBackSpec) :=
  OpenClaim.holds_of_wide 6 Try.f6 rfl rfl rfl rfl rfl rfl rfl ⟨rfl, rfl, rfl, rfl, rfl⟩ rfl rfl rfl rfl rfl (by kernel_rfl) Try.func6 (by kernel_rfl)
    (of_decide_eq_true (by kernel_rfl)) (by unfold Func.isWrapper; first | (rw [if_pos (by decide +kernel)]; kernel_rfl) | (rw [if_neg (by decide +kernel)]; exact ⟨rfl, rfl⟩))
    (fun os started H enc _ => lifted os started H enc)

/-- ████ THE STATEMENT ████ -/
theorem proved : Rows.CellBackSaid := over
end Go.Proofs.Ytknphbkmghflcaa.cellBack
