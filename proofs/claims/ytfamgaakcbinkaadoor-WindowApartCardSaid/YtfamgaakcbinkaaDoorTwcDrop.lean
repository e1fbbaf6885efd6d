/-
  What (*twin.Agg[int64]).Drop does to a window, and what it answers. Conditions: as told in each.
-/
import Derived.Test.YtfamgaakcbinkaaDoorTwcTurn
namespace Go.Proofs.YtfamgaakcbinkaaDoor.Twc
open Go.Proofs.YtfamgaakcbinkaaDoor.Sh Go.Proofs.YtfamgaakcbinkaaDoor.St
open Go.RowKit
set_option linter.unusedVariables false
set_option linter.unusedSectionVars false
variable [J : Jc]

/-- 'clear' of one sum. -/
theorem run_clear_sum (w : World) (ty : TypeId) (b o c : Nat) (hc0 : (w.cell? ⟨b, o, none⟩).isSome = true) (hc1 : (w.cell? ⟨b, o + 1, none⟩).isSome = true) (hf0 : w.frozen? ⟨b, o, none⟩ = false) (hf1 : w.frozen? ⟨b, o + 1, none⟩ = false) :
    (Builtin.clear_ #[157] ty #[.slice (some ⟨b, o, none⟩) 1 c]).run Tryd.prog w = .ok (.tuple #[]) (w.setCells b o [(.int .i64 0 : Value), .bool false]) := by
  have hst := run_storeCells_cells (P := Tryd.prog) b o [(.int .i64 0 : Value), .bool false] 0 w
    (fun j hj => by
      have : j = 0 ∨ j = 1 := by simp at hj; omega
      rcases this with rfl | rfl
      · simpa using hc0
      · simpa using hc1)
    (fun j hj => by
      have : j = 0 ∨ j = 1 := by simp at hj; omega
      rcases this with rfl | rfl
      · simpa using hf0
      · simpa using hf1)
    (by intro v hv; simp at hv; rcases hv with rfl | rfl <;> rfl)
  simp only [Nat.add_zero] at hst
  have hv : ∀ w, (zeroValue 159).run Tryd.prog w = .ok (.agg #[(.int .i64 0 : Value), .bool false]) w := Tryd.zeroValue159
  have hzc : (Builtin.zeroCells (Value.agg #[(.int .i64 0 : Value), .bool false]).cells 1).toList = [(.int .i64 0 : Value), .bool false] := by
    simp [Builtin.zeroCells, Value.cells]
    rfl
  simp [Builtin.clear_, run_underlying Tryd.underlying157, hv, hzc, hst]
/-- The top of a row of sums, cleared and cut off. -/
theorem own_pop {base n c kb : Nat} {xs : List Value} {w : World} (h : w.ownsRow base 159 2 (.slice (some ⟨kb, 0, none⟩) (n + 1) c) (n + 1) xs) :
    (∀ ty, (Builtin.clear_ #[157] ty #[.slice (some ⟨kb, n * 2, none⟩) 1 (c - n)]).run Tryd.prog w = .ok (.tuple #[]) (w.setCells kb (n * 2) [(.int .i64 0 : Value), .bool false])) ∧ (w.setCells kb (n * 2) [(.int .i64 0 : Value), .bool false]).ownsRow base 159 2 (.slice (some ⟨kb, 0, none⟩) n c) n (xs.take (n * 2)) ∧ n + 1 ≤ c ∧ c ≤ maxLen := by
  have hxl := h.1
  rcases h.2 with ⟨e, _⟩ | ⟨g', c', cur, e, hb, hg, hnc, hm, hs, ht⟩
  · cases e
  cases e
  have hB : Bk 159 w kb cur.toList := by unfold Bk; simpa using hg
  have hl : cur.toList.length = c * 2 := by simpa using hs
  refine ⟨fun ty => run_clear_sum w ty kb (n * 2) (c - n) ?_ ?_ (hB.f _) (hB.f _), ?_, hnc, hm⟩
  · rw [hB.c, List.getElem?_eq_getElem (by omega)]; rfl
  · rw [hB.c, List.getElem?_eq_getElem (by omega)]; rfl
  · have h2 := Go.Proofs.YtfamgaakcbinkaaDoor.Dq.setCells_row kb 159 [(.int .i64 0 : Value), .bool false] (n * 2) w cur.toList hB (by simp at hl ⊢; omega)
    refine ⟨by rw [List.length_take]; omega, .inr ⟨kb, c, _, rfl, hb, h2, by omega, hm, ?_, ?_⟩⟩
    · rw [List.size_toArray, length_splice _ _ _ (by simp at hl ⊢; omega), hl]
    · rw [← ht, List.take_take, Nat.min_eq_left (by omega)]
      unfold splice
      rw [List.toList_toArray, List.take_append_of_le_length (by rw [List.length_take]; omega), List.take_take, Nat.min_self]
/-- What a drop leaves. -/
def RetDrop (base g m : Nat) (FV BV : Value) (rest : List Int) (w : World) (e : Ending) (w' : World) : Prop := e = .returned (.bool true) ∧ ∃ FV' BV' fs bs tv tb, Tw base w' g m FV' BV' fs bs tv tb ∧ fs ++ bs = rest ∧ Turn (Tt g FV BV) w w' ∧ Fresh w FV FV' ∧ Fresh w BV BV' ∧ ∃ y, tv = Value.int .i64 y
theorem drop_end {base g m kb c : Nat} {FV FV0 BV BV0 tv : Value} {tb : Bool} {x : Int} {t bs : List Int} {w W : World} (r : Tw base W g m FV0 BV0 (x :: t) bs tv tb) (hF : FV0 = .slice (some ⟨kb, 0, none⟩) (t.length + 1) c) (ht : Turn (Tt g FV BV) w W) (hf : Fresh w FV FV0) (hb : Fresh w BV BV0) (hty : ∃ y, tv = Value.int .i64 y) :
    RetDrop base g m FV BV (t ++ bs) w (.returned (.bool true)) ((W.setCells kb (t.length * 2) [(.int .i64 0 : Value), .bool false]).setCell ⟨g, 2, none⟩ (.slice (some ⟨kb, 0, none⟩) t.length c)) := by
  subst hF
  obtain ⟨-, hO, -, -⟩ := own_pop r.2.1
  have tc : Turn (fun b => b = kb) W (W.setCells kb (t.length * 2) [(.int .i64 0 : Value), .bool false]) := Go.Proofs.YtfamgaakcbinkaaDoor.Dq.setCells_turn kb _ _ W
  have ts : Turn (fun b => b = g) (W.setCells kb (t.length * 2) [(.int .i64 0 : Value), .bool false]) ((W.setCells kb (t.length * 2) [(.int .i64 0 : Value), .bool false]).setCell ⟨g, 2, none⟩ (.slice (some ⟨kb, 0, none⟩) t.length c)) := Turn.setCell (p := ⟨g, 2, none⟩) (Turn.refl (fun b => b = g) _) (.inl rfl) _
  have hkg : kb ≠ g := fun e => own_bk_ne (t := 161) r.2.1 r.1 (by decide) (by rw [e]; rfl)
  have hfk : ∀ b, BV0.ownBlock = some b → ¬ b = kb := fun b hb e => by
    rcases own_apart r.2.1 r.2.2.1 (by decide) with k | k
    · cases k
    · exact k (by rw [hb, e]; rfl)
  have hfg : ∀ b, BV0.ownBlock = some b → ¬ b = g := fun b hb e => own_bk_ne (t := 161) r.2.2.1 r.1 (by decide) (by rw [hb, e])
  refine ⟨rfl, .slice (some ⟨kb, 0, none⟩) t.length c, BV0, t, bs, tv, tb, ⟨Bk.set_ (r.1.turn tc (fun e => hkg e.symm)) 2 _, ?_, own_turn (own_turn r.2.2.1 tc hfk) ts hfg, r.2.2.2.1, r.2.2.2.2⟩, rfl, ?_, ?_, hb, hty⟩
  · have h2 := own_turn hO ts (fun b hb e => by cases hb; exact hkg e)
    have e : (flat (sums (x :: t))).take (t.length * 2) = flat (sums t) := by
      show (flat (sums t ++ [jl (x :: t)])).take _ = _
      rw [flat_app, List.take_append_of_le_length (by rw [flat_len, sums_len]; omega), List.take_of_length_le (by rw [flat_len, sums_len]; omega)]
    rw [e] at h2
    exact h2
  · refine ⟨(ts.1.trans tc.1).trans ht.1, (ts.2.1.trans tc.2.1).trans ht.2.1, (ts.2.2.1.trans tc.2.2.1).trans ht.2.2.1, Nat.le_trans ht.size (Nat.le_trans tc.size ts.size), fun i hi hn => ?_⟩
    have hi2 := Nat.lt_of_lt_of_le hi ht.size
    refine (ts.at_ (Nat.lt_of_lt_of_le hi2 tc.size) fun e => hn (.inl e)).trans ((tc.at_ hi2 fun e => ?_).trans (ht.at_ hi hn))
    rcases hf kb rfl with k | k
    · exact hn (.inr (.inl (by rw [e]; exact k)))
    · omega
  · exact fun k hk => hf k hk
theorem pop_obj {base g m kb c : Nat} {BV tv : Value} {tb : Bool} {x : Int} {t bs : List Int} {W : World} (r : Tw base W g m (.slice (some ⟨kb, 0, none⟩) (t.length + 1) c) BV (x :: t) bs tv tb) :
    (W.setCells kb (t.length * 2) [(.int .i64 0 : Value), .bool false]).cell? ⟨g, 2, none⟩ = some (.slice (some ⟨kb, 0, none⟩) (t.length + 1) c) ∧ (W.setCells kb (t.length * 2) [(.int .i64 0 : Value), .bool false]).frozen? ⟨g, 2, none⟩ = false := by
  have tc : Turn (fun b => b = kb) W (W.setCells kb (t.length * 2) [(.int .i64 0 : Value), .bool false]) := Go.Proofs.YtfamgaakcbinkaaDoor.Dq.setCells_turn kb _ _ W
  have hkg : kb ≠ g := fun e => own_bk_ne (t := 161) r.2.1 r.1 (by decide) (by rw [e]; rfl)
  have h := r.1.turn tc (fun e => hkg e.symm)
  exact ⟨h.c 2, h.f 2⟩
theorem drop_nil (w : World) : Calls Tryd.prog 153 #[.pointer none] w fun e w' => e = .returned (.bool false) ∧ w = w' := by
  have LN := Lib.hid len_nil
  go_enter Tryd.func153, Tryd.ntmps153
  go_wp2_with (go_at_call 155; (with_reducible refine (LN.out _).mono ?_); rintro r w5 ⟨rfl, rfl⟩)
  go_ret
  exact ⟨rfl, rfl⟩
theorem drop_none (base g m : Nat) (FV BV tv : Value) (tb : Bool) (w : World) (r : Tw base w g m FV BV [] [] tv tb) : Calls Tryd.prog 153 #[.pointer (some ⟨g, 0, none⟩)] w fun e w' => e = .returned (.bool false) ∧ ∃ n, w' = w.drewN n := by
  have LN := Lib.hid (len_any base g m FV BV tv tb [] [] w r (by simp))
  clear r
  go_enter Tryd.func153, Tryd.ntmps153
  go_wp2_with (go_at_call 155; (with_reducible refine (LN.out).mono ?_); rintro r w5 ⟨rfl, n5, rfl⟩)
  go_ret
  exact ⟨rfl, _, rfl⟩
set_option maxHeartbeats 4000000 in
theorem drop_front (base g m : Nat) (FV BV tv : Value) (tb : Bool) (x : Int) (t bs : List Int) (w : World) (r : Tw base w g m FV BV (x :: t) bs tv tb) (hl : t.length + bs.length ≤ 900) (hty : ∃ y, tv = Value.int .i64 y) : Calls Tryd.prog 153 #[.pointer (some ⟨g, 0, none⟩)] w (RetDrop base g m FV BV (t ++ bs) w) := by
  have LN := Lib.hid (len_any base g m FV BV tv tb (x :: t) bs w r (by simp; omega))
  obtain ⟨kb, c, rfl⟩ := ownsRow_succ (show w.ownsRow base 159 2 FV (t.length + 1) _ from r.2.1)
  have HR := Lib.hid r
  obtain ⟨N0, hN0⟩ : ∃ N0 : Nat, (x :: t).length + bs.length = N0 := ⟨_, rfl⟩
  rw [hN0] at LN
  have t1 : ((N0 : Int) == 0) = false := by simp at hN0 ⊢; omega
  have t2 : (((t.length : Int) + 1) == 0) = false := by simp; omega
  have w2 : IntKind.i64.wrap (t.length : Int) = t.length := IntWalk.i64_in _ (by omega)
  obtain ⟨-, -, hc1, hc2⟩ := own_pop r.2.1
  have i1 : (t.length : Int) ≤ (t.length : Int) + 1 := by omega
  have i2 : (t.length : Int) + 1 ≤ (c : Int) := by omega
  have i3 : (t.length : Int) ≤ (c : Int) := by omega
  have i5 : ¬ c = t.length := by omega
  have i6 : t.length ≤ c := by omega
  have i7 : t.length ≤ t.length + 1 := by omega
  have HTY := Lib.hid hty
  clear r hl hN0 hc2 hty
  go_enter Tryd.func153, Tryd.ntmps153
  go_wp2_with (go_at_call 155; (with_reducible refine (LN.out).mono ?_); rintro r w5 ⟨rfl, n5, rfl⟩; have B5 := Lib.hid (Sh.below_drewN (Below.refl w.heap.size w) n5); generalize w.drewN n5 = w5 at *; have R5 := Lib.hid (HR.out.next B5.out); have d2 := R5.out.1.c 2; obtain ⟨hcl, -, -, -⟩ := own_pop R5.out.2.1; obtain ⟨d3, f3⟩ := pop_obj R5.out)
  go_ret
  exact drop_end R5.out rfl (Turn.of_below _ B5.out) (fun k hk => .inl hk) (fun k hk => .inl hk) HTY.out
set_option maxHeartbeats 4000000 in
theorem drop_turn (base g m : Nat) (FV BV tv : Value) (tb : Bool) (x : Int) (t : List Int) (w : World) (r : Tw base w g m FV BV [] (x :: t) tv tb) (hl : t.length + 1 ≤ 64) (hw : ∀ z ∈ x :: t, wt z ≤ 10000) (hJ : JB base w) : Calls Tryd.prog 153 #[.pointer (some ⟨g, 0, none⟩)] w (RetDrop base g m FV BV t w) := by
  have LN := Lib.hid (len_any base g m FV BV tv tb [] (x :: t) w r (by simp; omega))
  have TU := Lib.hid (fun W (hb : Below w.heap.size w W) (h : Tw base W g m FV BV [] (x :: t) tv tb) => turn_any base g m FV BV tv tb (x :: t) W h (by simp) (by simp; omega) hw (hJ.next hb))
  clear hJ
  obtain ⟨A0, c0, hFV, -⟩ := r.front
  have hFV : FV = .slice A0 0 c0 := hFV
  have HR := Lib.hid r
  obtain ⟨N0, hN0⟩ : ∃ N0 : Nat, ([] : List Int).length + (x :: t).length = N0 := ⟨_, rfl⟩
  rw [hN0] at LN
  have t1 : ((N0 : Int) == 0) = false := by simp at hN0 ⊢; omega
  have t2 : (((t.length : Int) + 1) == 0) = false := by simp; omega
  have w2 : IntKind.i64.wrap (t.length : Int) = t.length := IntWalk.i64_in _ (by omega)
  have i1 : (t.length : Int) ≤ (t.length : Int) + 1 := by omega
  have i7 : t.length ≤ t.length + 1 := by omega
  clear r hl hN0 hw
  subst hFV
  go_enter Tryd.func153, Tryd.ntmps153
  go_wp2_with (first
    | (go_at_call 155; (with_reducible refine (LN.out).mono ?_); rintro r w5 ⟨rfl, n5, rfl⟩; have B5 := Lib.hid (Sh.below_drewN (Below.refl w.heap.size w) n5); generalize w.drewN n5 = w5 at *; have R5 := Lib.hid (HR.out.next B5.out); have d0 := R5.out.1.c 2)
    | (go_at_call 145; (with_reducible refine (TU.out _ B5.out R5.out).mono ?_); rintro r w6 ⟨rfl, FV', BV', R6, T6, F6, K6⟩; obtain ⟨kb, c, rfl⟩ := ownsRow_succ (show w6.ownsRow base 159 2 FV' (t.length + 1) _ from R6.2.1); have RH := Lib.hid R6; have TH := Lib.hid T6; have FH := Lib.hid F6; have KH := Lib.hid K6; have d2 := R6.1.c 2; obtain ⟨hcl, -, hc1, -⟩ := own_pop R6.2.1; obtain ⟨d3, f3⟩ := pop_obj R6; have i2 : (t.length : Int) + 1 ≤ (c : Int) := (by omega); have i3 : (t.length : Int) ≤ (c : Int) := (by omega); have i5 : ¬ c = t.length := (by omega); have i6 : t.length ≤ c := (by omega); clear R6 T6 F6 K6 hc1))
  go_ret
  have h := drop_end (FV := .slice A0 0 c0) (BV := BV) (w := w) RH.out rfl ((Turn.of_below _ B5.out).trans TH.out) (fun k hk => (FH.out k hk).imp id fun h => by have := B5.out.size; omega) (fun k hk => (KH.out k hk).imp id fun h => by have := B5.out.size; omega) ⟨(0 : Int), rfl⟩
  rw [List.append_nil] at h
  exact h
theorem drop_any (base g m : Nat) (FV BV tv : Value) (tb : Bool) (fs bs rest : List Int) (x : Int) (w : World) (r : Tw base w g m FV BV fs bs tv tb) (he : fs ++ bs = x :: rest) (hl : fs.length + bs.length ≤ 64) (hw : ∀ z ∈ fs ++ bs, wt z ≤ 10000) (hty : ∃ y, tv = Value.int .i64 y) (hJ : JB base w) : Calls Tryd.prog 153 #[.pointer (some ⟨g, 0, none⟩)] w (RetDrop base g m FV BV rest w) := by
  cases fs with
  | nil =>
    rw [List.nil_append] at he hw
    subst he
    exact drop_turn base g m FV BV tv tb x rest w r (by simpa using hl) hw hJ
  | cons y t =>
    rw [List.cons_append] at he
    cases he
    exact drop_front base g m FV BV tv tb x t bs w r (by simp at hl; omega) hty
end Go.Proofs.YtfamgaakcbinkaaDoor.Twc
