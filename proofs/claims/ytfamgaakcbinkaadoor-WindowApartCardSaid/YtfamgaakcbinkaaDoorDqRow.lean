/-
  A window's row of numbers with their places, as values in memory; slices.Clone and slices.Delete of its first at such a row. Conditions: as told in each.
-/
import Derived.Test.YtfamgaakcbinkaaDoorStBase
import Derived.Test.YtfamgaakcbinkaaDoorDqMath
import Derived.Laws.EntriesVeiled
import Derived.IntWalk
import Derived.Deep.QuietTactic
import Derived.BigQuiet
import Derived.Deep.RegionLaw
import Derived.Lib.SliceRun
namespace Go.Proofs.YtfamgaakcbinkaaDoor.Dq
open Go.Proofs.YtfamgaakcbinkaaDoor.Sh Go.Proofs.YtfamgaakcbinkaaDoor.St
open Go.RowKit
set_option linter.unusedVariables false

/-- The cells of numbers with their places. -/
def flat (ks : List (Int × Nat)) : List Value := ks.flatMap fun p => [.int .i64 p.1, .int .i64 (p.2 : Nat)]
theorem flat_cons (p : Int × Nat) (ks : List (Int × Nat)) : flat (p :: ks) = .int .i64 p.1 :: .int .i64 (p.2 : Nat) :: flat ks := rfl
theorem flat_len : ∀ ks : List (Int × Nat), (flat ks).length = ks.length * 2
  | [] => rfl
  | p :: ks => by rw [flat_cons, List.length_cons, List.length_cons, List.length_cons, flat_len ks]; omega
theorem flat_app (a b : List (Int × Nat)) : flat (a ++ b) = flat a ++ flat b := List.flatMap_append
theorem flat_at : ∀ (ks : List (Int × Nat)) (i : Nat) (p : Int × Nat), ks[i]? = some p → (flat ks)[i * 2]? = some (.int .i64 p.1) ∧ (flat ks)[i * 2 + 1]? = some (.int .i64 (p.2 : Nat))
  | [], i, p, h => by simp at h
  | q :: ks, 0, p, h => by
    obtain rfl : q = p := by simpa using h
    exact ⟨rfl, rfl⟩
  | q :: ks, i + 1, p, h => by
    have ih := flat_at ks i p (by simpa using h)
    rw [flat_cons, show (i + 1) * 2 = i * 2 + 1 + 1 by omega]
    simpa using ih
theorem flat_take (ks : List (Int × Nat)) (e : Nat) (h : e ≤ ks.length) : (flat ks).take (e * 2) = flat (ks.take e) := by
  conv => lhs; rw [← List.take_append_drop e ks, flat_app]
  rw [List.take_left' (by rw [flat_len, List.length_take]; omega)]
theorem flat_one (ks : List (Int × Nat)) : ∀ u ∈ flat ks, u.oneCell' = true := by
  intro u hu
  obtain ⟨p, _, hp⟩ := List.mem_flatMap.1 hu
  simp at hp
  rcases hp with rfl | rfl <;> rfl
theorem infoN : (Tryd.prog.info? 184).map (fun i => (i.zero, i.size, i.bytes)) = some (some (.agg #[.int .i64 0, .int .i64 0]), 2, 16) := by kernel_rfl
/-- V is a row of one's own with these numbers and places. -/
def RowK (base : Nat) (w : World) (V : Value) (ks : List (Int × Nat)) : Prop := w.ownsRow base 184 2 V ks.length (flat ks)
section
variable {base : Nat} {w w' : World} {V : Value} {ks : List (Int × Nat)} {T : Nat → Prop}
theorem RowK.nil' (base : Nat) (w : World) : RowK base w (.slice none 0 0) [] := World.ownsRow_nil _ _ _ _
theorem RowK.view (h : RowK base w V ks) : ∃ A c, V = .slice A ks.length c ∧ ks.length ≤ c ∧ c ≤ maxLen ∧ (0 < ks.length → ∃ b, A = some ⟨b, 0, none⟩ ∧ base ≤ b ∧ b < w.heap.size ∧ V.ownBlock = some b ∧ ∀ i p, ks[i]? = some p → w.cell? ⟨b, i * 2, none⟩ = some (.int .i64 p.1) ∧ w.cell? ⟨b, i * 2 + 1, none⟩ = some (.int .i64 (p.2 : Nat))) := by
  have hc := World.ownsRow.cells h (g := V.ownBlock.getD 0)
  have hlt := World.ownsRow.lt h
  rcases h.2 with ⟨rfl, h0⟩ | ⟨g, cap, cur, rfl, hb, hg, hn, hm, _⟩
  · exact ⟨none, 0, by rw [h0], by omega, by unfold maxLen; omega, fun hp => by omega⟩
  · refine ⟨some ⟨g, 0, none⟩, cap, rfl, hn, hm, fun _ => ⟨g, rfl, hb, (hlt g rfl).2, rfl, fun i p hp => ?_⟩⟩
    obtain ⟨h1, h2⟩ := flat_at ks i p hp
    have k1 := hc rfl _ _ h1
    have k2 := hc rfl _ _ h2
    rw [Go.WideShapes.add_plain] at k1 k2
    simp only [Value.ownBlock, Option.getD_some, Nat.zero_add] at k1 k2
    exact ⟨k1, k2⟩
theorem RowK.turn (h : RowK base w V ks) (hb : Turn T w w') (hT : ∀ g, V.ownBlock = some g → ¬ T g) : RowK base w' V ks := own_turn h hb hT
theorem RowK.next (h : RowK base w V ks) (hb : Below w.heap.size w w') : RowK base w' V ks := own_below h hb
theorem RowK.lt (h : RowK base w V ks) : ∀ g, V.ownBlock = some g → g < w.heap.size := fun g hg => own_lt h g hg
/-- The first e of it. -/
theorem RowK.cut (h : RowK base w V ks) {A : Option Addr} {n c : Nat} (hV : V = .slice A n c) {e : Nat} (he : e ≤ ks.length) : RowK base w (.slice A e c) (ks.take e) ∧ (Value.slice A e c).ownBlock = V.ownBlock := by
  subst hV
  unfold RowK
  have hl : (ks.take e).length = e := by rw [List.length_take]; omega
  rw [hl]
  refine ⟨⟨by rw [flat_len, hl], ?_⟩, by cases A <;> rfl⟩
  rcases h.2 with ⟨e1, h0⟩ | ⟨g, cap, cur, e1, hb, hg, hn, hm, hs, ht⟩
  · injection e1 with e1 e2 e3
    subst e1 e2 e3
    exact .inl ⟨by rw [show e = 0 by omega], by omega⟩
  · injection e1 with e1 e2 e3
    subst e1 e3
    refine .inr ⟨g, c, cur, rfl, hb, hg, by omega, hm, hs, ?_⟩
    rw [← flat_take ks e he, ← ht, List.take_take, Nat.min_eq_left (by omega)]
end
/-- What slices.Clone tells of such a row. -/
def RetCk (ks : List (Int × Nat)) (w : World) (e : Ending) (w' : World) : Prop := ∃ V, e = .returned V ∧ RowK w.heap.size w' V ks ∧ Below w.heap.size w w'
theorem RowK.seq {base : Nat} {w : World} {V : Value} {ks : List (Int × Nat)} (h : RowK base w V ks) : ∃ A c, V = .slice A ks.length c ∧ Seq (fun _ => True) w A (flat ks) := by
  obtain ⟨A, c, e, _, _, hs⟩ := own_seq h (by decide)
  exact ⟨A, c, e, hs.mono fun _ _ => trivial⟩
set_option maxHeartbeats 1000000 in
theorem clone_k (base : Nat) (V : Value) (ks : List (Int × Nat)) (w : World) (h : RowK base w V ks) (hl : ks.length ≤ 1000) :
    Calls Tryd.prog 140 #[V] w (RetCk ks w) := by
  obtain ⟨A, c, rfl, hs⟩ := h.seq
  have q : ∀ (w : World) (a : Option Addr) (n c n' c' : Nat), (binOp .eql 152 (.slice a n c) (.slice none n' c')).run Tryd.prog w = .ok (.bool a.isNone) w := fun w a n c n' c' => Go.Lib.run_eql_slice_nil w _ _ a n c n' c' Tryd.underlying152
  rcases A with _ | ad
  · have h0 : ks = [] := by
      rcases h.2 with ⟨e1, h0⟩ | ⟨g, cap, cur, e1, _⟩
      · exact List.eq_nil_of_length_eq_zero h0
      · injection e1 with e1; cases e1
    subst h0
    clear h hs
    go_enter Tryd.func140, Tryd.ntmps140
    go_wp2
    go_ret
    exact ⟨_, rfl, RowK.nil' _ _, Below.refl _ _⟩
  · have HS := Lib.hid (hs.next (below_new w (.cells #[] 184)))
    have HO := Lib.hid (own_empty w 184 2 w.heap.size w.heap.size rfl (Nat.le_refl _))
    have L1 : Hid (0 + ks.length ≤ 100000) := Lib.hid (by omega)
    have LB : Hid (w.heap.size ≤ (w.alloc (.cells #[] 184)).heap.size) := Lib.hid (by simp)
    clear h hs hl
    go_enter Tryd.func140, Tryd.ntmps140
    go_wp2_with (at_builtin; refine wpList_appS infoN rfl (by decide) (by decide) Tryd.underlying152 rfl (.tmp 5) (.tmp 6) rfl w.heap.size (.slice (some ⟨w.heap.size, 0, none⟩) 0 0) 0 [] rfl HO.out (fun _ => True) (some ad) ks.length c (flat ks) rfl (flat_len ks) HS.out (flat_one ks) L1.out LB.out ?_; intro v4 w4 hv4 hg4 hat4; have V4 := Lib.hid hv4; have G4 := Lib.hid hg4; clear hv4 hg4 hat4)
    go_ret
    refine ⟨_, rfl, ?_, ?_⟩
    · have h4 := V4.out
      rw [Nat.zero_add, List.nil_append] at h4
      exact h4
    · exact ((Below.refl w.heap.size w).alloc (Nat.le_refl _) _).grown G4.out (by simp) (fun k hk => by
        have : w.heap.size = k := by simpa [Value.ownBlock] using hk
        omega)

/-- 'clear' of one number with its place. -/
theorem run_clear1 (w : World) (ty : TypeId) (b o c : Nat) (hc0 : (w.cell? ⟨b, o, none⟩).isSome = true) (hc1 : (w.cell? ⟨b, o + 1, none⟩).isSome = true) (hf0 : w.frozen? ⟨b, o, none⟩ = false) (hf1 : w.frozen? ⟨b, o + 1, none⟩ = false) :
    (Builtin.clear_ #[152] ty #[.slice (some ⟨b, o, none⟩) 1 c]).run Tryd.prog w = .ok (.tuple #[]) (w.setCells b o [.int .i64 0, .int .i64 0]) := by
  have hst := run_storeCells_cells (P := Tryd.prog) b o [.int .i64 0, .int .i64 0] 0 w
    (fun j hj => by
      have : j = 0 ∨ j = 1 := by simp at hj; omega
      rcases this with rfl | rfl
      · simpa using hc0
      · simpa using hc1)
    (fun j hj => by
      have : j = 0 ∨ j = 1 := by simp at hj; omega
      rcases this with rfl | rfl
      · simpa using hf0
      · simpa using hf1)
    (by intro v hv; simp at hv; subst hv; rfl)
  simp only [Nat.add_zero] at hst
  have hv : ∀ w, (zeroValue 184).run Tryd.prog w = .ok (.agg #[.int .i64 0, .int .i64 0]) w := Tryd.zeroValue184
  have hzc : (Builtin.zeroCells (Value.agg #[.int .i64 0, .int .i64 0]).cells 1).toList = [.int .i64 0, .int .i64 0] := by
    simp [Builtin.zeroCells, Value.cells]
    rfl
  simp [Builtin.clear_, run_underlying Tryd.underlying152, hv, hzc, hst]
/-- What slices.Delete of the first tells. -/
def RetDel (base b c : Nat) (ks : List (Int × Nat)) (w : World) (e : Ending) (w' : World) : Prop := e = .returned (.slice (some ⟨b, 0, none⟩) ks.length c) ∧ RowK base w' (.slice (some ⟨b, 0, none⟩) ks.length c) ks ∧ Turn (fun i => i = b) w w'
theorem setCells_turn (b : Nat) : ∀ (vs : List Value) (o : Nat) (w : World), Turn (fun i => i = b) w (w.setCells b o vs)
  | [], o, w => Turn.refl _ _
  | v :: vs, o, w => (Turn.setCell (p := ⟨b, o, none⟩) (Turn.refl (fun i => i = b) w) (.inl rfl) v).trans (setCells_turn b vs (o + 1) (w.setCell ⟨b, o, none⟩ v))
theorem setCells_row (b : Nat) (t : TypeId) : ∀ (vs : List Value) (o : Nat) (w : World) (cur : List Value), Bk t w b cur → o + vs.length ≤ cur.length → Bk t (w.setCells b o vs) b (splice cur o vs)
  | [], o, w, cur, h, hl => by
    have e : splice cur o [] = cur := by simp [splice]
    rw [e]; exact h
  | v :: vs, o, w, cur, h, hl => by
    have h1 := h.set_ o v
    have ih := setCells_row b t vs (o + 1) _ _ h1 (by simp at hl ⊢; omega)
    have e : splice (cur.set o v) (o + 1) vs = splice cur o (v :: vs) := by
      have ho : o < cur.length := by simp at hl; omega
      have e1 : cur.set o v = cur.take o ++ v :: cur.drop (o + 1) := by rw [List.set_eq_take_append_cons_drop, if_pos ho]
      have l1 : (cur.take o ++ [v]).length = o + 1 := by simp; omega
      have e2 : cur.set o v = (cur.take o ++ [v]) ++ cur.drop (o + 1) := by rw [e1]; simp
      unfold splice
      rw [e2, List.take_left' l1, ← l1, List.drop_append, l1, List.drop_drop]
      simp only [List.length_cons, List.append_assoc, List.cons_append]
      rw [show o + 1 + (o + 1 + vs.length - (o + 1)) = o + (vs.length + 1) by omega, List.drop_of_length_le (show (cur.take o ++ [v]).length ≤ o + 1 + vs.length by omega)]
      rfl
    rw [← e]
    exact ih
theorem isSome_at {w : World} {g : Nat} {t : TypeId} {cur : List Value} (h : Bk t w g cur) {i : Nat} (hi : i < cur.length) : (w.cell? ⟨g, i, none⟩).isSome = true := by
  rw [h.c, List.getElem?_eq_getElem hi]; rfl
end Go.Proofs.YtfamgaakcbinkaaDoor.Dq
