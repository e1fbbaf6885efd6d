/-
  The table of what is known of scalar functions (scalar.traits), out of what the row lists; what glyph.Class and scalar.lookUp answer of any code. Condition: the table holds what its text lays.
-/
import Derived.Test.YthabimjmdnhomaaDoorRows
import Derived.Test.YthabimjmdnhomaaDoorScPow
import Derived.Lib.LaidU8
import Derived.OpenShut
namespace Go.Proofs.YthabimjmdnhomaaDoor.Sc
open Go.RowKit
set_option linter.unusedVariables false

/-- What is known of a function: used with one, with two, whether a fold has a start, which, whether it joins, or picks. -/
structure Tr where
  one : Bool
  two : Bool
  starts : Bool
  unit : Int
  joins : Bool
  picks : Bool
def trL : List Tr :=
  [⟨false, false, false, 0, false, false⟩,
   ⟨true, true, true, 0, true, false⟩, ⟨true, true, true, 0, false, false⟩, ⟨true, true, true, 1, true, false⟩, ⟨true, true, true, 1, false, false⟩, ⟨true, true, true, 1, false, false⟩, ⟨true, true, true, 0, false, false⟩,
   ⟨false, true, true, -9223372036854775808, true, true⟩, ⟨false, true, true, 9223372036854775807, true, true⟩,
   ⟨false, true, true, 1, false, false⟩, ⟨false, true, true, 0, false, false⟩, ⟨false, true, true, 0, false, false⟩, ⟨false, true, true, 1, false, false⟩, ⟨false, true, true, 0, false, false⟩, ⟨false, true, true, 1, false, false⟩,
   ⟨false, true, true, -1, true, false⟩, ⟨false, true, true, 0, true, false⟩, ⟨true, true, false, 0, true, false⟩, ⟨true, true, false, 0, true, false⟩, ⟨true, false, false, 0, false, false⟩]
def noTr : Tr := ⟨false, false, false, 0, false, false⟩
def trOf (c : Int) : Tr := if 1 ≤ c ∧ c ≤ 19 then trL.getD c.toNat noTr else noTr
def Tr.vals (t : Tr) : List Value := [.bool t.one, .bool t.two, .bool t.starts, .int .i64 t.unit, .bool t.joins, .bool t.picks]
def Tr.data {H : Type} (t : Tr) : DataW H := .agg [.lit (.bool t.one), .lit (.bool t.two), .lit (.bool t.starts), .lit (.int .i64 t.unit), .lit (.bool t.joins), .lit (.bool t.picks)]
theorem laidEq : (Rows.laid_riffle_scalar_traits : DataW Unit) = .agg (trL.map Tr.data) := rfl
/-- The table lies in its variable. -/
def Tab (w : World) : Prop := ∀ k, k < 20 → ∀ j, j < 6 → w.cell? ⟨0, 6 * k + j, none⟩ = (trL.getD k noTr).vals[j]?
theorem Tab.below {w w' : World} (h : Tab w) (hb : Below w.heap.size w w') : Tab w' := by
  intro k hk j hj
  have h0 := h k hk j hj
  have hlt : 0 < w.heap.size := by
    have : (w.cell? ⟨0, 6 * k + j, none⟩).isSome := by
      rw [h0]
      match j, hj with
      | 0, _ => rfl
      | 1, _ => rfl
      | 2, _ => rfl
      | 3, _ => rfl
      | 4, _ => rfl
      | 5, _ => rfl
    obtain ⟨v, hv⟩ := Option.isSome_iff_exists.1 this
    exact World.block_lt_of_cell? w ⟨0, 6 * k + j, none⟩ hv
  rw [← h0]
  exact hb.cell (p := ⟨0, 6 * k + j, none⟩) hlt

theorem vals_of {H : Type} {enc : TypeId × Value → H} {w : World} {base : Nat} {sp : Nat → Bool} {held : Bool} {fuel : Nat} {cs : List Value} {t : Tr} {p : List MemPlace}
    (h : DataW.trod enc Tryd.prog w base sp held fuel 57 cs = some (t.data, p)) : cs = t.vals := by
  obtain ⟨xs, n, rfl, hx, hl, hxl, hall⟩ := DataW.trod_struct Tryd.underlying57 h
  have hc : Tryd.prog.cellsOf 57 = 6 := by kernel_rfl
  have hcb : Tryd.prog.cellsOf 4 = 1 := by kernel_rfl
  have hci : Tryd.prog.cellsOf 2 = 1 := by kernel_rfl
  rw [hc] at hl
  match xs, hxl, cs, hl with
  | [x0, x1, x2, x3, x4, x5], _, [c0, c1, c2, c3, c4, c5], _ =>
    have hd := congrArg Prod.fst hx
    simp only [Tr.data, List.map_cons, List.map_nil, DataW.agg.injEq, List.cons.injEq, and_true] at hd
    obtain ⟨d0, d1, d2, d3, d4, d5⟩ := hd
    have b0 : DataW.trod enc Tryd.prog w base sp held n 4 (([c0, c1, c2, c3, c4, c5].drop 0).take (Tryd.prog.cellsOf 4)) = some x0 := hall 0 _ rfl
    rw [hcb] at b0
    have b1 : DataW.trod enc Tryd.prog w base sp held n 4 (([c0, c1, c2, c3, c4, c5].drop 1).take (Tryd.prog.cellsOf 4)) = some x1 := hall 1 _ rfl
    rw [hcb] at b1
    have b2 : DataW.trod enc Tryd.prog w base sp held n 4 (([c0, c1, c2, c3, c4, c5].drop 2).take (Tryd.prog.cellsOf 4)) = some x2 := hall 2 _ rfl
    rw [hcb] at b2
    have b3 : DataW.trod enc Tryd.prog w base sp held n 2 (([c0, c1, c2, c3, c4, c5].drop 3).take (Tryd.prog.cellsOf 2)) = some x3 := hall 3 _ rfl
    rw [hci] at b3
    have b4 : DataW.trod enc Tryd.prog w base sp held n 4 (([c0, c1, c2, c3, c4, c5].drop 4).take (Tryd.prog.cellsOf 4)) = some x4 := hall 4 _ rfl
    rw [hcb] at b4
    have b5 : DataW.trod enc Tryd.prog w base sp held n 4 (([c0, c1, c2, c3, c4, c5].drop 5).take (Tryd.prog.cellsOf 4)) = some x5 := hall 5 _ rfl
    rw [hcb] at b5
    obtain ⟨v0, e0, rfl⟩ := DataW.trod_bool Tryd.underlying4 b0
    obtain ⟨v1, e1, rfl⟩ := DataW.trod_bool Tryd.underlying4 b1
    obtain ⟨v2, e2, rfl⟩ := DataW.trod_bool Tryd.underlying4 b2
    obtain ⟨v3, e3, rfl, _⟩ := DataW.trod_int Tryd.underlying2 b3
    obtain ⟨v4, e4, rfl⟩ := DataW.trod_bool Tryd.underlying4 b4
    obtain ⟨v5, e5, rfl⟩ := DataW.trod_bool Tryd.underlying4 b5
    replace e0 : [c0] = [Value.bool v0] := e0
    replace e1 : [c1] = [Value.bool v1] := e1
    replace e2 : [c2] = [Value.bool v2] := e2
    replace e3 : [c3] = [Value.int .i64 v3] := e3
    replace e4 : [c4] = [Value.bool v4] := e4
    replace e5 : [c5] = [Value.bool v5] := e5
    simp only [List.cons.injEq, and_true] at e0 e1 e2 e3 e4 e5
    simp only [DataW.lit.injEq, Lit.bool.injEq, Lit.int.injEq, true_and] at d0 d1 d2 d3 d4 d5
    subst e0 e1 e2 e3 e4 e5
    simp [Tr.vals, d0, d1, d2, d3, d4, d5]
theorem tab_of {w : World} (h : Lib.VarReads Tryd.prog w "riffle/scalar.traits" (.agg (trL.map Tr.data))) : Tab w := by
  obtain ⟨g, t, cs, fuel, p, hg, hty, hvar, hd⟩ := h
  obtain rfl := Option.some.inj ((show Tryd.prog.globalNamed "riffle/scalar.traits" = some 0 by kernel_rfl).symm.trans hg)
  obtain rfl := Option.some.inj ((show (Tryd.prog.globals[0]?).map (·.type) = some 67 by kernel_rfl).symm.trans hty)
  have hc : Tryd.prog.cellsOf 57 = 6 := by kernel_rfl
  intro k hk j hj
  obtain ⟨fuel', d, q, hdi, he⟩ := Lib.array_elem Tryd.underlying67 hd k hk
  have hk' : k < trL.length := hk
  rw [List.getElem?_map, List.getElem?_eq_getElem hk', Option.map_some, Option.some.injEq] at hdi
  subst hdi
  rw [hc] at he
  have hv := vals_of he
  have e := congrArg (·[j]?) hv
  simp only [List.getElem?_take, List.getElem?_drop] at e
  rw [if_pos hj] at e
  rw [World.var?_cell hg hvar (6 * k + j), ← Array.getElem?_toList, Nat.mul_comm, e]
  simp [List.getD, hk']
end Go.Proofs.YthabimjmdnhomaaDoor.Sc
