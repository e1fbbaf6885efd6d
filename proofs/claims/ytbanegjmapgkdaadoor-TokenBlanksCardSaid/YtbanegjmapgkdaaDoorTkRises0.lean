/-
  Layer 17, token: rifflelaw17.TokenRises. Condition: the two tables of unicode/utf8 hold what their text lays.
-/
import Derived.Test.YtbanegjmapgkdaaDoorTkLives
set_option maxRecDepth 100000
namespace Go.Proofs.YtbanegjmapgkdaaDoor.Tk
open Go.Proofs.YtbanegjmapgkdaaDoor.Sh Go.Proofs.YtbanegjmapgkdaaDoor.St
open Go.RowKit
set_option linter.unusedVariables false

theorem tok_cells {w : World} {base : Nat} {V : Value} {qs : List Qt} (h : Live base w V qs) {k : Nat} {q : Qt} (hq : qs[k]? = some q) : ∃ b c, V = .slice (some ⟨b, 0, none⟩) qs.length c ∧ b < w.heap.size ∧ qs.length ≤ c ∧ ∀ (k : Nat) (q : Qt), qs[k]? = some q → w.cell? ⟨b, k * 5, none⟩ = some (.int .i64 (q.1.kind : Nat)) ∧ w.cell? ⟨b, k * 5 + 1, none⟩ = some (.int .i64 (q.1.pos : Nat)) ∧ w.cell? ⟨b, k * 5 + 2, none⟩ = some (.int .i64 (q.1.code : Nat)) ∧ w.cell? ⟨b, k * 5 + 3, none⟩ = some (vq q) ∧ w.cell? ⟨b, k * 5 + 4, none⟩ = some (.string (nm q.1.name)) := by
  have hl : ∀ {k : Nat} {q : Qt}, qs[k]? = some q → k < qs.length := fun h => (List.getElem?_eq_some_iff.1 h).1
  have h0 := hl hq
  obtain ⟨b, c, cur, hV, -, hn, -, hB, hc, -⟩ := own_putN (i := 0) h.1 (by omega)
  refine ⟨b, c, hV, hB.lt, hn, fun k q hq => ?_⟩
  have hk := hl hq
  obtain ⟨f0, f1, f2, f3, f4⟩ := flat5_at qs k q hq
  exact ⟨(hc _ (by omega)).trans f0, (hc _ (by omega)).trans f1, (hc _ (by omega)).trans f2, (hc _ (by omega)).trans f3, (hc _ (by omega)).trans f4⟩
set_option maxHeartbeats 8000000 in
theorem rises_bad (s : ByteArray) (e0 p : Nat) (w : World) (he : e0 ≠ 0) (hp : p ≤ s.size) (hX : Calls Tryd.prog 21 #[.string s] w fun e w' => e = .returned (.tuple #[.slice none 0 0, .agg #[.int .i64 (e0 : Int), .int .i64 (p : Int)]]) ∧ Below w.heap.size w w') (hT : Gl.Tabs w) :
    Calls Tryd.prog 8 #[.string s] w (RetB true w) := by
  have HX := Lib.hid hX
  have HT := Lib.hid hT
  have b1 : ((e0 : Int) == 0) = false := by simp; omega
  have b2 : ((e0 : Int) != 0) = true := by simp; omega
  have i1 : (p : Int) ≤ (s.size : Int) := by omega
  have i2 : ¬ (e0 : Int) = 0 := by omega
  clear hX hT he hp
  go_enter Tryd.func8, Tryd.ntmps8
  go_wp2_with fail
  refine (HX.out).mono ?_
  rintro e w1 ⟨rfl, hb⟩
  have LB := Lib.hid (hb.alloc hb.size (.cells #[.int .i64 (e0 : Int), .int .i64 (p : Int)] 46))
  have HL := Lib.hid (lives_any _ (HT.out.below LB.out))
  clear hb
  go_wp2_with fail
  refine (HL.out).mono ?_
  rintro e w2 ⟨rfl, hb2⟩
  have L2 := Lib.hid (Gl.below_next LB.out hb2)
  clear hb2
  go_wp2
  go_ret
  exact ⟨rfl, L2.out⟩
end Go.Proofs.YtbanegjmapgkdaaDoor.Tk
