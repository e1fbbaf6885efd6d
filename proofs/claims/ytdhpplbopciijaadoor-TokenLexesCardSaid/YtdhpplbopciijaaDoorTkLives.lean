/-
  Layer 17, token: rifflelaw17.lives. Condition: the two tables of unicode/utf8 hold what their text lays.
-/
import Derived.Test.YtdhpplbopciijaaDoorTkRise
set_option maxRecDepth 100000
namespace Go.Proofs.YtdhpplbopciijaaDoor.Tk
open Go.Proofs.YtdhpplbopciijaaDoor.Sh Go.Proofs.YtdhpplbopciijaaDoor.St
open Go.RowKit
set_option linter.unusedVariables false

def exB : ByteArray := ⟨#[120, 195, 151, 49, 32, 194, 175, 50]⟩
theorem ex_ends {w w' : World} {e : Ending} (h : RetX exB w e w') : ∃ b c b2 c2, e = .returned (.tuple #[.slice (some ⟨b, 0, none⟩) 3 c, .agg #[.int .i64 0, .int .i64 0]]) ∧ Below w.heap.size w w' ∧ b < w'.heap.size ∧ b2 < w'.heap.size ∧
    w'.cell? ⟨b, 4, none⟩ = some (.string ⟨#[120]⟩) ∧ w'.cell? ⟨b, 7, none⟩ = some (.int .i64 3) ∧ w'.cell? ⟨b, 6, none⟩ = some (.int .i64 1) ∧ w'.cell? ⟨b, 11, none⟩ = some (.int .i64 3) ∧ w'.cell? ⟨b, 13, none⟩ = some (.slice (some ⟨b2, 0, none⟩) 2 c2) ∧ w'.cell? ⟨b2, 1, none⟩ = some (.int .i64 (-2)) ∧ 3 ≤ c ∧ 2 ≤ c2 := by
  obtain ⟨R, hR, hk⟩ := h
  obtain rfl : R = .inl exT := lexIs_same hR ex_any
  obtain ⟨V, qs, rfl, hl, hm, -, hb⟩ := hk
  match qs, hm with
  | [(t0, x0), (t1, x1), (t2, x2)], hm =>
    obtain ⟨rfl, rfl, rfl⟩ : t0 = ⟨2, 0, 0, [], [120]⟩ ∧ t1 = ⟨4, 1, 3, [], []⟩ ∧ t2 = ⟨1, 3, 0, [1, -2], []⟩ := by simpa [exT] using hm
    obtain ⟨b, c, cur, rfl, -, h3, -, hB, hc, -⟩ := own_putN (i := 0) hl.1 (by simp)
    have h2 := hl.2 (⟨1, 3, 0, [1, -2], []⟩, x2) (by simp)
    obtain ⟨b2, c2, cur2, e2, -, h4, -, hB2, hc2, -⟩ := own_putN (i := 0) h2 (by simp)
    exact ⟨b, c, b2, c2, rfl, hb, hB.lt, hB2.lt, hc 4 (by simp), hc 7 (by simp), hc 6 (by simp), hc 11 (by simp), (hc 13 (by simp)).trans (congrArg some e2), hc2 1 (by simp), h3, h4⟩
set_option maxHeartbeats 4000000 in
theorem lives_any (w : World) (hT : Gl.Tabs w) : Calls Tryd.prog 9 #[] w (RetB true w) := by
  have HX := Lib.hid (lex_any exB w (by decide) hT)
  unfold exB at HX
  go_enter Tryd.func9, Tryd.ntmps9
  go_wp2_with fail
  refine (HX.out).mono ?_
  intro e w1 h1
  obtain ⟨b, c, b2, c2, rfl, hb, hl1, hl2, k4, k7, k6, k11, k13, k1, h3, h4⟩ := ex_ends h1
  have n1 : ¬ b = w1.heap.size := by omega
  have n2 : ¬ b2 = w1.heap.size := by omega
  have LB := Lib.hid (hb.alloc hb.size (.cells #[.int .i64 0, .int .i64 0] 25))
  clear h1 hb
  go_wp2
  go_ret
  exact ⟨rfl, LB.out⟩
end Go.Proofs.YtdhpplbopciijaaDoor.Tk
