/-
  Layer 17, token: riffleref17.Alike of two tokens that are alike but for their place. No condition.
-/
import Derived.Test.YtdhpplbopciijaaDoorTkBlank
import Derived.Laws.BytesArg
set_option maxRecDepth 100000
namespace Go.Proofs.YtdhpplbopciijaaDoor.Tk
open Go.Proofs.YtdhpplbopciijaaDoor.Sh Go.Proofs.YtdhpplbopciijaaDoor.St
open Go.RowKit
set_option linter.unusedVariables false

theorem ints_next {w w' : World} {A : Option Addr} {l : List Int} (h : Ints w A l) (hb : Below w.heap.size w w') : Ints w' A l := fun hp => by
  obtain ⟨b, off, e, hlt, hc⟩ := h hp
  exact ⟨b, off, e, Nat.lt_of_lt_of_le hlt hb.size, fun i hi => (hb.cell (p := ⟨b, _, none⟩) hlt).trans (hc i hi)⟩
set_option maxHeartbeats 2000000 in
theorem alike_any (kd p1 p2 cd : Int) (N : ByteArray) (A B : Option Addr) (c c2 : Nat) (l : List Int) (w : World) (hl : l.length ≤ maxLen) (ha : Ints w A l) (hb : Ints w B l) :
    Calls Tryd.prog 15 #[.agg #[.int .i64 kd, .int .i64 p1, .int .i64 cd, .slice A l.length c, .string N], .agg #[.int .i64 kd, .int .i64 p2, .int .i64 cd, .slice B l.length c2, .string N]] w (RetB true w) := by
  have LB := Lib.hid (((Below.refl _ w).alloc (Nat.le_refl _) (.cells #[.int .i64 kd, .int .i64 p1, .int .i64 cd, .slice A l.length c, .string N] 37)).alloc (by simp) (.cells #[.int .i64 kd, .int .i64 p2, .int .i64 cd, .slice B l.length c2, .string N] 37))
  have HN := Lib.hid (nums_any A c l B c2 l _ hl hl (ints_next ha LB.out) (ints_next hb LB.out))
  rw [decide_eq_true rfl] at HN
  clear ha hb hl
  generalize l.length = n at *
  go_enter Tryd.func15, Tryd.ntmps15
  go_wp2_with fail
  refine (HN.out).mono ?_
  rintro e w1 ⟨rfl, m, rfl⟩
  go_wp2
  go_ret
  exact ⟨rfl, Gl.below_drewN LB.out m⟩
end Go.Proofs.YtdhpplbopciijaaDoor.Tk
