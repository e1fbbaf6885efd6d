/-
  How the arguments of a law read: slices of numbers, cells, numbers and bools that came in, as lists. No condition.
-/
import Derived.Test.YthabimjmdnhomaaShapeRow
import Derived.Test.YthabimjmdnhomaaShapeOwn
import Derived.Lib.SmallJoins
import Derived.WalkKit
import Derived.ProofKit
import Derived.OpenShut
import Derived.ChangeOld
import Derived.Below
namespace Go.Proofs.Ythabimjmdnhomaa.Sh
open Go.Joins Go.ChangeShapes Go.WideShapes Go.ChangeAt Go.RowKit Go.Deep
set_option linter.unusedVariables false

theorem own : ownKnob Try.prog.godebug = none := by kernel_rfl
theorem laidOut : laidOutB Try.prog = true := by kernel_rfl
def WfL (l : List Int) : Prop := ∀ n ∈ l, (Lit.int .i64 n).wf = true
/-- A slice of numbers that came in, with its room. -/
def IntsC (w : World) (A : Option Addr) (c : Nat) (l : List Int) : Prop := Ints w A l ∧ l.length ≤ c ∧ c ≤ maxLen ∧ l.length ≤ maxLen ∧ WfL l
section
variable {H : Type} {enc : TypeId × Value → H} {w : World} {t e : TypeId} {v : Value}
theorem row_of {fuel : Nat} {base : Nat} {held : Bool} {x : DataW H × List MemPlace} (ht : Try.prog.underlying t = some (.slice e)) (he : Try.prog.underlying e = some (.int .i64)) (hc : Try.prog.cellsOf e = 1)
    (h : DataW.trod enc Try.prog w base (fun _ => true) held fuel t [v] = some x) : ∃ A c l, v = .slice A (List.length l) c ∧ IntsC w A c l := by
  have hr : ∃ a len cap zs, v = .slice a len cap ∧ IsRow .i64 w a len cap zs := by
    rcases open_ints ht he hc h with ⟨hcs, _⟩ | ⟨x, l, c, zs, hcs, _, hl, hm, hz, _, hcell, hwz⟩
    · injection hcs with hcs
      exact ⟨none, 0, 0, [], hcs, .inl ⟨rfl, rfl, rfl, rfl⟩⟩
    · injection hcs with hcs
      exact ⟨_, l, c, zs, hcs, .inr ⟨_, rfl, hl, hm, by simpa using hz, hcell, hwz⟩⟩
  obtain ⟨a, len, cap, zs, rfl, hz⟩ := hr
  have hcap : len ≤ cap ∧ cap ≤ maxLen := by
    rcases hz with ⟨_, rfl, rfl, _⟩ | ⟨x, _, h1, h2, _⟩
    · simp
    · exact ⟨h1, h2⟩
  obtain ⟨l, rfl, h1, h2, h3⟩ := hz.view
  exact ⟨a, cap, l, rfl, h2, hcap.1, hcap.2, h1, h3⟩
variable {d : DataW H} {p : List MemPlace} {r : Reach} {b0 base : Nat}
theorem ints_arg (ht : Try.prog.underlying t = some (.slice e)) (he : Try.prog.underlying e = some (.int .i64)) (hc : Try.prog.cellsOf e = 1) (hok : Value.okWide Try.prog w r b0 t v) (h : DataW.Trod enc Try.prog w base (fun _ => true) true t v d p) :
    ∃ A c l, v = .slice A (List.length l) c ∧ IntsC w A c l := by
  obtain ⟨a, len, cap, rfl⟩ := okWide_slice ht hok
  obtain ⟨fuel, hf⟩ := h
  exact row_of ht he hc (by simpa [Value.cells] using hf)
theorem cell_arg (hok : Value.okWide Try.prog w r b0 25 v) (h : DataW.Trod enc Try.prog w base (fun _ => true) true 25 v d p) :
    ∃ A c l B c2 m, v = .agg #[.slice A (List.length l) c, .slice B (List.length m) c2] ∧ IntsC w A c l ∧ IntsC w B c2 m := by
  obtain ⟨x0, y0, ya0, yb0, fu0, rfl, _, _, ta0, tb0⟩ := open_agg2 Try.underlying25 (by kernel_rfl) (by kernel_rfl) hok h
  obtain ⟨A, c, l, rfl, h1⟩ := row_of Try.underlying22 Try.underlying3 (by kernel_rfl) ta0
  obtain ⟨B, c2, m, rfl, h2⟩ := row_of Try.underlying23 Try.underlying2 (by kernel_rfl) tb0
  exact ⟨A, c, l, B, c2, m, rfl, h1, h2⟩
theorem int_arg (ht : Try.prog.underlying t = some (.int .i64)) (hok : Value.okWide Try.prog w r b0 t v) (h : DataW.Trod enc Try.prog w base (fun _ => true) true t v d p) : ∃ n : Int, v = .int .i64 n ∧ (Lit.int .i64 n).wf = true := by
  obtain ⟨n, rfl, _, _, hw⟩ := open_int ht hok h
  exact ⟨n, rfl, hw⟩
end
end Go.Proofs.Ythabimjmdnhomaa.Sh
