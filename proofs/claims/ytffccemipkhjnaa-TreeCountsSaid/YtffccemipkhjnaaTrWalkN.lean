/-
  Layer 18, tree: Walk of a program that may not be, or at no node: a function that tells nothing. No condition.
-/
import Derived.Test.YtffccemipkhjnaaTrWalk
set_option maxRecDepth 100000
namespace Go.Proofs.Ytffccemipkhjnaa.Tr
open Go.Proofs.Ytffccemipkhjnaa.Sh Go.Proofs.Ytffccemipkhjnaa.St
open Go.RowKit
set_option linter.unusedVariables false

def RetWn (w : World) (e : Ending) (w' : World) : Prop := e = .returned (.func (.func 21) #[] #[]) ∧ Below w.heap.size w w'
set_option maxHeartbeats 8000000 in
theorem walk_none (p : Pq) (i : Int) (w : World) (hp : ProgIn w p) (hf : FitP p) (h : ¬ (thereB p.nodes.length i = true ∧ rightT p = true)) : Calls Try.prog 10 #[progV p, .int .i64 i] w (RetWn w) := by
  have BX := Lib.hid (Bk.new 26 w [.string p.name, .slice p.da p.dims.length p.dc, .slice p.na p.nodes.length p.nc, .slice p.fa p.defs.length p.fc, .int .i64 p.root])
  have LX := Lib.hid (below_new w (.cells #[.string p.name, .slice p.da p.dims.length p.dc, .slice p.na p.nodes.length p.nc, .slice p.fa p.defs.length p.fc, .int .i64 p.root] 26))
  obtain ⟨tb, htb⟩ : ∃ tb, thereB p.nodes.length i = tb := ⟨_, rfl⟩
  obtain ⟨rb, hrb⟩ : ∃ rb, rightT p = rb := ⟨_, rfl⟩
  rw [htb, hrb] at h
  have HT := Lib.hid (fun W => there_b p i tb W htb)
  have HR := Lib.hid (fun W (hw : Below w.heap.size w W) => right_b p rb W (hp.next hw) hf hrb)
  unfold progV at HT HR ⊢
  clear htb hrb hp hf
  cases tb with
  | false =>
    clear HR h
    go_enter Try.func10, Try.ntmps10
    go_wp2_with fail
    refine (HT.out _).mono ?_
    rintro e w1 ⟨rfl, hb1⟩
    have L1 := Lib.hid (Gl.below_next LX.out hb1)
    clear hb1
    go_wp2
    go_ret
    exact ⟨rfl, L1.out⟩
  | true =>
    cases rb with
    | true => exact absurd ⟨rfl, rfl⟩ h
    | false =>
      clear h
      go_enter Try.func10, Try.ntmps10
      go_wp2_with fail
      refine (HT.out _).mono ?_
      rintro e w1 ⟨rfl, hb1⟩
      have L1 := Lib.hid (Gl.below_next LX.out hb1)
      have x0 := (BX.out.next hb1).c 0
      have x1 := (BX.out.next hb1).c 1
      have x2 := (BX.out.next hb1).c 2
      have x3 := (BX.out.next hb1).c 3
      have x4 := (BX.out.next hb1).c 4
      simp only [List.getElem?_cons_zero, List.getElem?_cons_succ] at x0 x1 x2 x3 x4
      have HR1 := Lib.hid (HR.out w1 L1.out)
      clear hb1
      go_wp2_with fail
      refine (HR1.out).mono ?_
      rintro e w2 ⟨rfl, hb2⟩
      have L2 := Lib.hid (Gl.below_next L1.out hb2)
      clear hb2 x0 x1 x2 x3 x4
      go_wp2
      go_ret
      exact ⟨rfl, L2.out⟩
end Go.Proofs.Ytffccemipkhjnaa.Tr
