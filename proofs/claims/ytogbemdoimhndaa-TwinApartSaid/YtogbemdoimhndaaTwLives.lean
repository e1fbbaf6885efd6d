/-
  rifflelaw12.lives says yes.
-/
import Derived.Test.YtogbemdoimhndaaTwsOb2
set_option maxRecDepth 100000
namespace Go.Proofs.Ytogbemdoimhndaa.Tws
open Go.Proofs.Ytogbemdoimhndaa.Sh Go.Proofs.Ytogbemdoimhndaa.St
open Go.RowKit
set_option linter.unusedVariables false

theorem bc_bytes : jl [⟨#[98]⟩, ⟨#[99]⟩] = (⟨#[98, 99]⟩ : ByteArray) := by decide
set_option maxHeartbeats 2000000 in
theorem lives_any (w : World) : Calls Try.prog 11 #[] w fun e w' => e = .returned (.bool true) ∧ Below w.heap.size w w' := by
  have N0 := Lib.hid (show Calls Try.prog 9 #[.int .i64 3, .func (.func 10) #[] #[]] w fun e w' => ∃ g, e = .returned (.tuple #[.pointer (some ⟨g, 0, none⟩), .int .i64 0]) ∧ Low w.heap.size w' g 3 [] ∧ Below w.heap.size w w' from low_new 3 w (by omega) (by omega))
  have P1 := Lib.hid (fun g W (h : Low w.heap.size W g 3 []) => low_push w.heap.size g 3 [] ⟨#[97]⟩ W h (by decide) (by omega) (by decide))
  have P2 := Lib.hid (fun g W (h : Low w.heap.size W g 3 [⟨#[97]⟩]) => low_push w.heap.size g 3 [⟨#[97]⟩] ⟨#[98]⟩ W h (by decide) (by omega) (by decide))
  have P3 := Lib.hid (fun g W (h : Low w.heap.size W g 3 [⟨#[97]⟩, ⟨#[98]⟩]) => low_push w.heap.size g 3 [⟨#[97]⟩, ⟨#[98]⟩] ⟨#[99]⟩ W h (by decide) (by omega) (by decide))
  have D1 := Lib.hid (fun g W (h : Low w.heap.size W g 3 [⟨#[97]⟩, ⟨#[98]⟩, ⟨#[99]⟩]) => low_drop w.heap.size g 3 [⟨#[98]⟩, ⟨#[99]⟩] ⟨#[97]⟩ W h (by decide) (by decide))
  have A1 := Lib.hid (fun g W (h : Low w.heap.size W g 3 [⟨#[98]⟩, ⟨#[99]⟩]) => low_all w.heap.size g 3 [⟨#[98]⟩, ⟨#[99]⟩] W h (by decide) (by decide))
  rw [bc_bytes] at A1
  go_enter Try.func11, Try.ntmps11
  go_wp2_with (first
    | (go_at_call 9; (with_reducible refine (N0.out).mono ?_); rintro r w1 ⟨g, rfl, h1, hb1⟩; have O1 := Lib.hid h1; have B1 := Lib.hid hb1; clear h1 hb1 N0)
    | (go_at_call 18; (with_reducible refine (P1.out _ _ O1.out).mono ?_); rintro r w2 ⟨rfl, h1, hb1⟩; have O2 := Lib.hid h1; have B2 := Lib.hid (B1.out.trans hb1); clear h1 hb1 P1)
    | (go_at_call 18; (with_reducible refine (P2.out _ _ O2.out).mono ?_); rintro r w3 ⟨rfl, h1, hb1⟩; have O3 := Lib.hid h1; have B3 := Lib.hid (B2.out.trans hb1); clear h1 hb1 P2)
    | (go_at_call 18; (with_reducible refine (P3.out _ _ O3.out).mono ?_); rintro r w4 ⟨rfl, h1, hb1⟩; have O4 := Lib.hid h1; have B4 := Lib.hid (B3.out.trans hb1); clear h1 hb1 P3)
    | (go_at_call 16; (with_reducible refine (D1.out _ _ O4.out).mono ?_); rintro r w5 ⟨rfl, h1, hb1⟩; have O5 := Lib.hid h1; have B5 := Lib.hid (B4.out.trans hb1); clear h1 hb1 D1)
    | (go_at_call 15; (with_reducible refine (A1.out _ _ O5.out).mono ?_); rintro r w6 ⟨rfl, h1, hb1⟩; have B6 := Lib.hid (below_next B5.out hb1); clear h1 hb1 A1))
  go_ret
  exact ⟨rfl, B6.out⟩
end Go.Proofs.Ytogbemdoimhndaa.Tws
