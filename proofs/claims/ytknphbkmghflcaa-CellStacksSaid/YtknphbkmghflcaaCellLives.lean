/-
  The document's example of layer 3 (rifflelaw03.lives) is true in whatever world; nothing that was there is written. No condition.
-/
import Derived.Test.YtknphbkmghflcaaCellItem
namespace Go.Proofs.Ytknphbkmghflcaa.Sh
open Go.RowKit
set_option linter.unusedVariables false

section
variable (A : Option Addr) (c : Nat) (d : List Int) (B : Option Addr) (c2 : Nat) (v : List Int) (w : World) (hd : d.length ≤ 100) (hv : v.length ≤ 1000) (id : Ints w A d) (iv : Ints w B v)
include hd hv id iv
theorem of_yes (h : rightB d = true) (hn : (v.length : Int) = sizeI d) : Calls Try.prog 19 #[.slice A d.length c, .slice B v.length c2] w (RetC w d v (.int .i64 0)) := by
  have h0 := of_any A c d B c2 v w hd hv id iv
  obtain ⟨e1, e2, e3⟩ := of_ok h hn
  rwa [e1, e2, e3] at h0
theorem of_no1 (h : rightB d = false) : Calls Try.prog 19 #[.slice A d.length c, .slice B v.length c2] w (RetC w [] [] (.int .i64 1)) := by
  have h0 := of_any A c d B c2 v w hd hv id iv
  obtain ⟨e1, e2, e3⟩ := of_arg (v := v) h
  rwa [e1, e2, e3] at h0
theorem of_no3 (h : rightB d = true) (hn : ¬ (v.length : Int) = sizeI d) : Calls Try.prog 19 #[.slice A d.length c, .slice B v.length c2] w (RetC w [] [] (.int .i64 3)) := by
  have h0 := of_any A c d B c2 v w hd hv id iv
  obtain ⟨e1, e2, e3⟩ := of_len h hn
  rwa [e1, e2, e3] at h0
end
theorem of_22 (A : Option Addr) (c : Nat) (B : Option Addr) (c2 : Nat) (w : World) (id : Ints w A [2, 2]) (iv : Ints w B [1, 2, 3, 4]) : Calls Try.prog 19 #[.slice A 2 c, .slice B 4 c2] w (RetC w [2, 2] [1, 2, 3, 4] (.int .i64 0)) :=
  of_yes A c [2, 2] B c2 [1, 2, 3, 4] w (by decide) (by decide) id iv (by decide) (by decide)
theorem item_22 (A : Option Addr) (c : Nat) (B : Option Addr) (c2 : Nat) (w : World) (hc : 4 ≤ c2) (hcm : c2 ≤ maxLen) (id : Ints w A [2, 2]) (iv : Ints w B [1, 2, 3, 4]) : Calls Try.prog 11 #[.agg #[.slice A 2 c, .slice B 4 c2], .int .i64 1] w (RetC w [2] [3, 4] (.bool true)) :=
  item_yes A c [2, 2] B c2 [1, 2, 3, 4] 1 w hc hcm id iv (by decide)

set_option maxHeartbeats 1000000 in
theorem lives_any (w : World) : Calls Try.prog 8 #[] w fun e w' => e = .returned (.bool true) ∧ Below w.heap.size w w' := by
  have h1 := (Own.new w [2, 2]).alloc (.cells (cellsI [1, 2, 3, 4]) 2)
  have h2 := (MineT.new 2 (w.alloc (.cells (cellsI [2, 2]) 3)) [1, 2, 3, 4] 0 (by simp) (by unfold maxLen; simp)).ints'
  rw [show (w.alloc (.cells (cellsI [2, 2]) 3)).heap.size = w.heap.size + 1 from by simp] at h2
  have K1 := Lib.hid h1.ints
  have K2 := Lib.hid h2
  clear h1 h2
  go_enter Try.func8, Try.ntmps8
  go_wp2_with fail
  refine (of_22 _ _ _ _ _ K1.out K2.out).mono ?_
  rintro e w1 ⟨x, rfl, ⟨A1, c1, B1, c3, rfl, j1, j2, j3, j4⟩, hb1⟩
  have H1 := Lib.hid (below_box (below_box hb1))
  have J1 := Lib.hid j1.ints
  have J2 := Lib.hid j2.ints
  have J3 := Lib.hid j3
  have J4 := Lib.hid j4
  clear hb1 j1 j2 j3 j4
  go_wp2_with fail
  refine (item_22 _ _ _ _ _ J3.out J4.out (J1.out.below (below_box (Below.refl _ _))) (J2.out.below (below_box (Below.refl _ _)))).mono ?_
  rintro e w2 ⟨x, rfl, ⟨A2, c2, B2, c4, rfl, k1, k2, k3⟩, hb2⟩
  have H2 := Lib.hid (below_next H1.out (below_box hb2))
  obtain ⟨b, off, rfl, hle, hlt, hcs⟩ := k2 (by simp)
  have q0 : (w2.alloc (.cells #[.slice A2 1 c2, .slice (some ⟨b, off, none⟩) 2 c4] 25)).cell? ⟨b, off, none⟩ = some (.int .i64 3) := (World.cell?_alloc_past _ _ _ hlt).trans (hcs 0 (by simp))
  have q1 : (w2.alloc (.cells #[.slice A2 1 c2, .slice (some ⟨b, off, none⟩) 2 c4] 25)).cell? ⟨b, off + 1, none⟩ = some (.int .i64 4) := (World.cell?_alloc_past _ _ _ hlt).trans (hcs 1 (by simp))
  clear hb2 k1 k2 k3 hcs hle
  go_wp2
  go_ret
  exact ⟨rfl, H2.out.alloc H2.out.size _⟩
end Go.Proofs.Ytknphbkmghflcaa.Sh
