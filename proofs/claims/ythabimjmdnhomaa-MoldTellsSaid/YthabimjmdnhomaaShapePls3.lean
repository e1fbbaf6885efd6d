/-
  What riffleref01.Places answers for any axes: all places, one behind the other; nothing that was there is written. Condition: at most 100 axes.
-/
import Derived.Test.YthabimjmdnhomaaShapePls2
namespace Go.Proofs.Ythabimjmdnhomaa.Sh
open Go.RowKit
set_option linter.unusedVariables false

theorem dg_zero (d : List Int) : dg d 0 = List.replicate d.length 0 := by
  induction d with
  | nil => rfl
  | cons x d ih => simp [dg, ih, List.replicate_succ]

/-- A row of rows is answered: the t-th is the t-th place. -/
def RetOuts (d : List Int) (w : World) (e : Ending) (w' : World) : Prop := ∃ v base, e = .returned v ∧ Outs d w' base v (sizeI d).toNat ∧ Below w.heap.size w w'

set_option maxHeartbeats 2000000 in
theorem places_any (A : Option Addr) (c : Nat) (d : List Int) (w : World) (hl : d.length ≤ 100) (hi : Ints w A d) :
    Calls Try.prog 47 #[.slice A d.length c] w (RetOuts d w) := by
  have hmk := fun W => run_make_row' (P := Try.prog) 22 3 (.int .i64 0) 8 Try.underlying22 infoInt rfl .i64 .i64 d.length (by omega) (by omega) W
  have hs0 : 0 ≤ sizeI d := by
    unfold sizeI
    split
    · rename_i h; exact (prod_bd d (rightB_all h).2.1).1
    · omega
  have hs1 : sizeI d ≤ 64 := by
    unfold sizeI
    split
    · rename_i h; exact (rightB_all h).2.2
    · omega
  go_enter Try.func47, Try.ntmps47
  go_wp2_with fail
  refine (refSize_any _ _ d _ (by unfold maxLen; omega) hi).mono ?_
  rintro e w0 ⟨rfl, rfl⟩
  go_wp2
  go_loopw [3, 6] (fun v j wr => ∃ i : Nat, (i : Int) ≤ sizeI d ∧ j = .int .i64 i ∧ Outs d wr (w.heap.size + 1) v i ∧ Own wr w.heap.size (dg d i) ∧ Below w.heap.size w wr ∧ w.heap.size + 1 ≤ wr.heap.size)
    (fun _ j _ => (sizeI d - intOf j).toNat)
  case atStart => exact ⟨0, by omega, rfl, Outs.nil _ _ _, by rw [show ((0 : Nat) : Int) = 0 from rfl, dg_zero]; exact Own.made _ _, (Below.refl _ _).alloc (Nat.le_refl _) _, by simp⟩
  case round =>
    obtain ⟨i, hin, rfl, hout, hown, hbel, hsz⟩ := hrel
    by_cases hlt : (i : Int) < sizeI d
    · have hpos := Lib.hid (sizeI_pos (by omega) hlt).2.2
      have hall := Lib.hid (rightB_all (sizeI_pos (show 0 ≤ (i : Int) by omega) hlt).1).2.1
      have hout' := Lib.hid hout
      have hown' := Lib.hid hown
      have HB := Lib.hid hbel
      clear hout hown hbel
      go_wp2_with (first
        | (at_builtin; refine wpList_copy rfl (.tmp 19) (.tmp 20) rfl (w.heap.size + 1) w.heap.size d.length d.length (dg d i) rfl rfl (dg_length _ _) hown'.out hl hsz ?_; intro A1 c1 w1 hm1 hb1; have HM1 := Lib.hid hm1; have HO1 := Lib.hid (hown'.out.below hb1 (by omega)); have HU1 := Lib.hid (hout'.out.below hb1); have HB1 := Lib.hid (HB.out.trans (hb1.mono (by omega))); have hsz1 : w.heap.size + 1 ≤ w1.heap.size := Nat.le_trans hsz hb1.size; clear hm1 hb1)
        | (at_builtin; refine wpList_appOut d rfl (.tmp 18) (.tmp 22) rfl (w.heap.size + 1) _ i rfl rfl HU1.out HM1.out (by omega) hsz1 ?_; intro v2 w2 hu2 hb2; have HU2 := Lib.hid hu2; have HO2 := Lib.hid (HO1.out.below hb2 (by omega)); have HB2 := Lib.hid (HB1.out.trans (hb2.mono (by omega))); have hsz2 : w.heap.size + 1 ≤ w2.heap.size := Nat.le_trans hsz1 hb2.size; clear hu2 hb2))
      go_loopw [7] (fun j wr => ∃ m : Nat, m ≤ d.length ∧ j = .int .i64 ((m : Int) - 1) ∧ ((i : Int) + 1) % prod (d.drop m) = 0 ∧ Own wr w.heap.size (half d i m) ∧ Outs d wr (w.heap.size + 1) v2 (i + 1) ∧ Below w.heap.size w wr ∧ w.heap.size + 1 ≤ wr.heap.size)
        (fun j _ => (intOf j + 1).toNat)
      case atStart => exact ⟨d.length, Nat.le_refl _, rfl, by rw [List.drop_length, prod_nil, Int.emod_one], by rw [half_all]; exact HO2.out, HU2.out, HB2.out, hsz2⟩
      case round =>
        clear HO2 HU2 HB2 hsz2 HM1 HO1 HU1 HB1 hsz1 HB hown' hout' hsz
        obtain ⟨m, hm, rfl, hcar, hown, hout, hbel, hsz⟩ := hrel
        have HC := Lib.hid hcar
        have HU := Lib.hid hout
        have HBB := Lib.hid hbel
        clear hcar hout
        by_cases hmp : 0 < m
        · obtain ⟨k, rfl⟩ : ∃ k, m = k + 1 := ⟨m - 1, by omega⟩
          rw [show (((k + 1 : Nat) : Int) - 1) = (k : Int) from by omega]
          have hk : k < d.length := by omega
          obtain ⟨b, off, rfl, hb, hcs⟩ := hi (by omega)
          have hck : wr.cell? ⟨b, off + k, none⟩ = some (.int .i64 (d.getD k 0)) := (hbel.cell (p := ⟨b, off + k, none⟩) hb).trans (hcs k hk)
          have hcp : wr.cell? ⟨w.heap.size, k, none⟩ = some (.int .i64 ((half d i (k + 1)).getD k 0)) := hown.cell (by rw [half_length d i _ (by omega)]; exact hk)
          have hfp := hown.frozen k
          have HS := Lib.hid (hown.set_ k ((half d i (k + 1)).getD k 0 + 1))
          have hst := fun h => Lib.hid (half_stop hpos.out i k hk HC.out h)
          have hon := fun h => Lib.hid (half_on hpos.out i k hk HC.out h ((half d i (k + 1)).getD k 0 + 1))
          have hdk := okAx_at hall.out k hk
          have hx0 : 0 ≤ (half d i (k + 1)).getD k 0 := by rw [half_at d i k hk]; exact Int.emod_nonneg _ (by have := posL_at hpos.out hk; omega)
          have hx1 : (half d i (k + 1)).getD k 0 < 64 := by rw [half_at d i k hk]; have := posL_at hpos.out hk; have := Int.emod_lt_of_pos ((i : Int) / prod (d.drop (k + 1))) (show 0 < d.getD k 0 by omega); omega
          have hne : ¬ b = w.heap.size := by omega
          have i0 : (0 : Int) ≤ (k : Int) := by omega
          have i1 : (k : Int) < (d.length : Int) := by omega
          clear hown hcs hi hbel
          generalize hX : (half d i (k + 1)).getD k 0 = x at *
          have HX := Lib.hid hX
          clear hX
          generalize hY : d.getD k 0 = y at *
          have HY := Lib.hid hY
          clear hY
          have c1 : (wr.setCell ⟨w.heap.size, k, none⟩ (.int .i64 (x + 1))).cell? ⟨w.heap.size, k, none⟩ = some (.int .i64 (x + 1)) := World.cell?_setCell_same _ _ _ hcp
          have c2 : (wr.setCell ⟨w.heap.size, k, none⟩ (.int .i64 (x + 1))).cell? ⟨b, off + k, none⟩ = some (.int .i64 y) := (World.cell?_setCell_other _ _ _ _ (fun e => hne (by injection e with e1; exact e1.symm))).trans hck
          have c3 : (wr.setCell ⟨w.heap.size, k, none⟩ (.int .i64 (x + 1))).frozen? ⟨w.heap.size, k, none⟩ = false := by rw [World.frozen?_setCell]; exact hfp
          have HU3 := Lib.hid (HU.out.setBelow (a := ⟨w.heap.size, k, none⟩) (Nat.lt_succ_self _) (.int .i64 (x + 1)))
          have HB3 := Lib.hid (HBB.out.setCell (p := ⟨w.heap.size, k, none⟩) (Nat.le_refl _) (.int .i64 (x + 1)))
          have hsz3 : w.heap.size + 1 ≤ (wr.setCell ⟨w.heap.size, k, none⟩ (.int .i64 (x + 1))).heap.size := by simpa [World.setCell] using hsz
          go_wp2_with fail
          generalize wr.setCell ⟨w.heap.size, k, none⟩ (.int .i64 (x + 1)) = W1 at *
          clear hck hcp hfp HU HBB hsz
          by_cases hxy : x + 1 < y
          · have HT := hst hxy
            clear hst hon
            go_quiet (fail)
            go_wp2
            go_roundw
            case rel => exact ⟨i + 1, by omega, by go_num, HU3.out, by rw [show ((i + 1 : Nat) : Int) = (i : Int) + 1 from by omega, ← HT.out]; exact HS.out, below_drewN HB3.out _, hsz3⟩
            case measure => simp [intOf]; omega
          · have HT := hon (by omega)
            have HS4 := Lib.hid (HS.out.set_ k 0)
            have HU4 := Lib.hid (HU3.out.setBelow (a := ⟨w.heap.size, k, none⟩) (Nat.lt_succ_self _) (.int .i64 0))
            have HB4 := Lib.hid (HB3.out.setCell (p := ⟨w.heap.size, k, none⟩) (Nat.le_refl _) (.int .i64 0))
            have hsz4 : w.heap.size + 1 ≤ (W1.setCell ⟨w.heap.size, k, none⟩ (.int .i64 0)).heap.size := by simpa [World.setCell] using hsz3
            clear hst hon HS
            go_quiet (fail)
            go_wp2
            go_roundw
            case rel => exact ⟨k, by omega, by go_num, HT.out.2, by rw [← HT.out.1]; exact HS4.out, HU4.out, below_drewN HB4.out _, hsz4⟩
            case measure => first | (simp [intOf]; done) | (simp [intOf]; omega)
        · obtain rfl : m = 0 := by omega
          have HH : Hid (Own wr w.heap.size (dg d ((i : Int) + 1))) := Lib.hid (by rw [← half_none]; exact hown)
          clear hown hbel
          go_wp2
          go_roundw
          case rel => exact ⟨i + 1, by omega, by go_num, HU.out, by rw [show ((i + 1 : Nat) : Int) = (i : Int) + 1 from by omega]; exact HH.out, HBB.out, hsz⟩
          case measure => simp [intOf]; omega
    · have hie : (sizeI d).toNat = i := by omega
      have HE := Lib.hid hie
      have hout' := Lib.hid hout
      clear hie hout hown
      go_wp2
      go_ret
      exact ⟨_, _, rfl, by rw [HE.out]; exact hout'.out, hbel⟩
end Go.Proofs.Ythabimjmdnhomaa.Sh
