/-
  Layer 17, token: riffleref17.Same of two rows of the same tokens. Condition: at most 400 tokens of at most 64 numbers each.
-/
import Derived.Test.YtdhpplbopciijaaDoorTkBlanks
set_option maxRecDepth 100000
namespace Go.Proofs.YtdhpplbopciijaaDoor.Tk
open Go.Proofs.YtdhpplbopciijaaDoor.Sh Go.Proofs.YtdhpplbopciijaaDoor.St
open Go.RowKit
set_option linter.unusedVariables false

set_option maxHeartbeats 8000000 in
theorem rsame_any (base base' : Nat) (qs qs' : List Qt) (A A' : Option Addr) (c c' : Nat) (w : World) (h1 : Live base w (.slice A qs.length c) qs) (h2 : Live base' w (.slice A' qs'.length c') qs') (hm : qs'.map Prod.fst = qs.map Prod.fst) (h4 : qs.length ≤ 400) (h6 : ∀ q ∈ qs, q.1.nums.length ≤ 64) :
    Calls Tryd.prog 6 #[.slice A qs.length c, .slice A' qs'.length c'] w (RetB true w) := by
  have hln : qs'.length = qs.length := by have := congrArg List.length hm; simpa using this
  have HLN := Lib.hid hln
  have V1 := Lib.hid h1
  have V2 := Lib.hid h2
  have HM := Lib.hid hm
  have HL4 := Lib.hid h4
  have HL6 := Lib.hid h6
  rw [hln]
  clear h1 h2 hm h4 h6 hln
  go_enter Tryd.func6, Tryd.ntmps6
  go_wp2_with fail
  go_loopw [5] (fun i wr => ∃ k : Nat, k ≤ qs.length ∧ i = .int .i64 (k : Int) ∧ Hid (Below w.heap.size w wr)) (fun i _ => qs.length - (intOf i).toNat)
  case atStart => exact ⟨0, Nat.zero_le _, rfl, Lib.hid (Below.refl _ _)⟩
  case round =>
    obtain ⟨k, hk, rfl, HB⟩ := hrel
    by_cases hlt : k < qs.length
    · obtain ⟨q, hq⟩ : ∃ q, qs[k]? = some q := ⟨_, List.getElem?_eq_getElem hlt⟩
      obtain ⟨q2, hq2⟩ : ∃ q, qs'[k]? = some q := ⟨_, List.getElem?_eq_getElem (by rw [HLN.out]; exact hlt)⟩
      have hup : q2.1 = q.1 := by
        have h1 : (qs'.map Prod.fst)[k]? = some q2.1 := by rw [List.getElem?_map, hq2]; rfl
        rw [HM.out, List.getElem?_map, hq] at h1
        injection h1 with h1
        exact h1.symm
      obtain ⟨b1, cc1, hV1, hl1, hcc1, hcs1⟩ := tok_cells (V1.out.next HB.out) hq
      obtain ⟨b2, cc2, hV2, hl2, hcc2, hcs2⟩ := tok_cells (V2.out.next HB.out) hq2
      obtain ⟨rfl, rfl⟩ : A = some ⟨b1, 0, none⟩ ∧ c = cc1 := by injection hV1 with h1 h2 h3; exact ⟨h1, h3⟩
      obtain ⟨rfl, rfl⟩ : A' = some ⟨b2, 0, none⟩ ∧ c' = cc2 := by injection hV2 with h1 h2 h3; exact ⟨h1, h3⟩
      obtain ⟨x0, x1, x2, x3, x4⟩ := hcs1 k q hq
      obtain ⟨y0, y1, y2, y3, y4⟩ := hcs2 k q2 hq2
      obtain ⟨A1, c1, e1, I1⟩ := MineT.ints ((V1.out.next HB.out).2 q (List.mem_of_getElem? hq))
      obtain ⟨A2, c2, e2, I2⟩ := MineT.ints ((V2.out.next HB.out).2 q2 (List.mem_of_getElem? hq2))
      rw [e1] at x3
      rw [e2] at y3
      rw [hup] at y0 y1 y2 y3 y4 I2
      have hll := HL6.out q (List.mem_of_getElem? hq)
      rw [HLN.out] at hcc2
      have HAL := Lib.hid (alike_any (q.1.kind : Int) (q.1.pos : Int) (q.1.pos : Int) (q.1.code : Int) (nm q.1.name) A1 A2 c1 c2 q.1.nums wr.drew (by unfold maxLen; omega) (ints_next I1 (Below.refl _ _).drew) (ints_next I2 (Below.refl _ _).drew))
      have k4 : k < 400 := by have := HL4.out; omega
      clear hV1 hV2 hcs1 hcs2 e1 e2 hq hq2 hup I1 I2
      generalize (q.1.kind : Int) = kd at *
      generalize (q.1.pos : Int) = pos at *
      generalize (q.1.code : Int) = cd at *
      generalize nm q.1.name = N at *
      generalize q.1.nums.length = nl at *
      go_wp2_with fail
      have KW := Lib.hid (show wr.drew.cell? ⟨b1, k * 5, none⟩ = some (.int .i64 kd) ∧ wr.drew.cell? ⟨b1, k * 5 + 1, none⟩ = some (.int .i64 pos) ∧ wr.drew.cell? ⟨b1, k * 5 + 2, none⟩ = some (.int .i64 cd) ∧ wr.drew.cell? ⟨b1, k * 5 + 3, none⟩ = some (.slice A1 nl c1) ∧ wr.drew.cell? ⟨b1, k * 5 + 4, none⟩ = some (.string N) ∧ wr.drew.cell? ⟨b2, k * 5, none⟩ = some (.int .i64 kd) ∧ wr.drew.cell? ⟨b2, k * 5 + 1, none⟩ = some (.int .i64 pos) ∧ wr.drew.cell? ⟨b2, k * 5 + 2, none⟩ = some (.int .i64 cd) ∧ wr.drew.cell? ⟨b2, k * 5 + 3, none⟩ = some (.slice A2 nl c2) ∧ wr.drew.cell? ⟨b2, k * 5 + 4, none⟩ = some (.string N) from ⟨x0, x1, x2, x3, x4, y0, y1, y2, y3, y4⟩)
      go_region_held3 (fun w' => w'.cell? ⟨b1, k * 5, none⟩ = some (.int .i64 kd) ∧ w'.cell? ⟨b1, k * 5 + 1, none⟩ = some (.int .i64 pos) ∧ w'.cell? ⟨b1, k * 5 + 2, none⟩ = some (.int .i64 cd) ∧ w'.cell? ⟨b1, k * 5 + 3, none⟩ = some (.slice A1 nl c1) ∧ w'.cell? ⟨b1, k * 5 + 4, none⟩ = some (.string N) ∧ w'.cell? ⟨b2, k * 5, none⟩ = some (.int .i64 kd) ∧ w'.cell? ⟨b2, k * 5 + 1, none⟩ = some (.int .i64 pos) ∧ w'.cell? ⟨b2, k * 5 + 2, none⟩ = some (.int .i64 cd) ∧ w'.cell? ⟨b2, k * 5 + 3, none⟩ = some (.slice A2 nl c2) ∧ w'.cell? ⟨b2, k * 5 + 4, none⟩ = some (.string N))
        (first
          | with_reducible exact KK.out
          | with_reducible exact KW.out
          | go_keep)
        (first
          | (go_at_call 15; (with_reducible refine (HAL.out).mono ?_); rintro r w7 ⟨rfl, hbd⟩; have KK := Lib.hid (show w7.cell? ⟨b1, k * 5, none⟩ = some (.int .i64 kd) ∧ w7.cell? ⟨b1, k * 5 + 1, none⟩ = some (.int .i64 pos) ∧ w7.cell? ⟨b1, k * 5 + 2, none⟩ = some (.int .i64 cd) ∧ w7.cell? ⟨b1, k * 5 + 3, none⟩ = some (.slice A1 nl c1) ∧ w7.cell? ⟨b1, k * 5 + 4, none⟩ = some (.string N) ∧ w7.cell? ⟨b2, k * 5, none⟩ = some (.int .i64 kd) ∧ w7.cell? ⟨b2, k * 5 + 1, none⟩ = some (.int .i64 pos) ∧ w7.cell? ⟨b2, k * 5 + 2, none⟩ = some (.int .i64 cd) ∧ w7.cell? ⟨b2, k * 5 + 3, none⟩ = some (.slice A2 nl c2) ∧ w7.cell? ⟨b2, k * 5 + 4, none⟩ = some (.string N) from ⟨cell_next (w := wr.drew) x0 hl1 hbd, cell_next (w := wr.drew) x1 hl1 hbd, cell_next (w := wr.drew) x2 hl1 hbd, cell_next (w := wr.drew) x3 hl1 hbd, cell_next (w := wr.drew) x4 hl1 hbd, cell_next (w := wr.drew) y0 hl2 hbd, cell_next (w := wr.drew) y1 hl2 hbd, cell_next (w := wr.drew) y2 hl2 hbd, cell_next (w := wr.drew) y3 hl2 hbd, cell_next (w := wr.drew) y4 hl2 hbd⟩); have HB7 := Lib.hid (Gl.below_next (Gl.below_next HB.out (Below.refl _ _).drew) hbd); clear hbd))
      all_goals
        go_wp2
        go_round
        case rel => exact ⟨k + 1, by omega, by go_num, HB7⟩
        case measure => simp [intOf]; omega
    · have hke : k = qs.length := by omega
      subst hke
      go_wp2
      go_ret
      exact ⟨rfl, HB.out⟩
end Go.Proofs.YtdhpplbopciijaaDoor.Tk
