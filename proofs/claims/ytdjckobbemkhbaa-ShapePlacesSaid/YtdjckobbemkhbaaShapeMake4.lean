/-
  What shape.Picked and riffleref01.Picked answer for any lists; nothing that was there is written. Condition: at most 100 numbers each.
-/
import Derived.Test.YtdjckobbemkhbaaShapeMake3
namespace Go.Proofs.Ytdjckobbemkhbaa.Sh
open Go.RowKit
set_option linter.unusedVariables false

theorem pickB_no {d p : List Int} (h : ¬ (p.length = d.length ∧ permB p = true)) : pickB d p = [] := if_neg h
theorem pickB_yes {d p : List Int} (h : p.length = d.length) (hp : permB p = true) : pickB d p = fI d.length (pf d p) := if_pos ⟨h, hp⟩
theorem pf_zero (n : Nat) : pf [] [] n = 0 := rfl
theorem pick_step (d p : List Int) (k : Nat) (h : p.length = d.length) (hk : k < d.length) (h0 : 0 ≤ p.getD k 0) :
    (fI d.length (pf (d.take k) (p.take k))).set (p.getD k 0).toNat (d.getD k 0) = fI d.length (pf (d.take (k + 1)) (p.take (k + 1))) := by
  rw [fI_set]
  apply fI_congr
  intro j _
  rw [pf_take d p k h hk]
  by_cases e : p.getD k 0 = (j : Int)
  · rw [if_pos e, if_pos (by omega)]
  · rw [if_neg e, if_neg (by omega)]
theorem perm_at {p : List Int} (h : permB p = true) (k : Nat) (hk : k < p.length) : 0 ≤ p.getD k 0 ∧ p.getD k 0 < p.length :=
  permB_range h (p.getD k 0) (by simp [List.getD, hk])

set_option maxHeartbeats 1000000 in
theorem picked_any (A : Option Addr) (c : Nat) (d : List Int) (B : Option Addr) (c2 : Nat) (p : List Int) (w : World) (hl : d.length ≤ 100) (hl2 : p.length ≤ 100) (ha : Ints w A d) (hb : Ints w B p) :
    Calls Try.prog 28 #[.slice A d.length c, .slice B p.length c2] w (RetInts w (pickB d p)) := by
  have hmk := fun W => run_make_row' (P := Try.prog) 22 3 (.int .i64 0) 8 Try.underlying22 infoInt rfl .i64 .i64 d.length (by omega) (by omega) W
  by_cases he : p.length = d.length
  · have hev : ((p.length : Int) != (d.length : Int)) = false := by simp [he]
    have HE := Lib.hid he
    have hle : d.length ≤ p.length := by omega
    have hle2 : p.length ≤ d.length := by omega
    have hP := perm_any B c2 p w hl2 hb
    by_cases hp : permB p = true
    · rw [pickB_yes he hp]
      rw [hp] at hP
      have HP := Lib.hid hP
      have HQ := Lib.hid hp
      clear hp hP he
      go_enter Try.func28, Try.ntmps28
      go_wp2_with (go_at_call 26; refine HP.out.mono ?_; rintro e w1 ⟨rfl, hb1⟩)
      go_loopw [22] (fun i wr => ∃ k : Nat, k ≤ d.length ∧ i = .int .i64 k ∧ Own wr w1.heap.size (fI d.length (pf (d.take k) (p.take k))) ∧ Below w1.heap.size w1 wr)
        (fun i _ => d.length - (intOf i).toNat)
      case atStart => exact ⟨0, Nat.zero_le _, rfl, by rw [List.take_zero, List.take_zero, fI_congr _ _ _ (fun j _ => pf_zero j), ← fI_zero]; exact Own.made _ _, (Below.refl _ _).alloc (Nat.le_refl _) _⟩
      case round =>
        obtain ⟨k, hk, rfl, hown, hbel⟩ := hrel
        by_cases hlt : k < d.length
        · obtain ⟨b, off, rfl, hbb, hcs⟩ := (ha.below hb1) (by omega)
          obtain ⟨b2, off2, rfl, hbb2, hcs2⟩ := (hb.below hb1) (by omega)
          have hck : wr.cell? ⟨b, off + k, none⟩ = some (.int .i64 (d.getD k 0)) := (hbel.cell (p := ⟨b, off + k, none⟩) hbb).trans (hcs k hlt)
          have hck2 : wr.cell? ⟨b2, off2 + k, none⟩ = some (.int .i64 (p.getD k 0)) := (hbel.cell (p := ⟨b2, off2 + k, none⟩) hbb2).trans (hcs2 k (by omega))
          obtain ⟨hx0, hx1⟩ := perm_at HQ.out k (by omega)
          have hx2 : p.getD k 0 < d.length := by omega
          have hcw := hown.cell (i := (p.getD k 0).toNat) (by rw [show (fI d.length (pf (d.take k) (p.take k))).length = d.length from by simp [fI]]; omega)
          have hfw := hown.frozen (p.getD k 0).toNat
          have HS := Lib.hid (hown.set_ (p.getD k 0).toNat (d.getD k 0))
          have HT := Lib.hid (pick_step d p k HE.out hlt hx0)
          have HB := Lib.hid (hbel.setCell (p := ⟨w1.heap.size, (p.getD k 0).toNat, none⟩) (Nat.le_refl _) (.int .i64 (d.getD k 0)))
          have i0 : (0 : Int) ≤ (k : Int) := by omega
          have i1 : (k : Int) < (d.length : Int) := by omega
          have i2 : (k : Int) < (p.length : Int) := by omega
          clear hown hbel hcs hcs2 ha hb
          generalize p.getD k 0 = x at *
          generalize d.getD k 0 = y at *
          generalize (fI d.length (pf (d.take k) (p.take k))).getD x.toNat 0 = z at *
          go_wp2_with fail
          go_region
          go_wp2
          go_roundw
          case rel => exact ⟨k + 1, by omega, by go_num, by rw [← HT.out]; exact HS.out, HB.out.drew⟩
          case measure => simp [intOf]; omega
        · obtain rfl : k = d.length := by omega
          rw [List.take_length, List.take_of_length_le (by omega)] at hown
          have HO := Lib.hid hown
          have HB := Lib.hid (below_next hb1 hbel)
          clear hown hbel
          go_wp2
          go_ret
          exact ⟨some ⟨w1.heap.size, 0, none⟩, d.length, by rw [show (fI d.length (pf d p)).length = d.length from by simp [fI]]; rfl, HO.out.ints, HB.out⟩
    · rw [pickB_no (fun h => hp h.2)]
      rw [show permB p = false from by simpa using hp] at hP
      have HP := Lib.hid hP
      clear hp hP he
      go_enter Try.func28, Try.ntmps28
      go_wp2_with (go_at_call 26; refine HP.out.mono ?_; rintro e w1 ⟨rfl, hb1⟩)
      go_ret
      exact ⟨none, 0, rfl, fun h => absurd h (by simp), hb1⟩
  · have hev : ((p.length : Int) != (d.length : Int)) = true := by simp; omega
    rw [pickB_no (fun h => he h.1)]
    clear he
    go_enter Try.func28, Try.ntmps28
    go_wp2
    go_ret
    exact ⟨none, 0, rfl, fun h => absurd h (by simp), Below.refl _ _⟩

set_option maxHeartbeats 1000000 in
theorem refPicked_any (A : Option Addr) (c : Nat) (d : List Int) (B : Option Addr) (c2 : Nat) (p : List Int) (w : World) (hl : d.length ≤ 100) (hl2 : p.length ≤ 100) (ha : Ints w A d) (hb : Ints w B p) :
    Calls Try.prog 29 #[.slice A d.length c, .slice B p.length c2] w (RetInts w (pickB d p)) := by
  by_cases he : p.length = d.length
  · have hev : ((p.length : Int) != (d.length : Int)) = false := by simp [he]
    have HE := Lib.hid he
    have hle : d.length ≤ p.length := by omega
    have hle2 : p.length ≤ d.length := by omega
    have hP := refPerm_any B c2 p w hl2 hb
    by_cases hp : permB p = true
    · rw [pickB_yes he hp, show fI d.length (pf d p) = pg d p d.length from (pg_eq d p he hp d.length (Nat.le_refl _)).symm]
      rw [hp] at hP
      have HP := Lib.hid hP
      have HQ := Lib.hid hp
      clear hp hP he
      go_enter Try.func29, Try.ntmps29
      go_wp2_with (go_at_call 27; refine HP.out.mono ?_; rintro e w1 ⟨rfl, rfl⟩)
      go_loopw [5, 6] (fun v i wr => ∃ n : Nat, n ≤ d.length ∧ i = .int .i64 n ∧ Mine wr w.heap.size v (pg d p n) ∧ Below w.heap.size w wr)
        (fun _ i _ => d.length - (intOf i).toNat)
      case atStart => exact ⟨0, Nat.zero_le _, rfl, Mine.nil _ _, Below.refl _ _⟩
      case round =>
        obtain ⟨n, hn, rfl, hown, hbel⟩ := hrel
        by_cases hnt : n < d.length
        · go_wp2
          go_loopw [5, 7] (fun v i wr => ∃ k : Nat, k ≤ d.length ∧ i = .int .i64 k ∧ Mine wr w.heap.size v (pg d p n ++ pk (d.take k) (p.take k) (n : Int)) ∧ Below w.heap.size w wr)
            (fun _ i _ => d.length - (intOf i).toNat)
          case atStart => exact ⟨0, Nat.zero_le _, rfl, by simpa [pk] using hown, hbel⟩
          case round =>
            clear hown hbel
            obtain ⟨k, hk, rfl, hown, hbel⟩ := hrel
            by_cases hlt : k < d.length
            · obtain ⟨b, off, rfl, hbb, hcs⟩ := ha (by omega)
              obtain ⟨b2, off2, rfl, hbb2, hcs2⟩ := hb (by omega)
              have hck := (hbel.cell (p := ⟨b, off + k, none⟩) hbb).trans (hcs k hlt)
              have hck2 := (hbel.cell (p := ⟨b2, off2 + k, none⟩) hbb2).trans (hcs2 k (by omega))
              have HT := Lib.hid (pk_take d p k HE.out hlt (n : Int))
              have hlen : (pg d p n ++ pk (d.take k) (p.take k) (n : Int)).length < 17592186044415 := by
                rw [List.length_append, pg_length d p HE.out HQ.out n hn, pk_length _ _ _ (by simp [HE.out])]
                have := List.count_le_length (a := (n : Int)) (l := p.take k)
                simp at this
                omega
              have hsz := hbel.size
              clear hcs hcs2 ha hb
              generalize p.getD k 0 = x at *
              generalize d.getD k 0 = y at *
              by_cases hx : x = (n : Int)
              · have hq : (x == (n : Int)) = true := by simpa using hx
                have HX := Lib.hid hx
                clear hx
                go_wp2_with (at_builtin; refine wpList_app rfl _ _ rfl w.heap.size _ _ rfl rfl hown hlen hsz ?_; intro v' w' hm' hb'; have HM := Lib.hid hm'; have HB := Lib.hid (hbel.trans hb'); clear hm' hb' hown hbel)
                go_roundw
                case rel => exact ⟨k + 1, by omega, by go_num, by rw [HT.out, if_pos HX.out, ← List.append_assoc]; exact HM.out, HB.out⟩
                case measure => simp [intOf]; omega
              · have hq : (x == (n : Int)) = false := by simpa using hx
                have HX := Lib.hid hx
                have HO := Lib.hid hown
                clear hx hown
                go_wp2
                go_roundw
                case rel => exact ⟨k + 1, by omega, by go_num, by rw [HT.out, if_neg HX.out, List.append_nil]; exact HO.out, hbel⟩
                case measure => simp [intOf]; omega
            · obtain rfl : k = d.length := by omega
              rw [List.take_length, List.take_of_length_le (by omega)] at hown
              have HO := Lib.hid hown
              clear hown
              go_wp2
              go_roundw
              case rel => exact ⟨n + 1, by omega, by go_num, HO.out, hbel⟩
              case measure => simp [intOf]; omega
        · obtain rfl : n = d.length := by omega
          obtain ⟨A', c', rfl, hi'⟩ := hown.ints
          clear hown
          go_wp2
          go_ret
          exact ⟨A', c', rfl, hi', hbel⟩
    · rw [pickB_no (fun h => hp h.2)]
      rw [show permB p = false from by simpa using hp] at hP
      have HP := Lib.hid hP
      clear hp hP he
      go_enter Try.func29, Try.ntmps29
      go_wp2_with (go_at_call 27; refine HP.out.mono ?_; rintro e w1 ⟨rfl, rfl⟩)
      go_ret
      exact ⟨none, 0, rfl, fun h => absurd h (by simp), Below.refl _ _⟩
  · have hev : ((p.length : Int) != (d.length : Int)) = true := by simp; omega
    rw [pickB_no (fun h => he h.1)]
    clear he
    go_enter Try.func29, Try.ntmps29
    go_wp2
    go_ret
    exact ⟨none, 0, rfl, fun h => absurd h (by simp), Below.refl _ _⟩
end Go.Proofs.Ytdjckobbemkhbaa.Sh
