/-
  What glyph.find answers for the two functions that it is handed, and glyph.lookUp for any code; nothing that was there is written. No condition.
-/
import Derived.Test.YtdhpplbopciijaaDoorGlyphMath
set_option maxRecDepth 100000
namespace Go.Proofs.YtdhpplbopciijaaDoor.Gl
open Go.RowKit
set_option linter.unusedVariables false

theorem ret_int {k : IntKind} {a b : Int} (h : a = b) : Ending.returned (.int k a) = .returned (.int k b) := by rw [h]
theorem ret_bool {a b : Bool} (h : a = b) : Ending.returned (.bool a) = .returned (.bool b) := by rw [h]
theorem below_next {a b c : World} (h : Below a.heap.size a b) (k : Below b.heap.size b c) : Below a.heap.size a c := h.trans (k.mono h.size)
theorem below_drewN {B : Nat} {a w : World} (h : Below B a w) (n : Nat) : Below B a (w.drewN n) := ⟨h.os, h.tape, h.output, h.size, h.block⟩

theorem flat2 {α β : Type} (f : α → List β) (hf : ∀ a, (f a).length = 2) : ∀ (l : List α) (k : Nat) (hk : k < l.length), ((l.flatMap f).drop (k * 2)).take 2 = f l[k]
  | x :: l, 0, _ => by
    rw [Nat.zero_mul, List.drop_zero, List.flatMap_cons, List.take_append_of_le_length (by rw [hf]; omega), List.take_of_length_le (by rw [hf]; omega)]
    rfl
  | x :: l, k + 1, h => by
    rw [List.flatMap_cons, show (k + 1) * 2 = (f x).length + k * 2 from by rw [hf]; omega, ← List.drop_drop, List.drop_left]
    exact flat2 f hf l k (by simpa using h)
def wB (k : Nat) : ByteArray := ⟨(wrd k).toArray⟩
theorem tab_part (k : Nat) (hk : k < 44) : tabA.extract (k * 2) (k * 2 + 2) = #[.int .i32 (sgn k), .string (wB k)] := by
  have hl : ents.length = 44 := rfl
  have h := flat2 entCells (fun _ => rfl) ents k (by omega)
  apply Array.toList_inj.1
  rw [Array.toList_extract]
  show List.extract (ents.flatMap entCells) (k * 2) (k * 2 + 2) = _
  rw [List.extract_eq_take_drop, show k * 2 + 2 - k * 2 = 2 from by omega, h]
  have e : ents[k]'(by omega) = ents.getD k (0, []) := by simp [List.getD, show k < ents.length by omega]
  rw [e]
  rfl
theorem run_tab (k : Nat) (hk : k < 44) (W : World) : Sem.run Tryd.prog (Instr.index 79 (.agg tabA) (.int .i64 (k : Int))) W = .ok (.agg #[.int .i32 (sgn k), .string (wB k)]) W := by
  have h1 : (0 : Int) ≤ (k : Int) ∧ (k : Int) < 44 := by omega
  have hp := tab_part k hk
  generalize tabA = T at *
  simp [Instr.index, run_underlying Tryd.underlying79, asIntOf, h1, part, go_sem, hp]
  intro h
  omega

set_option maxHeartbeats 400000 in
theorem lead_fits (B : Nat) (r x : Int) (b : ByteArray) (w : World) (hc : w.cell? ⟨B, 0, none⟩ = some (.int .i32 r)) :
    Calls Tryd.prog 61 #[.agg #[.int .i32 x, .string b], .pointer (some ⟨B, 0, none⟩)] w fun e w' => e = .returned (.bool (x == r)) ∧ Below w.heap.size w w' := by
  have hB := World.block_lt_of_cell? w _ hc
  have hc' : ∀ o, (w.alloc o).cell? ⟨B, 0, none⟩ = some (.int .i32 r) := fun o => by rw [World.cell?_alloc_past _ _ _ hB]; exact hc
  go_enter Tryd.func61, Tryd.ntmps61
  go_wp2
  go_ret
  exact ⟨rfl, (Below.refl _ _).alloc (Nat.le_refl _) _⟩
set_option maxHeartbeats 400000 in
theorem word_fits (B : Nat) (s : ByteArray) (x : Int) (b : ByteArray) (w : World) (hc : w.cell? ⟨B, 0, none⟩ = some (.string s)) :
    Calls Tryd.prog 62 #[.agg #[.int .i32 x, .string b], .pointer (some ⟨B, 0, none⟩)] w fun e w' => e = .returned (.bool (b.toList == s.toList)) ∧ Below w.heap.size w w' := by
  have hB := World.block_lt_of_cell? w _ hc
  have hc' : ∀ o, (w.alloc o).cell? ⟨B, 0, none⟩ = some (.string s) := fun o => by rw [World.cell?_alloc_past _ _ _ hB]; exact hc
  go_enter Tryd.func62, Tryd.ntmps62
  go_wp2
  go_ret
  exact ⟨rfl, (Below.refl _ _).alloc (Nat.le_refl _) _⟩

set_option maxHeartbeats 1000000 in
theorem find_lead (B : Nat) (r : Int) (w : World) (hc : w.cell? ⟨B, 0, none⟩ = some (.int .i32 r)) :
    Calls Tryd.prog 60 #[.func (.func 61) #[] #[.pointer (some ⟨B, 0, none⟩)]] w fun e w' => ∃ c : Nat, e = .returned (.int .i64 c) ∧ IsFirst (fun k => sgn k = r) c ∧ Below w.heap.size w w' := by
  have hB := World.block_lt_of_cell? w _ hc
  go_enter Tryd.func60, Tryd.ntmps60
  go_wp2_with fail
  go_step3
  go_wp2_with fail
  go_step3
  go_wp2_with fail
  refine (table_any _).mono ?_
  rintro e w1 ⟨rfl, hb1⟩
  go_wp2_with fail
  go_loopw [3, 7] (fun f j wr => ∃ k : Nat, k ≤ 44 ∧ f = .int .i64 0 ∧ j = .int .i64 k ∧ (∀ t, 1 ≤ t → t < k → ¬ sgn t = r) ∧ Below w.heap.size w wr)
    (fun _ j _ => 44 - (intOf j).toNat)
  case atStart => exact ⟨0, by omega, rfl, rfl, fun t h1 h2 => absurd h2 (by omega), hb1⟩
  case round =>
    obtain ⟨k, hk, rfl, rfl, hno, hbel⟩ := hrel
    have HN := Lib.hid hno
    have HB := Lib.hid hbel
    have hcw : wr.cell? ⟨B, 0, none⟩ = some (.int .i32 r) := (hbel.cell (p := ⟨B, 0, none⟩) hB).trans hc
    have hBr := Nat.lt_of_lt_of_le hB hbel.size
    clear hno hbel
    by_cases hlt : k < 44
    · have hrun := fun W => run_tab k hlt W
      have hca : ∀ o, (wr.alloc o).cell? ⟨B, 0, none⟩ = some (.int .i32 r) := fun o => by rw [World.cell?_alloc_past _ _ _ hBr]; exact hcw
      by_cases hk1 : 1 ≤ k
      · have hk1' : ¬ ((k : Int) < 1) := by omega
        by_cases hp : sgn k = r
        · have hq : (sgn k == r) = true := by simpa using hp
          have HP := Lib.hid hp
          clear hp
          go_wp2_with (go_at_call 61; refine (lead_fits B r (sgn k) (wB k) _ (hca _)).mono ?_; rintro e w2 ⟨rfl, hb2⟩; have HB2 := Lib.hid (below_next HB.out (((Below.refl _ wr).alloc (Nat.le_refl _) _).trans (hb2.mono (by simp)))); clear hb2)
          rw [Exit.noGoto_ret]
          go_ret
          exact ⟨k, rfl, .inr ⟨hk1, hlt, HP.out, HN.out⟩, HB2.out⟩
        · have hq : (sgn k == r) = false := by simpa using hp
          have HP := Lib.hid hp
          clear hp
          go_wp2_with (go_at_call 61; refine (lead_fits B r (sgn k) (wB k) _ (hca _)).mono ?_; rintro e w2 ⟨rfl, hb2⟩; have HB2 := Lib.hid (below_next HB.out (((Below.refl _ wr).alloc (Nat.le_refl _) _).trans (hb2.mono (by simp)))); clear hb2)
          go_roundw
          case rel => exact ⟨k + 1, by omega, rfl, by go_num, fun t h1 h2 => (by
            rcases Nat.lt_or_ge t k with g | g
            · exact HN.out t h1 g
            · have : t = k := by omega
              subst this; exact HP.out), HB2.out⟩
          case measure => simp [intOf]; omega
      · have hk0 : (k : Int) < 1 := by omega
        go_wp2
        go_roundw
        case rel => exact ⟨k + 1, by omega, rfl, by go_num, fun t h1 h2 => absurd h2 (by omega), HB.out.alloc HB.out.size _⟩
        case measure => simp [intOf]; omega
    · obtain rfl : k = 44 := by omega
      go_wp2
      rw [Exit.noGoto_ret]
      go_ret
      exact ⟨0, rfl, .inl ⟨rfl, HN.out⟩, HB.out⟩

set_option maxHeartbeats 1000000 in
theorem find_word (B : Nat) (q : ByteArray) (w : World) (hc : w.cell? ⟨B, 0, none⟩ = some (.string q)) :
    Calls Tryd.prog 60 #[.func (.func 62) #[] #[.pointer (some ⟨B, 0, none⟩)]] w fun e w' => ∃ c : Nat, e = .returned (.int .i64 c) ∧ IsFirst (fun k => (wB k).toList = q.toList) c ∧ Below w.heap.size w w' := by
  have hB := World.block_lt_of_cell? w _ hc
  go_enter Tryd.func60, Tryd.ntmps60
  go_wp2_with fail
  go_step3
  go_wp2_with fail
  go_step3
  go_wp2_with fail
  refine (table_any _).mono ?_
  rintro e w1 ⟨rfl, hb1⟩
  go_wp2_with fail
  go_loopw [3, 7] (fun f j wr => ∃ k : Nat, k ≤ 44 ∧ f = .int .i64 0 ∧ j = .int .i64 k ∧ (∀ t, 1 ≤ t → t < k → ¬ (wB t).toList = q.toList) ∧ Below w.heap.size w wr)
    (fun _ j _ => 44 - (intOf j).toNat)
  case atStart => exact ⟨0, by omega, rfl, rfl, fun t h1 h2 => absurd h2 (by omega), hb1⟩
  case round =>
    obtain ⟨k, hk, rfl, rfl, hno, hbel⟩ := hrel
    have HN := Lib.hid hno
    have HB := Lib.hid hbel
    have hcw : wr.cell? ⟨B, 0, none⟩ = some (.string q) := (hbel.cell (p := ⟨B, 0, none⟩) hB).trans hc
    have hBr := Nat.lt_of_lt_of_le hB hbel.size
    clear hno hbel
    by_cases hlt : k < 44
    · have hrun := fun W => run_tab k hlt W
      have hca : ∀ o, (wr.alloc o).cell? ⟨B, 0, none⟩ = some (.string q) := fun o => by rw [World.cell?_alloc_past _ _ _ hBr]; exact hcw
      by_cases hk1 : 1 ≤ k
      · have hk1' : ¬ ((k : Int) < 1) := by omega
        by_cases hp : (wB k).toList = q.toList
        · have hq : ((wB k).toList == q.toList) = true := by simpa using hp
          have HP := Lib.hid hp
          clear hp
          go_wp2_with (go_at_call 62; refine (word_fits B q (sgn k) (wB k) _ (hca _)).mono ?_; rintro e w2 ⟨rfl, hb2⟩; have HB2 := Lib.hid (below_next HB.out (((Below.refl _ wr).alloc (Nat.le_refl _) _).trans (hb2.mono (by simp)))); clear hb2)
          rw [Exit.noGoto_ret]
          go_ret
          exact ⟨k, rfl, .inr ⟨hk1, hlt, HP.out, HN.out⟩, HB2.out⟩
        · have hq : ((wB k).toList == q.toList) = false := by simpa using hp
          have HP := Lib.hid hp
          clear hp
          go_wp2_with (go_at_call 62; refine (word_fits B q (sgn k) (wB k) _ (hca _)).mono ?_; rintro e w2 ⟨rfl, hb2⟩; have HB2 := Lib.hid (below_next HB.out (((Below.refl _ wr).alloc (Nat.le_refl _) _).trans (hb2.mono (by simp)))); clear hb2)
          go_roundw
          case rel => exact ⟨k + 1, by omega, rfl, by go_num, fun t h1 h2 => (by
            rcases Nat.lt_or_ge t k with g | g
            · exact HN.out t h1 g
            · have : t = k := by omega
              subst this; exact HP.out), HB2.out⟩
          case measure => simp [intOf]; omega
      · have hk0 : (k : Int) < 1 := by omega
        go_wp2
        go_roundw
        case rel => exact ⟨k + 1, by omega, rfl, by go_num, fun t h1 h2 => absurd h2 (by omega), HB.out.alloc HB.out.size _⟩
        case measure => simp [intOf]; omega
    · obtain rfl : k = 44 := by omega
      go_wp2
      rw [Exit.noGoto_ret]
      go_ret
      exact ⟨0, rfl, .inl ⟨rfl, HN.out⟩, HB.out⟩

end Go.Proofs.YtdhpplbopciijaaDoor.Gl
