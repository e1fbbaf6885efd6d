/-
  Deeds with a window of texts, as they lie in memory; rifflelaw12.Great.
-/
import Derived.Test.YtogbemdoimhndaaTwsOb2
import Derived.Test.YtogbemdoimhndaaPkC
set_option maxRecDepth 100000
namespace Go.Proofs.Ytogbemdoimhndaa.Tws
open Go.Proofs.Ytogbemdoimhndaa.Sh Go.Proofs.Ytogbemdoimhndaa.St
open Go.RowKit
set_option linter.unusedVariables false

/-- A deed: Drop, or Push of a text. -/
abbrev Deed : Type := Bool × ByteArray
def Deeds (w : World) (A : Option Addr) (ds : List Deed) : Prop := 0 < ds.length → ∃ b off, A = some ⟨b, off, none⟩ ∧ b < w.heap.size ∧ ∀ k d, ds[k]? = some d → w.cell? ⟨b, off + k * 2, none⟩ = some (.bool d.1) ∧ w.cell? ⟨b, off + k * 2 + 1, none⟩ = some (.string d.2)
theorem Deeds.below {w w' : World} {A : Option Addr} {ds : List Deed} (h : Deeds w A ds) (hb : Below w.heap.size w w') : Deeds w' A ds := fun hp => by
  obtain ⟨b, off, e, hl, hc⟩ := h hp
  have hs := hb.size
  refine ⟨b, off, e, by omega, fun k d hd => ?_⟩
  obtain ⟨h1, h2⟩ := hc k d hd
  exact ⟨(hb.cell (p := ⟨b, off + k * 2, none⟩) hl).trans h1, (hb.cell (p := ⟨b, off + k * 2 + 1, none⟩) hl).trans h2⟩
/-- Is a deed's text short enough? -/
def okD (d : Deed) : Bool := decide (d.2.size ≤ 40)
/-- What Great says. -/
def greatB (ds : List Deed) : Bool := !(decide (ds.length ≤ 80) && (ds.take 80).all okD)
theorem great_no {ds : List Deed} (h : greatB ds = false) : ds.length ≤ 80 ∧ ∀ d ∈ ds, d.2.size ≤ 40 := by
  simp only [greatB, Bool.not_eq_false', Bool.and_eq_true, decide_eq_true_eq] at h
  refine ⟨h.1, fun d hd => ?_⟩
  have h2 := h.2
  rw [List.take_of_length_le h.1] at h2
  simpa [okD] using List.all_eq_true.1 h2 d hd
theorem great_hit {ds : List Deed} {k : Nat} {d : Deed} (hd : ds[k]? = some d) (hk : k < 80) (h : okD d = false) : greatB ds = true := by
  have h2 : (ds.take 80).all okD = false := by
    rw [List.all_eq_false]
    exact ⟨d, List.mem_of_getElem? (by rw [List.getElem?_take_of_lt hk]; exact hd), by simp [h]⟩
  simp [greatB, h2]
theorem great_end {ds : List Deed} {k : Nat} (h : (ds.take k).all okD = true) (hk : k = ds.length ∨ k = 80) (hl : k ≤ ds.length) : greatB ds = decide (80 < ds.length) := by
  rcases hk with rfl | rfl
  · rw [List.take_length] at h
    have h2 : (ds.take 80).all okD = true := List.all_eq_true.2 fun x hx => List.all_eq_true.1 h x (List.mem_of_mem_take hx)
    simp only [greatB, h2, Bool.and_true]
    by_cases h3 : ds.length ≤ 80
    · rw [decide_eq_true h3, decide_eq_false (by omega)]; rfl
    · rw [decide_eq_false h3, decide_eq_true (by omega)]; rfl
  · simp only [greatB, h, Bool.and_true]
    by_cases h3 : ds.length ≤ 80
    · rw [decide_eq_true h3, decide_eq_false (by omega)]; rfl
    · rw [decide_eq_false h3, decide_eq_true (by omega)]; rfl
theorem all_snoc {ds : List Deed} {k : Nat} {d : Deed} (h : (ds.take k).all okD = true) (hd : ds[k]? = some d) (ho : okD d = true) : (ds.take (k + 1)).all okD = true := by
  have hk : k < ds.length := (List.getElem?_eq_some_iff.1 hd).1
  rw [List.take_succ_eq_append_getElem hk, List.all_append, h]
  have e : ds[k] = d := by rw [List.getElem?_eq_getElem hk] at hd; injection hd
  simp [e, ho]
set_option maxHeartbeats 2000000 in
theorem great_any (A : Option Addr) (c : Nat) (ds : List Deed) (w : World) (hl : ds.length ≤ maxLen) (hD : Deeds w A ds) :
    Calls Try.prog 12 #[.slice A ds.length c] w fun e w' => e = .returned (.bool (greatB ds)) ∧ w = w' := by
  unfold maxLen at hl
  have HD := Lib.hid hD
  clear hD
  go_enter Try.func12, Try.ntmps12
  go_wp2
  go_loop [3] (fun i => ∃ k : Nat, k ≤ ds.length ∧ k ≤ 80 ∧ i = .int .i64 k ∧ Hid ((ds.take k).all okD = true)) (fun i => ds.length - (intOf i).toNat)
  case atStart => exact ⟨0, Nat.zero_le _, Nat.zero_le _, rfl, Lib.hid rfl⟩
  case round =>
    obtain ⟨k, hk, hk8, rfl, HA⟩ := hrel
    by_cases hlt : k < ds.length
    · by_cases h8 : k < 80
      · have i1 : (k : Int) < (ds.length : Int) := by omega
        have i2 : (k : Int) < 80 := by omega
        obtain ⟨⟨db, row⟩, hd⟩ : ∃ d, ds[k]? = some d := ⟨_, List.getElem?_eq_getElem hlt⟩
        obtain ⟨b, off, rfl, hb, hc⟩ := HD.out (by omega)
        obtain ⟨c1, c3⟩ := hc k _ hd
        have c3 : w.cell? ⟨b, off + k * 2 + 1, none⟩ = some (.string row) := c3
        have HDK := Lib.hid hd
        clear c1 hc hd
        by_cases hr : row.size ≤ 40
        · have t1 : decide ((row.size : Int) > 40) = false := decide_eq_false (by omega)
          have ho : okD (db, row) = true := by simpa [okD] using hr
          have HN := Lib.hid (all_snoc HA.out HDK.out ho)
          clear ho
          go_wp2
          go_round
          case rel => exact ⟨k + 1, by omega, by omega, by go_num, HN⟩
          case measure => simp [intOf]; omega
        · have t1 : decide ((row.size : Int) > 40) = true := decide_eq_true (by omega)
          have HG := Lib.hid (great_hit HDK.out h8 (by simpa [okD] using hr))
          go_wp2
          go_ret
          exact ⟨ret_bool HG.out.symm, rfl⟩
      · have i1 : (k : Int) < (ds.length : Int) := by omega
        obtain rfl : k = 80 := by omega
        have HG := Lib.hid (great_end HA.out (.inr rfl) hk)
        go_wp2
        go_ret
        exact ⟨ret_bool (by rw [HG.out]; first | rfl | exact (decide_eq_true (by omega)).symm | (rw [decide_eq_decide]; omega) | (simp; omega)), rfl⟩
    · obtain rfl : k = ds.length := by omega
      have HG := Lib.hid (great_end HA.out (.inl rfl) hk)
      go_wp2
      go_ret
      exact ⟨ret_bool (by rw [HG.out]; first | rfl | exact (decide_eq_true (by omega)).symm | (rw [decide_eq_decide]; omega) | (simp; omega)), rfl⟩
end Go.Proofs.Ytogbemdoimhndaa.Tws
