/-
  What riffleref11.At, rifflelaw11.Great and rifflelaw11.same answer. Conditions: as told in each.
-/
import Derived.Test.YtocdejjkmfnnnaaRgRef2
set_option maxRecDepth 100000
namespace Go.Proofs.Ytocdejjkmfnnnaa.Rg
open Go.Proofs.Ytocdejjkmfnnnaa.Sh Go.Proofs.Ytocdejjkmfnnnaa.St
open Go.RowKit
set_option linter.unusedVariables false

def RetRow2 (S : Nat → Prop) (l : List Int) (b : Bool) (w : World) (e : Ending) (w' : World) : Prop := ∃ A c, e = .returned (.tuple #[.slice A l.length c, .bool b]) ∧ SInts S w' A l ∧ l.length ≤ maxLen ∧ Below w.heap.size w w'
set_option maxHeartbeats 2000000 in
theorem rat_any (S : Nat → Prop) (n s : Nat) (rs : List (List Int)) (AV : Option Addr) (cV : Nat) (i : Int) (w : World) (hr : RwsIn S w (.slice AV rs.length cV) rs) (hrl : rs.length ≤ 1000) :
    Calls Try.prog 42 #[.agg #[.slice AV rs.length cV, .int .i64 n, .int .i64 s], .int .i64 i] w (RetRow2 S (atL rs i) (atB rs i) w) := by
  have K1 := Lib.hid (below_new w (.cells #[.slice AV rs.length cV, .int .i64 n, .int .i64 s] 32))
  by_cases hi : 0 ≤ i ∧ i < rs.length
  · obtain ⟨k, rfl⟩ : ∃ k : Nat, i = k := ⟨i.toNat, by omega⟩
    have hk : k < rs.length := by omega
    have hb : atB rs (k : Int) = true := by unfold atB; simpa using hk
    obtain ⟨y, hy⟩ : ∃ y, rs.getD k [] = y := ⟨_, rfl⟩
    have hl : atL rs (k : Int) = y := by unfold atL; rw [if_pos hb]; simpa using hy
    obtain ⟨b0, o0, B0, d0, rfl, g1, g2, g3, g4⟩ := RwsIn.at_ hr hk
    rw [hy] at g1 g2 g4
    rw [hb, hl]
    have hbl : b0 < w.heap.size := World.block_lt_of_cell? w _ g1
    have t1 : decide ((k : Int) < 0) = false := decide_eq_false (by omega)
    have t2 : decide ((k : Int) ≥ (rs.length : Int)) = false := decide_eq_false (by omega)
    have i1 : (k : Int) < (rs.length : Int) := by omega
    have i0 : (0 : Int) ≤ (k : Int) := by omega
    have HL := Lib.hid (show y.length ≤ maxLen by omega)
    have G4 := Lib.hid g4
    have q := (K1.out.cell (p := ⟨b0, o0 + k, none⟩) hbl).trans g1
    clear hb hl hi hy hr g4 g2 g3
    go_enter Try.func42, Try.ntmps42
    go_wp2
    refine bodyPost_ret (v := .tuple #[.slice B0 y.length d0, .bool true]) (by simp [results, Try.results42, go_sem]) rfl ?_
    exact ⟨B0, d0, rfl, Seq.next G4.out K1.out, HL.out, K1.out⟩
  · have hb : atB rs i = false := by unfold atB; simpa using hi
    have hl : atL rs i = [] := by unfold atL; rw [if_neg (by simp [hb])]
    rw [hb, hl]
    clear hb hl hr
    by_cases h0 : i < 0
    · have t1 : decide (i < 0) = true := decide_eq_true h0
      clear hi
      go_enter Try.func42, Try.ntmps42
      go_wp2
      refine bodyPost_ret (v := .tuple #[.slice none 0 0, .bool false]) (by simp [results, Try.results42, go_sem]) rfl ?_
      exact ⟨none, 0, rfl, Seq.nil _ _ _, by simp, K1.out⟩
    · have t1 : decide (i < 0) = false := decide_eq_false h0
      have t2 : decide (i ≥ (rs.length : Int)) = true := decide_eq_true (by omega)
      have t3 : (rs.length : Int) ≤ i := by omega
      clear hi
      go_enter Try.func42, Try.ntmps42
      go_wp2
      refine bodyPost_ret (v := .tuple #[.slice none 0 0, .bool false]) (by simp [results, Try.results42, go_sem]) rfl ?_
      exact ⟨none, 0, rfl, Seq.nil _ _ _, by simp, K1.out⟩

/-- A deed: its kind, its place, its row. -/
abbrev Deed := Int × Int × List Int
/-- Deeds in memory. -/
def Deeds (w : World) (A : Option Addr) (ds : List Deed) : Prop := 0 < ds.length → ∃ b off, A = some ⟨b, off, none⟩ ∧ b < w.heap.size ∧ ∀ (k : Nat) (d : Deed), ds[k]? = some d → w.cell? ⟨b, off + k * 3, none⟩ = some (.int .i64 d.1) ∧ w.cell? ⟨b, off + k * 3 + 1, none⟩ = some (.int .i64 d.2.1) ∧ ∃ B c, w.cell? ⟨b, off + k * 3 + 2, none⟩ = some (.slice B d.2.2.length c) ∧ d.2.2.length ≤ maxLen ∧ Ints w B d.2.2
theorem Deeds.next {w w' : World} {A : Option Addr} {ds : List Deed} (h : Deeds w A ds) (hb : Below w.heap.size w w') : Deeds w' A ds := fun hp => by
  obtain ⟨b, off, e, hlt, hc⟩ := h hp
  refine ⟨b, off, e, Nat.lt_of_lt_of_le hlt hb.size, fun k d hd => ?_⟩
  obtain ⟨h1, h2, B, c, h3, h4, h5⟩ := hc k d hd
  exact ⟨(hb.cell (p := ⟨b, _, none⟩) hlt).trans h1, (hb.cell (p := ⟨b, _, none⟩) hlt).trans h2, B, c, (hb.cell (p := ⟨b, _, none⟩) hlt).trans h3, h4, h5.below hb⟩
def okD (d : Deed) : Bool := decide (d.2.2.length ≤ 100)
def greatB (ds : List Deed) : Bool := !(decide (ds.length ≤ 80) && (ds.take 80).all okD)
theorem great_no {ds : List Deed} (h : greatB ds = false) : ds.length ≤ 80 ∧ ∀ d ∈ ds, d.2.2.length ≤ 100 := by
  simp only [greatB, Bool.not_eq_false', Bool.and_eq_true, decide_eq_true_eq] at h
  refine ⟨h.1, fun d hd => ?_⟩
  have h2 := h.2
  rw [List.take_of_length_le h.1] at h2
  simpa [okD] using List.all_eq_true.1 h2 d hd
theorem great_hit {ds : List Deed} {k : Nat} {d : Deed} (hd : ds[k]? = some d) (hk : k < 80) (h : okD d = false) : greatB ds = true := by
  have h2 : (ds.take 80).all okD = false := by
    rw [List.all_eq_false]
    exact ⟨d, List.mem_of_getElem? (by rw [List.getElem?_take_of_lt hk]; exact hd), by simp [h]⟩
  simp [greatB, h2]
theorem great_end {ds : List Deed} {k : Nat} (h : (ds.take k).all okD = true) (hk : k = ds.length ∨ k = 80) (hl : k ≤ ds.length) : greatB ds = decide (80 < ds.length) := by
  rcases hk with rfl | rfl
  · rw [List.take_length] at h
    have h2 : (ds.take 80).all okD = true := List.all_eq_true.2 fun x hx => List.all_eq_true.1 h x (List.mem_of_mem_take hx)
    simp only [greatB, h2, Bool.and_true]
    by_cases h3 : ds.length ≤ 80
    · rw [decide_eq_true h3, decide_eq_false (by omega)]; rfl
    · rw [decide_eq_false h3, decide_eq_true (by omega)]; rfl
  · simp only [greatB, h, Bool.and_true]
    by_cases h3 : ds.length ≤ 80
    · rw [decide_eq_true h3, decide_eq_false (by omega)]; rfl
    · rw [decide_eq_false h3, decide_eq_true (by omega)]; rfl
theorem all_snoc {ds : List Deed} {k : Nat} {d : Deed} (h : (ds.take k).all okD = true) (hd : ds[k]? = some d) (ho : okD d = true) : (ds.take (k + 1)).all okD = true := by
  have hk : k < ds.length := (List.getElem?_eq_some_iff.1 hd).1
  rw [List.take_succ_eq_append_getElem hk, List.all_append, h]
  have e : ds[k] = d := by rw [List.getElem?_eq_getElem hk] at hd; injection hd
  simp [e, ho]
set_option maxHeartbeats 2000000 in
theorem great_any (A : Option Addr) (c : Nat) (ds : List Deed) (w : World) (hl : ds.length ≤ maxLen) (hD : Deeds w A ds) :
    Calls Try.prog 12 #[.slice A ds.length c] w fun e w' => e = .returned (.bool (greatB ds)) ∧ w = w' := by
  unfold maxLen at hl
  have HD := Lib.hid hD
  clear hD
  go_enter Try.func12, Try.ntmps12
  go_wp2
  go_loop [3] (fun i => ∃ k : Nat, k ≤ ds.length ∧ k ≤ 80 ∧ i = .int .i64 k ∧ Hid ((ds.take k).all okD = true)) (fun i => ds.length - (intOf i).toNat)
  case atStart => exact ⟨0, Nat.zero_le _, Nat.zero_le _, rfl, Lib.hid rfl⟩
  case round =>
    obtain ⟨k, hk, hk8, rfl, HA⟩ := hrel
    by_cases hlt : k < ds.length
    · by_cases h8 : k < 80
      · have i1 : (k : Int) < (ds.length : Int) := by omega
        have i2 : (k : Int) < 80 := by omega
        obtain ⟨⟨K, I, row⟩, hd⟩ : ∃ d, ds[k]? = some d := ⟨_, List.getElem?_eq_getElem hlt⟩
        obtain ⟨b, off, rfl, hb, hc⟩ := HD.out (by omega)
        obtain ⟨c1, c2, B, cB, c3, c4, c5⟩ := hc k _ hd
        have c3 : w.cell? ⟨b, off + k * 3 + 2, none⟩ = some (.slice B row.length cB) := c3
        have HDK := Lib.hid hd
        have hrl : row.length ≤ maxLen := c4
        unfold maxLen at hrl
        clear c1 c2 c4 c5 hc hd
        by_cases hr : row.length ≤ 100
        · have t1 : decide ((row.length : Int) > 100) = false := decide_eq_false (by omega)
          have ho : okD (K, I, row) = true := by simpa [okD] using hr
          have HN := Lib.hid (all_snoc HA.out HDK.out ho)
          clear ho
          go_wp2
          go_round
          case rel => exact ⟨k + 1, by omega, by omega, by go_num, HN⟩
          case measure => simp [intOf]; omega
        · have t1 : decide ((row.length : Int) > 100) = true := decide_eq_true (by omega)
          have HG := Lib.hid (great_hit HDK.out h8 (by simpa [okD] using hr))
          go_wp2
          go_ret
          exact ⟨ret_bool HG.out.symm, rfl⟩
      · have i1 : (k : Int) < (ds.length : Int) := by omega
        obtain rfl : k = 80 := by omega
        have HG := Lib.hid (great_end HA.out (.inr rfl) hk)
        go_wp2
        go_ret
        exact ⟨ret_bool (by rw [HG.out]; first | rfl | exact (decide_eq_true (by omega)).symm | (rw [decide_eq_decide]; omega) | (simp; omega)), rfl⟩
    · obtain rfl : k = ds.length := by omega
      have HG := Lib.hid (great_end HA.out (.inl rfl) hk)
      go_wp2
      go_ret
      exact ⟨ret_bool (by rw [HG.out]; first | rfl | exact (decide_eq_true (by omega)).symm | (rw [decide_eq_decide]; omega) | (simp; omega)), rfl⟩
end Go.Proofs.Ytocdejjkmfnnnaa.Rg
