/-
  What digits.Nums and riffleref10.Nums answer: the numbers of all words, or none. Conditions: at most 3000 words, each no longer than fits into a machine.
-/
import Derived.Test.YtogbemdoimhndaaDoorDgWorld
import Derived.Test.YtogbemdoimhndaaDoorDgRefG
import Derived.Test.YtogbemdoimhndaaDoorStBase
set_option maxRecDepth 100000
namespace Go.Proofs.YtogbemdoimhndaaDoor.Dg
open Go.Proofs.YtogbemdoimhndaaDoor.Sh Go.Proofs.YtogbemdoimhndaaDoor.St
open Go.RowKit
set_option linter.unusedVariables false

/-- Is each word a number? -/
def numsB (ss : List ByteArray) : Bool := ss.all fun s => getB s.data.toList
def numsV (ss : List ByteArray) : List Int := ss.map fun s => getI s.data.toList
def numsI (ss : List ByteArray) : List Int := if numsB ss = true then numsV ss else []
theorem numsV_len (ss : List ByteArray) : (numsV ss).length = ss.length := by simp [numsV]
theorem strs_at {ss : List ByteArray} {k : Nat} (h : k < ss.length) : ss[k]? = some (ss.getD k ByteArray.empty) := by simp [List.getD, h]
theorem numsV_snoc {ss : List ByteArray} {k : Nat} (h : k < ss.length) : numsV (ss.take (k + 1)) = numsV (ss.take k) ++ [getI (ss.getD k ByteArray.empty).data.toList] := by
  unfold numsV
  rw [List.take_succ_eq_append_getElem h, List.map_append]
  simp [List.getD, h]
theorem numsB_snoc {ss : List ByteArray} {k : Nat} (h : k < ss.length) (hb : numsB (ss.take k) = true) (hg : getB (ss.getD k ByteArray.empty).data.toList = true) : numsB (ss.take (k + 1)) = true := by
  unfold numsB at hb ⊢
  rw [List.take_succ_eq_append_getElem h, List.all_append, hb]
  have e : ss.getD k ByteArray.empty = ss[k] := by simp [List.getD, h]
  rw [e] at hg
  simp [hg]
theorem numsB_no {ss : List ByteArray} {k : Nat} (h : k < ss.length) (hg : getB (ss.getD k ByteArray.empty).data.toList = false) : numsB ss = false := by
  have e : ss.getD k ByteArray.empty = ss[k] := by simp [List.getD, h]
  rw [e] at hg
  cases hb : numsB ss with
  | false => rfl
  | true =>
    have := List.all_eq_true.1 hb ss[k] (List.getElem_mem h)
    rw [hg] at this
    cases this
/-- A row of one's own with these numbers, and a bool. -/
def RetN (xs : List Int) (b : Bool) (w : World) (e : Ending) (w' : World) : Prop := ∃ A cap, e = .returned (.tuple #[.slice A xs.length cap, .bool b]) ∧ MineT 2 w' w.heap.size (.slice A xs.length cap) xs ∧ Below w.heap.size w w'
theorem retN_no {ss : List ByteArray} {w w' : World} (h : numsB ss = false) (hb : Below w.heap.size w w') : RetN (numsI ss) (numsB ss) w (.returned (.tuple #[.slice none 0 0, .bool false])) w' := by
  have e : numsI ss = [] := by unfold numsI; rw [if_neg (by simp [h])]
  rw [e, h]
  exact ⟨none, 0, rfl, MineT.nil _ _ _, hb⟩
theorem retN_yes {ss : List ByteArray} {w w' : World} {A : Option Addr} {n cap : Nat} (h : numsB ss = true) (hn : n = ss.length) (hm : MineT 2 w' w.heap.size (.slice A n cap) (numsV ss)) (hb : Below w.heap.size w w') : RetN (numsI ss) (numsB ss) w (.returned (.tuple #[.slice A n cap, .bool true])) w' := by
  have e : numsI ss = numsV ss := by unfold numsI; rw [if_pos h]
  have hl : (numsV ss).length = n := by rw [numsV_len, hn]
  rw [e, h]
  exact ⟨A, cap, by rw [hl], by rw [hl]; exact hm, hb⟩
theorem mineN_at {w : World} {base : Nat} {A : Option Addr} {n cap : Nat} {xs : List Int} (h : MineT 2 w base (.slice A n cap) xs) {j : Nat} (hj : j < xs.length) : ∃ b, A = some ⟨b, 0, none⟩ ∧ base ≤ b ∧ n = xs.length ∧ b < w.heap.size ∧ w.cell? ⟨b, j, none⟩ = some (.int .i64 (xs.getD j 0)) ∧ w.frozen? ⟨b, j, none⟩ = false := by
  have hc := World.ownsRow.cells h (g := (Value.slice A n cap).ownBlock.getD 0)
  have hlt := own_lt h
  rcases h.2 with ⟨e, h0⟩ | ⟨b, cap', cur, e, hb, hg, hn, hm, _⟩
  · omega
  · injection e with e1 e2 e3
    subst e1 e2
    refine ⟨b, rfl, hb, rfl, hlt b rfl, ?_, by simp [World.frozen?, hg]⟩
    have := hc rfl j (.int .i64 (xs.getD j 0)) (by simp [List.getD, hj])
    rw [Go.WideShapes.add_plain] at this
    simp only [Value.ownBlock, Option.getD_some, Nat.zero_add] at this
    exact this
theorem mineN_set {w : World} {base b cap n : Nat} {xs : List Int} (h : MineT 2 w base (.slice (some ⟨b, 0, none⟩) n cap) xs) {j : Nat} (hj : j < xs.length) (y : Int) : MineT 2 (w.setCell ⟨b, j, none⟩ (.int .i64 y)) base (.slice (some ⟨b, 0, none⟩) n cap) (xs.set j y) := by
  refine ⟨by simp, ?_⟩
  rcases h.2 with ⟨e, h0⟩ | ⟨b', cap', cur, e, hb, hg, hn, hm, hs, ht⟩
  · cases e
  · injection e with e1 e2 e3
    injection e1 with e1
    injection e1 with e1
    subst e1 e2 e3
    refine .inr ⟨b, cap, cur.set! j (.int .i64 y), by simp, hb, by simp [World.setCell, Array.getElem?_modify, hg], by simpa using hn, hm, by simpa using hs, ?_⟩
    rw [List.length_set, List.map_set, ← ht]
    simp [List.take_set]
/-- The first k places are told, the others are noughts. -/
def numsM (ss : List ByteArray) (k : Nat) : List Int := numsV (ss.take k) ++ List.replicate (ss.length - k) 0
theorem numsM_len {ss : List ByteArray} {k : Nat} (h : k ≤ ss.length) : (numsM ss k).length = ss.length := by simp [numsM, numsV_len]; omega
theorem numsM_all (ss : List ByteArray) : numsM ss ss.length = numsV ss := by simp [numsM]
theorem numsM_set {ss : List ByteArray} {k : Nat} (h : k < ss.length) : (numsM ss k).set k (getI (ss.getD k ByteArray.empty).data.toList) = numsM ss (k + 1) := by
  unfold numsM
  rw [numsV_snoc h]
  have hl : (numsV (ss.take k)).length = k := by rw [numsV_len]; simp; omega
  rw [List.set_append_right _ _ (by omega), hl, Nat.sub_self, show ss.length - k = ss.length - (k + 1) + 1 by omega, List.replicate_succ, List.set_cons_zero, List.append_assoc]
  rfl
set_option maxHeartbeats 2000000 in
theorem gnums_any (A : Option Addr) (cap : Nat) (ss : List ByteArray) (w : World) (hs : Strs w A ss) (hn : ss.length ≤ 3000) (hz : ∀ s ∈ ss, s.size ≤ maxLen) :
    Calls Tryd.prog 33 #[.slice A ss.length cap] w (RetN (numsI ss) (numsB ss) w) := by
  have hmk := fun W => run_make_row' (P := Tryd.prog) 27 2 (.int .i64 0) 8 Tryd.underlying27 infoL rfl .i64 .i64 ss.length (by omega) (by omega) W
  have HS := Lib.hid hs
  have M0 : Hid (MineT 2 (w.alloc (.cells (madeCells #[Value.int .i64 0] ss.length) 2)) w.heap.size (.slice (some ⟨w.heap.size, 0, none⟩) ss.length ss.length) (numsM ss 0)) := Lib.hid (by
    have h := MineT.made 2 w ss.length w.heap.size (Nat.le_refl _) (by unfold maxLen; omega)
    simpa [numsM, numsV] using h)
  have HZ := Lib.hid (fun k (hk : k < ss.length) => hz _ (List.mem_of_getElem? (strs_at hk)))
  have L0 := Lib.hid (below_new w (.cells (madeCells #[Value.int .i64 0] ss.length) 2))
  clear hs hz
  go_enter Tryd.func33, Tryd.ntmps33
  go_wp2
  go_loopw [14] (fun i wr => ∃ k : Nat, k ≤ ss.length ∧ i = .int .i64 k ∧ Hid (MineT 2 wr w.heap.size (.slice (some ⟨w.heap.size, 0, none⟩) ss.length ss.length) (numsM ss k)) ∧ Hid (numsB (ss.take k) = true) ∧ Hid (Below w.heap.size w wr)) (fun i _ => ss.length - (intOf i).toNat)
  case atStart => exact ⟨0, Nat.zero_le _, rfl, M0, Lib.hid rfl, L0⟩
  case round =>
    obtain ⟨k, hk, rfl, HM, HB, HL⟩ := hrel
    by_cases hlt : k < ss.length
    · obtain ⟨b, off, rfl, hbl, hc⟩ := (HS.out.next HL.out) (by omega)
      have c1 := hc k hlt
      have i1 : (k : Int) < (ss.length : Int) := by omega
      have i0 : (0 : Int) ≤ (k : Int) := by omega
      have GT := Lib.hid (fun W => (get_any (ss.getD k ByteArray.empty).data.toList W (by rw [← size_l]; exact HZ.out k hlt) : Calls Tryd.prog 24 #[.string (ss.getD k ByteArray.empty)] W _))
      have SN := Lib.hid (numsM_set hlt)
      cases hg : getB (ss.getD k ByteArray.empty).data.toList with
      | false =>
        have NO := Lib.hid (numsB_no hlt hg)
        rw [hg] at GT
        obtain ⟨x, hx⟩ : ∃ x, ss.getD k ByteArray.empty = x := ⟨_, rfl⟩
        rw [hx] at c1 GT
        generalize getI x.data.toList = gi at *
        clear hc hg hx SN
        go_wp2_with fail
        refine (GT.out _).mono ?_
        rintro r w5 ⟨rfl, hb5⟩
        have L5 := Lib.hid (below_next HL.out hb5)
        clear hb5
        go_wp2
        go_ret2
        exact retN_no NO.out L5.out
      | true =>
        have YES := Lib.hid (numsB_snoc hlt HB.out hg)
        rw [hg] at GT
        obtain ⟨x, hx⟩ : ∃ x, ss.getD k ByteArray.empty = x := ⟨_, rfl⟩
        rw [hx] at c1 GT SN
        generalize getI x.data.toList = gi at *
        clear hc hg hx
        go_wp2_with fail
        refine (GT.out _).mono ?_
        rintro r w5 ⟨rfl, hb5⟩
        have L5 := Lib.hid (below_next HL.out hb5)
        have M5 := Lib.hid (HM.out.below hb5 (Nat.le_refl _))
        obtain ⟨b', eb, -, -, hb'l, q1, q2⟩ := mineN_at M5.out (j := k) (by rw [numsM_len hk]; exact hlt)
        injection eb with eb
        injection eb with eb
        subst eb
        have M6 := Lib.hid (mineN_set M5.out (j := k) (by rw [numsM_len hk]; exact hlt) gi)
        rw [SN.out] at M6
        have L6 := Lib.hid (L5.out.setCell (p := ⟨w.heap.size, k, none⟩) (Nat.le_refl _) (.int .i64 gi))
        clear hb5
        go_wp2
        refine ⟨⟨k + 1, by omega, by go_num, M6, YES, L6⟩, by simp [intOf]; omega⟩
    · obtain rfl : k = ss.length := by omega
      have YES := Lib.hid HB.out
      rw [List.take_length] at YES
      have MM := Lib.hid HM.out
      rw [numsM_all] at MM
      clear HM HB
      go_wp2
      go_ret2
      exact retN_yes YES.out rfl MM.out HL.out
set_option maxHeartbeats 2000000 in
theorem rnums_any (A : Option Addr) (cap : Nat) (ss : List ByteArray) (w : World) (hs : Strs w A ss) (hn : ss.length ≤ 3000) (hz : ∀ s ∈ ss, s.size ≤ maxLen) :
    Calls Tryd.prog 34 #[.slice A ss.length cap] w (RetN (numsI ss) (numsB ss) w) := by
  have HS := Lib.hid hs
  have HZ := Lib.hid (fun k (hk : k < ss.length) => hz _ (List.mem_of_getElem? (strs_at hk)))
  clear hs hz
  go_enter Tryd.func34, Tryd.ntmps34
  go_wp2
  go_loopw [4, 5] (fun V i wr => ∃ k : Nat, k ≤ ss.length ∧ i = .int .i64 k ∧ Hid (MineT 2 wr w.heap.size V (numsV (ss.take k))) ∧ Hid (numsB (ss.take k) = true) ∧ Hid (Below w.heap.size w wr)) (fun _ i _ => ss.length - (intOf i).toNat)
  case atStart => exact ⟨0, Nat.zero_le _, rfl, Lib.hid (MineT.nil _ _ _), Lib.hid rfl, Lib.hid (Below.refl _ _)⟩
  case round =>
    obtain ⟨k, hk, rfl, HM, HB, HL⟩ := hrel
    by_cases hlt : k < ss.length
    · obtain ⟨b, off, rfl, hbl, hc⟩ := (HS.out.next HL.out) (by omega)
      have c1 := hc k hlt
      have i1 : (k : Int) < (ss.length : Int) := by omega
      have i0 : (0 : Int) ≤ (k : Int) := by omega
      have GT := Lib.hid (fun W => rget_any (ss.getD k ByteArray.empty) W (HZ.out k hlt))
      have SN := Lib.hid (numsV_snoc hlt)
      have SL : Hid ((numsV (ss.take k)).length ≤ 3000) := Lib.hid (by rw [numsV_len]; simp; omega)
      cases hg : getB (ss.getD k ByteArray.empty).data.toList with
      | false =>
        have NO := Lib.hid (numsB_no hlt hg)
        rw [hg] at GT
        obtain ⟨x, hx⟩ : ∃ x, ss.getD k ByteArray.empty = x := ⟨_, rfl⟩
        rw [hx] at c1 GT
        generalize getI x.data.toList = gi at *
        clear hc hg hx SN
        go_wp2_with fail
        refine (GT.out _).mono ?_
        rintro r w5 ⟨rfl, hb5⟩
        have L5 := Lib.hid (below_next HL.out hb5)
        clear hb5
        go_wp2
        go_ret2
        exact retN_no NO.out L5.out
      | true =>
        have YES := Lib.hid (numsB_snoc hlt HB.out hg)
        rw [hg] at GT
        obtain ⟨x, hx⟩ : ∃ x, ss.getD k ByteArray.empty = x := ⟨_, rfl⟩
        rw [hx] at c1 GT SN
        generalize getI x.data.toList = gi at *
        clear hc hg hx
        go_wp2_with fail
        refine (GT.out _).mono ?_
        rintro r w5 ⟨rfl, hb5⟩
        have M5 := Lib.hid (MineT.alloc (HM.out.below hb5 (Nat.le_refl _)) (.cells #[.int .i64 gi] 2))
        have Y5 := Lib.hid (MineT.new 2 w5 [gi] 0 (Nat.zero_le _) (by unfold maxLen; simp)).ints'
        have K5 := Lib.hid (below_next (below_next HL.out hb5) (below_new w5 (.cells #[.int .i64 gi] 2)))
        have TL : Hid ((numsV (ss.take k)).length + [gi].length ≤ 100000) := Lib.hid (by have := SL.out; simp at *; omega)
        clear hb5
        go_wp2_with (at_builtin; refine wpList_appI numL Tryd.underlying27 rfl (.tmp 24) (.tmp 26) rfl w.heap.size _ _ rfl M5.out _ 1 [gi] rfl Y5.out TL.out K5.out.size ?_; intro v3 w3 hm3 hg3 ha3; have M3 := Lib.hid hm3; have G3 := Lib.hid hg3; clear hm3 hg3 ha3)
        refine ⟨⟨k + 1, by omega, by go_num, Lib.hid (by rw [SN.out]; exact M3.out), YES, Lib.hid (K5.out.grown G3.out K5.out.size (fun kk hkk => own_base M5.out kk hkk))⟩, by simp [intOf]; omega⟩
    · obtain rfl : k = ss.length := by omega
      have YES := Lib.hid HB.out
      have MM := Lib.hid HM.out
      rw [List.take_length] at YES MM
      obtain ⟨AV, cV, eV, -⟩ := own_seq MM.out (by decide)
      rw [numsV_len] at eV
      subst eV
      clear HM HB
      go_wp2
      go_ret2
      exact retN_yes YES.out rfl MM.out HL.out
end Go.Proofs.YtogbemdoimhndaaDoor.Dg
