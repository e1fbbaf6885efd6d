/-
  What slices.Grow of nothing and slices.Concat of two slices of ints answer; nothing that was there is written. No condition but small lengths.
-/
import Derived.Test.YtbanegjmapgkdaaDoorPrFit
import Derived.Test.YtbanegjmapgkdaaDoorPkC
import Derived.Lib.AppendZeros
set_option maxRecDepth 100000
namespace Go.Proofs.YtbanegjmapgkdaaDoor.Pr
open Go.Proofs.YtbanegjmapgkdaaDoor.Sh
open Go.Proofs.YtbanegjmapgkdaaDoor.Fd
open Go.RowKit
set_option linter.unusedVariables false

theorem run_appZ {ty : TypeId} (w : World) (n : Nat) (h0 : 0 < n) (hn : n ≤ 1000) :
    ∃ c Z, (Builtin.append_ #[26, 3] ty #[.slice none 0 0, .int .i64 (n : Int)]).run Tryd.prog w = .ok (.slice (some ⟨w.heap.size, 0, none⟩) n c) (w.drew.alloc (.cells Z 3)) ∧ n ≤ c ∧ c ≤ maxLen ∧ Z.size = c := by
  obtain ⟨i0, hi, hz0, hz1, hz2⟩ := info_parts numI
  have happ := Lib.run_append_nil_zeros (P := Tryd.prog) w 26 3 ty 3 i0 (.int .i64 0) .i64 .i64 Tryd.underlying26 Tryd.underlying3 hi hz0 n h0 (by omega) (by omega) (by rw [hz2]; omega)
  have hcapge : n ≤ grownCap w n 0 3 := grownCap_ge w _ 0 _
  refine ⟨_, _, happ, hcapge, grownCap_le_maxLen w _ 0 _ (by unfold maxLen; omega), ?_⟩
  simp [Builtin.zeroCells, Value.cells]; omega
theorem wpList_appZ {ops : Array Oper} {rest : List Oper} {o : Oper} {a : Act} {Q : Exit → Act → World → Prop} {w : World} (hgd : o.guard = none) (s x : Operand)
    (ho : o.op = .call { callee := .builtin .append, args := #[s, x], argTypes := #[26, 3] }) (n : Nat) (hs : a.eval s = .slice none 0 0) (hx : a.eval x = .int .i64 (n : Int)) (h0 : 0 < n) (hn : n ≤ 1000)
    (h : ∀ c w', MineT 3 w' w.heap.size (.slice (some ⟨w.heap.size, 0, none⟩) 0 c) [] → n ≤ c → c ≤ maxLen → Below w.heap.size w w' → wpList Tryd.prog ops Q rest (a.put o.dst (.slice (some ⟨w.heap.size, 0, none⟩) n c)) w') : wpList Tryd.prog ops Q (o :: rest) a w := by
  refine wpList_plain hgd fun K hK => ?_
  obtain ⟨c, Z, hrun, h1, h2, h3⟩ := run_appZ (ty := o.type) w n h0 hn
  unfold Oper.wp execOp
  simp only [ho, resolve, invoke, builtin, Sem.run_bind, Sem.run_pure, Result.andThen_ok, List.map_toArray, List.map_cons, List.map_nil, hs, hx, hrun]
  refine hK _ _ (h c _ ?_ h1 h2 ((Below.refl _ w).drew.alloc (Nat.le_refl _) _))
  exact ⟨by simp, .inr ⟨w.heap.size, c, Z, rfl, Nat.le_refl _, heap_alloc_new w.drew _, Nat.zero_le _, h2, by simp [h3], by simp⟩⟩
/-- How many numbers of both, and which ones, behind so many rounds. -/
def catN (d d' : List Int) (k : Nat) : Nat := if k = 0 then 0 else if k = 1 then d.length else d.length + d'.length
def catL (d d' : List Int) (k : Nat) : List Int := if k = 0 then [] else if k = 1 then d else d ++ d'
theorem catL_len (d d' : List Int) (k : Nat) : (catL d d' k).length = catN d d' k := by
  unfold catL catN
  split
  · rfl
  · split <;> simp
theorem keepC' {W w1 : World} {p : Addr} {x : Value} (hb : Below W.heap.size W w1) (h : W.cell? p = some x) : w1.cell? p = some x := (hb.cell (World.block_lt_of_cell? W p h)).trans h
theorem catL_0 (d d' : List Int) : catL d d' 0 = [] := rfl
theorem catL_1 (d d' : List Int) : catL d d' 1 = d := rfl
theorem catL_2 (d d' : List Int) : catL d d' 2 = d ++ d' := rfl
set_option maxHeartbeats 1000000 in
theorem grow_any (n : Nat) (w : World) (hn : n ≤ 1000) :
    Calls Tryd.prog 74 #[.slice none 0 0, .int .i64 (n : Int)] w fun e w' => ∃ v, e = .returned v ∧ MineT 3 w' w.heap.size v [] ∧ Below w.heap.size w w' := by
  rcases Nat.eq_zero_or_pos n with rfl | h0
  · go_enter Tryd.func74, Tryd.ntmps74
    go_wp2
    go_ret
    exact ⟨_, rfl, MineT.nil _ _ _, Below.refl _ _⟩
  · have i0 : (0 : Int) < (n : Int) := by omega
    go_enter Tryd.func74, Tryd.ntmps74
    go_wp2_with (at_builtin; refine wpList_appZ rfl (.tmp 20) (.tmp 21) rfl n rfl rfl h0 hn ?_; intro c w1 hm hc1 hc2 hb)
    have i1 : (0 : Int) ≤ (c : Int) := by omega
    have HM := Lib.hid hm
    have HB := Lib.hid hb
    clear hm hb
    go_wp2
    go_ret
    exact ⟨_, rfl, HM.out, HB.out⟩
set_option maxHeartbeats 4000000 in
theorem concat_any (g : Nat) (A : Option Addr) (c : Nat) (d : List Int) (A' : Option Addr) (c' : Nat) (d' : List Int) (w : World) (hg0 : w.cell? ⟨g, 0, none⟩ = some (.slice A d.length c)) (hg1 : w.cell? ⟨g, 1, none⟩ = some (.slice A' d'.length c')) (hd : d.length ≤ 100) (hd' : d'.length ≤ 100) (id : Ints w A d) (id' : Ints w A' d') :
    Calls Tryd.prog 34 #[.slice (some ⟨g, 0, none⟩) 2 2] w (RetT 3 w (d ++ d')) := by
  have G0 := Lib.hid hg0
  have G1 := Lib.hid hg1
  have ID := Lib.hid id
  have ID' := Lib.hid id'
  clear id id'
  go_enter Tryd.func34, Tryd.ntmps34
  go_wp2
  go_loopw [3, 11] (fun z j wr => ∃ k : Nat, k ≤ 2 ∧ j = .int .i64 (k : Int) ∧ z = .int .i64 ((catN d d' k : Nat) : Int) ∧ w = wr) (fun _ j _ => 2 - (intOf j).toNat)
  case atStart => exact ⟨0, by omega, rfl, rfl, rfl⟩
  case round =>
    obtain ⟨k, hk, rfl, rfl, rfl⟩ := hrel
    have hk3 : k = 0 ∨ k = 1 ∨ k = 2 := by omega
    rcases hk3 with rfl | rfl | rfl
    · have hz : catN d d' 0 = 0 := rfl
      rw [hz]
      go_wp2
      go_roundw
      case rel => exact ⟨1, by omega, by go_num, by simp [catN], trivial⟩
      case measure => simp [intOf]
    · have hz : catN d d' 1 = d.length := rfl
      rw [hz]
      go_wp2
      go_roundw
      case rel => exact ⟨2, by omega, by go_num, by simp [catN], trivial⟩
      case measure => simp [intOf]
    · have hz : catN d d' 2 = d.length + d'.length := rfl
      rw [hz]
      have GR := Lib.hid (grow_any (d.length + d'.length) w (by omega))
      clear hg0 hg1
      go_wp2_with fail
      refine (GR.out).mono ?_
      rintro r w1 ⟨v1, rfl, hm1, hb1⟩
      have M1 := Lib.hid hm1
      have L1 := Lib.hid hb1
      clear hm1 hb1
      go_wp2
      go_loopw [6, 27] (fun v j W => ∃ k : Nat, k ≤ 2 ∧ j = .int .i64 (k : Int) ∧ MineT 3 W w.heap.size v (catL d d' k) ∧ Below w.heap.size w W) (fun _ j _ => 2 - (intOf j).toNat)
      case atStart => exact ⟨0, by omega, rfl, by rw [catL_0]; exact M1.out, L1.out⟩
      case round =>
      obtain ⟨k, hk, rfl, hM, hB⟩ := hrel
      have LB := Lib.hid hB
      clear hB
      have hk3 : k = 0 ∨ k = 1 ∨ k = 2 := by omega
      rcases hk3 with rfl | rfl | rfl
      · rw [catL_0] at hM
        have q := keepC' LB.out G0.out
        have IX := Lib.hid (ID.out.below LB.out)
        have MM := Lib.hid hM
        clear hM
        go_wp2_with (at_builtin; refine wpList_appI numI Tryd.underlying26 rfl (.tmp 31) (.tmp 32) rfl w.heap.size u6 _ rfl MM.out A c d rfl IX.out (by first | omega | (simp; omega)) LB.out.size ?_; intro v' w3 hm3 hg3 ha3)
        have MM3 := Lib.hid hm3
        have LL := Lib.hid (LB.out.grown hg3 LB.out.size MM.out.block)
        clear hm3 hg3 ha3 q
        go_wp2
        go_roundw
        case rel => exact ⟨1, by omega, by go_num, by rw [catL_1]; simpa using MM3.out, LL.out⟩
        case measure => simp [intOf]
      · rw [catL_1] at hM
        have q := keepC' LB.out G1.out
        have IX := Lib.hid (ID'.out.below LB.out)
        have MM := Lib.hid hM
        clear hM
        go_wp2_with (at_builtin; refine wpList_appI numI Tryd.underlying26 rfl (.tmp 31) (.tmp 32) rfl w.heap.size u6 _ rfl MM.out A' c' d' rfl IX.out (by first | omega | (simp; omega)) LB.out.size ?_; intro v' w3 hm3 hg3 ha3)
        have MM3 := Lib.hid hm3
        have LL := Lib.hid (LB.out.grown hg3 LB.out.size MM.out.block)
        clear hm3 hg3 ha3 q
        go_wp2
        go_roundw
        case rel => exact ⟨2, by omega, by go_num, by rw [catL_2]; simpa using MM3.out, LL.out⟩
        case measure => simp [intOf]
      · rw [catL_2] at hM
        obtain ⟨B2, c2, rfl, -⟩ := hM.ints
        have MM := Lib.hid hM
        clear hM
        go_wp2
        go_ret
        exact ⟨B2, c2, rfl, MM.out, LB.out⟩
end Go.Proofs.YtbanegjmapgkdaaDoor.Pr
