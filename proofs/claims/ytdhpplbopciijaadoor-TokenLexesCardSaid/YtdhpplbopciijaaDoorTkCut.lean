/-
  strings.Cut at a line's end, and token.begins: what they answer. No condition.
-/
import Derived.Test.YtdhpplbopciijaaDoorTkMath
import Derived.Lib.Bytealg
import Derived.Lib.IndexLaws
import Derived.IntWalk
set_option maxRecDepth 100000
namespace Go.Proofs.YtdhpplbopciijaaDoor.Tk
open Go.RowKit
set_option linter.unusedVariables false

def nlB : ByteArray := ⟨#[10]⟩
theorem line_no {l : List UInt8} (h : Lib.indexByte l 10 = -1) : lineN l = l.length := by
  have e := Lib.indexByte_none h
  unfold lineN
  rw [Gl.takeWhile_take (p := fun c => decide (c ≠ 10)) l l.length (by
    rw [List.take_length, List.all_eq_true]
    intro x hx
    obtain ⟨k, hk⟩ := List.mem_iff_getElem?.1 hx
    have := e k
    rw [hk] at this
    simpa using this) (.inl (Nat.le_refl _)), List.take_length]
theorem line_yes {l : List UInt8} {k : Nat} (h : Lib.indexByte l 10 = (k : Int)) : lineN l = k ∧ k < l.length := by
  obtain ⟨e1, e2⟩ := Lib.indexByte_some h
  have hk : k < l.length := (List.getElem?_eq_some_iff.1 e1).1
  unfold lineN
  rw [Gl.takeWhile_take (p := fun c => decide (c ≠ 10)) l k (by
    rw [List.all_eq_true]
    intro x hx
    obtain ⟨j, hj⟩ := List.mem_iff_getElem?.1 hx
    rw [List.getElem?_take] at hj
    split at hj
    · rename_i hjk
      have := e2 j hjk
      rw [hj] at this
      simpa using this
    · cases hj) (.inr ⟨10, e1, by simp⟩), List.length_take]
  omega
set_option maxHeartbeats 1000000 in
theorem index_byte (s : ByteArray) (w : World) : Calls Tryd.prog 63 #[.string s, .int .u8 10] w fun e w' => e = .returned (.int .i64 (Lib.indexByte s.data.toList 10)) ∧ w = w' := by
  go_enter Tryd.func63, Tryd.ntmps63
  go_wp2
  rw [run_callFunc_extern Tryd.func69 (by kernel_rfl) (by kernel_rfl) (by kernel_rfl) (e := Extern.BytealgIndexByte.indexByte) (by kernel_rfl), Lib.run_indexByteString]
  simp only [Result.andThen]
  rw [Oper.upon_value]
  go_wp2
  go_ret
  exact ⟨rfl, rfl⟩
set_option maxHeartbeats 1000000 in
theorem index_nl (s : ByteArray) (w : World) : Calls Tryd.prog 58 #[.string s, .string ⟨#[10]⟩] w fun e w' => e = .returned (.int .i64 (Lib.indexByte s.data.toList 10)) ∧ w = w' := by
  have HC := Lib.hid (index_byte s w)
  cases he : ([10] == s.toList) with
  | true =>
    have HN := Lib.hid (show Lib.indexByte s.data.toList 10 = 0 by
      have e : [10] = s.toList := by simpa using he
      rw [← Gl.toList_data, ← e]; rfl)
    go_enter Tryd.func58, Tryd.ntmps58
    go_wp2
    go_ret
    exact ⟨by rw [HN.out]; rfl, rfl⟩
  | false =>
    go_enter Tryd.func58, Tryd.ntmps58
    go_wp2_with fail
    refine (HC.out).mono ?_
    rintro e w' ⟨rfl, rfl⟩
    go_wp2
    go_ret
    exact ⟨rfl, rfl⟩
def RetCut (n : Nat) (w : World) (e : Ending) (w' : World) : Prop := ∃ p q b, e = .returned (.tuple #[.string p, .string q, .bool b]) ∧ p.size = n ∧ Below w.heap.size w w'
set_option maxHeartbeats 1000000 in
theorem lcut_nl (s : ByteArray) (w : World) (hs : s.size ≤ maxLen) : Calls Tryd.prog 53 #[.string s, .string ⟨#[10]⟩] w (RetCut (lineN s.data.toList) w) := by
  unfold maxLen at hs
  have HC := Lib.hid (index_nl s w)
  have hlen : s.data.toList.length = s.size := by simp
  by_cases hn : Lib.indexByte s.data.toList 10 = -1
  · have HN := Lib.hid (line_no hn)
    rw [hn] at HC
    clear hn
    go_enter Tryd.func53, Tryd.ntmps53
    go_wp2_with fail
    refine (HC.out).mono ?_
    rintro e w' ⟨rfl, rfl⟩
    go_wp2
    go_ret3
    exact ⟨_, _, _, rfl, by rw [HN.out, hlen], Below.refl _ _⟩
  · obtain ⟨k, hk⟩ : ∃ k : Nat, Lib.indexByte s.data.toList 10 = (k : Int) := by
      have := Lib.indexByte_ge s.data.toList 10
      exact ⟨(Lib.indexByte s.data.toList 10).toNat, by omega⟩
    obtain ⟨h1, h2⟩ := line_yes hk
    have HN := Lib.hid h1
    rw [hk] at HC
    clear hn hk h1
    rw [hlen] at h2
    have g0 : (0 : Int) ≤ (k : Int) := by omega
    have g1 : (k : Int) + 1 ≤ (s.size : Int) := by omega
    have g3 : ((k : Int) + 1).toNat = k + 1 := by omega
    have g2 : IntKind.i64.wrap ((k : Int) + 1) = (k : Int) + 1 := IntWalk.i64_in _ (by omega)
    have g4 : (0 : Int) ≤ (k : Int) + 1 := by omega
    have g5 : k ≤ s.size := by omega
    go_enter Tryd.func53, Tryd.ntmps53
    go_wp2_with fail
    refine (HC.out).mono ?_
    rintro e w' ⟨rfl, rfl⟩
    go_wp2
    go_region
    go_wp2
    go_ret3
    exact ⟨_, _, _, rfl, by rw [HN.out, Dg.ext_size _ _ _ (by omega)]; omega, (Below.refl _ _).drew⟩
set_option maxHeartbeats 1000000 in
theorem cut_nl (s : ByteArray) (w : World) (hs : s.size ≤ maxLen) : Calls Tryd.prog 43 #[.string s, .string ⟨#[10]⟩] w (RetCut (lineN s.data.toList) w) := by
  have HC := Lib.hid (lcut_nl s w hs)
  clear hs
  go_enter Tryd.func43, Tryd.ntmps43
  go_wp2_with fail
  refine (HC.out).mono ?_
  rintro e w' ⟨p, q, b, rfl, hp, hb⟩
  go_wp2
  go_ret3
  exact ⟨_, _, _, rfl, hp, hb⟩
/-- Does one of two signs begin a text? -/
def RetB (b : Bool) (w : World) (e : Ending) (w' : World) : Prop := e = .returned (.bool b) ∧ Below w.heap.size w w'
set_option maxHeartbeats 1000000 in
theorem begins_any (g : Nat) (s p q : ByteArray) (a b : Bool) (w : World) (hg : g < w.heap.size) (h0 : w.cell? ⟨g, 0, none⟩ = some (.string p)) (h1 : w.cell? ⟨g, 1, none⟩ = some (.string q))
    (ha : Lib.hasPrefix s.data.toList p.data.toList = a) (hb : Lib.hasPrefix s.data.toList q.data.toList = b) :
    Calls Tryd.prog 31 #[.string s, .slice (some ⟨g, 0, none⟩) 2 2] w (RetB (a || b) w) := by
  have HA := Lib.hid (fun W => Dg.pre_call s p _ a W rfl ha)
  have HB := Lib.hid (fun W => Dg.pre_call s q _ b W rfl hb)
  clear ha hb
  go_enter Tryd.func31, Tryd.ntmps31
  go_wp2
  go_loop [9] (fun i => ∃ k : Nat, k ≤ 2 ∧ i = .int .i64 (k : Int) ∧ (k = 1 → a = false) ∧ (k = 2 → a = false ∧ b = false)) (fun i => 2 - (intOf i).toNat)
  case atStart => exact ⟨0, Nat.zero_le _, rfl, fun h => by omega, fun h => by omega⟩
  case round =>
    obtain ⟨k, hk, rfl, r1, r2⟩ := hrel
    rcases (show k = 0 ∨ k = 1 ∨ k = 2 by omega) with rfl | rfl | rfl
    · cases a with
      | true =>
        go_wp2_with fail
        refine (HA.out _).mono ?_
        rintro e w' ⟨rfl, rfl⟩
        go_wp2
        go_ret
        exact ⟨rfl, Below.refl _ _⟩
      | false =>
        go_wp2_with fail
        refine (HA.out _).mono ?_
        rintro e w' ⟨rfl, rfl⟩
        go_wp2
        go_round
        case rel => exact ⟨1, by omega, rfl, fun _ => by simp, fun h => by omega⟩
        case measure => simp [intOf]
    · obtain rfl := r1 rfl
      cases b with
      | true =>
        go_wp2_with fail
        refine (HB.out _).mono ?_
        rintro e w' ⟨rfl, rfl⟩
        go_wp2
        go_ret
        exact ⟨rfl, Below.refl _ _⟩
      | false =>
        go_wp2_with fail
        refine (HB.out _).mono ?_
        rintro e w' ⟨rfl, rfl⟩
        go_wp2
        go_round
        case rel => exact ⟨2, by omega, rfl, fun h => by omega, fun _ => by simp⟩
        case measure => simp [intOf]
    · obtain ⟨rfl, rfl⟩ := r2 rfl
      go_wp2
      go_ret
      exact ⟨rfl, Below.refl _ _⟩
end Go.Proofs.YtdhpplbopciijaaDoor.Tk
