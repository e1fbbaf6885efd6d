/-
  slices.Backward over a row of int64: what it hands back, and the rounds that its iterator makes, for every loop body that keeps the row's block and the iterator's box. Conditions: the row has at most 1000 values.
-/
import Derived.Test.YtfamgaakcbinkaaDoorTwcObj
import Derived.Test.YtfamgaakcbinkaaDoorTwIn
import Derived.Shelf.Abstract
import Derived.Shelf.RegionOpen
import Derived.OwnWalkIn
import Derived.TacticsInMore
import Derived.LoopNIn
import Derived.LoopIn
namespace Go.Proofs.YtfamgaakcbinkaaDoor.Twc
open Go.Proofs.YtfamgaakcbinkaaDoor.Sh Go.Proofs.YtfamgaakcbinkaaDoor.St
open Go.RowKit
set_option linter.unusedVariables false
set_option linter.unusedSectionVars false
variable [J : Jc]
attribute [local go_sem] Oper.semAt_some

/-- The blocks of S lie as they lay. -/
def KeepB (S : Nat → Prop) (W W' : World) : Prop := ∀ b, S b → W'.heap[b]? = W.heap[b]?
theorem KeepB.refl (S : Nat → Prop) (W : World) : KeepB S W W := fun _ _ => rfl
theorem KeepB.trans {S : Nat → Prop} {A B C : World} (h : KeepB S A B) (k : KeepB S B C) : KeepB S A C := fun b hb => (k b hb).trans (h b hb)
theorem KeepB.cell {S : Nat → Prop} {A B : World} (h : KeepB S A B) {p : Addr} (hp : S p.block) : B.cell? p = A.cell? p := by
  unfold World.cell?
  rw [h _ hp]
theorem KeepB.seq {S : Nat → Prop} {A B : World} {a : Option Addr} {vs : List Value} (h : KeepB S A B) (hs : Seq S A a vs) (hz : A.heap.size ≤ B.heap.size) : Seq S B a vs := fun hne => by
  obtain ⟨g, o, e, hg, hl, hc⟩ := hs hne
  exact ⟨g, o, e, hg, by omega, fun j x hx => (h.cell (p := ⟨g, o + j, none⟩) hg).trans (hc j x hx)⟩
/-- What has come when the values from the m-th one on have come, the last one first. -/
def dn (zs : List Int) (m : Nat) : List (Nat × Int) := (List.range (zs.length - m)).map fun j => (zs.length - 1 - j, zs[zs.length - 1 - j]?.getD (0 : Int))
theorem dn_all (zs : List Int) : dn zs zs.length = [] := by simp [dn]
theorem dn_step (zs : List Int) (m : Nat) (h : m < zs.length) : dn zs m = dn zs (m + 1) ++ [(m, zs[m]?.getD (0 : Int))] := by
  unfold dn
  rw [show zs.length - m = (zs.length - (m + 1)) + 1 by omega, List.range_succ, List.map_append]
  simp only [List.map_cons, List.map_nil]
  rw [show zs.length - 1 - (zs.length - (m + 1)) = m by omega]
theorem dn_len (zs : List Int) (m : Nat) : (dn zs m).length = zs.length - m := by simp [dn]

theorem backward_any (A : Option Addr) (len cap : Nat) (w : World) : Calls Tryd.prog 158 #[.slice A len cap] w fun e w' => e = .returned (.func (.func 160) #[] #[.pointer (some ⟨w.heap.size, 0, none⟩)]) ∧ w' = w.alloc (.cells #[.slice A len cap] 27) := by
  go_enter Tryd.func158, Tryd.ntmps158
  go_wp2
  go_ret
  exact ⟨rfl, rfl⟩

set_option maxRecDepth 100000 in
set_option maxHeartbeats 2000000 in
theorem back1_in {α : Type} (F : Fence) (n : Nat) (hf : F.fn 160) (hro : F.round = none) (hn : 1 ≤ n) (l Bs : Nat) (S : Nat → Prop) (A : Option Addr) (cap : Nat) (zs : List Int) (hlen : zs.length ≤ 1000)
    (mk : Nat → α) (encs : α → Array Value) (hmk : ∀ m, m < zs.length → encs (mk m) = #[.int .i64 m, Value.int .i64 (zs[m]?.getD (0 : Int))]) (seen : Nat → List α) (hs0 : seen zs.length = []) (hs1 : ∀ m, m < zs.length → seen m = seen (m + 1) ++ [mk m]) (hsl : ∀ m, (seen m).length = zs.length - m)
    (J Jx : List α → World → Prop)
    (hY : ∀ pre x W, J pre W → pre.length < zs.length → YieldAt F (n - 1) Tryd.prog l (encs x) W fun e W' =>
      (e = .returned (.bool true) ∧ J (pre ++ [x]) W' ∧ KeepB S W W') ∨ (e = .returned (.bool false) ∧ Jx (pre ++ [x]) W'))
    (W : World) (hBs : W.cell? ⟨Bs, 0, none⟩ = some (.slice A zs.length cap)) (hS : S Bs) (hz : ∀ g o, A = some ⟨g, o, none⟩ → 0 < zs.length → S g) (hA : 0 < zs.length → ∃ g o, A = some ⟨g, o, none⟩ ∧ ∀ j, j < zs.length → W.cell? ⟨g, o + j, none⟩ = some (Value.int .i64 (zs[j]?.getD (0 : Int)))) (h0 : J [] W) :
    CallsIn F n Tryd.prog 160 #[.func (.yield l) #[] #[], .pointer (some ⟨Bs, 0, none⟩)] W fun e W' => (∃ v, e = .returned v) ∧
      ((∃ ys, ys = seen 0 ∧ J ys W') ∨ (∃ pre, True ∧ Jx pre W')) := by
  have w1 : IntKind.i64.wrap ((zs.length : Int) - 1) = (zs.length : Int) - 1 := IntWalk.i64_in _ (by omega)
  refine callsIn_of_wp Tryd.func160 rfl hf ?_ hro
  simp only [Tryd.ntmps160, List.size_toArray, List.length_cons, List.length_nil, Nat.reduceAdd, Nat.reduceSub, Array.replicate_succ, Array.replicate_zero, List.push_toArray, List.append_toArray, List.nil_append, List.cons_append]
  gi_wp2
  gi_loopw [3] (fun i wr => ∃ m : Nat, m ≤ zs.length ∧ i = .int .i64 ((m : Int) - 1) ∧ J (seen m) wr ∧ KeepB S W wr)
    (fun i _ => (intOf i + 1).toNat)
  case atStart => exact ⟨zs.length, Nat.le_refl _, rfl, by rw [hs0]; exact h0, KeepB.refl _ _⟩
  case round =>
    obtain ⟨m, hm, rfl, hJs, hk⟩ := hrel
    have hBr : wr.cell? ⟨Bs, 0, none⟩ = some (.slice A zs.length cap) := (hk.cell (p := ⟨Bs, 0, none⟩) hS).trans hBs
    rcases Nat.eq_zero_or_pos m with rfl | hpos
    · have t1 : decide (((0 : Nat) : Int) - 1 ≥ 0) = false := by decide
      gi_wp2
      go_end0
      exact ⟨⟨_, rfl⟩, .inl ⟨_, rfl, hJs⟩⟩
    · obtain ⟨k, rfl⟩ : ∃ k, m = k + 1 := ⟨m - 1, by omega⟩
      have hkl : k < zs.length := by omega
      obtain ⟨g, o, rfl, hc⟩ := hA (by omega)
      have hcx : wr.cell? ⟨g, o + k, none⟩ = some (Value.int .i64 (zs[k]?.getD (0 : Int))) := (hk.cell (p := ⟨g, o + k, none⟩) (hz g o rfl (by omega))).trans (hc k hkl)
      obtain ⟨fn, tmps, assign, body, hy, hR⟩ := hY _ (mk k) wr hJs (by rw [hsl]; omega)
      rw [hmk k hkl] at hy
      obtain ⟨v, hv⟩ : ∃ v, zs[k]?.getD (0 : Int) = v := ⟨_, rfl⟩
      rw [hv] at hy hcx
      clear hv
      rw [show ((k + 1 : Nat) : Int) - 1 = (k : Int) by omega]
      have w2 : IntKind.i64.wrap ((k : Int) - 1) = (k : Int) - 1 := IntWalk.i64_in _ (by omega)
      have t1 : decide ((k : Int) ≥ 0) = true := decide_eq_true (by omega)
      gi_wp2
      refine hR.mono ?_
      rintro e W3 (⟨rfl, hJ3, hk3⟩ | ⟨rfl, hJx3⟩)
      · gi_wp2
        go_roundw
        case rel => exact ⟨k, by omega, rfl, by rw [hs1 k hkl]; exact hJ3, hk.trans hk3⟩
        case measure => simp [intOf]
      · gi_wp2
        refine bodyPost_ret (results_none rfl _ _ _) rfl ?_
        exact ⟨⟨_, rfl⟩, .inr ⟨_, trivial, hJx3⟩⟩
end Go.Proofs.YtfamgaakcbinkaaDoor.Twc
