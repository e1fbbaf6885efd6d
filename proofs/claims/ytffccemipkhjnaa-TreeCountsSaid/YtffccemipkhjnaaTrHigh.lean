/-
  Layer 18, tree: height and High. Condition: the parts of a node stand ahead of it.
-/
import Derived.Test.YtffccemipkhjnaaTrRight
set_option maxRecDepth 100000
namespace Go.Proofs.Ytffccemipkhjnaa.Tr
open Go.Proofs.Ytffccemipkhjnaa.Sh Go.Proofs.Ytffccemipkhjnaa.St
open Go.RowKit
set_option linter.unusedVariables false

/-- All parts of a node stand ahead of it. -/
def Ahead (qs : List Nq) : Prop := ∀ (k : Nat) (q : Nq), qs[k]? = some q → ∀ x ∈ q.n.kids, 0 ≤ x ∧ x < (k : Int)
def hgtF (qs : List Nq) : Nat → Int → Nat
  | 0, _ => 0
  | f + 1, i => match qs[i.toNat]? with
    | some q => (q.n.kids.map (hgtF qs f)).foldl max 0 + 1
    | none => 0
def hgt (qs : List Nq) (i : Int) : Nat := hgtF qs (i.toNat + 1) i
theorem hgtF_enough {qs : List Nq} (hA : Ahead qs) : ∀ (f g : Nat) (i : Int), 0 ≤ i → i < (f : Int) → i < (g : Int) → hgtF qs f i = hgtF qs g i
  | 0, g, i, h0, h, h' => by omega
  | f + 1, 0, i, h0, h, h' => by omega
  | f + 1, g + 1, i, h0, h, h' => by
    unfold hgtF
    split
    · rename_i q hq
      congr 2
      apply List.map_congr_left
      intro x hx
      have := hA _ q hq x hx
      exact hgtF_enough hA f g x this.1 (by omega) (by omega)
    · rfl
theorem hgt_eq {qs : List Nq} (hA : Ahead qs) {k : Nat} {q : Nq} (hq : qs[k]? = some q) : hgt qs (k : Int) = (q.n.kids.map (hgt qs)).foldl max 0 + 1 := by
  unfold hgt
  rw [show ((k : Int)).toNat = k by simp]
  rw [hgtF, show ((k : Int)).toNat = k by simp, hq]
  simp only
  congr 2
  apply List.map_congr_left
  intro x hx
  have := hA _ q hq x hx
  exact hgtF_enough hA k _ x this.1 (by omega) (by omega)
theorem foldl_max_le (l : List Nat) (m b : Nat) (hm : m ≤ b) (h : ∀ x ∈ l, x ≤ b) : l.foldl max m ≤ b := by
  induction l generalizing m with
  | nil => exact hm
  | cons x r ih =>
    rw [List.foldl_cons]
    exact ih (max m x) (Nat.max_le.2 ⟨hm, h x List.mem_cons_self⟩) (fun y hy => h y (List.mem_cons_of_mem _ hy))
theorem hgt_le {qs : List Nq} (hA : Ahead qs) : ∀ (k : Nat), k < qs.length → hgt qs (k : Int) ≤ k + 1 := by
  intro k
  induction k using Nat.strongRecOn with
  | ind k ih =>
  intro hk
  obtain ⟨q, hq⟩ : ∃ q, qs[k]? = some q := ⟨_, List.getElem?_eq_getElem hk⟩
  rw [hgt_eq hA hq]
  have : (q.n.kids.map (hgt qs)).foldl max 0 ≤ k := foldl_max_le _ _ _ (Nat.zero_le _) (fun y hy => by
    obtain ⟨x, hx, rfl⟩ := List.mem_map.1 hy
    have h1 := hA _ q hq x hx
    obtain ⟨m, rfl⟩ : ∃ m : Nat, x = (m : Int) := ⟨x.toNat, by omega⟩
    have := ih m (by omega) (by omega)
    omega)
  omega
set_option maxHeartbeats 8000000 in
theorem height_k (A : Option Addr) (c : Nat) (qs : List Nq) (h3 : qs.length ≤ 1000) (h20 : ∀ q ∈ qs, q.n.kids.length ≤ 1000) (hA : Ahead qs) : ∀ (k : Nat) (w : World), Nodes w A qs → k < qs.length → Calls Try.prog 26 #[.slice A qs.length c, .int .i64 (k : Int)] w fun e w' => e = .returned (.int .i64 (hgt qs (k : Int) : Nat)) ∧ Below w.heap.size w w' := by
  intro k
  induction k using Nat.strongRecOn with
  | ind k ih =>
  intro w hn hk
  obtain ⟨q, hq⟩ : ∃ q, qs[k]? = some q := ⟨_, List.getElem?_eq_getElem hk⟩
  obtain ⟨b0, o0, rfl, hb0, ⟨c0, c1, c2, c3, c4, c5⟩, hin⟩ := hn.at_ hq
  have HEQ := Lib.hid (hgt_eq hA hq)
  have HLE := Lib.hid (hgt_le hA k hk)
  have HAH := Lib.hid (hA k q hq)
  have HLES := Lib.hid (fun m hm => hgt_le hA m hm)
  have HIH := Lib.hid ih
  have HNO := Lib.hid hn
  obtain ⟨KA, hKA⟩ : ∃ KA, q.ka = KA := ⟨_, rfl⟩
  rw [hKA] at c3
  have HKI := Lib.hid (show Ints w KA q.n.kids by rw [← hKA]; exact hin.1)
  clear hKA
  have H20 := Lib.hid (h20 q (List.mem_of_getElem? hq))
  have HK := Lib.hid hk
  have i0 : (0 : Int) ≤ (k : Int) := by omega
  have i1 : (k : Int) < (qs.length : Int) := by omega
  clear ih hn hin hq c0 c1 c2 c4 c5
  go_enter Try.func26, Try.ntmps26
  go_wp2_with fail
  go_loopw [5, 14] (fun bv iv wr => ∃ j : Nat, j ≤ q.n.kids.length ∧ bv = .int .i64 (((q.n.kids.map (hgt qs)).take j).foldl max 0 : Nat) ∧ iv = .int .i64 (j : Int) ∧ Hid (Below w.heap.size w wr)) (fun _ iv _ => q.n.kids.length - (intOf iv).toNat)
  case atStart => exact ⟨0, Nat.zero_le _, rfl, rfl, Lib.hid (Below.refl _ _)⟩
  case round =>
    obtain ⟨j, hj, rfl, rfl, HW⟩ := hrel
    by_cases hlt : j < q.n.kids.length
    · obtain ⟨x, hx⟩ : ∃ x, q.n.kids[j]? = some x := ⟨_, List.getElem?_eq_getElem hlt⟩
      have hxa := HAH.out x (List.mem_of_getElem? hx)
      obtain ⟨m, hm⟩ : ∃ m : Nat, x = (m : Int) := ⟨x.toNat, by omega⟩
      subst hm
      obtain ⟨bK, oK, rfl, hbK, hcK⟩ := (HKI.out.below HW.out) (by omega)
      have hcx := hcK j hlt
      rw [show q.n.kids.getD j 0 = (m : Int) by rw [List.getD_eq_getElem?_getD, hx]; rfl] at hcx
      have HR := Lib.hid (HIH.out m (by omega) wr (HNO.out.next HW.out) (by have := HK.out; omega))
      have HST : Hid (((q.n.kids.map (hgt qs)).take (j + 1)).foldl max 0 = max (((q.n.kids.map (hgt qs)).take j).foldl max 0) (hgt qs (m : Int))) := Lib.hid (by
        rw [List.take_add_one, List.getElem?_map, hx]
        simp [List.foldl_append])
      have i2 : (0 : Int) ≤ (j : Int) := by omega
      have i3 : (j : Int) < (q.n.kids.length : Int) := by omega
      have hsum := wrap_k j (by have := H20.out; omega)
      obtain ⟨fo, hfo⟩ : ∃ fo, ((q.n.kids.map (hgt qs)).take j).foldl max 0 = fo := ⟨_, rfl⟩
      obtain ⟨hm', hhm⟩ : ∃ hm', hgt qs (m : Int) = hm' := ⟨_, rfl⟩
      rw [hfo, hhm] at HST
      rw [hhm] at HR
      rw [hfo]
      clear hx hxa hcK hbK hfo hhm
      have hmx : max (fo : Int) (hm' : Int) = ((max fo hm' : Nat) : Int) := by omega
      have HMX := Lib.hid hmx
      clear hmx
      go_wp2_with fail
      refine (HR.out).mono ?_
      rintro e w5 ⟨rfl, hb5⟩
      have HW5 := Lib.hid (Gl.below_next HW.out hb5)
      clear hb5
      go_wp2
      go_round
      case rel => exact ⟨j + 1, by omega, by rw [HST.out, ← HMX.out], by go_num, HW5⟩
      case measure => simp [intOf]; omega
    · have hje : j = q.n.kids.length := by omega
      have HFO : Hid (hgt qs (k : Int) = ((q.n.kids.map (hgt qs)).take j).foldl max 0 + 1) := Lib.hid (by rw [HEQ.out, List.take_of_length_le (by rw [List.length_map]; omega)])
      obtain ⟨fo, hfo⟩ : ∃ fo, ((q.n.kids.map (hgt qs)).take j).foldl max 0 = fo := ⟨_, rfl⟩
      rw [hfo] at HFO ⊢
      have hsum := IntWalk.i64_in ((fo : Int) + 1) (by have := HLE.out; have := HFO.out; have := HK.out; omega)
      have hjn : decide (j < q.n.kids.length) = false := by simp; omega
      clear hfo
      subst hje
      go_wp2
      go_ret
      exact ⟨by rw [HFO.out, Int.natCast_add]; rfl, HW.out⟩
end Go.Proofs.Ytffccemipkhjnaa.Tr
