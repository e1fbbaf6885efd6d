/-
  What the rounds of (*twin.Agg[int64]).turn come to, value by value, whatever comes; what they come to where the back stack's values come; and (*twin.Agg[int64]).meet where the second sum is not there. Conditions: as told in each.
-/
import Derived.Test.YtfamgaakcbinkaaDoorTwcBk
namespace Go.Proofs.YtfamgaakcbinkaaDoor.Twc
open Go.Proofs.YtfamgaakcbinkaaDoor.Sh Go.Proofs.YtfamgaakcbinkaaDoor.St
open Go.RowKit
set_option linter.unusedVariables false
set_option linter.unusedSectionVars false
variable [J : Jc]

/-- Two sums joined, the first one being there. -/
def mt (a : Int) (b : Int × Bool) : Int × Bool := if b.2 = true then (jn a b.1, true) else ((0 : Int), false)
theorem wt_z : wt (0 : Int) = 0 := R_wt (by unfold Sc.InR; omega)
theorem wt_jn (a b : Int) : wt (jn a b) ≤ wt a + wt b := by
  by_cases hs : wt a + wt b ≤ 1000000
  · rw [R_wt (jn_R (wt_R (a := a) (by omega)) (wt_R (a := b) (by omega)))]; exact Nat.zero_le _
  · have := wt_le (jn a b); omega
theorem wt_mt (a : Int) (b : Int × Bool) : wt (mt a b).1 ≤ wt a + wt b.1 := by
  unfold mt
  split
  · exact wt_jn _ _
  · rw [wt_z]; omega
/-- A round: what is there, and what is laid on the stack. -/
def hr (len : Nat) (r : Int × Bool) (x : Nat × Int) : Int × Bool := if decide ((x.1 : Int) < (len : Int) - 1) = true then mt x.2 r else (x.2, true)
def stp (len : Nat) (st : List (Int × Bool) × (Int × Bool)) (x : Nat × Int) : List (Int × Bool) × (Int × Bool) := (st.1 ++ [hr len st.2 x], hr len st.2 x)
def fld (len : Nat) (pre : List (Nat × Int)) : List (Int × Bool) × (Int × Bool) := pre.foldl (stp len) ([], ((0 : Int), false))
theorem fld_snoc (len : Nat) (pre : List (Nat × Int)) (x : Nat × Int) : fld len (pre ++ [x]) = stp len (fld len pre) x := by simp [fld]
theorem wt_hr (len : Nat) (r : Int × Bool) (x : Nat × Int) : wt (hr len r x).1 ≤ wt x.2 + wt r.1 := by
  unfold hr
  split
  · exact wt_mt _ _
  · exact Nat.le_add_right _ _
/-- Sums, there or not, as cells. -/
def flat2 (ss : List (Int × Bool)) : List Value := ss.flatMap fun s => [Value.int .i64 s.1, .bool s.2]
theorem flat2_app (a b : List (Int × Bool)) : flat2 (a ++ b) = flat2 a ++ flat2 b := by simp [flat2]
theorem flat2_flat (ss : List Int) : flat2 (ss.map fun s => (s, true)) = flat ss := by simp [flat2, flat, List.flatMap_map]
theorem fld_dn (zs : List Int) : ∀ k m, m + k = zs.length → fld zs.length (dn zs m) = ((sums (zs.drop m)).map (fun s => (s, true)), if k = 0 then ((0 : Int), false) else (jl (zs.drop m), true))
  | 0, m, h => by
    obtain rfl : m = zs.length := by omega
    rw [dn_all, List.drop_length]
    rfl
  | k + 1, m, h => by
    have hm : m < zs.length := by omega
    have hd : zs.drop m = (zs[m]?.getD (0 : Int)) :: zs.drop (m + 1) := by
      rw [List.getElem?_eq_getElem hm]
      exact List.drop_eq_getElem_cons hm
    rw [dn_step zs m hm, fld_snoc, fld_dn zs k (m + 1) (by omega)]
    generalize zs[m]?.getD (0 : Int) = v at *
    have e : hr zs.length (if k = 0 then ((0 : Int), false) else (jl (zs.drop (m + 1)), true)) (m, v) = (jl (zs.drop m), true) := by
      unfold hr
      by_cases hk : k = 0
      · subst hk
        rw [if_neg (by simp; omega), hd, show zs.drop (m + 1) = [] from List.drop_eq_nil_of_le (by omega)]
        rfl
      · rw [if_pos (decide_eq_true (show (m : Int) < (zs.length : Int) - 1 by omega)), if_neg hk]
        show (jn v (jl (zs.drop (m + 1))), true) = _
        rw [hd, jl_cons v (by simp; omega)]
    unfold stp
    rw [e, if_neg (Nat.succ_ne_zero k)]
    simp only [hd, sums, List.map_append, List.map_cons, List.map_nil]
set_option maxHeartbeats 2000000 in
theorem meet_idle (g : Nat) (a b : Int) (w : World) (hj : w.cell? ⟨g, 1, none⟩ = some jv) :
    Calls Tryd.prog 156 #[.pointer (some ⟨g, 0, none⟩), .agg #[Value.int .i64 a, .bool true], .agg #[Value.int .i64 b, .bool false]] w fun e w' => e = .returned (.agg #[(.int .i64 0 : Value), .bool false]) ∧ Below w.heap.size w w' := by
  have LB : ∀ x y : Value, Below w.heap.size w (((w.alloc (.cells #[Value.int .i64 a, .bool true] 159)).alloc (.cells #[Value.int .i64 b, .bool false] 159)).alloc (.cells #[x, y] 159)) := fun x y => below_next (below_next (below_new w _) (below_new _ _)) (below_new _ _)
  have LB := Lib.hid LB
  clear hj
  go_enter_defers Tryd.func156, Tryd.ntmps156
  go_wp2
  refine leaves_cons (f := 159) (args := #[]) (by simp) (by simp [go_sem]) ?_
  refine (catch_idle _).mono ?_
  rintro e u' w'' ⟨rfl, rfl, rfl⟩
  have hb := LB.out (.int .i64 0 : Value) (.bool false)
  simp [Leaves, settle, results, Tryd.results156, go_sem]
  first
    | exact hb
    | exact hb.drew
theorem meet_sum (g : Nat) (a : Int) (b : Int × Bool) (w : World) (hj : w.cell? ⟨g, 1, none⟩ = some jv) (hJ : JW w) (h : wt a + wt b.1 ≤ 1000000) :
    Calls Tryd.prog 156 #[.pointer (some ⟨g, 0, none⟩), .agg #[Value.int .i64 a, .bool true], .agg #[Value.int .i64 b.1, .bool b.2]] w fun e w' => e = .returned (.agg #[Value.int .i64 (mt a b).1, .bool (mt a b).2]) ∧ Below w.heap.size w w' := by
  obtain ⟨b, ok⟩ := b
  cases ok
  · exact meet_idle g a b w hj
  · exact meet_any g a b w hj hJ h

/-- What comes in a round: an index and a value that is not too great. -/
abbrev Rd : Type := { x : Nat × Int // wt x.2 ≤ 10000 }
def encs (x : Rd) : Array Value := #[.int .i64 (x.1.1 : Int), Value.int .i64 x.1.2]
theorem wt_at {zs : List Int} (h : ∀ z ∈ zs, wt z ≤ 10000) (m : Nat) : wt (zs[m]?.getD (0 : Int)) ≤ 10000 := by
  by_cases hm : m < zs.length
  · rw [List.getElem?_eq_getElem hm]
    exact h _ (List.getElem_mem hm)
  · rw [List.getElem?_eq_none (by omega)]
    show wt (0 : Int) ≤ 10000
    rw [wt_z]
    omega
def mk (zs : List Int) (h : ∀ z ∈ zs, wt z ≤ 10000) (m : Nat) : Rd := ⟨(m, zs[m]?.getD (0 : Int)), wt_at h m⟩
def seen (zs : List Int) (h : ∀ z ∈ zs, wt z ≤ 10000) (m : Nat) : List Rd := (List.range (zs.length - m)).map fun j => mk zs h (zs.length - 1 - j)
theorem seen_dn (zs : List Int) (h : ∀ z ∈ zs, wt z ≤ 10000) (m : Nat) : (seen zs h m).map Subtype.val = dn zs m := by simp [seen, dn, mk]
theorem back_stops (F : Fence) (n : Nat) (hf : F.fn 160) (hro : F.round = none) (hn : 1 ≤ n) (Bs : Nat) (S : Nat → Prop) (A : Option Addr) (cap : Nat) (zs : List Int) (hlen : zs.length ≤ 1000) (hw : ∀ z ∈ zs, wt z ≤ 10000) (w : World)
    (hBs : w.cell? ⟨Bs, 0, none⟩ = some (.slice A zs.length cap)) (hS : S Bs) (hA : Seq S w A (zs.map (Value.int .i64))) :
    SeqStopsK F n Tryd.prog 160 #[.pointer (some ⟨Bs, 0, none⟩)] encs (KeepB S) (fun ys => ys = seen zs hw 0) (fun _ => True) zs.length w := fun l J Jx W hW _ _ hY h0 => by
  refine back1_in F n hf hro hn l Bs S A cap zs hlen (mk zs hw) encs (fun m _ => rfl) (seen zs hw) (by simp [seen]) ?_ (fun m => by simp [seen]) J Jx hY W ?_ hS ?_ ?_ h0
  · intro m hm
    unfold seen
    rw [show zs.length - m = (zs.length - (m + 1)) + 1 by omega, List.range_succ, List.map_append]
    simp only [List.map_cons, List.map_nil]
    rw [show zs.length - 1 - (zs.length - (m + 1)) = m by omega]
  · exact (hW.cell (p := ⟨Bs, 0, none⟩) (World.block_lt_of_cell? w _ hBs)).trans hBs
  · intro g o e hp
    obtain ⟨g', o', e', hg, _⟩ := hA (by simpa using hp)
    rw [e] at e'
    cases e'
    exact hg
  · intro hp
    obtain ⟨g, o, e, hg, hl, hc⟩ := hA (by simpa using hp)
    refine ⟨g, o, e, fun j hj => ?_⟩
    refine (hW.cell (p := ⟨g, o + j, none⟩) hl).trans (hc j _ ?_)
    rw [List.getElem?_map, List.getElem?_eq_getElem hj]
    rfl
end Go.Proofs.YtfamgaakcbinkaaDoor.Twc
