/-
  What the rounds of (*twin.Agg[string]).turn come to, value by value, whatever comes; what they come to where the back stack's values come; and (*twin.Agg[string]).meet where the second sum is not there. Conditions: as told in each.
-/
import Derived.Test.YtogbemdoimhndaaTwsBk
set_option maxRecDepth 100000
namespace Go.Proofs.Ytogbemdoimhndaa.Tws
open Go.Proofs.Ytogbemdoimhndaa.Sh Go.Proofs.Ytogbemdoimhndaa.St
open Go.RowKit
set_option linter.unusedVariables false

/-- Two sums joined, the first one being there. -/
def mt (a : ByteArray) (b : ByteArray × Bool) : ByteArray × Bool := if b.2 = true then (jn a b.1, true) else ((⟨#[]⟩ : ByteArray), false)
theorem wt_z : wt (⟨#[]⟩ : ByteArray) = 0 := rfl
theorem wt_jn (a b : ByteArray) : wt (jn a b) ≤ wt a + wt b := by
  unfold wt jn
  rw [ByteArray.size_append]
  exact Nat.le_refl _
theorem wt_mt (a : ByteArray) (b : ByteArray × Bool) : wt (mt a b).1 ≤ wt a + wt b.1 := by
  unfold mt
  split
  · exact wt_jn _ _
  · rw [wt_z]; omega
/-- A round: what is there, and what is laid on the stack. -/
def hr (len : Nat) (r : ByteArray × Bool) (x : Nat × ByteArray) : ByteArray × Bool := if decide ((x.1 : Int) < (len : Int) - 1) = true then mt x.2 r else (x.2, true)
def stp (len : Nat) (st : List (ByteArray × Bool) × (ByteArray × Bool)) (x : Nat × ByteArray) : List (ByteArray × Bool) × (ByteArray × Bool) := (st.1 ++ [hr len st.2 x], hr len st.2 x)
def fld (len : Nat) (pre : List (Nat × ByteArray)) : List (ByteArray × Bool) × (ByteArray × Bool) := pre.foldl (stp len) ([], ((⟨#[]⟩ : ByteArray), false))
theorem fld_snoc (len : Nat) (pre : List (Nat × ByteArray)) (x : Nat × ByteArray) : fld len (pre ++ [x]) = stp len (fld len pre) x := by simp [fld]
theorem wt_hr (len : Nat) (r : ByteArray × Bool) (x : Nat × ByteArray) : wt (hr len r x).1 ≤ wt x.2 + wt r.1 := by
  unfold hr
  split
  · exact wt_mt _ _
  · exact Nat.le_add_right _ _
/-- Sums, there or not, as cells. -/
def flat2 (ss : List (ByteArray × Bool)) : List Value := ss.flatMap fun s => [Value.string s.1, .bool s.2]
theorem flat2_app (a b : List (ByteArray × Bool)) : flat2 (a ++ b) = flat2 a ++ flat2 b := by simp [flat2]
theorem flat2_flat (ss : List ByteArray) : flat2 (ss.map fun s => (s, true)) = flat ss := by simp [flat2, flat, List.flatMap_map]
theorem fld_dn (zs : List ByteArray) : ∀ k m, m + k = zs.length → fld zs.length (dn zs m) = ((sums (zs.drop m)).map (fun s => (s, true)), if k = 0 then ((⟨#[]⟩ : ByteArray), false) else (jl (zs.drop m), true))
  | 0, m, h => by
    obtain rfl : m = zs.length := by omega
    rw [dn_all, List.drop_length]
    rfl
  | k + 1, m, h => by
    have hm : m < zs.length := by omega
    have hd : zs.drop m = (zs[m]?.getD (⟨#[]⟩ : ByteArray)) :: zs.drop (m + 1) := by
      rw [List.getElem?_eq_getElem hm]
      exact List.drop_eq_getElem_cons hm
    rw [dn_step zs m hm, fld_snoc, fld_dn zs k (m + 1) (by omega)]
    generalize zs[m]?.getD (⟨#[]⟩ : ByteArray) = v at *
    have e : hr zs.length (if k = 0 then ((⟨#[]⟩ : ByteArray), false) else (jl (zs.drop (m + 1)), true)) (m, v) = (jl (zs.drop m), true) := by
      unfold hr
      by_cases hk : k = 0
      · subst hk
        rw [if_neg (by simp; omega), hd, show zs.drop (m + 1) = [] from List.drop_eq_nil_of_le (by omega)]
        rfl
      · rw [if_pos (decide_eq_true (show (m : Int) < (zs.length : Int) - 1 by omega)), if_neg hk]
        show (jn v (jl (zs.drop (m + 1))), true) = _
        rw [hd, jl_cons v (by simp; omega)]
    unfold stp
    rw [e, if_neg (Nat.succ_ne_zero k)]
    simp only [hd, sums, List.map_append, List.map_cons, List.map_nil]
set_option maxHeartbeats 2000000 in
theorem meet_idle (g : Nat) (a b : ByteArray) (w : World) (hj : w.cell? ⟨g, 1, none⟩ = some jv) :
    Calls Try.prog 38 #[.pointer (some ⟨g, 0, none⟩), .agg #[Value.string a, .bool true], .agg #[Value.string b, .bool false]] w fun e w' => e = .returned (.agg #[(.string ⟨#[]⟩ : Value), .bool false]) ∧ Below w.heap.size w w' := by
  have LB : ∀ x y : Value, Below w.heap.size w (((w.alloc (.cells #[Value.string a, .bool true] 69)).alloc (.cells #[Value.string b, .bool false] 69)).alloc (.cells #[x, y] 69)) := fun x y => below_next (below_next (below_new w _) (below_new _ _)) (below_new _ _)
  have LB := Lib.hid LB
  clear hj
  go_enter_defers Try.func38, Try.ntmps38
  go_wp2
  refine leaves_cons (f := 52) (args := #[]) (by simp) (by simp [go_sem]) ?_
  refine (catch_idle _).mono ?_
  rintro e u' w'' ⟨rfl, rfl, rfl⟩
  have hb := LB.out (.string ⟨#[]⟩ : Value) (.bool false)
  simp [Leaves, settle, results, Try.results38, go_sem]
  first
    | exact hb
    | exact hb.drew
theorem meet_sum (g : Nat) (a : ByteArray) (b : ByteArray × Bool) (w : World) (hj : w.cell? ⟨g, 1, none⟩ = some jv) (h : wt a + wt b.1 ≤ 1000000) :
    Calls Try.prog 38 #[.pointer (some ⟨g, 0, none⟩), .agg #[Value.string a, .bool true], .agg #[Value.string b.1, .bool b.2]] w fun e w' => e = .returned (.agg #[Value.string (mt a b).1, .bool (mt a b).2]) ∧ Below w.heap.size w w' := by
  obtain ⟨b, ok⟩ := b
  cases ok
  · exact meet_idle g a b w hj
  · exact meet_any g a b w hj h

/-- What comes in a round: an index and a value that is not too great. -/
abbrev Rd : Type := { x : Nat × ByteArray // wt x.2 ≤ 10000 }
def encs (x : Rd) : Array Value := #[.int .i64 (x.1.1 : Int), Value.string x.1.2]
theorem wt_at {zs : List ByteArray} (h : ∀ z ∈ zs, wt z ≤ 10000) (m : Nat) : wt (zs[m]?.getD (⟨#[]⟩ : ByteArray)) ≤ 10000 := by
  by_cases hm : m < zs.length
  · rw [List.getElem?_eq_getElem hm]
    exact h _ (List.getElem_mem hm)
  · rw [List.getElem?_eq_none (by omega)]
    show wt (⟨#[]⟩ : ByteArray) ≤ 10000
    rw [wt_z]
    omega
def mk (zs : List ByteArray) (h : ∀ z ∈ zs, wt z ≤ 10000) (m : Nat) : Rd := ⟨(m, zs[m]?.getD (⟨#[]⟩ : ByteArray)), wt_at h m⟩
def seen (zs : List ByteArray) (h : ∀ z ∈ zs, wt z ≤ 10000) (m : Nat) : List Rd := (List.range (zs.length - m)).map fun j => mk zs h (zs.length - 1 - j)
theorem seen_dn (zs : List ByteArray) (h : ∀ z ∈ zs, wt z ≤ 10000) (m : Nat) : (seen zs h m).map Subtype.val = dn zs m := by simp [seen, dn, mk]
theorem back_stops (F : Fence) (n : Nat) (hf : F.fn 58) (hro : F.round = none) (hn : 1 ≤ n) (Bs : Nat) (S : Nat → Prop) (A : Option Addr) (cap : Nat) (zs : List ByteArray) (hlen : zs.length ≤ 1000) (hw : ∀ z ∈ zs, wt z ≤ 10000) (w : World)
    (hBs : w.cell? ⟨Bs, 0, none⟩ = some (.slice A zs.length cap)) (hS : S Bs) (hA : Seq S w A (zs.map (Value.string))) :
    SeqStopsK F n Try.prog 58 #[.pointer (some ⟨Bs, 0, none⟩)] encs (KeepB S) (fun ys => ys = seen zs hw 0) (fun _ => True) zs.length w := fun l J Jx W hW _ _ hY h0 => by
  refine back1_in F n hf hro hn l Bs S A cap zs hlen (mk zs hw) encs (fun m _ => rfl) (seen zs hw) (by simp [seen]) ?_ (fun m => by simp [seen]) J Jx hY W ?_ hS ?_ ?_ h0
  · intro m hm
    unfold seen
    rw [show zs.length - m = (zs.length - (m + 1)) + 1 by omega, List.range_succ, List.map_append]
    simp only [List.map_cons, List.map_nil]
    rw [show zs.length - 1 - (zs.length - (m + 1)) = m by omega]
  · exact (hW.cell (p := ⟨Bs, 0, none⟩) (World.block_lt_of_cell? w _ hBs)).trans hBs
  · intro g o e hp
    obtain ⟨g', o', e', hg, _⟩ := hA (by simpa using hp)
    rw [e] at e'
    cases e'
    exact hg
  · intro hp
    obtain ⟨g, o, e, hg, hl, hc⟩ := hA (by simpa using hp)
    refine ⟨g, o, e, fun j hj => ?_⟩
    refine (hW.cell (p := ⟨g, o + j, none⟩) hl).trans (hc j _ ?_)
    rw [List.getElem?_map, List.getElem?_eq_getElem hj]
    rfl
end Go.Proofs.Ytogbemdoimhndaa.Tws
