/-
  Layer 17, token: Lex. Condition: the two tables of unicode/utf8 hold what their text lays.
-/
import Derived.Test.YtdhpplbopciijaaDoorTkAll
import Derived.Defers
import Derived.Recover
set_option maxRecDepth 100000
namespace Go.Proofs.YtdhpplbopciijaaDoor.Tk
open Go.Proofs.YtdhpplbopciijaaDoor.Sh Go.Proofs.YtdhpplbopciijaaDoor.St
open Go.RowKit
set_option linter.unusedVariables false

def faultV (e0 p : Nat) : Value := .agg #[.int .i64 (e0 : Int), .int .i64 (p : Int)]
theorem as_fault (W : World) (v : Value) : (Instr.typeAssert (.iface 25 v) 20 25 true).run Tryd.prog W = .ok (.tuple #[v, .bool true]) W := by kernel_rfl
theorem catch_idle (p q : Addr) (w : World) :
    CallsD Tryd.prog 10 #[.pointer (some p), .pointer (some q)] .returning w fun e u' w' =>
      e = .returned (.tuple #[]) ∧ u' = .returning ∧ w' = w := by
  refine callsD_of_wpS Tryd.func10 rfl fun c₀ cs hu => ?_
  apply wpS_seq
  apply wpS_region
  simp [wpOpsS, go_sem, recoverD, hu, Tryd.ntmps10, Exit.thenS]
  refine wpS_of_wp ?_
  go_wp2
  refine ⟨rfl, .returning, by cases c₀; simp_all, .tuple #[], by simp [results, Tryd.results10, go_sem], rfl, rfl, rfl⟩
set_option maxHeartbeats 4000000 in
theorem catch_fault (B tb fb e0 q : Nat) (older : List PanicEntry) (V x y : Value) (w : World) (B1 : Bk 22 w tb [V]) (B2 : Bk 25 w fb [x, y]) (n1 : ¬ tb = fb) (n2 : ¬ fb = tb) (o1 : B ≤ tb) (o2 : B ≤ fb) :
    CallsD Tryd.prog 10 #[.pointer (some ⟨tb, 0, none⟩), .pointer (some ⟨fb, 0, none⟩)] (.panicking ({ v := .iface 25 (.agg #[.int .i64 (e0 : Int), .int .i64 (q : Int)]), recovered := false } :: older)) w fun e u' w' =>
      e = .returned (.tuple #[]) ∧ u' = .panicking ({ v := .iface 25 (.agg #[.int .i64 (e0 : Int), .int .i64 (q : Int)]), recovered := true } :: older) ∧ Bk 22 w' tb [.slice none 0 0] ∧ Bk 25 w' fb [.int .i64 (e0 : Int), .int .i64 (q : Int)] ∧ Below B w w' := by
  refine callsD_of_wpS Tryd.func10 rfl fun c₀ cs hu => ?_
  have hrep : (Array.replicate 10 undef : Array Value) = #[undef, undef, undef, undef, undef, undef, undef, undef, undef, undef] := rfl
  apply wpS_seq
  apply wpS_region
  simp [wpOpsS, go_sem, recoverD, hu, Tryd.ntmps10, Exit.thenS, hrep]
  refine wpS_of_wp ?_
  have m1 : ¬ tb = w.heap.size := by have := B1.lt; omega
  have m2 : ¬ w.heap.size = tb := fun e => m1 e.symm
  have m3 : ¬ fb = w.heap.size := by have := B2.lt; omega
  have m4 : ¬ w.heap.size = fb := fun e => m3 e.symm
  have hta := fun W => as_fault W (.agg #[.int .i64 (e0 : Int), .int .i64 (q : Int)])
  have W1 := Lib.hid (B1.alloc (.cells #[.int .i64 (e0 : Int), .int .i64 (q : Int)] 25))
  have W2 := Lib.hid (B2.alloc (.cells #[.int .i64 (e0 : Int), .int .i64 (q : Int)] 25))
  have W3 := Lib.hid (Bk.new 25 w [.int .i64 (e0 : Int), .int .i64 (q : Int)])
  have k1 := W1.out.c 0
  have k2 := W2.out.c 0
  have k3 := W2.out.c 1
  have k4 := W3.out.c 0
  have k5 := W3.out.c 1
  have f1 := W1.out.f 0
  have f2 := W2.out.f 0
  have f3 := W2.out.f 1
  simp only [List.getElem?_cons_zero, List.getElem?_cons_succ] at k1 k2 k3 k4 k5
  have BL : B ≤ w.heap.size := Nat.le_trans o1 (Nat.le_of_lt B1.lt)
  clear B1 B2
  go_wp2
  go_region
  all_goals
    go_wp2
    refine ⟨rfl, _, rfl, .tuple #[], by simp [results, Tryd.results10, go_sem], rfl, rfl, ?_, ?_, ?_⟩
    · exact (((W1.out.set_ 0 (.slice none 0 0)).far (p := ⟨fb, 0, none⟩) n1 _).far (p := ⟨fb, 1, none⟩) n1 _)
    · exact (((W2.out.far (p := ⟨tb, 0, none⟩) n2 _).set_ 0 _).set_ 1 _)
    · exact (((((Below.refl B w).alloc BL _).setCell (p := ⟨tb, 0, none⟩) o1 _).setCell (p := ⟨fb, 0, none⟩) o2 _).setCell (p := ⟨fb, 1, none⟩) o2 _).drew
theorem own_low {w : World} {base base' : Nat} {e : TypeId} {size : Nat} {v : Value} {n : Nat} {xs : List Value} (h : w.ownsRow base e size v n xs) (hb : base' ≤ base) : w.ownsRow base' e size v n xs := by
  obtain ⟨h1, h2⟩ := h
  refine ⟨h1, ?_⟩
  rcases h2 with h2 | ⟨g, cap, cur, hv, hg, r⟩
  · exact .inl h2
  · exact .inr ⟨g, cap, cur, hv, Nat.le_trans hb hg, r⟩
/-- What Lex answers. -/
def RetX (s : ByteArray) (w : World) (e : Ending) (w' : World) : Prop := ∃ R, LexIs s.data.toList R ∧ match R with
  | .inl ts => ∃ V' qs', e = .returned (.tuple #[V', .agg #[.int .i64 0, .int .i64 0]]) ∧ Live w.heap.size w' V' qs' ∧ qs'.map Prod.fst = ts ∧ OkT ts ∧ Below w.heap.size w w'
  | .inr (e0, p) => e = .returned (.tuple #[.slice none 0 0, .agg #[.int .i64 (e0 : Int), .int .i64 (p : Int)]]) ∧ Below w.heap.size w w'
set_option maxHeartbeats 4000000 in
theorem lex_any (s : ByteArray) (w : World) (hs : s.size ≤ maxLen) (hT : Gl.Tabs w) : Calls Tryd.prog 4 #[.string s] w (RetX s w) := by
  have hmf : ∀ (fn : Fn) (first cap : Array Value) (w : World), (Instr.makeFunc fn first cap).run Tryd.prog w = .ok (.func fn first cap) w := fun _ _ _ _ => rfl
  have e1 : (w.alloc (.cells #[.slice none 0 0] 22)).heap.size = w.heap.size + 1 := by simp
  have e2 : ((w.alloc (.cells #[.slice none 0 0] 22)).alloc (.cells #[.int .i64 0, .int .i64 0] 25)).heap.size = w.heap.size + 1 + 1 := by simp
  have BR : Bk 33 (((w.alloc (.cells #[.slice none 0 0] 22)).alloc (.cells #[.int .i64 0, .int .i64 0] 25)).alloc (.cells #[.string s, .int .i64 0, .slice none 0 0] 33)) (w.heap.size + 1 + 1) [.string s, .int .i64 0, .slice none 0 0] := by
    have h := Bk.new 33 ((w.alloc (.cells #[.slice none 0 0] 22)).alloc (.cells #[.int .i64 0, .int .i64 0] 25)) [.string s, .int .i64 0, .slice none 0 0]
    rwa [e2] at h
  have BF : Bk 25 (((w.alloc (.cells #[.slice none 0 0] 22)).alloc (.cells #[.int .i64 0, .int .i64 0] 25)).alloc (.cells #[.string s, .int .i64 0, .slice none 0 0] 33)) (w.heap.size + 1) [.int .i64 0, .int .i64 0] := by
    have h := (Bk.new 25 (w.alloc (.cells #[.slice none 0 0] 22)) [.int .i64 0, .int .i64 0]).alloc (.cells #[.string s, .int .i64 0, .slice none 0 0] 33)
    rwa [e1] at h
  have BT : Bk 22 (((w.alloc (.cells #[.slice none 0 0] 22)).alloc (.cells #[.int .i64 0, .int .i64 0] 25)).alloc (.cells #[.string s, .int .i64 0, .slice none 0 0] 33)) w.heap.size [.slice none 0 0] :=
    ((Bk.new 22 w [.slice none 0 0]).alloc _).alloc _
  have LB : Below w.heap.size w (((w.alloc (.cells #[.slice none 0 0] 22)).alloc (.cells #[.int .i64 0, .int .i64 0] 25)).alloc (.cells #[.string s, .int .i64 0, .slice none 0 0] 33)) :=
    (((Below.refl _ w).alloc (Nat.le_refl _) _).alloc (by rw [e1]; omega) _).alloc (by rw [e2]; omega) _
  have HLB := Lib.hid LB
  have HBT := Lib.hid BT
  have HBF := Lib.hid BF
  have HA := Lib.hid (all_any _ (w.heap.size + 1 + 1) s ⟨BR, Live.nil' _ _, fun ps q e => by simp at e⟩ hs (fun W hb => hT.below (LB.trans (hb.mono (by omega)))))
  clear BR BF BT LB e1 e2 hs hT
  go_enter_defers Tryd.func4, Tryd.ntmps4
  go_wp2_with fail
  refine (HA.out).mono ?_
  generalize (((w.alloc (.cells #[.slice none 0 0] 22)).alloc (.cells #[.int .i64 0, .int .i64 0] 25)).alloc (.cells #[.string s, .int .i64 0, .slice none 0 0] 33)) = w3 at *
  rintro e w4 ⟨R, hR, h⟩
  cases R with
  | inl ts =>
    obtain ⟨b, V', qs', rfl, d, hm, hok, hb⟩ := h
    obtain ⟨A', c', rfl, -⟩ := d.2.1.view
    have BT4 : Bk 22 w4 w.heap.size [.slice none 0 0] := (hb.block _ (by omega)).trans HBT.out
    have BF4 : Bk 25 w4 (w.heap.size + 1) [.int .i64 0, .int .i64 0] := (hb.block _ (by omega)).trans HBF.out
    have HB := Lib.hid (HLB.out.trans (hb.mono (by omega)))
    obtain ⟨-, -, c2⟩ := d.all
    have HD := Lib.hid d
    have HM := Lib.hid hm
    have HK := Lib.hid hok
    have HR := Lib.hid hR
    have k1 := BT4.c 0
    have k2 := BF4.c 0
    have k3 := BF4.c 1
    have f1 := BT4.f 0
    have f2 := BF4.f 0
    have f3 := BF4.f 1
    have D1 := Lib.hid BT4
    have D2 := Lib.hid BF4
    simp only [List.getElem?_cons_zero, List.getElem?_cons_succ] at k1 k2 k3
    clear BT4 BF4 d hm hok hb hR
    have n1 : ¬ w.heap.size = w.heap.size + 1 := by omega
    have n2 : ¬ w.heap.size + 1 = w.heap.size := by omega
    go_wp2
    have X1 := ((D1.out.set_ 0 (.slice A' qs'.length c')).far (p := ⟨w.heap.size + 1, 0, none⟩) n1 (.int .i64 0)).far (p := ⟨w.heap.size + 1, 1, none⟩) n1 (.int .i64 0)
    have X2 := ((D2.out.far (p := ⟨w.heap.size, 0, none⟩) n2 (.slice A' qs'.length c')).set_ 0 (.int .i64 0)).set_ 1 (.int .i64 0)
    have XL : Live w.heap.size (((w4.setCell ⟨w.heap.size, 0, none⟩ (.slice A' qs'.length c')).setCell ⟨w.heap.size + 1, 0, none⟩ (.int .i64 0)).setCell ⟨w.heap.size + 1, 1, none⟩ (.int .i64 0)) (.slice A' qs'.length c') qs' := by
      have far : ∀ (W : World) (b i : Nat) (u : Value), b ≤ w.heap.size + 1 → Live (w.heap.size + 1 + 1 + 1) W (.slice A' qs'.length c') qs' → Live (w.heap.size + 1 + 1 + 1) (W.setCell ⟨b, i, none⟩ u) (.slice A' qs'.length c') qs' := fun W b i u hb h =>
        ⟨ownsRow_setCell_below (a := ⟨b, i, none⟩) h.1 (by show b < _; omega) u, fun q hq => ownsRow_setCell_below (a := ⟨b, i, none⟩) (h.2 q hq) (by show b < _; omega) u⟩
      have h := far _ (w.heap.size + 1) 1 (.int .i64 0) (Nat.le_refl _) (far _ (w.heap.size + 1) 0 (.int .i64 0) (Nat.le_refl _) (far w4 w.heap.size 0 (.slice A' qs'.length c') (by omega) HD.out.2.1))
      exact ⟨own_low h.1 (by omega), fun q hq => own_low (h.2 q hq) (by omega)⟩
    have XB := (((HB.out).setCell (p := ⟨w.heap.size, 0, none⟩) (Nat.le_refl _) (.slice A' qs'.length c')).setCell (p := ⟨w.heap.size + 1, 0, none⟩) (Nat.le_succ _) (.int .i64 0)).setCell (p := ⟨w.heap.size + 1, 1, none⟩) (Nat.le_succ _) (.int .i64 0)
    clear k1 k2 k3 f1 f2 f3 c2
    generalize ((w4.setCell ⟨w.heap.size, 0, none⟩ (.slice A' qs'.length c')).setCell ⟨w.heap.size + 1, 0, none⟩ (.int .i64 0)).setCell ⟨w.heap.size + 1, 1, none⟩ (.int .i64 0) = w5 at *
    have k1 := X1.c 0
    have k2 := X2.c 0
    have k3 := X2.c 1
    simp only [List.set_cons_zero, List.set_cons_succ, List.getElem?_cons_zero, List.getElem?_cons_succ] at k1 k2 k3
    refine leaves_cons (f := 10) (args := #[.pointer (some ⟨w.heap.size, 0, none⟩), .pointer (some ⟨w.heap.size + 1, 0, none⟩)]) (by simp) (by simp [go_sem]) ?_
    refine (catch_idle ⟨w.heap.size, 0, none⟩ ⟨w.heap.size + 1, 0, none⟩ _).mono ?_
    rintro e u' w6 ⟨rfl, rfl, rfl⟩
    simp [Leaves, settle, results, Tryd.results4, go_sem, k1, k2, k3]
    exact ⟨.inl ts, HR.out, _, qs', rfl, XL, HM.out, HK.out, XB⟩
  | inr ep =>
    obtain ⟨e0, p⟩ := ep
    obtain ⟨rfl, hb⟩ := h
    have D1 : Hid (Bk 22 w4 w.heap.size [.slice none 0 0]) := Lib.hid ((hb.block _ (by omega)).trans HBT.out)
    have D2 : Hid (Bk 25 w4 (w.heap.size + 1) [.int .i64 0, .int .i64 0]) := Lib.hid ((hb.block _ (by omega)).trans HBF.out)
    have HB := Lib.hid (HLB.out.trans (hb.mono (by omega)))
    have HR := Lib.hid hR
    clear hb hR
    go_wp2
    refine leaves_cons (f := 10) (args := #[.pointer (some ⟨w.heap.size, 0, none⟩), .pointer (some ⟨w.heap.size + 1, 0, none⟩)]) (by simp) (by simp [go_sem]) ?_
    refine (catch_fault w.heap.size w.heap.size (w.heap.size + 1) e0 p [] _ _ _ _ D1.out D2.out (by omega) (by omega) (Nat.le_refl _) (by omega)).mono ?_
    rintro e u' w5 ⟨rfl, rfl, h1, h2, h3⟩
    have k1 := h1.c 0
    have k2 := h2.c 0
    have k3 := h2.c 1
    simp only [List.getElem?_cons_zero, List.getElem?_cons_succ] at k1 k2 k3
    simp [Leaves, settle, results, Tryd.results4, go_sem, k1, k2, k3]
    exact ⟨.inr (e0, p), HR.out, rfl, HB.out.trans h3⟩
end Go.Proofs.YtdhpplbopciijaaDoor.Tk
