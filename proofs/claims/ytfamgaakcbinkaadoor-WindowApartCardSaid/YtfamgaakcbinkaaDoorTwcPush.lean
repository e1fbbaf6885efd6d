/-
  What (*twin.Agg[int64]).Push does to a window, and what it answers. Conditions: as told in each.
-/
import Derived.Test.YtfamgaakcbinkaaDoorTwcObj
import Derived.Deep.RegionHeld3
import Derived.Deep.RegionLaw
namespace Go.Proofs.YtfamgaakcbinkaaDoor.Twc
open Go.Proofs.YtfamgaakcbinkaaDoor.Sh Go.Proofs.YtfamgaakcbinkaaDoor.St
open Go.RowKit
set_option linter.unusedVariables false
set_option linter.unusedSectionVars false
variable [J : Jc]

theorem step_appS {t e : TypeId} {z : Value} {size bytes : Nat} (hinf : (Tryd.prog.info? e).map (fun i => (i.zero, i.size, i.bytes)) = some (some z, size, bytes)) (hzs : z.cells.size = size) (hsz : 0 < size) (hby : bytes ≤ 64) (ht : Tryd.prog.underlying t = some (.slice e)) {w : World} {ops : Array Oper} {o : Oper} {a : Act} {K : Act → World → Prop} {Q : Exit → Act → World → Prop} {E : Prop} (hgd : o.guard = none) (s x : Operand)
    (ho : o.op = .call { callee := .builtin .append, args := #[s, x], argTypes := #[t, t] })
    (base : Nat) (v : Value) (n : Nat) (xs : List Value) (hs : a.eval s = v) (hown : w.ownsRow base e size v n xs) (S : Nat → Prop) (A : Option Addr) (m c : Nat) (news : List Value) (hx : a.eval x = .slice A m c) (hm : news.length = m * size) (hi : Seq S w A news)
    (h1 : ∀ u ∈ news, u.oneCell' = true) (hlen : n + m ≤ 100000) (hbase : base ≤ w.heap.size)
    (h : ∀ v' w', w'.ownsRow base e size v' (n + m) (xs ++ news) → w.grownBy w' v.ownBlock → (v'.ownBlock = v.ownBlock ∨ v'.ownBlock = some w.heap.size) → K (a.put o.dst v') w') :
    if Region.wanted o (yielded ops a.tmps) = true then Oper.wp Tryd.prog o a w K Q else E := by
  have hw : Region.wanted o (yielded ops a.tmps) = true := by simp [Region.wanted, hgd]
  rw [if_pos hw]
  exact wp_appS hinf hzs hsz hby ht s x ho base v n xs hs hown S A m c news hx hm hi h1 hlen hbase h
theorem grown_drew {w w' : World} {row : Option Nat} (h : w.drew.grownBy w' row) : w.grownBy w' row := ⟨h.os, h.tape, h.output, h.size, h.block⟩
theorem seq_new (t : TypeId) (w : World) (xs : List Value) : Seq (fun _ => True) (w.alloc (.cells xs.toArray t)) (some ⟨w.heap.size, 0, none⟩) xs := fun _ => ⟨w.heap.size, 0, rfl, trivial, by simp, fun j x hx => by
  rw [Nat.zero_add]; exact (Bk.c (Bk.new t w xs) j).trans hx⟩
theorem one_ev (x : Int) : ∀ u ∈ [(Value.int .i64 x : Value)], u.oneCell' = true := by intro u hu; simp at hu; subst hu; rfl
theorem push_nil (x : Int) (w : World) : Calls Tryd.prog 154 #[.pointer none, Value.int .i64 x] w fun e w' => e = .returned (.int .i64 1) ∧ w = w' := by
  go_enter Tryd.func154, Tryd.ntmps154
  go_wp2
  go_ret
  exact ⟨rfl, rfl⟩
set_option maxHeartbeats 2000000 in
theorem push_full (base g m : Nat) (FV BV tv : Value) (tb : Bool) (fs bs : List Int) (x : Int) (w : World) (r : Tw base w g m FV BV fs bs tv tb) (hl : fs.length + bs.length = m) (hm : m ≤ 64) :
    Calls Tryd.prog 154 #[.pointer (some ⟨g, 0, none⟩), Value.int .i64 x] w fun e w' => e = .returned (.int .i64 19) ∧ Below w.heap.size w w' := by
  have LN := Lib.hid (fun W (h : Below w.heap.size w W) => len_any base g m FV BV tv tb fs bs W (r.next h) (by omega))
  rw [hl] at LN
  obtain ⟨c0, -, -, -, -, -⟩ := r.all
  clear r hl hm
  go_enter Tryd.func154, Tryd.ntmps154
  go_wp2_with fail
  go_region_with (go_at_call 155; (with_reducible refine (LN.out _ (Below.refl _ _).drew).mono ?_); rintro r w5 ⟨rfl, n5, rfl⟩)
  all_goals
    go_wp2
    go_ret
    exact ⟨rfl, Sh.below_drewN (Below.refl _ _) _⟩
/-- What a push leaves. -/
def RetPush (base g m : Nat) (FV BV : Value) (fs bs : List Int) (w : World) (e : Ending) (w' : World) : Prop := ∃ BV' tv tb, e = .returned (.int .i64 0) ∧ Tw base w' g m FV BV' fs bs tv tb ∧ Turn (Tt g FV BV) w w' ∧ Fresh w BV BV'
theorem push_end {base g m : Nat} {FV BV BV' tv : Value} {tb : Bool} {fs bs : List Int} {x y : Int} {w w7 w9 : World} {o : Obj} (r : Tw base w7 g m FV BV fs bs tv tb) (hb : Below w.heap.size w w7)
    (hv : w9.ownsRow base 2 1 BV' (bs.length + 1) (bs.map (Value.int .i64) ++ [Value.int .i64 x])) (hg : (w7.alloc o).grownBy w9 BV.ownBlock) (ha : BV'.ownBlock = BV.ownBlock ∨ BV'.ownBlock = some (w7.heap.size + 1)) (hy : jl (bs ++ [x]) = y) :
    RetPush base g m FV BV fs (bs ++ [x]) w (.returned (.int .i64 0)) (((w9.setCell ⟨g, 3, none⟩ BV').setCell ⟨g, 4, none⟩ (Value.int .i64 y)).setCell ⟨g, 5, none⟩ (.bool true)) := by
  have t9 : Turn (fun b => BV.ownBlock = some b) w7 w9 := (Turn.of_below _ (below_new w7 o)).trans (Turn.of_grown hg fun g e => e)
  have hG : ¬ BV.ownBlock = some g := fun e => own_bk_ne (t := 161) r.2.2.1 r.1 (by decide) e.symm
  have b9 := r.1.turn t9 hG
  have f9 := own_turn r.2.1 t9 fun b hF hB => by
    rcases own_apart r.2.1 r.2.2.1 (by decide) with e | e
    · rw [e] at hF; cases hF
    · exact e (hF.trans hB.symm)
  have ts : Turn (fun b => b = g) w9 (((w9.setCell ⟨g, 3, none⟩ BV').setCell ⟨g, 4, none⟩ (Value.int .i64 y)).setCell ⟨g, 5, none⟩ (.bool true)) :=
    Turn.setCell (p := ⟨g, 5, none⟩) (Turn.setCell (p := ⟨g, 4, none⟩) (Turn.setCell (p := ⟨g, 3, none⟩) (Turn.refl (fun b => b = g) w9) (.inl rfl) _) (.inl rfl) _) (.inl rfl) _
  have hB := Bk.set_ (Bk.set_ (Bk.set_ b9 3 BV') 4 (Value.int .i64 y)) 5 (.bool true)
  refine ⟨BV', Value.int .i64 y, true, rfl, ⟨hB, own_turn f9 ts fun b hF e => own_bk_ne (t := 161) f9 b9 (by decide) (by rw [hF, e]), ?_, r.2.2.2.1, fun _ => ⟨by rw [hy], rfl⟩⟩, ?_, fun k hk => ?_⟩
  · have h2 := own_turn hv ts fun b hF e => own_bk_ne (t := 161) hv b9 (by decide) (by rw [hF, e])
    rw [List.length_append, List.map_append]
    exact h2
  · exact ((Turn.of_below _ hb).trans (t9.mono fun b h => .inr (.inr h))).trans (ts.mono fun b h => .inl h)
  · rcases ha with e | e
    · rw [e] at hk; exact .inl hk
    · rw [e] at hk
      injection hk with hk
      have := hb.size
      exact .inr (by omega)
set_option maxHeartbeats 4000000 in
theorem push_first (base g m : Nat) (FV BV tv : Value) (tb : Bool) (fs : List Int) (x : Int) (w : World) (r : Tw base w g m FV BV fs [] tv tb) (hl : fs.length < m) (hm : m ≤ 64) (hx : wt x ≤ 10000) :
    Calls Tryd.prog 154 #[.pointer (some ⟨g, 0, none⟩), Value.int .i64 x] w (RetPush base g m FV BV fs ([] ++ [x]) w) := by
  have LN := Lib.hid (fun W (h : Below w.heap.size w W) => len_any base g m FV BV tv tb fs [] W (r.next h) (by simp; omega))
  have HR := Lib.hid r
  obtain ⟨c0, -, -, c3, -, -⟩ := r.all
  obtain ⟨A, c, rfl, -⟩ := r.back
  have t1 : ((((fs.length + ([] : List Int).length : Nat)) : Int) == (m : Int)) = false := by simp; omega
  obtain ⟨N0, hN0⟩ : ∃ N0 : Nat, fs.length + ([] : List Int).length = N0 := ⟨_, rfl⟩
  rw [hN0] at LN t1
  clear r hl hm hN0
  go_enter Tryd.func154, Tryd.ntmps154
  go_wp2_with fail
  go_region_with (go_at_call 155; (with_reducible refine (LN.out _ (Below.refl _ _).drew).mono ?_); rintro r w5 ⟨rfl, n5, rfl⟩)
  all_goals
    have L3 := Lib.hid (show Below w.heap.size w (w.drewN (1 + n5)) from Sh.below_drewN (Below.refl _ _) _)
    generalize w.drewN (1 + n5) = w3 at *
    have R3 := Lib.hid (HR.out.next L3.out)
    have b4 := below_new w3 (.cells #[Value.int .i64 x, .bool true] 159)
    have R4 := Lib.hid (R3.out.next b4)
    have L4 := Lib.hid (below_next L3.out b4)
    obtain ⟨-, -, -, d3, -, -⟩ := R4.out.all
    clear c0 c3 b4
    go_wp2_with fail
    generalize hW4 : w3.alloc (.cells #[Value.int .i64 x, .bool true] 159) = w4 at *
    have hs4 : w4.heap.size = w3.heap.size + 1 := by rw [← hW4]; simp
    have X4 : Hid (Bk 159 w4 w3.heap.size [Value.int .i64 x, .bool true]) := Lib.hid (by rw [← hW4]; exact Bk.new _ w3 _)
    obtain ⟨x0, x1⟩ : w4.cell? ⟨w3.heap.size, 0, none⟩ = some (Value.int .i64 x) ∧ w4.cell? ⟨w3.heap.size, 1, none⟩ = some (.bool true) := ⟨X4.out.c 0, X4.out.c 1⟩
    have O5 := Lib.hid (show ((w4.alloc (.cells #[Value.int .i64 x] 2)).drew).ownsRow base 2 1 (.slice A 0 c) 0 [] from World.ownsRow.alloc R4.out.2.2.1 _)
    have Y5 := Lib.hid (show Seq (fun _ => True) ((w4.alloc (.cells #[Value.int .i64 x] 2)).drew) (some ⟨w4.heap.size, 0, none⟩) [Value.int .i64 x] from seq_new 2 w4 [Value.int .i64 x])
    have LB := Lib.hid (show base ≤ ((w4.alloc (.cells #[Value.int .i64 x] 2)).drew).heap.size from by have := R4.out.base_le; show base ≤ (w4.alloc (.cells #[Value.int .i64 x] 2)).heap.size; simp; omega)
    have GZ := Lib.hid (R4.out.1.alloc (.cells #[Value.int .i64 x] 2))
    have XZ := Lib.hid (X4.out.alloc (.cells #[Value.int .i64 x] 2))
    have GN : Hid (¬ (Value.slice A 0 c).ownBlock = some g) := Lib.hid (fun e => own_bk_ne (t := 161) R4.out.2.2.1 R4.out.1 (by decide) e.symm)
    have XN : Hid (¬ (Value.slice A 0 c).ownBlock = some w3.heap.size) := Lib.hid (fun e => own_bk_ne (t := 159) R4.out.2.2.1 X4.out (by decide) e.symm)
    have z3 : (w4.alloc (.cells #[Value.int .i64 x] 2)).cell? ⟨g, 3, none⟩ = some (.slice A 0 c) := GZ.out.c 3
    obtain ⟨y0, y1⟩ : (w4.alloc (.cells #[Value.int .i64 x] 2)).cell? ⟨w3.heap.size, 0, none⟩ = some (Value.int .i64 x) ∧ (w4.alloc (.cells #[Value.int .i64 x] 2)).cell? ⟨w3.heap.size, 1, none⟩ = some (.bool true) := ⟨XZ.out.c 0, XZ.out.c 1⟩
    clear hW4 hs4
    go_region_law ((refine step_appS infoV rfl (by decide) (by decide) Tryd.underlying27 rfl (.tmp 37) (.tmp 39) rfl base (.slice A 0 c) 0 [] (by simp [Act.eval]) O5.out (fun _ => True) (some ⟨w4.heap.size, 0, none⟩) 1 1 [Value.int .i64 x] (by simp [Act.eval]) rfl Y5.out (one_ev x) (by omega) LB.out ?_); intro v5 w5 hv5 hg5 ha5; obtain ⟨A5, c5, rfl, -⟩ := own_seq hv5 (by decide); have G5 := Lib.hid (Bk.grown GZ.out (grown_drew hg5) (fun e => GN.out e.symm)); have X5 := Lib.hid (Bk.grown XZ.out (grown_drew hg5) (fun e => XN.out e.symm)); obtain ⟨g3, g4, g5⟩ : w5.cell? ⟨g, 3, none⟩ = some (.slice A 0 c) ∧ w5.cell? ⟨g, 4, none⟩ = some tv ∧ w5.cell? ⟨g, 5, none⟩ = some (.bool tb) := ⟨G5.out.c 3, G5.out.c 4, G5.out.c 5⟩; obtain ⟨f3, f4, f5⟩ : w5.frozen? ⟨g, 3, none⟩ = false ∧ w5.frozen? ⟨g, 4, none⟩ = false ∧ w5.frozen? ⟨g, 5, none⟩ = false := ⟨G5.out.f 3, G5.out.f 4, G5.out.f 5⟩; obtain ⟨h0, h1⟩ : w5.cell? ⟨w3.heap.size, 0, none⟩ = some (Value.int .i64 x) ∧ w5.cell? ⟨w3.heap.size, 1, none⟩ = some (.bool true) := ⟨X5.out.c 0, X5.out.c 1⟩)
    all_goals
      go_wp2
      go_ret
      exact push_end R4.out L4.out hv5 (grown_drew hg5) (ha5.imp id (fun e => by rw [e]; show some (w4.alloc (.cells #[Value.int .i64 x] 2)).heap.size = _; simp)) rfl
set_option maxHeartbeats 4000000 in
theorem push_more (base g m : Nat) (FV BV tv : Value) (tb : Bool) (fs bs : List Int) (x : Int) (w : World) (r : Tw base w g m FV BV fs bs tv tb) (hb0 : 0 < bs.length) (hl : fs.length + bs.length < m) (hm : m ≤ 64) (hx : wsum (bs ++ [x]) ≤ 10000) (hJ : JW w) :
    Calls Tryd.prog 154 #[.pointer (some ⟨g, 0, none⟩), Value.int .i64 x] w (RetPush base g m FV BV fs (bs ++ [x]) w) := by
  have LN := Lib.hid (fun W (h : Below w.heap.size w W) => len_any base g m FV BV tv tb fs bs W (r.next h) (by omega))
  have hwt : wt (jl bs) + wt x ≤ 1000000 := by
    have h1 := wt_jl bs
    rw [wsum_app] at hx
    have h2 : wsum [x] = wt x := by simp [wsum]
    omega
  have JH := Lib.hid hJ
  have ME := Lib.hid (fun W (h : W.cell? ⟨g, 1, none⟩ = some jv ∧ JW W) => meet_any g (jl bs) x W h.1 h.2 hwt)
  clear hJ
  have HY := Lib.hid (jl_app (b := [x]) (by simp) bs hb0)
  obtain ⟨y, hy⟩ : ∃ y, jn (jl bs) x = y := ⟨_, rfl⟩
  rw [hy] at ME
  rw [show jl [x] = x from rfl, hy] at HY
  obtain ⟨e1, e2⟩ := r.2.2.2.2 hb0
  obtain ⟨q, hq⟩ : ∃ q, jl bs = q := ⟨_, rfl⟩
  rw [hq] at ME e1
  subst e1 e2
  have HR := Lib.hid r
  obtain ⟨c0, -, -, -, -, -⟩ := r.all
  obtain ⟨A, c, rfl, -⟩ := r.back
  have t1 : (((fs.length + bs.length : Nat) : Int) == (m : Int)) = false := by simp; omega
  have t2 : decide ((bs.length : Int) > 0) = true := decide_eq_true (by omega)
  have t3 : decide (0 < bs.length) = true := decide_eq_true hb0
  obtain ⟨N0, hN0⟩ : ∃ N0 : Nat, fs.length + bs.length = N0 := ⟨_, rfl⟩
  rw [hN0] at LN t1
  have BL := Lib.hid (show bs.length + 1 ≤ 100000 by omega)
  clear r hl hm hN0 hx hwt hy hq hb0
  go_enter Tryd.func154, Tryd.ntmps154
  go_wp2_with fail
  go_region_with (go_at_call 155; (with_reducible refine (LN.out _ (Below.refl _ _).drew).mono ?_); rintro r w5 ⟨rfl, n5, rfl⟩)
  all_goals
    have L3 := Lib.hid (show Below w.heap.size w (w.drewN (1 + n5)) from Sh.below_drewN (Below.refl _ _) _)
    generalize w.drewN (1 + n5) = w3 at *
    have R3 := Lib.hid (HR.out.next L3.out)
    have b4 := below_new w3 (.cells #[Value.int .i64 x, .bool true] 159)
    have R4 := Lib.hid (R3.out.next b4)
    have L4 := Lib.hid (below_next L3.out b4)
    obtain ⟨-, -, -, d3, -, -⟩ := R4.out.all
    clear c0 b4
    go_wp2_with fail
    generalize hW4 : w3.alloc (.cells #[Value.int .i64 x, .bool true] 159) = w4 at *
    have X4 : Hid (Bk 159 w4 w3.heap.size [Value.int .i64 x, .bool true]) := Lib.hid (by rw [← hW4]; exact Bk.new _ w3 _)
    obtain ⟨x0, x1⟩ : w4.cell? ⟨w3.heap.size, 0, none⟩ = some (Value.int .i64 x) ∧ w4.cell? ⟨w3.heap.size, 1, none⟩ = some (.bool true) := ⟨X4.out.c 0, X4.out.c 1⟩
    have J4 := Lib.hid (show w4.drew.cell? ⟨g, 1, none⟩ = some jv ∧ JW w4.drew from ⟨R4.out.1.c 1, JH.out.next L4.out.drew⟩)
    obtain ⟨v4, v5⟩ : w4.cell? ⟨g, 4, none⟩ = some (Value.int .i64 q) ∧ w4.cell? ⟨g, 5, none⟩ = some (.bool true) := ⟨R4.out.1.c 4, R4.out.1.c 5⟩
    have TN := Lib.hid (fun b (h : Tt g FV (.slice A bs.length c) b) => (R3.out.lt b h).1)
    have WN := Lib.hid L3.out.size
    clear hW4 t1 t2 t3
    go_region_with (go_at_call 156; (with_reducible refine (ME.out _ J4.out).mono ?_); rintro r w5 ⟨rfl, hb5⟩; have B5 := below_next (Below.refl w4.heap.size w4).drew hb5; have X5 := Lib.hid (X4.out.next B5); have R5 := Lib.hid (R4.out.next B5); have L5 := Lib.hid (below_next L4.out B5); have f0 := X5.out.f 0; have f1 := X5.out.f 1; obtain ⟨h0, h1⟩ : w5.cell? ⟨w3.heap.size, 0, none⟩ = some (Value.int .i64 x) ∧ w5.cell? ⟨w3.heap.size, 1, none⟩ = some (.bool true) := ⟨X5.out.c 0, X5.out.c 1⟩; clear hb5 B5)
    all_goals
      have X6 := Lib.hid (Bk.set_ (Bk.set_ X5.out 0 (Value.int .i64 y)) 1 (.bool true))
      have R6 := Lib.hid (R5.out.turn (Turn.setCell (p := ⟨w3.heap.size, 1, none⟩) (Turn.setCell (p := ⟨w3.heap.size, 0, none⟩) (Turn.refl (fun b => b = w3.heap.size) w5) (.inl rfl) (Value.int .i64 y)) (.inl rfl) (.bool true)) (fun b hb e => by have := TN.out b hb; omega))
      have L6 := Lib.hid ((L5.out.setCell (p := ⟨w3.heap.size, 0, none⟩) WN.out (Value.int .i64 y)).setCell (p := ⟨w3.heap.size, 1, none⟩) WN.out (.bool true))
      generalize (w5.setCell ⟨w3.heap.size, 0, none⟩ (Value.int .i64 y)).setCell ⟨w3.heap.size, 1, none⟩ (.bool true) = w6 at *
      have X6 := Lib.hid (show Bk 159 w6 w3.heap.size [Value.int .i64 y, .bool true] from X6.out)
      obtain ⟨a0, a1⟩ : w6.cell? ⟨w3.heap.size, 0, none⟩ = some (Value.int .i64 y) ∧ w6.cell? ⟨w3.heap.size, 1, none⟩ = some (.bool true) := ⟨X6.out.c 0, X6.out.c 1⟩
      have a3 : w6.cell? ⟨g, 3, none⟩ = some (.slice A bs.length c) := R6.out.1.c 3
      have O5 := Lib.hid (show ((w6.alloc (.cells #[Value.int .i64 x] 2)).drew).ownsRow base 2 1 (.slice A bs.length c) bs.length (bs.map (Value.int .i64)) from World.ownsRow.alloc R6.out.2.2.1 _)
      have Y5 := Lib.hid (show Seq (fun _ => True) ((w6.alloc (.cells #[Value.int .i64 x] 2)).drew) (some ⟨w6.heap.size, 0, none⟩) [Value.int .i64 x] from seq_new 2 w6 [Value.int .i64 x])
      have LB := Lib.hid (show base ≤ ((w6.alloc (.cells #[Value.int .i64 x] 2)).drew).heap.size from by have := R6.out.base_le; show base ≤ (w6.alloc (.cells #[Value.int .i64 x] 2)).heap.size; simp; omega)
      have GZ := Lib.hid (R6.out.1.alloc (.cells #[Value.int .i64 x] 2))
      have XZ := Lib.hid (X6.out.alloc (.cells #[Value.int .i64 x] 2))
      have GN : Hid (¬ (Value.slice A bs.length c).ownBlock = some g) := Lib.hid (fun e => own_bk_ne (t := 161) R6.out.2.2.1 R6.out.1 (by decide) e.symm)
      have XN : Hid (¬ (Value.slice A bs.length c).ownBlock = some w3.heap.size) := Lib.hid (fun e => own_bk_ne (t := 159) R6.out.2.2.1 X6.out (by decide) e.symm)
      have z3 : (w6.alloc (.cells #[Value.int .i64 x] 2)).cell? ⟨g, 3, none⟩ = some (.slice A bs.length c) := GZ.out.c 3
      obtain ⟨y0, y1⟩ : (w6.alloc (.cells #[Value.int .i64 x] 2)).cell? ⟨w3.heap.size, 0, none⟩ = some (Value.int .i64 y) ∧ (w6.alloc (.cells #[Value.int .i64 x] 2)).cell? ⟨w3.heap.size, 1, none⟩ = some (.bool true) := ⟨XZ.out.c 0, XZ.out.c 1⟩
      have hne : ¬ g = w3.heap.size := fun e => by have := TN.out g (.inl rfl); omega
      clear X5 R5 L5 x0 x1 h0 h1 f0 f1 v4 v5 d3
      go_wp2_with fail
      go_region_law ((refine step_appS infoV rfl (by decide) (by decide) Tryd.underlying27 rfl (.tmp 37) (.tmp 39) rfl base (.slice A bs.length c) bs.length (bs.map (Value.int .i64)) (by simp [Act.eval]) O5.out (fun _ => True) (some ⟨w6.heap.size, 0, none⟩) 1 1 [Value.int .i64 x] (by simp [Act.eval]) rfl Y5.out (one_ev x) BL.out LB.out ?_); intro v8 w8 hv8 hg8 ha8; obtain ⟨A8, c8, rfl, -⟩ := own_seq hv8 (by decide); have G8 := Lib.hid (Bk.grown GZ.out (grown_drew hg8) (fun e => GN.out e.symm)); have X8 := Lib.hid (Bk.grown XZ.out (grown_drew hg8) (fun e => XN.out e.symm)); obtain ⟨g3, g4, g5⟩ : w8.cell? ⟨g, 3, none⟩ = some (.slice A bs.length c) ∧ w8.cell? ⟨g, 4, none⟩ = some (Value.int .i64 q) ∧ w8.cell? ⟨g, 5, none⟩ = some (.bool true) := ⟨G8.out.c 3, G8.out.c 4, G8.out.c 5⟩; obtain ⟨k3, k4, k5⟩ : w8.frozen? ⟨g, 3, none⟩ = false ∧ w8.frozen? ⟨g, 4, none⟩ = false ∧ w8.frozen? ⟨g, 5, none⟩ = false := ⟨G8.out.f 3, G8.out.f 4, G8.out.f 5⟩; obtain ⟨k0, k1⟩ : w8.cell? ⟨w3.heap.size, 0, none⟩ = some (Value.int .i64 y) ∧ w8.cell? ⟨w3.heap.size, 1, none⟩ = some (.bool true) := ⟨X8.out.c 0, X8.out.c 1⟩; have V8 := Lib.hid hv8; have GG8 := Lib.hid (grown_drew hg8); have A8H := Lib.hid ha8; clear hv8 hg8 ha8)
      all_goals
        go_wp2
        go_ret
        exact push_end R6.out L6.out V8.out GG8.out (A8H.out.imp id (fun e => by rw [e]; show some (w6.alloc (.cells #[Value.int .i64 x] 2)).heap.size = _; simp)) HY.out
end Go.Proofs.YtfamgaakcbinkaaDoor.Twc
