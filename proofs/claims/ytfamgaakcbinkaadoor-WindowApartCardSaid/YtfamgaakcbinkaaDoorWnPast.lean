/-
  window.past: what its methods answer. Conditions: the table of traits holds what its text lays, the numbers are int64, no more than 1000.
-/
import Derived.Test.YtfamgaakcbinkaaDoorTpLib
import Derived.Test.YtfamgaakcbinkaaDoorFdRow
import Derived.Test.YtfamgaakcbinkaaDoorDqAdd
namespace Go.Proofs.YtfamgaakcbinkaaDoor.Wn
open Go.Proofs.YtfamgaakcbinkaaDoor.Sh Go.Proofs.YtfamgaakcbinkaaDoor.St
open Go.RowKit
set_option linter.unusedVariables false

theorem infoL : (Tryd.prog.info? 2).map (fun i => (i.zero, i.size, i.bytes)) = some (some (.int .i64 0), 1, 8) := by kernel_rfl
theorem one_int (x : Int) : ∀ u ∈ [(.int .i64 x : Value)], u.oneCell' = true := by intro u hu; simp at hu; rw [hu]; rfl
/-- A column that is folded anew each time, behind the pointer to block g. -/
def Past (base : Nat) (w : World) (g : Nat) (c : Int) (s : Bool) (V : Value) (l : List Int) : Prop :=
  Bk 143 w g [.int .i64 c, .bool s, V] ∧ MineT 2 w base V l ∧ base ≤ g
/-- Its blocks. -/
def Pt (g : Nat) (V : Value) (b : Nat) : Prop := b = g ∨ V.ownBlock = some b
def Fresh (w : World) (V V' : Value) : Prop := ∀ k, V'.ownBlock = some k → V.ownBlock = some k ∨ w.heap.size ≤ k
section
variable {base g : Nat} {c : Int} {s : Bool} {V : Value} {l : List Int} {w w' : World} {T : Nat → Prop}
theorem Past.turn (d : Past base w g c s V l) (hb : Turn T w w') (hT : ∀ b, Pt g V b → ¬ T b) : Past base w' g c s V l :=
  ⟨d.1.turn hb (hT g (.inl rfl)), own_turn d.2.1 hb fun b h => hT b (.inr h), d.2.2⟩
theorem Past.next (d : Past base w g c s V l) (hb : Below w.heap.size w w') : Past base w' g c s V l := d.turn (Turn.of_below (fun _ => False) hb) fun _ _ h => h
theorem Past.ne (d : Past base w g c s V l) : V.ownBlock ≠ some g := fun e => own_bk_ne (t := 143) d.2.1 d.1 (by decide) e.symm
theorem Past.lt (d : Past base w g c s V l) : ∀ b, Pt g V b → b < w.heap.size ∧ base ≤ b := fun b hb => by
  rcases hb with rfl | hb
  · exact ⟨d.1.lt, d.2.2⟩
  · exact ⟨own_lt d.2.1 b hb, own_base d.2.1 b hb⟩
theorem Past.all3 (d : Past base w g c s V l) : w.cell? ⟨g, 0, none⟩ = some (.int .i64 c) ∧ w.cell? ⟨g, 1, none⟩ = some (.bool s) ∧ w.cell? ⟨g, 2, none⟩ = some V := ⟨d.1.c 0, d.1.c 1, d.1.c 2⟩
end
def RetP (base g : Nat) (c : Int) (s : Bool) (V : Value) (l : List Int) (w : World) (e : Ending) (w' : World) : Prop := ∃ V', e = .returned (.tuple #[]) ∧ Past base w' g c s V' l ∧ Turn (Pt g V) w w' ∧ Fresh w V V'
set_option maxHeartbeats 1000000 in
theorem words_past (base g : Nat) (c : Int) (s : Bool) (V : Value) (l : List Int) (w : World) (d : Past base w g c s V l) (hl : l.length ≤ 1000) :
    Calls Tryd.prog 165 #[.pointer (some ⟨g, 0, none⟩)] w fun e w' => e = .returned (.int .i64 (l.length : Nat)) ∧ w = w' := by
  obtain ⟨-, -, c2⟩ := d.all3
  obtain ⟨A, n, rfl, -⟩ := own_seq d.2.1 (by decide)
  clear d
  go_enter Tryd.func165, Tryd.ntmps165
  go_wp2
  go_ret
  exact ⟨rfl, rfl⟩
set_option maxHeartbeats 1000000 in
theorem drop_past (base g : Nat) (c : Int) (s : Bool) (V : Value) (x : Int) (l : List Int) (w : World) (d : Past base w g c s V (x :: l)) (hl : l.length ≤ 1000) :
    Calls Tryd.prog 163 #[.pointer (some ⟨g, 0, none⟩)] w (RetP base g c s V l w) := by
  have DL := Lib.hid (show Calls Tryd.prog 166 #[V, .int .i64 0, .int .i64 1] w (Tp.RetDel base V l w) from Tp.del_any base V (x :: l) 1 w d.2.1 (by simp) (by simp; omega))
  have HD := Lib.hid d
  obtain ⟨-, -, c2⟩ := d.all3
  clear d hl
  go_enter Tryd.func163, Tryd.ntmps163
  go_wp2_with (go_at_call 166; (with_reducible refine (DL.out).mono ?_); rintro r w5 ⟨V5, rfl, m5, o5, t5⟩; obtain ⟨A5, n5, rfl, -⟩ := own_seq m5 (by decide); have X5 := Lib.hid (HD.out.1.turn t5 fun e => HD.out.ne e); have c5 := X5.out.c 2; have f5 := X5.out.f 2; have M5 := Lib.hid m5; have T5 := Lib.hid t5; have O5 := Lib.hid o5; clear m5 t5 o5)
  refine bodyPost_ret (v := .tuple #[]) (by simp [results, Tryd.results163, go_sem]) rfl ?_
  have ts : Turn (fun b => b = g) w5 (w5.setCell ⟨g, 2, none⟩ (.slice A5 l.length n5)) := (Turn.refl (fun b => b = g) w5).setCell (p := ⟨g, 2, none⟩) (.inl rfl) _
  exact ⟨_, rfl, ⟨Bk.set_ X5.out 2 _, own_turn M5.out ts fun b hb e => own_bk_ne (t := 143) M5.out X5.out (by decide) (by rw [hb, e]), HD.out.2.2⟩, (T5.out.mono fun b h => .inr h).trans (ts.mono fun b h => .inl h), fun k hk => .inl (by rw [← O5.out]; exact hk)⟩
set_option maxHeartbeats 1000000 in
theorem push_past (base g : Nat) (c : Int) (s : Bool) (V : Value) (l : List Int) (x : Int) (w : World) (d : Past base w g c s V l) (hl : l.length ≤ 1000) :
    Calls Tryd.prog 164 #[.pointer (some ⟨g, 0, none⟩), .int .i64 x] w (RetP base g c s V (l ++ [x]) w) := by
  have HD := Lib.hid d
  obtain ⟨-, -, c2⟩ := d.all3
  have O2 := Lib.hid (show (w.alloc (.cells #[.int .i64 x] 2)).ownsRow base 2 1 V l.length (l.map (Value.int .i64)) from World.ownsRow.alloc d.2.1 _)
  have YY := Lib.hid (Dq.seq_new 2 w [.int .i64 x])
  have TL := Lib.hid (show l.length + 1 ≤ 100000 by omega)
  have LB := Lib.hid (show base ≤ (w.alloc (.cells #[.int .i64 x] 2)).heap.size by have := d.lt g (.inl rfl); simp; omega)
  have X2 := Lib.hid (d.1.alloc (.cells #[.int .i64 x] 2))
  have L2 := Lib.hid (below_new w (.cells #[.int .i64 x] 2))
  clear d hl
  obtain ⟨A, n, rfl, -⟩ := own_seq HD.out.2.1 (by decide)
  go_enter Tryd.func164, Tryd.ntmps164
  go_wp2_with (at_builtin; refine wpList_appS infoL rfl (by decide) (by decide) Tryd.underlying27 rfl (.tmp 8) (.tmp 10) rfl base (.slice A l.length n) l.length (l.map (Value.int .i64)) rfl O2.out (fun _ => True) (some ⟨w.heap.size, 0, none⟩) 1 1 [.int .i64 x] rfl rfl YY.out (one_int x) TL.out LB.out ?_; intro V5 w5 hv5 hg5 ha5; obtain ⟨A5, n5, rfl, -⟩ := own_seq hv5 (by decide); have X5 := Lib.hid (X2.out.grown hg5 (fun e => HD.out.ne e.symm)); have c5 := X5.out.c 2; have f5 := X5.out.f 2; have M5 := Lib.hid hv5; have G5 := Lib.hid hg5; have HA5 := Lib.hid ha5; clear hv5 hg5 ha5)
  refine bodyPost_ret (v := .tuple #[]) (by simp [results, Tryd.results164, go_sem]) rfl ?_
  have ts : Turn (fun b => b = g) w5 (w5.setCell ⟨g, 2, none⟩ (.slice A5 (l.length + 1) n5)) := (Turn.refl (fun b => b = g) w5).setCell (p := ⟨g, 2, none⟩) (.inl rfl) _
  have M6 : MineT 2 w5 base (.slice A5 (l.length + 1) n5) (l ++ [x]) := by
    unfold MineT
    rw [List.length_append, List.map_append]
    exact M5.out
  refine ⟨_, rfl, ⟨Bk.set_ X5.out 2 _, own_turn M6 ts fun b hb e => own_bk_ne (t := 143) M6 X5.out (by decide) (by rw [hb, e]), HD.out.2.2⟩, ((Turn.of_below _ L2.out).trans (Turn.of_grown G5.out fun k e => .inr e)).trans (ts.mono fun b h => .inl h), fun k hk => ?_⟩
  rcases HA5.out with h | h
  · rw [h] at hk; exact .inl hk
  · rw [h] at hk
    injection hk with hk
    right
    rw [← hk]
    exact L2.out.size
set_option maxHeartbeats 1000000 in
theorem all_past (base g : Nat) (c : Int) (s : Bool) (V : Value) (l : List Int) (w : World) (hT : Sc.Tab w) (hR : Fd.AllR l) (d : Past base w g c s V l) (hl : l.length ≤ 1000) :
    Calls Tryd.prog 161 #[.pointer (some ⟨g, 0, none⟩)] w fun e w' => e = .returned (.int .i64 (Fd.rowV c s l)) ∧ Below w.heap.size w w' := by
  obtain ⟨A, n, rfl, hi⟩ := d.2.1.ints
  have RW := Lib.hid (Fd.Row_any c s A n l w.drew (hT.below (Below.refl _ _).drew) hl hR hi)
  have S0 := Lib.hid (show w.drew.cell? ⟨g, 0, none⟩ = some (.int .i64 c) ∧ w.drew.cell? ⟨g, 1, none⟩ = some (.bool s) ∧ w.drew.cell? ⟨g, 2, none⟩ = some (.slice A l.length n) from d.all3)
  have HD := Lib.hid d
  clear d hT hR hl hi
  go_enter Tryd.func161, Tryd.ntmps161
  go_wp2_with fail
  go_region_held3 (fun w' => w'.cell? ⟨g, 0, none⟩ = some (.int .i64 c) ∧ w'.cell? ⟨g, 1, none⟩ = some (.bool s) ∧ w'.cell? ⟨g, 2, none⟩ = some (.slice A l.length n))
    (first
      | with_reducible exact KK.out
      | with_reducible exact S0.out
      | go_keep)
    (first
      | (go_at_call 48; (with_reducible refine (RW.out).mono ?_); rintro r w5 ⟨rfl, hb5⟩; have B5 := Lib.hid (below_next (Below.refl w.heap.size w).drew hb5); have KK := Lib.hid ((HD.out.next B5.out).all3); clear hb5))
  all_goals
    go_wp2
    go_ret
    exact ⟨rfl, B5.out⟩
/-- What a clone is. -/
def RetPc (c : Int) (s : Bool) (l : List Int) (w : World) (e : Ending) (w' : World) : Prop := ∃ g V, e = .returned (.iface 141 (.pointer (some ⟨g, 0, none⟩))) ∧ Past w.heap.size w' g c s V l ∧ Below w.heap.size w w'
set_option maxHeartbeats 1000000 in
theorem clone_past (base g : Nat) (c : Int) (s : Bool) (V : Value) (l : List Int) (w : World) (d : Past base w g c s V l) (hl : l.length ≤ 1000) :
    Calls Tryd.prog 162 #[.pointer (some ⟨g, 0, none⟩)] w (RetPc c s l w) := by
  obtain ⟨A, n, rfl, hi⟩ := d.2.1.ints
  have CL := Lib.hid (Tp.cl64_any A n l w.drew (by omega) hi)
  have S0 := Lib.hid (show w.drew.cell? ⟨g, 0, none⟩ = some (.int .i64 c) ∧ w.drew.cell? ⟨g, 1, none⟩ = some (.bool s) ∧ w.drew.cell? ⟨g, 2, none⟩ = some (.slice A l.length n) from d.all3)
  have HD := Lib.hid d
  clear d hl hi
  go_enter Tryd.func162, Tryd.ntmps162
  go_wp2_with fail
  go_region_held3 (fun w' => w'.cell? ⟨g, 0, none⟩ = some (.int .i64 c) ∧ w'.cell? ⟨g, 1, none⟩ = some (.bool s) ∧ w'.cell? ⟨g, 2, none⟩ = some (.slice A l.length n))
    (first
      | with_reducible exact KK.out
      | with_reducible exact S0.out
      | go_keep)
    (first
      | (go_at_call 59; (with_reducible refine (CL.out).mono ?_); rintro r w5 ⟨B5, c5, rfl, m5, hb5⟩; have L5 := Lib.hid (below_next (Below.refl w.heap.size w).drew hb5); have KK := Lib.hid ((HD.out.next L5.out).all3); have M5 := Lib.hid m5; clear hb5 m5))
  all_goals
    go_wp2
    go_ret
    exact ⟨w5.heap.size, .slice B5 l.length c5, rfl, ⟨Bk.new 143 w5 [.int .i64 c, .bool s, .slice B5 l.length c5], M5.out.alloc _, L5.out.size⟩, below_next L5.out (below_new w5 _)⟩
end Go.Proofs.YtfamgaakcbinkaaDoor.Wn
