/-
  What Push, Drop and Best of package deque do to a window, and what they answer. Conditions: as told in each.
-/
import Derived.Test.YtfamgaakcbinkaaDoorDqAdd
namespace Go.Proofs.YtfamgaakcbinkaaDoor.Dq
open Go.Proofs.YtfamgaakcbinkaaDoor.Sh Go.Proofs.YtfamgaakcbinkaaDoor.St
open Go.RowKit
set_option linter.unusedVariables false

section
variable {w w' : World} {g : Nat} {V V1 V2 : Value} {w1 w2 : World}
theorem Fresh.trans (h : Fresh w V V1) (k : Fresh w1 V1 V2) (hs : w.heap.size ≤ w1.heap.size) : Fresh w V V2 := fun b hb => by
  rcases k b hb with k | k
  · exact h b k
  · exact .inr (Nat.le_trans hs k)
end
/-- What a call tells that turns a window, and the numbers behind it. -/
def RetD (base g : Nat) (V : Value) (ls : Bool) (n f : Nat) (l : List Int) (v : Value) (w : World) (e : Ending) (w' : World) : Prop := ∃ V', e = .returned v ∧ Deq base w' g V' ls n f l ∧ Turn (Tq g V) w w' ∧ Fresh w V V'
theorem push_nil (x : Int) (w : World) : Calls Tryd.prog 137 #[.pointer none, .int .i64 x] w fun e w' => e = .returned (.int .i64 1) ∧ w = w' := by
  go_enter Tryd.func137, Tryd.ntmps137
  go_wp2
  go_ret
  exact ⟨rfl, rfl⟩
set_option maxHeartbeats 2000000 in
theorem push_full (base g : Nat) (V : Value) (ls : Bool) (n f : Nat) (l : List Int) (y : Int) (w : World) (d : Deq base w g V ls n f l) (hs : f + l.length ≤ 1000) (hf : l.length = n) :
    Calls Tryd.prog 137 #[.pointer (some ⟨g, 0, none⟩), .int .i64 y] w (RetD base g V ls n f l (.int .i64 19) w) := by
  have LN := Lib.hid (fun m => len_any g V ls n f l.length (w.drewN m) (d.1.drewN m) (by omega))
  have D0 := Lib.hid d
  obtain ⟨-, -, -, -, c4⟩ := d.1.all
  have e1 : (((l.length : Nat) : Int) == (n : Int)) = true := by simp [hf]
  clear d hs hf
  go_enter Tryd.func137, Tryd.ntmps137
  go_wp2_with fail
  go_quiet ((go_at_call 135; exact Calls.quiet_of (LN.out _)))
  go_wp2
  go_ret
  exact ⟨V, rfl, D0.out.next (below_drewN (Below.refl _ _) _), Turn.of_below _ (below_drewN (Below.refl _ _) _), Fresh.refl _ _⟩
set_option maxHeartbeats 2000000 in
theorem push_room (base g : Nat) (V : Value) (ls : Bool) (n f : Nat) (l : List Int) (y : Int) (w : World) (d : Deq base w g V ls n f l) (hs : f + l.length ≤ 1000) (hf : l.length < n) :
    Calls Tryd.prog 137 #[.pointer (some ⟨g, 0, none⟩), .int .i64 y] w (RetD base g V ls n f (l ++ [y]) (.int .i64 0) w) := by
  have LN := Lib.hid (fun m => len_any g V ls n f l.length (w.drewN m) (d.1.drewN m) (by omega))
  have hbl := Nat.le_trans d.2.2.2.2 (Nat.le_of_lt d.1.lt)
  have AD := Lib.hid (fun W (hb : Below w.heap.size w W) => add_any base g V ls (f + l.length) f n f l y (f + l.length) W (d.1.next hb) (d.2.1.next hb) rfl (Nat.le_trans hbl hb.size) (by omega) d.ne)
  have D0 := Lib.hid d
  obtain ⟨-, -, c2, -, c4⟩ := d.1.all
  have e1 : (((l.length : Nat) : Int) == (n : Int)) = false := by simp; omega
  obtain ⟨a, ha⟩ : ∃ a, f + l.length = a := ⟨_, rfl⟩
  rw [ha] at c2 AD
  have HA := Lib.hid ha
  have HF := Lib.hid hf
  have ab : (a : Int) ≤ 1000 := by omega
  clear d hs hf hbl ha
  go_enter Tryd.func137, Tryd.ntmps137
  go_wp2_with fail
  go_quiet ((go_at_call 135; exact Calls.quiet_of (LN.out _)))
  go_wp2_with fail
  have KQ := Lib.hid (below_drewN (Below.refl w.heap.size w) nq)
  have c2' : (w.drewN nq).cell? ⟨g, 2, none⟩ = some (.int .i64 a) := c2
  clear c2 c4 LN
  generalize w.drewN nq = wq at *
  go_region_with (go_at_call 142; (with_reducible refine (AD.out _ KQ.out.drew).mono ?_); rintro r w5 ⟨V', rfl, d5, r5, t5, s5⟩; obtain ⟨-, -, y2, -, -⟩ := d5.all; obtain ⟨-, z2, -⟩ := d5.froz; have D5 := Lib.hid d5; have R5 := Lib.hid r5; have T5 := Lib.hid t5; have S5 := Lib.hid s5; clear d5 r5 t5 s5)
  go_wp2
  go_ret
  have T0 : Turn (Tq g V) w w5 := (Turn.of_below _ KQ.out.drew).trans T5.out
  have hne : V'.ownBlock ≠ some g := fun e => own_bk_ne (t := 156) R5.out D5.out (by decide) e.symm
  refine ⟨V', rfl, ⟨?_, R5.out.turn (Turn.setCell (p := ⟨g, 2, none⟩) (Turn.refl (fun i => i = g) w5) (.inl rfl) _) (fun k hk e => hne (by rw [← e]; exact hk)), ?_, D0.out.2.2.2.1, D0.out.2.2.2.2⟩, Turn.setCell (p := ⟨g, 2, none⟩) T0 (.inl (.inl rfl)) _, fun k hk => ?_⟩
  · have h := Bk.set_ D5.out 2 (.int .i64 ((a : Int) + 1))
    have e : ((f + (l ++ [y]).length : Nat) : Int) = (a : Int) + 1 := by rw [← HA.out, List.length_append]; simp; omega
    unfold DqF
    rw [e]
    exact h
  · rw [List.length_append]; exact HF.out
  · rcases S5.out k hk with h | h
    · exact .inl h
    · exact .inr (Nat.le_trans KQ.out.drew.size h)
set_option maxHeartbeats 2000000 in
theorem leave_any (base g : Nat) (V : Value) (ls : Bool) (came went most f : Nat) (x : Int) (l : List Int) (w : World) (d : DqF w g ls V came went most) (hr : RowK base w V (keptF ls f (x :: l))) (hl : l.length ≤ 1000) (hne : V.ownBlock ≠ some g) :
    Calls Tryd.prog 136 #[.pointer (some ⟨g, 0, none⟩), .int .i64 f] w (RetAdd base g V ls came went most (keptF ls (f + 1) l) w) := by
  have hkl := Nat.le_trans (kept_len ls l (f + 1)) hl
  obtain ⟨-, c1, -, -, -⟩ := d.all
  obtain ⟨f1, -, -⟩ := d.froz
  have HN := Lib.hid hne
  have HD := Lib.hid d
  rcases kept_drop ls f x l with hk | ⟨hk, p, t, ht, hpf⟩
  · rw [hk] at hr
    generalize keptF ls (f + 1) l = ks at *
    obtain ⟨b, c, hV, hdel⟩ := del_any base V (x, f) ks w hr hkl
    obtain ⟨A, c', hV2, -, -, hv⟩ := hr.view
    rw [hV] at hV2
    injection hV2 with e1 e2 e3
    subst e1 e3
    obtain ⟨b', e1, -, hbl, -, hcs⟩ := hv (by simp)
    injection e1 with e1
    injection e1 with e1
    subst e1
    obtain ⟨q0, q1⟩ := hcs 0 (x, f) rfl
    subst hV
    have DL := Lib.hid hdel
    have i0 : (0 : Int) < (ks.length : Int) + 1 := by omega
    have hbg : b ≠ g := fun e => hne (by rw [e]; rfl)
    have t1 : ((f : Int) == (f : Int)) = true := by simp
    clear hr hv hcs hdel d hk e2 hne q0
    go_enter Tryd.func136, Tryd.ntmps136
    go_wp2_with fail
    refine DL.out.mono ?_
    rintro r w2 ⟨rfl, r2, t2⟩
    have D2 := Lib.hid (HD.out.turn t2 (fun e => hbg e.symm))
    have R2 := Lib.hid r2
    have T2 := Lib.hid t2
    obtain ⟨-, y1, -, -, -⟩ := D2.out.all
    obtain ⟨z1, -, -⟩ := D2.out.froz
    clear r2 t2 c1 f1
    go_wp2
    refine bodyPost_ret (v := .tuple #[]) (by simp [results, Tryd.results136, go_sem]) rfl ?_
    refine ⟨_, rfl, Bk.set_ D2.out 1 _, R2.out.turn (Turn.setCell (p := ⟨g, 1, none⟩) (Turn.refl (fun i => i = g) w2) (.inl rfl) _) (fun k hk e => hbg (by
      have h : b = k := by injection hk
      rw [h]; exact e)), Turn.setCell (p := ⟨g, 1, none⟩) (T2.out.mono fun i hi => .inr (by rw [hi]; rfl)) (.inl (.inl rfl)) _, fun k hk => .inl hk⟩
  · rw [hk, ht] at hr
    have HR := Lib.hid hr
    rw [ht]
    obtain ⟨A, c', hV2, -, -, hv⟩ := hr.view
    obtain ⟨b, e1, -, hbl, -, hcs⟩ := hv (by simp)
    obtain ⟨q0, q1⟩ := hcs 0 p rfl
    subst e1 hV2
    have i0 : (0 : Int) < (t.length : Int) + 1 := by omega
    have t1 : ((p.2 : Int) == (f : Int)) = false := by simp; omega
    clear hr hv hcs d hk hne q0 ht hpf
    go_enter Tryd.func136, Tryd.ntmps136
    go_wp2
    refine bodyPost_ret (v := .tuple #[]) (by simp [results, Tryd.results136, go_sem]) rfl ?_
    exact ⟨_, rfl, HD.out, HR.out, Turn.refl _ _, Fresh.refl _ _⟩
set_option maxHeartbeats 2000000 in
theorem drop_none (base g : Nat) (V : Value) (ls : Bool) (n f : Nat) (w : World) (d : Deq base w g V ls n f []) (hs : f ≤ 1000) :
    Calls Tryd.prog 127 #[.pointer (some ⟨g, 0, none⟩)] w (RetD base g V ls n f [] (.bool false) w) := by
  have LN := Lib.hid (len_any g V ls n f 0 w d.1 (by omega))
  have D0 := Lib.hid d
  clear d hs
  go_enter Tryd.func127, Tryd.ntmps127
  go_wp2_with fail
  refine LN.out.mono ?_
  rintro r w1 ⟨rfl, m, hm⟩
  have K := Lib.hid (show Below w.heap.size w w1 by rw [hm]; exact below_drewN (Below.refl _ _) _)
  clear hm
  go_wp2
  go_ret
  exact ⟨V, rfl, D0.out.next K.out, Turn.of_below _ K.out, Fresh.refl _ _⟩
theorem drop_nil (w : World) : Calls Tryd.prog 127 #[.pointer none] w fun e w' => e = .returned (.bool false) ∧ w = w' := by
  go_enter Tryd.func127, Tryd.ntmps127
  go_wp2_with fail
  refine (len_nil w).mono ?_
  rintro r w1 ⟨rfl, rfl⟩
  go_wp2
  go_ret
  exact ⟨rfl, rfl⟩
set_option maxHeartbeats 2000000 in
theorem drop_some (base g : Nat) (V : Value) (ls : Bool) (n f : Nat) (x : Int) (l : List Int) (w : World) (d : Deq base w g V ls n f (x :: l)) (hs : f + l.length ≤ 999) :
    Calls Tryd.prog 127 #[.pointer (some ⟨g, 0, none⟩)] w (RetD base g V ls n (f + 1) l (.bool true) w) := by
  have LN := Lib.hid (len_any g V ls n f (l.length + 1) w d.1 (by omega))
  have LV := Lib.hid (fun W (hb : Below w.heap.size w W) => leave_any base g V ls (f + (x :: l).length) f n f x l W (d.1.next hb) (d.2.1.next hb) (by omega) d.ne)
  have D0 := Lib.hid d
  have e1 : (((l.length + 1 : Nat) : Int) == 0) = false := by simp; omega
  obtain ⟨k, hk⟩ : ∃ k, l.length + 1 = k := ⟨_, rfl⟩
  rw [hk] at e1 LN
  have fb : (f : Int) ≤ 1000 := by omega
  clear d hs hk
  go_enter Tryd.func127, Tryd.ntmps127
  go_wp2_with fail
  refine LN.out.mono ?_
  rintro r w1 ⟨rfl, m, hm⟩
  have K := Lib.hid (show Below w.heap.size w w1 by rw [hm]; exact below_drewN (Below.refl _ _) _)
  have D1 := Lib.hid (D0.out.next K.out)
  obtain ⟨-, -, -, c3, -⟩ := D1.out.1.all
  clear hm
  go_wp2_with fail
  go_region_with (go_at_call 136; (with_reducible refine (LV.out _ K.out.drew).mono ?_); rintro r w5 ⟨V', rfl, d5, r5, t5, s5⟩; obtain ⟨-, -, -, y3, -⟩ := d5.all; obtain ⟨-, -, z3⟩ := d5.froz; have D5 := Lib.hid d5; have R5 := Lib.hid r5; have T5 := Lib.hid t5; have S5 := Lib.hid s5; clear d5 r5 t5 s5)
  go_wp2
  go_ret
  have T0 : Turn (Tq g V) w w5 := (Turn.of_below _ K.out.drew).trans T5.out
  have hne : V'.ownBlock ≠ some g := fun e => own_bk_ne (t := 156) R5.out D5.out (by decide) e.symm
  refine ⟨V', rfl, ⟨?_, R5.out.turn (Turn.setCell (p := ⟨g, 3, none⟩) (Turn.refl (fun i => i = g) w5) (.inl rfl) _) (fun k hk e => hne (by rw [← e]; exact hk)), ?_, D0.out.2.2.2.1, D0.out.2.2.2.2⟩, Turn.setCell (p := ⟨g, 3, none⟩) T0 (.inl (.inl rfl)) _, fun k hk => ?_⟩
  · have h := Bk.set_ D5.out 3 (.int .i64 ((f : Int) + 1))
    have e : ((f + 1 + l.length : Nat) : Int) = ((f + (x :: l).length : Nat) : Int) := by simp; omega
    have e' : ((f + 1 : Nat) : Int) = (f : Int) + 1 := by simp
    unfold DqF
    rw [e, e']
    exact h
  · have := D0.out.2.2.1
    simp at this; omega
  · rcases S5.out k hk with h | h
    · exact .inl h
    · exact .inr (Nat.le_trans K.out.drew.size h)
theorem best_nil (w : World) : Calls Tryd.prog 133 #[.pointer none] w fun e w' => e = .returned (.tuple #[.int .i64 0, .bool false]) ∧ w = w' := by
  go_enter Tryd.func133, Tryd.ntmps133
  go_wp2_with fail
  refine (len_nil w).mono ?_
  rintro r w1 ⟨rfl, rfl⟩
  go_wp2
  go_ret2
  exact ⟨rfl, rfl⟩
set_option maxHeartbeats 2000000 in
theorem best_any (base g : Nat) (V : Value) (ls : Bool) (n f : Nat) (l : List Int) (w : World) (d : Deq base w g V ls n f l) (hs : f + l.length ≤ 1000) :
    Calls Tryd.prog 133 #[.pointer (some ⟨g, 0, none⟩)] w fun e w' => e = .returned (.tuple #[.int .i64 (bestI ls l), .bool (decide (0 < l.length))]) ∧ Below w.heap.size w w' := by
  have LN := Lib.hid (len_any g V ls n f l.length w d.1 (by omega))
  rcases Nat.eq_zero_or_pos l.length with h0 | h0
  · obtain rfl := List.eq_nil_of_length_eq_zero h0
    clear d hs h0
    go_enter Tryd.func133, Tryd.ntmps133
    go_wp2_with fail
    refine LN.out.mono ?_
    rintro r w1 ⟨rfl, m, hm⟩
    have K := Lib.hid (show Below w.heap.size w w1 by rw [hm]; exact below_drewN (Below.refl _ _) _)
    clear hm
    go_wp2
    go_ret2
    exact ⟨rfl, K.out⟩
  · obtain ⟨a, t, ht⟩ := kept_best (ls := ls) (f := f) h0
    have hr := d.2.1
    rw [ht] at hr
    obtain ⟨A, c', hV2, -, -, hv⟩ := hr.view
    obtain ⟨b, e1, -, hbl, -, hcs⟩ := hv (by simp)
    obtain ⟨q0, -⟩ := hcs 0 _ rfl
    subst e1 hV2
    have D0 := Lib.hid d.1
    have FI := Lib.hid (fun W h1 h2 => first_any g b c' t.length (bestI ls l) (some ⟨b, 0, none⟩) W rfl h1 h2)
    have Q0 : Hid (w.cell? ⟨b, 0, none⟩ = some (.int .i64 (bestI ls l))) := Lib.hid q0
    have HBL := Lib.hid hbl
    have hd : decide (0 < l.length) = true := decide_eq_true h0
    rw [hd]
    have e1 : (((l.length : Nat) : Int) == 0) = false := by simp; intro h; rw [h] at h0; simp at h0
    clear hd hr hv hcs d q0 ht hbl h0
    generalize bestI ls l = B at *
    generalize l.length = k at *
    go_enter Tryd.func133, Tryd.ntmps133
    go_wp2_with fail
    refine LN.out.mono ?_
    rintro r w1 ⟨rfl, m, hm⟩
    have K := Lib.hid (show Below w.heap.size w w1 by rw [hm]; exact below_drewN (Below.refl _ _) _)
    have C1 := Lib.hid (D0.out.next K.out).all.2.1
    have C2 := Lib.hid ((K.out.cell (p := ⟨b, 0, none⟩) HBL.out).trans Q0.out)
    clear hm
    go_wp2_with fail
    refine (FI.out _ C1.out C2.out).mono ?_
    rintro r w2 ⟨rfl, rfl⟩
    go_wp2
    go_ret2
    exact ⟨rfl, K.out⟩
end Go.Proofs.YtfamgaakcbinkaaDoor.Dq
