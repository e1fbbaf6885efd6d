/-
  rifflelaw12.does and same: what a deed does to a window and to the document's list. Conditions: as told in each.
-/
import Derived.Test.YtogbemdoimhndaaTwRef
set_option maxRecDepth 100000
namespace Go.Proofs.Ytogbemdoimhndaa.Tws
open Go.Proofs.Ytogbemdoimhndaa.Sh Go.Proofs.Ytogbemdoimhndaa.St
open Go.RowKit
set_option linter.unusedVariables false

/-- What a deed makes of the list. -/
def step (m : Nat) (l : List ByteArray) (d : Deed) : List ByteArray := if d.1 = true then l.tail else if l.length = m then l else l ++ [d.2]
/-- What a deed leaves of both. -/
def RetDo (base g m : Nat) (l' : List ByteArray) (T : Nat → Prop) (w : World) (e : Ending) (w' : World) : Prop := ∃ V T', e = .returned (.tuple #[V, .bool true]) ∧ Ob base w' g m l' T' ∧ Lst T' w' V l' ∧ Turn T w w' ∧ ∀ b, T' b → T b ∨ w.heap.size ≤ b
theorem Lst.tail {T : Nat → Prop} {w : World} {b off c n : Nat} {y : ByteArray} {rest : List ByteArray} (h : Lst T w (.slice (some ⟨b, off, none⟩) (n + 1) c) (y :: rest)) (hn : rest.length = n) : Lst T w (.slice (some ⟨b, off + 1, none⟩) n (c - 1)) rest := by
  obtain ⟨A, c', e, h1, h2, hs⟩ := h
  injection e with e1 e2 e3
  subst e1 e3
  obtain ⟨g, o, e', hg, hl, hc⟩ := hs (by simp)
  injection e' with e'
  injection e' with e1 e2
  subst e1 e2
  subst hn
  refine ⟨some ⟨b, off + 1, none⟩, c - 1, rfl, by simp at h1; omega, by omega, fun _ => ⟨b, off + 1, rfl, hg, hl, fun j x hx => ?_⟩⟩
  have := hc (j + 1) x (by simpa using hx)
  rwa [show off + (j + 1) = off + 1 + j by omega] at this
theorem small {l : List ByteArray} {k : Nat} (hl : l.length ≤ k) (hz : ∀ z ∈ l, z.size ≤ 40) : wsum l ≤ k * 40 := by
  induction l generalizing k with
  | nil => simp [wsum]
  | cons x t ih =>
    simp at hl
    have h1 := ih (k := k - 1) (by omega) (fun z hz' => hz z (List.mem_cons_of_mem _ hz'))
    have h2 := hz x List.mem_cons_self
    rw [wsum_cons]
    unfold wt
    have : (k - 1) * 40 + 40 = k * 40 := by omega
    omega
set_option maxHeartbeats 2000000 in
theorem does_none (base g m : Nat) (T : Nat → Prop) (V : Value) (x : ByteArray) (w : World) (h : Ob base w g m [] T) (hL : Lst T w V []) :
    Calls Try.prog 13 #[.pointer (some ⟨g, 0, none⟩), V, .int .i64 (m : Nat), .agg #[.bool true, .string x]] w (RetDo base g m [] T w) := by
  have B1 := Lib.hid (below_new w (.cells #[.bool true, .string x] 32))
  have DN := Lib.hid (ob_none base g m T _ (h.next B1.out))
  have HO := Lib.hid h
  have HL := Lib.hid hL
  obtain ⟨A, c, rfl, _, _, _⟩ := hL
  have X1 := Lib.hid (Bk.new 32 w [.bool true, .string x])
  have x0 : (w.alloc (.cells #[.bool true, .string x] 32)).cell? ⟨w.heap.size, 0, none⟩ = some (.bool true) := X1.out.c 0
  clear h
  go_enter Try.func13, Try.ntmps13
  go_wp2_with (go_at_call 16; (with_reducible refine (DN.out).mono ?_); rintro r w2 ⟨rfl, hb2⟩; have B2 := Lib.hid (below_next B1.out hb2); clear hb2)
  go_ret2
  exact ⟨_, T, rfl, HO.out.next B2.out, HL.out.next B2.out, Turn.of_below T B2.out, fun b k => .inl k⟩
theorem do_left {base g m : Nat} {l' : List ByteArray} {T : Nat → Prop} {w w1 w2 : World} {V : Value} (B1 : Below w.heap.size w w1) (h : Left base g m l' T w1 w2) (hL : Lst T w1 V l') : RetDo base g m l' T w (.returned (.tuple #[V, .bool true])) w2 := by
  obtain ⟨T', ho, ht, hT⟩ := h
  have hs := B1.size
  exact ⟨V, T', rfl, ho, hL.left ht hT, (Turn.of_below T B1).trans ht, fun b k => (hT b k).imp id fun h => by omega⟩
set_option maxHeartbeats 2000000 in
theorem does_drop (base g m : Nat) (T : Nat → Prop) (V : Value) (y x : ByteArray) (rest : List ByteArray) (w : World) (h : Ob base w g m (y :: rest) T) (hL : Lst T w V (y :: rest)) (hm : rest.length < 64) (hx : wsum (y :: rest) ≤ 10000) :
    Calls Try.prog 13 #[.pointer (some ⟨g, 0, none⟩), V, .int .i64 (m : Nat), .agg #[.bool true, .string x]] w (RetDo base g m rest T w) := by
  have B1 := Lib.hid (below_new w (.cells #[.bool true, .string x] 32))
  have DN := Lib.hid (ob_drop base g m rest T y _ (h.next B1.out) hm hx)
  obtain ⟨A, c, rfl, hc1, hc2, hs⟩ := hL
  obtain ⟨b, off, rfl, hb, hlt, hc⟩ := hs (by simp)
  obtain ⟨n, hn⟩ : ∃ n, rest.length = n := ⟨_, rfl⟩
  have hL' : Lst T w (.slice (some ⟨b, off, none⟩) (n + 1) c) (y :: rest) := ⟨_, c, by rw [← hn]; rfl, hc1, hc2, fun _ => ⟨b, off, rfl, hb, hlt, hc⟩⟩
  have HL := Lib.hid (hL'.tail hn)
  have HN := Lib.hid hn
  have X1 := Lib.hid (Bk.new 32 w [.bool true, .string x])
  have x0 : (w.alloc (.cells #[.bool true, .string x] 32)).cell? ⟨w.heap.size, 0, none⟩ = some (.bool true) := X1.out.c 0
  rw [show (y :: rest).length = n + 1 by simp [hn]] at hc1 ⊢
  have t2 : (((n : Int) + 1) == 0) = false := by simp; omega
  have i1 : (1 : Int) ≤ (n : Int) + 1 := by omega
  have i2 : (n : Int) + 1 ≤ (c : Int) := by omega
  have i3 : (1 : Int) ≤ (c : Int) := by omega
  have i6 : 1 ≤ c := by omega
  have i8 : n + 1 ≤ c := by omega
  have H0 := Lib.hid (show c = 1 → rest = [] from fun e => List.eq_nil_of_length_eq_zero (by omega))
  clear h hs hc hL' hm hx hn hc1 hc2
  by_cases hc : c = 1
  · have HR := Lib.hid (H0.out hc)
    subst hc
    obtain rfl : n = 0 := by omega
    go_enter Try.func13, Try.ntmps13
    go_wp2_with (go_at_call 16; (with_reducible refine (DN.out).mono ?_); rintro r w2 ⟨rfl, h2⟩; have LE := Lib.hid h2; clear h2)
    go_ret2
    refine do_left B1.out LE.out ?_
    have hr := HR.out
    subst hr
    exact ⟨_, _, rfl, Nat.le_refl _, by simp [maxLen], Seq.nil _ _ _⟩
  · go_enter Try.func13, Try.ntmps13
    go_wp2_with (go_at_call 16; (with_reducible refine (DN.out).mono ?_); rintro r w2 ⟨rfl, h2⟩; have LE := Lib.hid h2; clear h2)
    go_ret2
    exact do_left B1.out LE.out (HL.out.next B1.out)
set_option maxHeartbeats 2000000 in
theorem does_full (base g m : Nat) (T : Nat → Prop) (V : Value) (x : ByteArray) (l : List ByteArray) (w : World) (h : Ob base w g m l T) (hL : Lst T w V l) (hl : l.length = m) (hm : m ≤ 64) :
    Calls Try.prog 13 #[.pointer (some ⟨g, 0, none⟩), V, .int .i64 (m : Nat), .agg #[.bool false, .string x]] w (RetDo base g m l T w) := by
  have B1 := Lib.hid (below_new w (.cells #[.bool false, .string x] 32))
  have DN := Lib.hid (ob_full base g m l T x _ (h.next B1.out) hl hm)
  have RP := Lib.hid (rpush_full V l T x _ (hL.next B1.out))
  rw [hl] at RP
  have HO := Lib.hid h
  have HL := Lib.hid hL
  obtain ⟨A, c, rfl, _, _, _⟩ := hL
  rw [hl] at *
  have X1 := Lib.hid (Bk.new 32 w [.bool false, .string x])
  have x0 : (w.alloc (.cells #[.bool false, .string x] 32)).cell? ⟨w.heap.size, 0, none⟩ = some (.bool false) := X1.out.c 0
  have x1 : (w.alloc (.cells #[.bool false, .string x] 32)).cell? ⟨w.heap.size, 1, none⟩ = some (.string x) := X1.out.c 1
  clear h hl hm
  go_enter Try.func13, Try.ntmps13
  go_wp2_with (first
    | (go_at_call 36; (with_reducible refine (RP.out).mono ?_); rintro r w2 ⟨rfl, rfl⟩)
    | (go_at_call 18; (with_reducible refine (DN.out).mono ?_); rintro r w2 ⟨rfl, hb2⟩; have B2 := Lib.hid (below_next B1.out hb2); clear hb2))
  go_ret2
  exact ⟨_, T, rfl, HO.out.next B2.out, HL.out.next B2.out, Turn.of_below T B2.out, fun b k => .inl k⟩
set_option maxHeartbeats 2000000 in
theorem does_room (base g m : Nat) (T : Nat → Prop) (V : Value) (x : ByteArray) (l : List ByteArray) (w : World) (h : Ob base w g m l T) (hL : Lst T w V l) (hl : l.length < m) (hm : m ≤ 64) (hx : wsum (l ++ [x]) ≤ 10000) :
    Calls Try.prog 13 #[.pointer (some ⟨g, 0, none⟩), V, .int .i64 (m : Nat), .agg #[.bool false, .string x]] w (RetDo base g m (l ++ [x]) T w) := by
  have B1 := Lib.hid (below_new w (.cells #[.bool false, .string x] 32))
  have RP := Lib.hid (rpush_room V l T m x _ (hL.next B1.out) (by omega) (by omega))
  obtain ⟨T0, h0, hT0⟩ := h.own
  have DN := Lib.hid (fun W (hb : Below w.heap.size w W) => ob_push base g m l T0 x W (h0.next hb) hl hm hx)
  have HT := Lib.hid hT0
  obtain ⟨A, c, rfl, _, _, _⟩ := hL
  have X1 := Lib.hid (Bk.new 32 w [.bool false, .string x])
  have x0 : (w.alloc (.cells #[.bool false, .string x] 32)).cell? ⟨w.heap.size, 0, none⟩ = some (.bool false) := X1.out.c 0
  have x1 : (w.alloc (.cells #[.bool false, .string x] 32)).cell? ⟨w.heap.size, 1, none⟩ = some (.string x) := X1.out.c 1
  clear h h0 hT0 hl hm hx
  go_enter Try.func13, Try.ntmps13
  go_wp2_with (first
    | (go_at_call 36; (with_reducible refine (RP.out).mono ?_); rintro r w2 ⟨V2, rfl, hL2, hb2⟩; have B2 := Lib.hid (below_next B1.out hb2); have L2 := Lib.hid hL2; obtain ⟨A2, c2, rfl, _, _, _⟩ := hL2; have x1 := (X1.out.next hb2).c 1; clear hb2)
    | (go_at_call 18; (with_reducible refine (DN.out _ B2.out).mono ?_); rintro r w3 ⟨rfl, h3⟩; have LE := Lib.hid h3; clear h3))
  go_ret2
  obtain ⟨V', T', e, ho, hl', ht, hT'⟩ := do_left B2.out LE.out (L2.out.sub fun b k => by have := (HT.out b k).2.1; have := B1.out.size; omega)
  exact ⟨V', T', by rw [← e, List.length_append]; rfl, ho, hl', ht.mono fun b k => (HT.out b k).1, fun b k => (hT' b k).imp (fun k => (HT.out b k).1) id⟩
theorem step_small {m : Nat} {l : List ByteArray} {d : Deed} (hl : l.length ≤ m) (hz : ∀ z ∈ l, z.size ≤ 40) (hd : d.2.size ≤ 40) : (step m l d).length ≤ m ∧ ∀ z ∈ step m l d, z.size ≤ 40 := by
  unfold step
  split
  · exact ⟨by rw [List.length_tail]; omega, fun z h => hz z (List.mem_of_mem_tail h)⟩
  · split
    · exact ⟨hl, hz⟩
    · refine ⟨by simp; omega, fun z h => ?_⟩
      rcases List.mem_append.1 h with h | h
      · exact hz z h
      · simp at h; rw [h]; exact hd
theorem does_any (base g m : Nat) (T : Nat → Prop) (V : Value) (d : Deed) (l : List ByteArray) (w : World) (h : Ob base w g m l T) (hL : Lst T w V l) (hl : l.length ≤ m) (hm : m ≤ 64) (hz : ∀ z ∈ l, z.size ≤ 40) (hd : d.2.size ≤ 40) :
    Calls Try.prog 13 #[.pointer (some ⟨g, 0, none⟩), V, .int .i64 (m : Nat), .agg #[.bool d.1, .string d.2]] w (RetDo base g m (step m l d) T w) := by
  obtain ⟨dr, x⟩ := d
  have hs := small (k := 64) (by omega) hz
  cases dr with
  | true =>
    cases l with
    | nil => exact does_none base g m T V x w h hL
    | cons y rest => exact does_drop base g m T V y x rest w h hL (by simp at hl; omega) (by omega)
  | false =>
    by_cases hf : l.length = m
    · have e : step m l (false, x) = l := by unfold step; rw [if_neg (by simp), if_pos hf]
      rw [e]
      exact does_full base g m T V x l w h hL hf hm
    · have e : step m l (false, x) = l ++ [x] := by unfold step; rw [if_neg (by simp), if_neg hf]
      rw [e]
      refine does_room base g m T V x l w h hL (by omega) hm ?_
      have h1 : wsum [x] = x.size := by simp [wsum, wt]
      rw [wsum_app, h1]
      simp only at hd
      omega
set_option maxHeartbeats 2000000 in
theorem same_any (base g m : Nat) (T T2 : Nat → Prop) (V : Value) (l : List ByteArray) (w : World) (h : Ob base w g m l T) (hL : Lst T2 w V l) (hl : l.length ≤ 64) (hz : ∀ z ∈ l, z.size ≤ 40) :
    Calls Try.prog 14 #[.pointer (some ⟨g, 0, none⟩), V] w fun e w' => e = .returned (.bool true) ∧ Below w.heap.size w w' := by
  have hs := small hl hz
  have AL := Lib.hid (ob_all base g m l T w h (by omega) (by omega))
  have RA := Lib.hid (fun W (hb : Below w.heap.size w W) => rall_any T2 V l W (hL.next hb) (by omega) (by omega))
  have LE := Lib.hid (fun W (hb : Below w.heap.size w W) => ob_len base g m l T W (h.next hb) (by omega))
  obtain ⟨A, c, rfl, _, _, _⟩ := hL
  obtain ⟨y, hy⟩ : ∃ y, jl l = y := ⟨_, rfl⟩
  unfold RetAll at AL
  rw [hy] at AL RA
  obtain ⟨n, hn⟩ : ∃ n, l.length = n := ⟨_, rfl⟩
  have HP := Lib.hid (show decide ((n : Int) > 0) = decide (0 < n) from by rw [decide_eq_decide]; omega)
  rw [hn] at AL RA LE ⊢
  obtain ⟨bb, hbb⟩ : ∃ bb, decide (0 < n) = bb := ⟨_, rfl⟩
  rw [hbb] at AL
  have q1 : decide ((n : Int) > 0) = bb := HP.out.trans hbb
  have q2 : decide (0 < n) = bb := hbb
  clear h hl hz hs hy hn hbb
  cases bb
  all_goals
    go_enter Try.func14, Try.ntmps14
    go_wp2_with (first
      | (go_at_call 15; (with_reducible refine (AL.out).mono ?_); rintro r w2 ⟨rfl, hb2⟩; have B2 := Lib.hid hb2; clear hb2)
      | (go_at_call 37; (with_reducible refine (RA.out _ B2.out).mono ?_); rintro r w3 ⟨rfl, rfl⟩)
      | (go_at_call 17; (with_reducible refine (LE.out _ B2.out).mono ?_); rintro r w4 ⟨rfl, hb4⟩; have B4 := Lib.hid (below_next B2.out hb4); clear hb4))
    go_ret
    exact ⟨rfl, B4.out⟩
end Go.Proofs.Ytogbemdoimhndaa.Tws
