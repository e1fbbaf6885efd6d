/-
  What New and Clone of package window make. Conditions: the table of traits holds what its text lays.
-/
import Derived.Test.YtfamgaakcbinkaaDoorWnPush
import Derived.Test.YtfamgaakcbinkaaDoorWnMay
set_option maxRecDepth 100000
namespace Go.Proofs.YtfamgaakcbinkaaDoor.Wn
open Go.Proofs.YtfamgaakcbinkaaDoor.Sh Go.Proofs.YtfamgaakcbinkaaDoor.St
open Go.RowKit
set_option linter.unusedVariables false

theorem way_123 (c : Int) : wayN c = 1 ∨ wayN c = 2 ∨ wayN c = 3 := by
  cases hp : (Sc.trOf c).picks with
  | true => exact .inr (.inr (way_3 hp))
  | false =>
    cases hj : (Sc.trOf c).joins with
    | true => exact .inr (.inl (way_2 hp hj))
    | false => exact .inl (way_1 hp hj)
/-- A call as one step of a region that draws. -/
theorem step_call {f : FuncId} {args : Array Value} {w : World} {o : Oper} {ops : Array Oper} {a : Act} {K : Act → World → Prop} {Q : Exit → Act → World → Prop} {E : Prop} {post : Ending → World → Prop} (hgd : o.guard = none) (hrun : (execOp a.eval o).run Tryd.prog w = .ok (.enter f args) w) (hc : Calls Tryd.prog f args w post) (hp : ∀ e w', post e w' → ∃ v, e = .returned v) (h : ∀ v w', post (.returned v) w' → K (a.put o.dst v) w') : if Region.wanted o (yielded ops a.tmps) = true then Oper.wp Tryd.prog o a w K Q else E := by
  rw [if_pos (by simp [Region.wanted, hgd])]
  unfold Oper.wp
  rw [hrun, Oper.upon_enter]
  exact hc.mono fun e w' h' => by obtain ⟨v, rfl⟩ := hp e w' h'; exact h v w' h'
theorem infoC : (Tryd.prog.info? 107).map (fun i => (i.zero, i.size, i.bytes)) = some (some .nilIface, 1, 16) := by kernel_rfl
theorem one_if (t : TypeId) (x : Value) : ∀ u ∈ [(.iface t x : Value)], u.oneCell' = true := by intro u hu; simp at hu; rw [hu]; rfl
theorem cols_add {n₀ m k q : Nat} {c : Int} {s : Bool} {w : World} {X : Nat → Value} {Q : Nat → Nat} {L : Nat → List Int} {T : Nat → Nat → Prop} {x : Value} {l : List Int} {T2 : Nat → Prop} (h : Cols n₀ c s m w k X Q L T) (hc : ColG n₀ c s m q w x l T2) (hd : ∀ b, All k T b → ¬ T2 b) : Cols n₀ c s m w (k + 1) (upd X k x) (upd Q k q) (upd L k l) (upd T k T2) := by
  refine ⟨fun i hi => ?_, fun i j hi hj hne b h1 h2 => ?_⟩
  · by_cases e : i = k
    · subst e
      simp only [upd, ↓reduceIte]
      exact hc
    · simp only [upd, if_neg e]
      exact h.1 i (by omega)
  · simp only [upd] at h1 h2
    by_cases e1 : i = k
    · rw [if_pos e1] at h1
      rw [if_neg (by omega)] at h2
      exact hd b ⟨j, by omega, h2⟩ h1
    · rw [if_neg e1] at h1
      by_cases e2 : j = k
      · rw [if_pos e2] at h2
        exact hd b ⟨i, by omega, h1⟩ h2
      · rw [if_neg e2] at h2
        exact h.2 i j (by omega) (by omega) hne b h1 h2
theorem all_upd {k : Nat} {T : Nat → Nat → Prop} {T2 : Nat → Prop} {b : Nat} (h : All (k + 1) (upd T k T2) b) : All k T b ∨ T2 b := by
  obtain ⟨i, hi, hb⟩ := h
  simp only [upd] at hb
  by_cases e : i = k
  · rw [if_pos e] at hb; exact .inr hb
  · rw [if_neg e] at hb; exact .inl ⟨i, by omega, hb⟩
theorem colV_upd (c : Int) (X : Nat → Value) (k : Nat) (x : Value) : colV c (upd X k x) (k + 1) = colV c X k ++ [.iface (colT (wayN c)) x] := by
  rw [colV_succ]
  congr 1
  · unfold colV
    apply List.map_congr_left
    intro i hi
    have : i < k := List.mem_range.1 hi
    simp only [upd, if_neg (show ¬ i = k by omega)]
  · simp only [upd, ↓reduceIte]
/-- One more column is taken in. -/
theorem win_add {n₀ g m k q back look came told : Nat} {c : Int} {s over : Bool} {V V7 : Value} {wr w5 w7 : World} {X : Nat → Value} {L : Nat → List Int} {T : Nat → Nat → Prop} {x : Value} {vs : Array Value} (d : Win n₀ wr g V c s m k X q L T back look came told over) (hc : Col n₀ c s m q w5 x (L k) (wr.heap.size ≤ ·)) (hb5 : Below wr.heap.size wr w5)
    (hv : w7.ownsRow n₀ 107 1 V7 (k + 1) (colV c X k ++ [.iface (colT (wayN c)) x])) (hg : (w5.alloc (.cells vs 107)).grownBy w7 V.ownBlock) (ha : V7.ownBlock = V.ownBlock ∨ V7.ownBlock = some (w5.alloc (.cells vs 107)).heap.size) :
    ∃ X' T', Win n₀ (w7.setCell ⟨g, 0, none⟩ V7) g V7 c s m (k + 1) X' q L T' back look came told over ∧ Turn (Tw g V k T) wr (w7.setCell ⟨g, 0, none⟩ V7) ∧ ∀ b, Tw g V7 (k + 1) T' b → Tw g V k T b ∨ wr.heap.size ≤ b := by
  obtain ⟨T2, g2, s2⟩ := hc.good
  have ba := below_new w5 (.cells vs 107)
  have tv : Turn (fun b => V.ownBlock = some b) w5 w7 := (Turn.of_below _ ba).trans (Turn.of_grown hg fun g e => e)
  have d5 := d.next hb5
  have nS : NF w5 (fun b => V.ownBlock = some b) := fun b hb cs hk => own_bk_ne (t := 23) d5.2.1 hk (by decide) hb.symm
  have lS : ∀ b, V.ownBlock = some b → n₀ ≤ b := fun b hb => own_base d5.2.1 b hb
  have hlt := own_lt d.2.1
  have b7 : Bk 105 w7 g [V, .int .i64 (back : Nat), .int .i64 (look : Nat), .int .i64 (came : Nat), .int .i64 (told : Nat), .bool over] := d5.1.turn tv fun e => d5.ne e
  have ts : Turn (fun b => b = g) w7 (w7.setCell ⟨g, 0, none⟩ V7) := Turn.setCell (p := ⟨g, 0, none⟩) (Turn.refl (fun b => b = g) w7) (.inl rfl) _
  have ng : NF w7 (fun b => b = g) := fun b hb cs hk => by subst hb; exact Bk.ne_ b7 hk (by decide) rfl
  have lg : ∀ b, b = g → n₀ ≤ b := fun b hb => by subst hb; exact d.2.2.2.2
  have hgl := d.1.lt
  have c7 := (d5.2.2.1.turn tv (fun b hb e => (d.2.2.2.1 b hb).2 e) nS lS).turn ts (fun b hb e => (d.2.2.2.1 b hb).1 e) ng lg
  have n7 := (g2.turn tv (fun b hb e => by have := s2 b hb; have := hlt b e; omega) nS lS).turn ts (fun b hb e => by have := s2 b hb; omega) ng lg
  have hs5 := hb5.size
  have hs7 := tv.size
  have a5 : (w5.alloc (.cells vs 107)).heap.size = w5.heap.size + 1 := by simp
  refine ⟨upd X k x, upd T k T2, ⟨Bk.set_ b7 0 V7, ?_, (cols_add c7 n7 fun b hb h2 => ?_).congr (fun i hi => ?_) (fun i hi => ?_), fun b hb => ?_, d.2.2.2.2⟩, ?_, fun b hb => ?_⟩
  · rw [colV_upd]
    exact own_turn hv ts fun b hb e => own_bk_ne (t := 105) hv b7 (by decide) (by rw [hb, e])
  · have h1 := (d.2.2.1.lt b hb).1
    have h3 := s2 b h2
    omega
  · simp only [upd]; split <;> rfl
  · simp only [upd]; split
    · next e => rw [e]
    · rfl
  · rcases all_upd hb with h | h
    · refine ⟨(d.2.2.2.1 b h).1, fun e => ?_⟩
      rcases ha with e1 | e1
      · exact (d.2.2.2.1 b h).2 (e1.symm.trans e)
      · rw [e1] at e
        injection e with e
        have h1 := (d.2.2.1.lt b h).1
        omega
    · have h3 := s2 b h
      refine ⟨by omega, fun e => ?_⟩
      rcases ha with e1 | e1
      · have := hlt b (e1.symm.trans e); omega
      · rw [e1] at e
        injection e with e
        have h1 := (g2.2.2 b h).1
        omega
  · exact ((Turn.of_below _ hb5).trans (tv.mono fun b h => .inr (.inl h))).trans (ts.mono fun b h => .inl h)
  · rcases hb with h | h | h
    · exact .inl (.inl h)
    · rcases ha with e1 | e1
      · exact .inl (.inr (.inl (e1.symm.trans h)))
      · rw [e1] at h
        injection h with h
        right; omega
    · rcases all_upd h with h | h
      · exact .inl (.inr (.inr h))
      · exact .inr (s2 b h)
/-- A new window. -/
def RetNew (c : Int) (s : Bool) (n back look : Nat) (w : World) (e : Ending) (w' : World) : Prop := ∃ g V X T, e = .returned (.tuple #[.pointer (some ⟨g, 0, none⟩), .int .i64 0]) ∧ Win w.heap.size w' g V c s (back + look + 1) n X 0 (fun _ => []) T back look 0 0 false ∧ Below w.heap.size w w'
/-- At the head of the loop. -/
def NewAt (w : World) (n₀ g : Nat) (c : Int) (s : Bool) (k back look : Nat) (wr : World) : Prop := ∃ V X T, Win n₀ wr g V c s (back + look + 1) k X 0 (fun _ => []) T back look 0 0 false ∧ Below n₀ w wr ∧ Bk 23 wr n₀ [.int .i64 c, .bool s]
theorem new_add {w wr w8 : World} {n₀ g k back look : Nat} {c : Int} {s : Bool} {V V7 : Value} {X : Nat → Value} {T : Nat → Nat → Prop} (d : Win n₀ wr g V c s (back + look + 1) k X 0 (fun _ => []) T back look 0 0 false) (hb : Below n₀ w wr) (fb : Bk 23 wr n₀ [.int .i64 c, .bool s]) (h : ∃ X' T', Win n₀ w8 g V7 c s (back + look + 1) (k + 1) X' 0 (fun _ => []) T' back look 0 0 false ∧ Turn (Tw g V k T) wr w8 ∧ ∀ b, Tw g V7 (k + 1) T' b → Tw g V k T b ∨ wr.heap.size ≤ b) : NewAt w n₀ g c s (k + 1) back look w8 := by
  obtain ⟨X', T', h1, h2, h3⟩ := h
  exact ⟨V7, X', T', h1, hb.trans (h2.below (Nat.le_of_lt fb.lt) fun b k => (d.lt b k).2), fb.turn h2 fun e => d.nf _ e _ fb⟩
set_option maxHeartbeats 8000000 in
theorem new_yes (c : Int) (s : Bool) (n back look : Nat) (w : World) (h0 : 0 < w.heap.size) (hT : Sc.Tab w) (hn : n ≤ 64) (h2 : Sc.hasB c 2 = true) (hb : back + look ≤ 31) : Calls Tryd.prog 22 #[.agg #[.int .i64 c, .bool s], .int .i64 (back : Nat), .int .i64 (look : Nat), .int .i64 (n : Nat)] w (RetNew c s n back look w) := by
  have b0 := below_new w (.cells #[.int .i64 c, .bool s] 23)
  have L0 := Lib.hid b0
  have T0 := Lib.hid (hT.below b0)
  have BX := Lib.hid (Bk.new 23 w [.int .i64 c, .bool s])
  have H0 := Lib.hid h0
  have TW := Lib.hid hT
  have e1 : IntKind.i64.wrap (31 - (back : Int)) = 31 - (back : Int) := IntWalk.i64_in _ (by omega)
  have t1 : decide ((n : Int) < 0) = false := decide_eq_false (by omega)
  have t2 : decide ((n : Int) > 64) = false := decide_eq_false (by omega)
  have t3 : decide ((back : Int) < 0) = false := decide_eq_false (by omega)
  have t4 : decide ((look : Int) < 0) = false := decide_eq_false (by omega)
  have t5 : decide ((look : Int) > 31 - (back : Int)) = false := decide_eq_false (by omega)
  have e2 : IntKind.i64.wrap ((back : Int) + (look : Int)) = ((back : Int) + (look : Int)) := IntWalk.i64_in _ (by omega)
  have e3 : IntKind.i64.wrap ((back : Int) + (look : Int) + 1) = (back : Int) + (look : Int) + 1 := IntWalk.i64_in _ (by omega)
  clear b0 hT h0
  go_enter Tryd.func22, Tryd.ntmps22
  go_wp2_with fail
  refine (Sc.has_b c 2 true _ h2 T0.out).mono ?_
  rintro r w1 ⟨rfl, hb1⟩
  have L1 := Lib.hid (below_next L0.out hb1)
  have X1 := Lib.hid (BX.out.next hb1)
  have hsz : w.heap.size < w1.heap.size := (BX.out.next hb1).lt
  have b2 := below_new w1 (.cells #[.slice none 0 0, .int .i64 (back : Nat), .int .i64 (look : Nat), .int .i64 0, .int .i64 0, .bool false] 105)
  have PA : Hid (NewAt w w.heap.size w1.heap.size c s 0 back look (w1.alloc (.cells #[.slice none 0 0, .int .i64 (back : Nat), .int .i64 (look : Nat), .int .i64 0, .int .i64 0, .bool false] 105))) := Lib.hid ⟨.slice none 0 0, fun _ => .nilIface, fun _ _ => False, ⟨Bk.new 105 w1 [.slice none 0 0, .int .i64 (back : Nat), .int .i64 (look : Nat), .int .i64 0, .int .i64 0, .bool false], World.ownsRow_nil _ _ _ _, ⟨fun i hi => by omega, fun i j hi => by omega⟩, fun b ⟨i, hi, _⟩ => by omega, by omega⟩, L1.out.trans (b2.mono L1.out.size), X1.out.next b2⟩
  have HL := Lib.hid L1.out.size
  have HG := Lib.hid hsz
  have T1 := Lib.hid (T0.out.below hb1)
  clear hb1 b2 t1 t2 t3 t4 t5 e1 hsz
  go_wp2
  clear T0 BX L0 L1 X1
  go_loopw [41] (fun i wr => ∃ k : Nat, k ≤ n ∧ i = .int .i64 k ∧ Hid (NewAt w w.heap.size w1.heap.size c s k back look wr)) (fun i _ => n - (intOf i).toNat)
  case atStart => exact ⟨0, Nat.zero_le _, rfl, PA⟩
  case round =>
    obtain ⟨k, hk, rfl, HP⟩ := hrel
    by_cases hlt : k < n
    · have i1 : decide ((k : Int) < (n : Int)) = true := decide_eq_true (by omega)
      obtain ⟨V, X, T, d, p2, p3⟩ := HP.out
      have D := Lib.hid d
      have P2 := Lib.hid p2
      have P3 := Lib.hid p3
      obtain ⟨c0, -⟩ := d.all6
      have x0 := p3.c 0
      have x1 := p3.c 1
      simp only [List.getElem?_cons_zero, List.getElem?_cons_succ] at x0 x1
      have NC := newcol_any w.heap.size c s (back + look + 1) wr.drew H0.out (Nat.le_of_lt p3.lt) (TW.out.below p2.drew) (by omega) (by omega)
      have TL : Hid (k + 1 ≤ 100000) := Lib.hid (by omega)
      unfold RetCol at NC
      rw [show ((back + look + 1 : Nat) : Int) = (back : Int) + (look : Int) + 1 by omega] at NC
      have NC := Lib.hid NC
      obtain ⟨y, hy⟩ : ∃ y, wayN c = y := ⟨_, rfl⟩
      rw [hy] at NC
      have HY := Lib.hid hy
      clear d p2 p3 HP hy
      go_wp2_with fail
      go_region_law (first
        | (refine step_call rfl (by kernel_rfl) NC.out (by rintro e' w' ⟨x, rfl, -, -⟩; exact ⟨_, rfl⟩) ?_; rintro v5 w5 ⟨x, e5, hc5, hb5'⟩; injection e5 with e5; subst e5; have hb5 := below_next (Below.refl wr.heap.size wr).drew hb5'; have C5 := Lib.hid hc5; have B5 := Lib.hid hb5; have c05 := (D.out.next hb5).1.c 0; have c06 := ((D.out.next hb5).1.alloc (.cells #[.iface (colT y) x] 107)).c 0; simp only [List.getElem?_cons_zero] at c05 c06; have O6 := Lib.hid (World.ownsRow.alloc (D.out.next hb5).2.1 (.cells #[.iface (colT y) x] 107)); have LS := Lib.hid (Nat.le_trans (Nat.le_trans (Nat.le_of_lt P3.out.lt) hb5.size) (below_new w5 (.cells #[.iface (colT y) x] 107)).size); clear hc5 hb5 hb5')
        | (refine Dq.step_appS infoC rfl (by decide) (by decide) Tryd.underlying103 rfl (.tmp 47) (.tmp 54) rfl w.heap.size V k (colV c X k) (by simp [Act.eval]) O6.out (fun _ => True) (some ⟨w5.heap.size, 0, none⟩) 1 1 [.iface (colT y) x] (by simp [Act.eval]) rfl (seq1 _ _ _) (one_if _ _) TL.out LS.out ?_; intro V7 w7 hv7 hg7 ha7; obtain ⟨A7, c7, rfl, -⟩ := own_seq hv7 (by decide); have HV7 := Lib.hid hv7; have HG7 := Lib.hid hg7; have HA7 := Lib.hid ha7; have y0 := (((D.out.next B5.out).1.alloc (.cells #[.iface (colT y) x] 107)).grown hg7 (fun e => (D.out.next B5.out).ne e.symm)).c 0; have yf := (((D.out.next B5.out).1.alloc (.cells #[.iface (colT y) x] 107)).grown hg7 (fun e => (D.out.next B5.out).ne e.symm)).f 0; clear hv7 hg7 ha7))
      all_goals
        have PB : Hid (NewAt w w.heap.size w1.heap.size c s (k + 1) back look (w7.setCell ⟨w1.heap.size, 0, none⟩ (.slice A7 (k + 1) c7))) := Lib.hid (new_add D.out P2.out P3.out (win_add D.out C5.out B5.out (by rw [HY.out]; exact HV7.out) HG7.out HA7.out))
        clear C5 B5 HV7 HG7 HA7 O6
        go_wp2
        exact ⟨⟨k + 1, by omega, by go_num, PB⟩, by simp [intOf]; omega⟩
    · obtain rfl : k = n := by omega
      have i1 : decide ((k : Int) < (k : Int)) = false := decide_eq_false (by omega)
      clear PA
      go_wp2
      go_ret2
      obtain ⟨V, X, T, d, p2, p3⟩ := HP.out
      exact ⟨w1.heap.size, V, X, T, rfl, d, p2⟩
/-- A clone. -/
def RetClone (n₀ : Nat) (c : Int) (s : Bool) (m n q : Nat) (L : Nat → List Int) (back look came told : Nat) (over : Bool) (w : World) (e : Ending) (w' : World) : Prop := ∃ g V X T, e = .returned (.pointer (some ⟨g, 0, none⟩)) ∧ Win n₀ w' g V c s m n X q L T back look came told over ∧ Below w.heap.size w w' ∧ ∀ b, Tw g V n T b → w.heap.size ≤ b
/-- At the head of the loop. -/
def CloneAt (n₀ : Nat) (c : Int) (s : Bool) (m k q : Nat) (L : Nat → List Int) (back look came told : Nat) (over : Bool) (w wr : World) : Prop := ∃ V X T, Win n₀ wr w.heap.size V c s m k X q L T back look came told over ∧ Below w.heap.size w wr ∧ ∀ b, Tw w.heap.size V k T b → w.heap.size ≤ b
theorem clone_add {w wr w8 : World} {n₀ k q m back look came told : Nat} {c : Int} {s over : Bool} {V V7 : Value} {L : Nat → List Int} {T : Nat → Nat → Prop} (hb : Below w.heap.size w wr) (f : ∀ b, Tw w.heap.size V k T b → w.heap.size ≤ b) (h : ∃ X' T', Win n₀ w8 w.heap.size V7 c s m (k + 1) X' q L T' back look came told over ∧ Turn (Tw w.heap.size V k T) wr w8 ∧ ∀ b, Tw w.heap.size V7 (k + 1) T' b → Tw w.heap.size V k T b ∨ wr.heap.size ≤ b) : CloneAt n₀ c s m (k + 1) q L back look came told over w w8 := by
  obtain ⟨X', T', h1, h2, h3⟩ := h
  exact ⟨V7, X', T', h1, hb.trans (h2.below hb.size f), fun b k => (h3 b k).elim (f b) fun k => Nat.le_trans hb.size k⟩
set_option maxHeartbeats 8000000 in
theorem clone_any (n₀ g : Nat) (V : Value) (c : Int) (s : Bool) (m n : Nat) (X : Nat → Value) (q : Nat) (L : Nat → List Int) (T : Nat → Nat → Prop) (back look came told : Nat) (over : Bool) (w : World) (d : Win n₀ w g V c s m n X q L T back look came told over) (hn : n ≤ 64) (hq : q ≤ 999) :
    Calls Tryd.prog 36 #[.pointer (some ⟨g, 0, none⟩)] w (RetClone n₀ c s m n q L back look came told over w) := by
  have HD := Lib.hid d
  obtain ⟨c0, c1, c2, c3, c4, c5⟩ := d.all6
  obtain ⟨A, cap, hV, -⟩ := own_seq d.2.1 (by decide)
  have HV := Lib.hid hV
  obtain ⟨y, hy⟩ : ∃ y, wayN c = y := ⟨_, rfl⟩
  have HY := Lib.hid hy
  have hgl : g < w.heap.size := d.1.lt
  have HY3 := Lib.hid (show y = 1 ∨ y = 2 ∨ y = 3 by rw [← hy]; exact way_123 c)
  have b0 := below_new w (.cells #[.slice none 0 0, .int .i64 (back : Nat), .int .i64 (look : Nat), .int .i64 (came : Nat), .int .i64 (told : Nat), .bool over] 105)
  have PA : Hid (CloneAt n₀ c s m 0 q L back look came told over w (w.alloc (.cells #[.slice none 0 0, .int .i64 (back : Nat), .int .i64 (look : Nat), .int .i64 (came : Nat), .int .i64 (told : Nat), .bool over] 105))) := Lib.hid ⟨.slice none 0 0, fun _ => .nilIface, fun _ _ => False, ⟨Bk.new 105 w [.slice none 0 0, .int .i64 (back : Nat), .int .i64 (look : Nat), .int .i64 (came : Nat), .int .i64 (told : Nat), .bool over], World.ownsRow_nil _ _ _ _, ⟨fun i hi => by omega, fun i j hi => by omega⟩, fun b ⟨i, hi, _⟩ => by omega, by have := d.2.2.2.2; omega⟩, b0, fun b hb => by
    rcases hb with rfl | hb | ⟨i, hi, _⟩
    · exact Nat.le_refl _
    · cases hb
    · omega⟩
  rw [hV] at c0
  clear d hy hV b0
  go_enter Tryd.func36, Tryd.ntmps36
  go_wp2
  go_loopw [17] (fun i wr => ∃ k : Nat, k ≤ n ∧ i = .int .i64 k ∧ Hid (CloneAt n₀ c s m k q L back look came told over w wr)) (fun i _ => n - (intOf i).toNat)
  case atStart => exact ⟨0, Nat.zero_le _, rfl, PA⟩
  case round =>
    obtain ⟨k, hk, rfl, HP⟩ := hrel
    by_cases hlt : k < n
    · obtain ⟨V1, X1, T1, d, p2, p3⟩ := HP.out
      have D := Lib.hid d
      have P2 := Lib.hid p2
      have P3 := Lib.hid p3
      obtain ⟨z0, -⟩ := d.all6
      have DN := Lib.hid (HD.out.next p2)
      obtain ⟨b, off, cap', hV2, hc⟩ := DN.out.at_ hlt
      rw [HV.out] at hV2
      injection hV2 with x1 x2 x3
      subst x1 x3
      have CC := Lib.hid (col_clone n₀ c s m q (X k) (L k) (T k) wr.drew ((DN.out.2.2.1.1 k hlt).1.next (Below.refl _ wr).drew) hq)
      rw [HY.out] at CC hc
      have i1 : (k : Int) < (n : Int) := by omega
      have i0 : (0 : Int) ≤ (k : Int) := by omega
      have TL : Hid (k + 1 ≤ 100000) := Lib.hid (by omega)
      generalize hxk : X k = xk at *
      clear d p2 p3 HP
      go_wp2_with fail
      go_region_law (first
        | (refine step_call rfl (by rcases HY3.out with e | e | e <;> subst e <;> kernel_rfl) CC.out (by rintro e' w' ⟨x, rfl, -, -⟩; exact ⟨_, rfl⟩) ?_; rintro v5 w5 ⟨x, e5, hc5, hb5'⟩; injection e5 with e5; subst e5; have hb5 := below_next (Below.refl wr.heap.size wr).drew hb5'; have C5 := Lib.hid hc5; have B5 := Lib.hid hb5; have c05 := (D.out.next hb5).1.c 0; have c06 := ((D.out.next hb5).1.alloc (.cells #[.iface (colT y) x] 107)).c 0; simp only [List.getElem?_cons_zero] at c05 c06; have O6 := Lib.hid (World.ownsRow.alloc (D.out.next hb5).2.1 (.cells #[.iface (colT y) x] 107)); have LS := Lib.hid (show n₀ ≤ (w5.alloc (.cells #[.iface (colT y) x] 107)).heap.size from Nat.le_trans (Nat.le_trans (Nat.le_trans D.out.2.2.2.2 (Nat.le_of_lt D.out.1.lt)) hb5.size) (below_new w5 _).size); clear hc5 hb5 hb5')
        | (refine Dq.step_appS infoC rfl (by decide) (by decide) Tryd.underlying103 rfl (.tmp 22) (.tmp 25) rfl n₀ V1 k (colV c X1 k) (by simp [Act.eval]) O6.out (fun _ => True) (some ⟨w5.heap.size, 0, none⟩) 1 1 [.iface (colT y) x] (by simp [Act.eval]) rfl (seq1 _ _ _) (one_if _ _) TL.out LS.out ?_; intro V7 w7 hv7 hg7 ha7; obtain ⟨A7, c7, rfl, -⟩ := own_seq hv7 (by decide); have HV7 := Lib.hid hv7; have HG7 := Lib.hid hg7; have HA7 := Lib.hid ha7; have y0 := (((D.out.next B5.out).1.alloc (.cells #[.iface (colT y) x] 107)).grown hg7 (fun e => (D.out.next B5.out).ne e.symm)).c 0; have yf := (((D.out.next B5.out).1.alloc (.cells #[.iface (colT y) x] 107)).grown hg7 (fun e => (D.out.next B5.out).ne e.symm)).f 0; clear hv7 hg7 ha7))
      all_goals
        have PB : Hid (CloneAt n₀ c s m (k + 1) q L back look came told over w (w7.setCell ⟨w.heap.size, 0, none⟩ (.slice A7 (k + 1) c7))) := Lib.hid (clone_add P2.out P3.out (win_add D.out C5.out B5.out (by rw [HY.out]; exact HV7.out) HG7.out HA7.out))
        clear C5 B5 HV7 HG7 HA7 O6
        go_wp2
        exact ⟨⟨k + 1, by omega, by go_num, PB⟩, by simp [intOf]; omega⟩
    · obtain rfl : k = n := by omega
      clear PA
      go_wp2
      go_ret
      obtain ⟨V1, X1, T1, d, p2, p3⟩ := HP.out
      exact ⟨w.heap.size, V1, X1, T1, rfl, d, p2, p3⟩
end Go.Proofs.YtfamgaakcbinkaaDoor.Wn
