/-
  What (*twin.Agg[int64]).turn does to a window without front stack. Conditions: as told.
-/
import Derived.Test.YtfamgaakcbinkaaDoorTwcFold
import Derived.Test.YtfamgaakcbinkaaDoorTwcPush
import Derived.Test.YtfamgaakcbinkaaDoorDqRow
import Derived.Deep.RegionLaw
namespace Go.Proofs.YtfamgaakcbinkaaDoor.Twc
open Go.Proofs.YtfamgaakcbinkaaDoor.Sh Go.Proofs.YtfamgaakcbinkaaDoor.St
open Go.RowKit
set_option linter.unusedVariables false
set_option linter.unusedSectionVars false
variable [J : Jc]
attribute [local go_sem] Oper.semAt_some

/-- What lies between two rounds of turn. -/
structure Mid (base : Nat) (w : World) (g m : Nat) (FV BV tv : Value) (tb : Bool) (bs : List Int) (pre : List Rd) (W : World) (FV' : Value) : Prop where
  box : Bk 136 W w.heap.size [.pointer (some ⟨g, 0, none⟩)]
  rest : Bk 159 W (w.heap.size + 1) [Value.int .i64 (fld bs.length (pre.map Subtype.val)).2.1, .bool (fld bs.length (pre.map Subtype.val)).2.2]
  cap : Bk 27 W (w.heap.size + 1 + 1) [BV]
  obj : Bk 161 W g [.int .i64 m, jv, FV', BV, tv, .bool tb]
  own : W.ownsRow base 159 2 FV' pre.length (flat2 (fld bs.length (pre.map Subtype.val)).1)
  back : W.ownsRow base 2 1 BV bs.length (bs.map (Value.int .i64))
  turn : Turn (Tt g FV BV) w W
  fresh : ∀ k, FV'.ownBlock = some k → FV.ownBlock = some k ∨ w.heap.size + 1 + 1 < k
  wt_ : wt (fld bs.length (pre.map Subtype.val)).2.1 ≤ pre.length * 10000
theorem own_grow {base : Nat} {e : TypeId} {size n B : Nat} {v : Value} {xs : List Value} {X Y : World} {row : Option Nat} (h : X.ownsRow base e size v n xs) (hg : X.grownBy Y row) (hr : ∀ r, row = some r → B ≤ r ∧ ∃ o : Obj, X.heap[r]? = some o ∧ o.isCells = false) : Y.ownsRow base e size v n xs := by
  refine h.kept hg ?_
  rcases h.2 with ⟨rfl, _⟩ | ⟨g, cap, cur, rfl, _, hgb, _⟩
  · exact .inl rfl
  · refine .inr fun e' => ?_
    obtain ⟨_, o, ho, hc⟩ := hr g (by simpa [Value.ownBlock] using e'.symm)
    rw [hgb] at ho
    cases ho
    cases hc
theorem bk_grow {t : TypeId} {g B : Nat} {xs : List Value} {X Y : World} {row : Option Nat} (h : Bk t X g xs) (hg : X.grownBy Y row) (hr : ∀ r, row = some r → B ≤ r ∧ ∃ o : Obj, X.heap[r]? = some o ∧ o.isCells = false) : Bk t Y g xs := by
  refine h.grown hg fun e => ?_
  obtain ⟨_, o, ho, hc⟩ := hr g e.symm
  unfold Bk at h
  rw [h] at ho
  cases ho
  cases hc
theorem mid_own (base : Nat) (w : World) (g m : Nat) (FV BV tv : Value) (tb : Bool) (bs : List Int) (B : Nat) (hB : w.heap.size ≤ B) : OwnFrom B (fun (pre : List Rd) W => ∃ FV', Mid base w g m FV BV tv tb bs pre W FV') := by
  rintro pre X Y row ⟨FV', h⟩ hg hr
  refine ⟨FV', bk_grow h.box hg hr, bk_grow h.rest hg hr, bk_grow h.cap hg hr, bk_grow h.obj hg hr, own_grow h.own hg hr, own_grow h.back hg hr, ?_, h.fresh, h.wt_⟩
  refine ⟨hg.os.trans h.turn.1, hg.tape.trans h.turn.2.1, hg.output.trans h.turn.2.2.1, Nat.le_trans h.turn.size hg.size, fun i hi hn => (hg.block i (Nat.lt_of_lt_of_le hi h.turn.size) fun e => ?_).trans (h.turn.at_ hi hn)⟩
  have := (hr i e.symm).1
  omega
theorem keepB_b {S : Nat → Prop} {w : World} (hS : ∀ b, S b → b < w.heap.size) (W : World) (l : Nat) (o o' : Obj) (hl : w.heap.size ≤ l) (_ : W.heap[l]? = some o) (_ : o.isCells = false) (_ : o.isWalk = false) : KeepB S W (W.putObj l o') := fun b hb =>
  World.putObj_heap_other (fun e => by have := hS b hb; omega)
theorem mid_end {base g m : Nat} {FV BV FV' V8 tv : Value} {tb : Bool} {bs : List Int} {w W w6 w8 : World} {pre : List Rd} {x : Rd} {h : Int} {hok : Bool} {o : Obj} {B : Nat} (M : Mid base w g m FV BV tv tb bs pre W FV') (hfv : ∀ b, FV.ownBlock = some b → b < w.heap.size) (hB : B ≤ B)
    (hg : g < w.heap.size) (hbv : ∀ b, BV.ownBlock = some b → b < w.heap.size) (T6 : Below W.heap.size W w6) (hv : w8.ownsRow base 159 2 V8 (pre.length + 1) (flat2 (fld bs.length (pre.map Subtype.val)).1 ++ [Value.int .i64 h, .bool hok]))
    (h8 : (w6.alloc o).grownBy w8 FV'.ownBlock) (ha : V8.ownBlock = FV'.ownBlock ∨ V8.ownBlock = some (w6.heap.size + 1)) (he : hr bs.length (fld bs.length (pre.map Subtype.val)).2 x.1 = (h, hok)) :
    KeepsFrom B W (((w8.setCell ⟨g, 2, none⟩ V8).setCell ⟨w.heap.size + 1, 0, none⟩ (Value.int .i64 h)).setCell ⟨w.heap.size + 1, 1, none⟩ (.bool hok)) ∧
    KeepB (fun b => b = w.heap.size + 1 + 1 ∨ BV.ownBlock = some b) W (((w8.setCell ⟨g, 2, none⟩ V8).setCell ⟨w.heap.size + 1, 0, none⟩ (Value.int .i64 h)).setCell ⟨w.heap.size + 1, 1, none⟩ (.bool hok)) ∧
    ∃ V, Mid base w g m FV BV tv tb bs (pre ++ [x]) (((w8.setCell ⟨g, 2, none⟩ V8).setCell ⟨w.heap.size + 1, 0, none⟩ (Value.int .i64 h)).setCell ⟨w.heap.size + 1, 1, none⟩ (.bool hok)) V := by
  have t8 : Turn (fun b => FV'.ownBlock = some b) W w8 := ((Turn.of_below _ T6).next (below_new w6 o)).trans (Turn.of_grown h8 fun g e => e)
  have nG : ¬ FV'.ownBlock = some g := fun e => own_bk_ne (t := 161) M.own M.obj (by decide) e.symm
  have nX : ∀ b, w.heap.size ≤ b → b ≤ w.heap.size + 1 + 1 → ¬ FV'.ownBlock = some b := fun b h1 h2 e => by
    rcases M.fresh _ e with k | k
    · have := hfv _ k; omega
    · omega
  have nV : ∀ b, b < w.heap.size → ¬ Tt g FV BV b → ¬ FV'.ownBlock = some b := fun b h1 h2 e => by
    rcases M.fresh _ e with k | k
    · exact h2 (.inr (.inl k))
    · omega
  have nB : ∀ b, BV.ownBlock = some b → ¬ FV'.ownBlock = some b := fun b hb e => by
    rcases own_apart M.own M.back (by decide) with k | k
    · rw [k] at e; cases e
    · exact k (e.trans hb.symm)
  have ts : Turn (fun b => b = g ∨ b = w.heap.size + 1) w8 (((w8.setCell ⟨g, 2, none⟩ V8).setCell ⟨w.heap.size + 1, 0, none⟩ (Value.int .i64 h)).setCell ⟨w.heap.size + 1, 1, none⟩ (.bool hok)) :=
    Turn.setCell (p := ⟨w.heap.size + 1, 1, none⟩) (Turn.setCell (p := ⟨w.heap.size + 1, 0, none⟩) (Turn.setCell (p := ⟨g, 2, none⟩) (Turn.refl (fun b => b = g ∨ b = w.heap.size + 1) w8) (.inl (.inl rfl)) _) (.inl (.inr rfl)) _) (.inl (.inr rfl)) _
  have tw : Turn (fun b => FV'.ownBlock = some b ∨ b = g ∨ b = w.heap.size + 1) W (((w8.setCell ⟨g, 2, none⟩ V8).setCell ⟨w.heap.size + 1, 0, none⟩ (Value.int .i64 h)).setCell ⟨w.heap.size + 1, 1, none⟩ (.bool hok)) := (t8.mono fun b h => .inl h).trans (ts.mono fun b h => .inr h)
  have hgr : g ≠ w.heap.size + 1 := by omega
  have G1 := ((Bk.set_ (M.obj.turn t8 nG) 2 V8).far (p := ⟨w.heap.size + 1, 0, none⟩) hgr (Value.int .i64 h)).far (p := ⟨w.heap.size + 1, 1, none⟩) hgr (.bool hok)
  have R1 := Bk.set_ (Bk.set_ ((M.rest.turn t8 (nX _ (by omega) (by omega))).far (p := ⟨g, 2, none⟩) (fun e => hgr e.symm) V8) 0 (Value.int .i64 h)) 1 (.bool hok)
  have hlt : w.heap.size + 1 + 1 < W.heap.size := M.cap.lt
  have e1 : fld bs.length ((pre ++ [x]).map Subtype.val) = ((fld bs.length (pre.map Subtype.val)).1 ++ [(h, hok)], (h, hok)) := by
    rw [List.map_append, List.map_cons, List.map_nil, fld_snoc]
    unfold stp
    rw [he]
  have v8 : ∀ b, V8.ownBlock = some b → FV'.ownBlock = some b ∨ W.heap.size < b := fun b hb => by
    rcases ha with k | k
    · exact .inl (k ▸ hb)
    · rw [k] at hb
      injection hb with hb
      have := T6.size
      exact .inr (by omega)
  refine ⟨⟨tw.size, fun k o' _ ho hc => ?_⟩, fun b hb => ?_, V8, ⟨?_, ?_, ?_, ?_, ?_, ?_, ?_, ?_, ?_⟩⟩
  · refine (tw.at_ (Array.getElem?_eq_some_iff.1 ho).1 fun hk => ?_).trans ho
    rcases hk with hk | rfl | rfl
    · rcases M.own.2 with ⟨rfl, _⟩ | ⟨g', cap, cur, rfl, _, hgb, _⟩
      · cases hk
      · cases hk
        rw [hgb] at ho
        cases ho
        cases hc
    · have := M.obj
      unfold Bk at this
      rw [this] at ho
      cases ho
      cases hc
    · have := M.rest
      unfold Bk at this
      rw [this] at ho
      cases ho
      cases hc
  · rcases hb with rfl | hb
    · exact tw.at_ hlt (by rintro (k | k | k); (· exact nX _ (by omega) (by omega) k); (· omega); (· omega))
    · have := hbv b hb
      refine tw.at_ (by omega) ?_
      rintro (k | k | k)
      · exact nB b hb k
      · exact own_bk_ne (t := 161) M.back M.obj (by decide) (by rw [hb, k])
      · omega
  · exact M.box.turn tw (by rintro (k | k | k); (· exact nX _ (by omega) (by omega) k); (· omega); (· omega))
  · rw [e1]; exact R1
  · exact M.cap.turn tw (by rintro (k | k | k); (· exact nX _ (by omega) (by omega) k); (· omega); (· omega))
  · exact G1
  · rw [e1, List.length_append, flat2_app]
    refine own_turn hv ts fun b hb hk => ?_
    rcases hk with rfl | rfl
    · rcases v8 _ hb with k | k
      · exact nG k
      · omega
    · rcases v8 _ hb with k | k
      · exact nX _ (by omega) (by omega) k
      · omega
  · exact own_turn M.back tw fun b hb => by
      rintro (k | k | k)
      · exact nB b hb k
      · exact own_bk_ne (t := 161) M.back M.obj (by decide) (by rw [hb, k])
      · have := hbv b hb; omega
  · refine ⟨tw.1.trans M.turn.1, tw.2.1.trans M.turn.2.1, tw.2.2.1.trans M.turn.2.2.1, Nat.le_trans M.turn.size tw.size, fun i hi hn => (tw.at_ (Nat.lt_of_lt_of_le hi M.turn.size) ?_).trans (M.turn.at_ hi hn)⟩
    rintro (k | k | k)
    · exact nV i hi hn k
    · exact hn (.inl k)
    · omega
  · intro k hk
    rcases v8 _ hk with e | e
    · exact M.fresh _ e
    · exact .inr (by omega)
  · rw [e1, List.length_append]
    have h1 := wt_hr bs.length (fld bs.length (pre.map Subtype.val)).2 x.1
    rw [he] at h1
    have h2 := M.wt_
    have h3 := x.2
    simp only [List.length_cons, List.length_nil]
    simp only at h1 ⊢
    omega
/-- 'clear' of a row of one's own: what lies there, and the row cut to nothing. -/
theorem own_clear {base n c kb : Nat} {xs : List Value} {w : World} (h : w.ownsRow base 2 1 (.slice (some ⟨kb, 0, none⟩) n c) n xs) (hn : 0 < n) :
    (∀ ty, (Builtin.clear_ #[27] ty #[.slice (some ⟨kb, 0, none⟩) n c]).run Tryd.prog w = .ok (.tuple #[]) (w.setCells kb 0 (List.replicate n (.int .i64 0 : Value)))) ∧ (w.setCells kb 0 (List.replicate n (.int .i64 0 : Value))).ownsRow base 2 1 (.slice (some ⟨kb, 0, none⟩) 0 c) 0 [] := by
  rcases h.2 with ⟨e, _⟩ | ⟨g', c', cur, e, hb, hg, hnc, hm, hs, ht⟩
  · cases e
  cases e
  have hB : Bk 2 w kb cur.toList := by unfold Bk; simpa using hg
  have hl : cur.toList.length = c := by simpa using hs
  constructor
  · intro ty
    refine Lib.run_clear_slice w _ _ ty _ Tryd.underlying27 Tryd.zeroValue2 rfl rfl kb 0 n c hn (fun j hj => ?_) (fun j hj => ?_)
    · rw [Nat.zero_add, hB.c j, List.getElem?_eq_getElem (by omega)]
      rfl
    · rw [Nat.zero_add]
      exact hB.f j
  · have h2 := Go.Proofs.YtfamgaakcbinkaaDoor.Dq.setCells_row kb 2 (List.replicate n (.int .i64 0 : Value)) 0 w cur.toList hB (by simp at hl ⊢; omega)
    refine ⟨rfl, .inr ⟨kb, c, _, rfl, hb, h2, Nat.zero_le _, hm, ?_, by simp⟩⟩
    rw [List.size_toArray, length_splice _ _ _ (by simp at hl ⊢; omega), hl, Nat.mul_one]
theorem turn_end {base g m kb c D : Nat} {FV FV' tv : Value} {tb : Bool} {bs : List Int} {w W W2 : World} {pre : List Rd} (M : Mid base w g m FV (.slice (some ⟨kb, 0, none⟩) bs.length c) tv tb bs pre W FV') (hp : pre.length = bs.length) (hf : (fld bs.length (pre.map Subtype.val)).1 = (sums bs).map fun s => (s, true))
    (hkb : kb < w.heap.size) (hg : g < w.heap.size) (hkg : kb ≠ g) (hD : w.heap.size ≤ D) (hK : W.heap[D]? = some (.deferred (some []))) (TC : Turn (fun b => b = kb) W W2) (HO : W2.ownsRow base 2 1 (.slice (some ⟨kb, 0, none⟩) 0 c) 0 []) (hbase : base ≤ g) :
    ∃ FV' BV', Tw base ((((W2.setCell ⟨g, 3, none⟩ (.slice (some ⟨kb, 0, none⟩) 0 c)).setCell ⟨g, 4, none⟩ (.int .i64 0 : Value)).setCell ⟨g, 5, none⟩ (.bool false)).drew.putObj D (.deferred none)) g m FV' BV' bs [] (.int .i64 0 : Value) false ∧
      Turn (Tt g FV (.slice (some ⟨kb, 0, none⟩) bs.length c)) w ((((W2.setCell ⟨g, 3, none⟩ (.slice (some ⟨kb, 0, none⟩) 0 c)).setCell ⟨g, 4, none⟩ (.int .i64 0 : Value)).setCell ⟨g, 5, none⟩ (.bool false)).drew.putObj D (.deferred none)) ∧ Fresh w FV FV' ∧ Fresh w (.slice (some ⟨kb, 0, none⟩) bs.length c) BV' := by
  obtain ⟨V, hV⟩ : ∃ V, (Value.slice (some ⟨kb, 0, none⟩) 0 c) = V := ⟨_, rfl⟩
  have hVb : V.ownBlock = some kb := by rw [← hV]; rfl
  have ts : Turn (fun b => b = g) W2 (((W2.setCell ⟨g, 3, none⟩ V).setCell ⟨g, 4, none⟩ (.int .i64 0 : Value)).setCell ⟨g, 5, none⟩ (.bool false)) :=
    Turn.setCell (p := ⟨g, 5, none⟩) (Turn.setCell (p := ⟨g, 4, none⟩) (Turn.setCell (p := ⟨g, 3, none⟩) (Turn.refl (fun b => b = g) W2) (.inl rfl) _) (.inl rfl) _) (.inl rfl) _
  have G2 := M.obj.turn TC (fun e => hkg e.symm)
  have G3 := Bk.set_ (Bk.set_ (Bk.set_ G2 3 V) 4 (.int .i64 0 : Value)) 5 (.bool false)
  have nK : ∀ b, FV'.ownBlock = some b → ¬ b = kb := fun b hb e => by
    rcases own_apart M.own M.back (by decide) with k | k
    · rw [k] at hb; cases hb
    · exact k (by rw [hb, e]; rfl)
  have nG : ∀ b, FV'.ownBlock = some b → ¬ b = g := fun b hb e => own_bk_ne (t := 161) M.own M.obj (by decide) (by rw [hb, e])
  have O3 := own_turn (own_turn M.own TC nK) ts nG
  rw [hV] at HO
  have H3 := own_turn HO ts (fun b hb e => hkg (by rw [hVb] at hb; cases hb; exact e))
  rw [hp, hf, flat2_flat] at O3
  have hK3 := (ts.at_ (Nat.lt_of_lt_of_le (Array.getElem?_eq_some_iff.1 hK).1 TC.size) (by omega)).trans ((TC.at_ (Array.getElem?_eq_some_iff.1 hK).1 (by omega)).trans hK)
  rw [hV]
  generalize ((W2.setCell ⟨g, 3, none⟩ V).setCell ⟨g, 4, none⟩ (.int .i64 0 : Value)).setCell ⟨g, 5, none⟩ (.bool false) = W3 at *
  have hgr : W3.grownBy (W3.drew.putObj D (.deferred none)) (some D) := grown_drew (grownBy_putObj' W3.drew D (.deferred none))
  have hrow : ∀ r, some D = some r → 0 ≤ r ∧ ∃ o : Obj, W3.heap[r]? = some o ∧ o.isCells = false := fun r e => by
    cases e
    exact ⟨Nat.zero_le _, _, hK3, rfl⟩
  have t3 : Turn (Tt g FV (.slice (some ⟨kb, 0, none⟩) bs.length c)) w W3 := (M.turn.trans (TC.mono fun b h => by rw [h]; exact .inr (.inr rfl))).trans (ts.mono fun b h => .inl h)
  refine ⟨FV', V, ⟨bk_grow (B := 0) G3 hgr hrow, own_grow (B := 0) O3 hgr hrow, own_grow (B := 0) H3 hgr hrow, hbase, fun h => by simp at h⟩, ?_, fun k hk => ?_, fun k hk => .inl (by rw [hVb] at hk; exact hk)⟩
  · refine ⟨hgr.os.trans t3.1, hgr.tape.trans t3.2.1, hgr.output.trans t3.2.2.1, Nat.le_trans t3.size hgr.size, fun i hi hn => (hgr.block i (Nat.lt_of_lt_of_le hi t3.size) fun e => ?_).trans (t3.at_ hi hn)⟩
    cases e
    omega
  · rcases M.fresh k hk with h | h
    · exact .inl h
    · exact .inr (by omega)
theorem two_ev (x : Int) (b : Bool) : ∀ u ∈ [(Value.int .i64 x : Value), .bool b], u.oneCell' = true := by intro u hu; simp at hu; rcases hu with rfl | rfl <;> rfl
set_option maxRecDepth 100000 in
set_option maxHeartbeats 4000000 in
theorem turn_any (base g m : Nat) (FV BV tv : Value) (tb : Bool) (bs : List Int) (w : World) (r : Tw base w g m FV BV [] bs tv tb) (hb0 : 0 < bs.length) (hl : bs.length ≤ 64) (hw : ∀ z ∈ bs, wt z ≤ 10000) (hJ : JB base w) :
    Calls Tryd.prog 145 #[.pointer (some ⟨g, 0, none⟩)] w fun e w' => e = .returned (.tuple #[]) ∧ ∃ FV' BV', Tw base w' g m FV' BV' bs [] (.int .i64 0 : Value) false ∧ Turn (Tt g FV BV) w w' ∧ Fresh w FV FV' ∧ Fresh w BV BV' := by
  have HR := Lib.hid r
  obtain ⟨A, c, rfl, -⟩ := r.back
  have d3 : ((w.alloc (.cells #[.pointer (some ⟨g, 0, none⟩)] 136)).alloc (.cells #[(.int .i64 0 : Value), .bool false] 159)).cell? ⟨g, 3, none⟩ = some (.slice A bs.length c) := ((r.1.alloc _).alloc _).c 3
  have HJB := Lib.hid hJ
  clear hJ
  clear r
  refine (callsIn_wide (n := 3)).1 ?_
  refine callsIn_of_wp_marks Tryd.func145 rfl trivial ?_
  simp only [Tryd.ntmps145, List.size_toArray, List.length_cons, List.length_nil, Nat.reduceAdd, Nat.reduceSub, Array.replicate_succ, Array.replicate_zero, List.push_toArray, List.append_toArray, List.nil_append, List.cons_append]
  gi_wp2_with (refine ⟨trivial, ?_⟩; gi_at_call 158; refine (callsIn_wide.2 (backward_any _ _ _ _)).mono ?_; rintro e w' ⟨rfl, rfl⟩)
  obtain ⟨kb, c', e⟩ : ∃ kb c', (Value.slice A bs.length c) = .slice (some ⟨kb, 0, none⟩) bs.length c' := by
    obtain ⟨n, hn⟩ : ∃ n, bs.length = n + 1 := ⟨bs.length - 1, by omega⟩
    have h := HR.out.2.2.1
    rw [hn] at h ⊢
    exact ownsRow_succ h
  cases e
  obtain ⟨W0, hW0⟩ : ∃ W0, ((w.alloc (.cells #[.pointer (some ⟨g, 0, none⟩)] 136)).alloc (.cells #[(.int .i64 0 : Value), .bool false] 159)).alloc (.cells #[.slice (some ⟨kb, 0, none⟩) bs.length c] 27) = W0 := ⟨_, rfl⟩
  have hsz : W0.heap.size = w.heap.size + 1 + 1 + 1 := by rw [← hW0]; simp
  have hB0 : Below w.heap.size w W0 := by rw [← hW0]; exact ((below_next (below_next (below_new w _) (below_new _ _)) (below_new _ _)))
  have bA : Bk 136 W0 w.heap.size [.pointer (some ⟨g, 0, none⟩)] := by rw [← hW0]; exact ((Bk.new _ w _).alloc _).alloc _
  have bR : Bk 159 W0 (w.heap.size + 1) [(.int .i64 0 : Value), .bool false] := by rw [← hW0]; have := (Bk.new 159 (w.alloc (.cells #[.pointer (some ⟨g, 0, none⟩)] 136)) [(.int .i64 0 : Value), .bool false]).alloc (.cells #[.slice (some ⟨kb, 0, none⟩) bs.length c] 27); rwa [World.size_alloc] at this
  have bS : Bk 27 W0 (w.heap.size + 1 + 1) [.slice (some ⟨kb, 0, none⟩) bs.length c] := by rw [← hW0]; have := Bk.new 27 ((w.alloc (.cells #[.pointer (some ⟨g, 0, none⟩)] 136)).alloc (.cells #[(.int .i64 0 : Value), .bool false] 159)) [.slice (some ⟨kb, 0, none⟩) bs.length c]; rwa [World.size_alloc, World.size_alloc] at this
  have R0 := Lib.hid (HR.out.next hB0)
  have hkb : kb < w.heap.size := (HR.out.lt kb (.inr (.inr rfl))).1
  have hg0 : g < w.heap.size := (HR.out.lt g (.inl rfl)).1
  have hkg : kb ≠ g := fun e => own_bk_ne (t := 161) HR.out.2.2.1 HR.out.1 (by decide) (by rw [e]; rfl)
  have hSq : Seq (fun b => b = w.heap.size + 1 + 1 ∨ (Value.slice (some ⟨kb, 0, none⟩) bs.length c).ownBlock = some b) W0 (some ⟨kb, 0, none⟩) (bs.map (Value.int .i64)) := fun hp => by
    obtain ⟨A', c', e, _, _, hs⟩ := own_seq R0.out.2.2.1 (by decide)
    cases e
    obtain ⟨g', o', e', _, hl', hc'⟩ := hs hp
    cases e'
    exact ⟨kb, 0, rfl, .inr rfl, hl', hc'⟩
  rw [hW0]
  refine wpIn_rangeFunc_ownG rfl (by omega) (gf := 160) (lb := #[.pointer (some ⟨w.heap.size + 1 + 1, 0, none⟩)]) rfl trivial (enters_of Tryd.func160 (by kernel_rfl) rfl)
    (back_stops Fence.wide (3 - 1) trivial rfl (by omega) (w.heap.size + 1 + 1) (fun b => b = w.heap.size + 1 + 1 ∨ (Value.slice (some ⟨kb, 0, none⟩) bs.length c).ownBlock = some b) (some ⟨kb, 0, none⟩) c bs (by omega) hw W0 (bS.c 0) (.inl rfl) hSq) (fun h k => KeepB.trans h k) (keepB_b (fun b hb => by rcases hb with rfl | hb; (· omega); exact Nat.lt_of_lt_of_le (HR.out.lt b (.inr (.inr hb))).1 hB0.size)) (Below.refl _ _) (fun _ => rfl)
    (fun pre W => ∃ FV', Mid base w g m FV (.slice (some ⟨kb, 0, none⟩) bs.length c) tv tb bs pre W FV')
    (fun _ _ _ => False)
    (mid_own base w g m FV _ tv tb bs W0.heap.size (by omega))
    (fun _ _ _ _ _ hs _ _ => hs)
    ⟨FV, ⟨bA, bR, bS, R0.out.1, R0.out.2.1, R0.out.2.2.1, Turn.of_below _ hB0, fun k hk => .inl hk, by show wt (0 : Int) ≤ _; rw [wt_z]; omega⟩⟩
    (fun x => { tmps := #[.pointer (some ⟨g, 0, none⟩), .pointer (some ⟨w.heap.size, 0, none⟩), .pointer (some ⟨w.heap.size + 1, 0, none⟩), .int .i64 x.1.1, Value.int .i64 x.1.2, undef, .pointer (some ⟨g, 0, none⟩), .pointer (some ⟨g, 0, none⟩), .pointer (some ⟨g, 3, none⟩), .slice (some ⟨kb, 0, none⟩) bs.length c, .func (.func 160) #[] #[.pointer (some ⟨w.heap.size + 1 + 1, 0, none⟩)], .int .i64 x.1.1, Value.int .i64 x.1.2, undef, undef, undef, undef, undef, undef, undef, undef, undef, undef, undef, undef, undef, undef, undef, undef, undef, undef, undef, undef, undef, undef, undef, undef, undef, undef, undef, undef, undef, undef, undef, undef, undef, undef, undef, undef, undef, undef, undef, undef, undef], defers := [] }) ?assign ?body ?done ?stop
  case assign =>
    intro l x W K hK
    unfold encs
    gi_wp2
    exact hK
  case body =>
    rintro l pre x W ⟨FV', M⟩ hlen
    obtain ⟨⟨i, v⟩, hv⟩ := x
    simp only at hv ⊢
    obtain ⟨⟨q, ok⟩, hq⟩ : ∃ q, (fld bs.length (pre.map Subtype.val)).2 = q := ⟨_, rfl⟩
    have BX := Lib.hid M.box
    have GB := Lib.hid M.obj
    have RB := Lib.hid (show Bk 159 W (w.heap.size + 1) [Value.int .i64 q, .bool ok] by have := M.rest; rwa [hq] at this)
    have hwt : wt v + wt q ≤ 1000000 := by have := M.wt_; rw [hq] at this; simp only at this; omega
    have ME := Lib.hid (fun W (h : W.cell? ⟨g, 1, none⟩ = some jv ∧ JW W) => meet_sum g v (q, ok) W h.1 h.2 hwt)
    have OW := Lib.hid M.own
    have hlW : w.heap.size + 1 < W.heap.size := M.rest.lt
    have X4 := Lib.hid (Bk.new 159 W [Value.int .i64 v, .bool true])
    have x0 := X4.out.c 0
    have x1 := X4.out.c 1
    have y0 : (W.alloc (.cells #[Value.int .i64 v, .bool true] 159)).cell? ⟨w.heap.size, 0, none⟩ = some (.pointer (some ⟨g, 0, none⟩)) := (BX.out.alloc _).c 0
    have y1 : (W.alloc (.cells #[Value.int .i64 v, .bool true] 159)).cell? ⟨w.heap.size + 1, 0, none⟩ = some (Value.int .i64 q) := (RB.out.alloc _).c 0
    have y2 : (W.alloc (.cells #[Value.int .i64 v, .bool true] 159)).cell? ⟨w.heap.size + 1, 1, none⟩ = some (.bool ok) := (RB.out.alloc _).c 1
    have y3 : (W.alloc (.cells #[Value.int .i64 v, .bool true] 159)).cell? ⟨g, 3, none⟩ = some (.slice (some ⟨kb, 0, none⟩) bs.length c) := (GB.out.alloc _).c 3
    have w1 : IntKind.i64.wrap ((bs.length : Int) - 1) = (bs.length : Int) - 1 := IntWalk.i64_in _ (by omega)
    have J4 := Lib.hid (show (W.alloc (.cells #[Value.int .i64 v, .bool true] 159)).cell? ⟨g, 1, none⟩ = some jv ∧ JW (W.alloc (.cells #[Value.int .i64 v, .bool true] 159)) from ⟨(GB.out.alloc _).c 1, (HJB.out.turn M.turn (fun b hb => (HR.out.lt b hb).2)).1.next (below_new W _)⟩)
    have HL := Lib.hid hlen
    have HQ := Lib.hid hq
    have MM := Lib.hid M
    clear hq M hlen hwt hB0 bA bR bS hW0 hb0
    generalize hW1 : W.alloc (.cells #[Value.int .i64 v, .bool true] 159) = W1 at *
    have T1 := Lib.hid (show Below W.heap.size W W1 by rw [← hW1]; exact below_new W _)
    have B1 := Lib.hid (show Bk 136 W1 w.heap.size [.pointer (some ⟨g, 0, none⟩)] by rw [← hW1]; exact BX.out.alloc _)
    have G1 := Lib.hid (show Bk 161 W1 g [.int .i64 m, jv, FV', .slice (some ⟨kb, 0, none⟩) bs.length c, tv, .bool tb] by rw [← hW1]; exact GB.out.alloc _)
    have BL := Lib.hid (show pre.length + 1 ≤ 100000 by have := HL.out; omega)
    have LB0 := Lib.hid (show base ≤ W.heap.size by have := HR.out.base_le; omega)
    have NH := Lib.hid (show ¬ FV'.ownBlock = some W.heap.size from fun e => Nat.lt_irrefl _ (own_lt OW.out _ e))
    have NG := Lib.hid (show ¬ FV'.ownBlock = some g from fun e => own_bk_ne (t := 161) OW.out GB.out (by decide) e.symm)
    have NX := Lib.hid (show ¬ FV'.ownBlock = some w.heap.size from fun e => own_bk_ne (t := 136) OW.out BX.out (by decide) e.symm)
    have NR := Lib.hid (show ¬ FV'.ownBlock = some (w.heap.size + 1) from fun e => by
      rcases MM.out.fresh _ e with k | k
      · have := (HR.out.lt _ (.inr (.inl k))).1; omega
      · omega)
    have N1 := Lib.hid (show w.heap.size + 1 ≠ g by omega)
    have N2 := Lib.hid (show w.heap.size ≠ g by omega)
    have N3 := Lib.hid (show W.heap.size ≠ g by omega)
    have N4 := Lib.hid (show W.heap.size ≠ w.heap.size + 1 by omega)
    have N5 := Lib.hid (show w.heap.size ≠ w.heap.size + 1 by omega)
    have N6 := Lib.hid (show w.heap.size ≠ W.heap.size by omega)
    have N7 := Lib.hid (show g ≠ W.heap.size by omega)
    have N8 := Lib.hid (show w.heap.size + 1 ≠ W.heap.size by omega)
    have hWs := Lib.hid (show W1.heap.size = W.heap.size + 1 by rw [← hW1]; simp)
    by_cases hx : (i : Int) < (bs.length : Int) - 1
    · have t1 : decide ((i : Int) < (bs.length : Int) - 1) = true := decide_eq_true hx
      obtain ⟨⟨h, hok⟩, hh⟩ : ∃ z, mt v (q, ok) = z := ⟨_, rfl⟩
      rw [hh] at ME
      have HE := Lib.hid (show hr bs.length (q, ok) (i, v) = (h, hok) by unfold hr; rw [if_pos (decide_eq_true hx), ← hh])
      clear hh hx
      gi_wp2_with (refine ⟨trivial, ?_⟩; gi_at_call 156; refine (CallsIn.inRound l (callsIn_wide.2 (ME.out _ J4.out))).mono ?_; rintro e w5 ⟨rfl, hb5⟩; have X5 := X4.out.next hb5; have z0 := X5.c 0; have z1 := X5.c 1; have f0 := X5.f 0; have f1 := X5.f 1; have L5 := Lib.hid hb5; have XX5 := Lib.hid X5; clear hb5 X5)
      clear hW1 x0 x1 y0 y1 y2 y3 z0 z1 f0 f1
      have BX6 := Lib.hid (((B1.out.next L5.out).far (p := ⟨W.heap.size, 0, none⟩) N6.out (Value.int .i64 h)).far (p := ⟨W.heap.size, 1, none⟩) N6.out (.bool hok))
      have RB6 := Lib.hid ((((RB.out.next T1.out).next L5.out).far (p := ⟨W.heap.size, 0, none⟩) N8.out (Value.int .i64 h)).far (p := ⟨W.heap.size, 1, none⟩) N8.out (.bool hok))
      have G6 := Lib.hid (((G1.out.next L5.out).far (p := ⟨W.heap.size, 0, none⟩) N7.out (Value.int .i64 h)).far (p := ⟨W.heap.size, 1, none⟩) N7.out (.bool hok))
      have H6 := Lib.hid (show Bk 159 ((w5.setCell ⟨W.heap.size, 0, none⟩ (Value.int .i64 h)).setCell ⟨W.heap.size, 1, none⟩ (.bool hok)) W.heap.size [Value.int .i64 h, .bool hok] from Bk.set_ (Bk.set_ XX5.out 0 (Value.int .i64 h)) 1 (.bool hok))
      have T6 := Lib.hid (((below_next T1.out L5.out).setCell (p := ⟨W.heap.size, 0, none⟩) (Nat.le_refl _) (Value.int .i64 h)).setCell (p := ⟨W.heap.size, 1, none⟩) (Nat.le_refl _) (.bool hok))
      generalize (w5.setCell ⟨W.heap.size, 0, none⟩ (Value.int .i64 h)).setCell ⟨W.heap.size, 1, none⟩ (.bool hok) = w6 at *
      refine Go.Proofs.YtfamgaakcbinkaaDoor.Tw.wpIn_region_held (S := fun w' => w'.cell? ⟨w.heap.size, 0, none⟩ = some (.pointer (some ⟨g, 0, none⟩)) ∧ w'.cell? ⟨W.heap.size, 0, none⟩ = some (Value.int .i64 h) ∧ w'.cell? ⟨W.heap.size, 1, none⟩ = some (.bool hok)) (by kernel_rfl) ?nodefer ?noout ⟨BX6.out.c 0, H6.out.c 0, H6.out.c 1⟩ (fun hHeld => ?_)
      case nodefer =>
        intro j oj hj cj
        have hjs := (Array.getElem?_eq_some_iff.1 hj).1
        simp only [List.size_toArray, List.length_cons, List.length_nil, Nat.reduceAdd] at hjs
        rcases j with _ | _ | _ | _ | _ | _ | _ | _ | _ | _ | _ | _ | _ | j
        all_goals first | (cases hj; intro hcj; cases hcj; done) | omega
      case noout =>
        rintro ⟨aq, wq, hQ⟩
        exact hQ
      refine take_yes (i := 0) (some 27) (.pointer (some ⟨g, 0, none⟩)) rfl rfl (by kernel_rfl) (by kernel_rfl) (by kernel_rfl) (fun _ _ _ h => h) (by rfl) hHeld ?_ ?_
      · intro wq hSw; obtain ⟨s0, s1, s2⟩ := hSw; go_simp
      simp only [Act.put, List.setIfInBounds_toArray, List.set_cons_zero, List.set_cons_succ]
      refine take_yes (i := 1) (some 28) (.pointer (some ⟨g, 0, none⟩)) rfl rfl (by kernel_rfl) (by kernel_rfl) (by kernel_rfl) (fun _ _ _ h => h) (by rfl) hHeld ?_ ?_
      · intro wq hSw; obtain ⟨s0, s1, s2⟩ := hSw; go_simp
      simp only [Act.put, List.setIfInBounds_toArray, List.set_cons_zero, List.set_cons_succ]
      refine take_yes (i := 2) (some 29) (.pointer (some ⟨g, 0, none⟩)) rfl rfl (by kernel_rfl) (by kernel_rfl) (by kernel_rfl) (fun _ _ _ h => h) (by rfl) hHeld ?_ ?_
      · intro wq hSw; obtain ⟨s0, s1, s2⟩ := hSw; go_simp
      simp only [Act.put, List.setIfInBounds_toArray, List.set_cons_zero, List.set_cons_succ]
      refine take_yes (i := 3) (some 30) (.pointer (some ⟨g, 2, none⟩)) rfl rfl (by kernel_rfl) (by kernel_rfl) (by kernel_rfl) (fun _ _ _ h => h) (by rfl) hHeld ?_ ?_
      · intro wq hSw; obtain ⟨s0, s1, s2⟩ := hSw; go_simp
      simp only [Act.put, List.setIfInBounds_toArray, List.set_cons_zero, List.set_cons_succ]
      refine take_yes (i := 5) (some 32) (.agg #[Value.int .i64 h, .bool hok]) rfl rfl (by kernel_rfl) (by kernel_rfl) (by kernel_rfl) (fun _ _ _ h => h) (by rfl) hHeld ?_ ?_
      · intro wq hSw; obtain ⟨s0, s1, s2⟩ := hSw; go_simp
      simp only [Act.put, List.setIfInBounds_toArray, List.set_cons_zero, List.set_cons_succ]
      refine take_yes (i := 8) (some 35) (.agg #[Value.int .i64 h, .bool hok]) rfl rfl (by kernel_rfl) (by kernel_rfl) (by kernel_rfl) (fun _ _ _ h => h) (by rfl) hHeld ?_ ?_
      · intro wq hSw; obtain ⟨s0, s1, s2⟩ := hSw; go_simp
      simp only [Act.put, List.setIfInBounds_toArray, List.set_cons_zero, List.set_cons_succ]
      have hS8 : w6.drew.cell? ⟨g, 2, none⟩ = some FV' := G6.out.c 2
      have O6 := Lib.hid (show ((w6.alloc (.cells #[Value.int .i64 h, .bool hok] 159)).drew).ownsRow base 159 2 FV' pre.length (flat2 (fld bs.length (pre.map Subtype.val)).1) from World.ownsRow.alloc (own_below OW.out T6.out) _)
      have Y6 := Lib.hid (show Seq (fun _ => True) ((w6.alloc (.cells #[Value.int .i64 h, .bool hok] 159)).drew) (some ⟨w6.heap.size, 0, none⟩) [Value.int .i64 h, .bool hok] from seq_new 159 w6 [Value.int .i64 h, .bool hok])
      have LB := Lib.hid (show base ≤ ((w6.alloc (.cells #[Value.int .i64 h, .bool hok] 159)).drew).heap.size from by have := T6.out.size; have := LB0.out; show base ≤ (w6.alloc (.cells #[Value.int .i64 h, .bool hok] 159)).heap.size; simp; omega)
      refine wpAnyH_ready (rs := [4, 6]) (by kernel_rfl) (by simp) ?_
      refine AllReadyH.cons rfl (fun K hK => ?_) (AllReadyH.cons rfl (fun K hK => ?_) AllReadyH.nil)
      · go_simp
        refine hK.out _ _ hHeld (fun hHeld2 => ?_)
        clear hK K
        refine wpAnyH_ready (rs := [6]) (by kernel_rfl) (by simp) ?_
        refine AllReadyH.cons rfl (fun K hK => ?_) AllReadyH.nil
        go_simp
        refine hK.out _ _ ⟨(BX6.out.alloc _).c 0, (H6.out.alloc _).c 0, (H6.out.alloc _).c 1⟩ (fun hHeld3 => ?_)
        clear hK K
        refine wpAnyH_ready (rs := [7]) (by kernel_rfl) (by simp) ?_
        refine AllReadyH.cons rfl (fun K hK => ?_) AllReadyH.nil
        (refine step_appS infoN rfl (by decide) (by decide) Tryd.underlying157 rfl (.tmp 31) (.tmp 33) rfl base FV' pre.length (flat2 (fld bs.length (pre.map Subtype.val)).1) (by simp [Act.eval]) O6.out (fun _ => True) (some ⟨w6.heap.size, 0, none⟩) 1 1 [Value.int .i64 h, .bool hok] (by simp [Act.eval]) rfl Y6.out (two_ev h hok) BL.out LB.out ?_)
        intro v8 w8 hv8 hg8 ha8
        have G8 := Lib.hid (Bk.grown (G6.out.alloc _) (grown_drew hg8) (fun e => NG.out e.symm))
        have X8 := Lib.hid (Bk.grown (BX6.out.alloc _) (grown_drew hg8) (fun e => NX.out e.symm))
        have R8 := Lib.hid (Bk.grown (RB6.out.alloc _) (grown_drew hg8) (fun e => NR.out e.symm))
        have H8 := Lib.hid (Bk.grown (H6.out.alloc _) (grown_drew hg8) (fun e => NH.out e.symm))
        obtain ⟨A8, c8, rfl, -⟩ := own_seq hv8 (by decide)
        have hd2 : (w8.cell? ⟨g, 2, none⟩).isSome = true := by rw [G8.out.c 2]; rfl
        have hf2 := G8.out.f 2
        have hV8 := Lib.hid hv8
        have hG8 := Lib.hid (grown_drew hg8)
        have hA8 := Lib.hid ha8
        clear hv8 hg8 ha8
        refine hK.out _ _ ⟨X8.out.c 0, H8.out.c 0, H8.out.c 1⟩ (fun hHeld => ?_)
        clear hK K
        refine take_yes (i := 9) (some 36) (.pointer (some ⟨g, 0, none⟩)) rfl rfl (by kernel_rfl) (by kernel_rfl) (by kernel_rfl) (fun _ _ _ h => h) (by rfl) hHeld ?_ ?_
        · intro wq hSw; obtain ⟨s0, s1, s2⟩ := hSw; go_simp
        simp only [Act.put, List.setIfInBounds_toArray]
        refine take_yes (i := 10) (some 37) (.pointer (some ⟨g, 2, none⟩)) rfl rfl (by kernel_rfl) (by kernel_rfl) (by kernel_rfl) (fun _ _ _ h => h) (by rfl) hHeld ?_ ?_
        · intro wq hSw; obtain ⟨s0, s1, s2⟩ := hSw; go_simp
        simp only [Act.put]
        refine wpAnyH_ready (rs := [11]) (by kernel_rfl) (by simp) ?_
        refine AllReadyH.cons rfl (fun K hK => ?_) AllReadyH.nil
        have g82 := G8.out.c 2
        go_simp
        have R9 := Lib.hid (R8.out.far (p := ⟨g, 2, none⟩) N1.out (.slice A8 (pre.length + 1) c8))
        have X9 := Lib.hid (X8.out.far (p := ⟨g, 2, none⟩) N2.out (.slice A8 (pre.length + 1) c8))
        have H9 := Lib.hid (H8.out.far (p := ⟨g, 2, none⟩) N3.out (.slice A8 (pre.length + 1) c8))
        refine hK.out _ _ ⟨X9.out.c 0, H9.out.c 0, H9.out.c 1⟩ (fun hHeld => ?_)
        clear hK K g82 hf2 hd2
        refine wpAnyH_ready (rs := [12]) (by kernel_rfl) (by simp) ?_
        refine AllReadyH.cons rfl (fun K hK => ?_) AllReadyH.nil
        have r90 := R9.out.c 0
        have r91 := R9.out.c 1
        have r92 := R9.out.f 0
        have r93 := R9.out.f 1
        generalize hw9 : w8.setCell ⟨g, 2, none⟩ (.slice A8 (pre.length + 1) c8) = w9 at *
        go_simp
        refine hK.out _ _ ⟨((X9.out.far (p := ⟨w.heap.size + 1, 0, none⟩) N5.out _).far (p := ⟨w.heap.size + 1, 1, none⟩) N5.out _).c 0, ((H9.out.far (p := ⟨w.heap.size + 1, 0, none⟩) N4.out _).far (p := ⟨w.heap.size + 1, 1, none⟩) N4.out _).c 0, ((H9.out.far (p := ⟨w.heap.size + 1, 0, none⟩) N4.out _).far (p := ⟨w.heap.size + 1, 1, none⟩) N4.out _).c 1⟩ (fun hHeld => ?_)
        clear hK K
        refine wpAnyH_done (by kernel_rfl) ?_ _
        rw [← hw9]
        exact mid_end MM.out (fun b hb => (HR.out.lt b (.inr (.inl hb))).1) (Nat.le_refl _) (HR.out.lt g (.inl rfl)).1 (fun b hb => (HR.out.lt b (.inr (.inr hb))).1) T6.out hV8.out hG8.out (hA8.out.imp id (fun e => by rw [e]; show some (w6.alloc (.cells #[Value.int .i64 h, .bool hok] 159)).heap.size = _; simp)) (by rw [HQ.out]; exact HE.out)
      · go_simp
        refine hK.out _ _ ⟨(BX6.out.alloc _).c 0, (H6.out.alloc _).c 0, (H6.out.alloc _).c 1⟩ (fun hHeld2 => ?_)
        clear hK K
        have hS9 := (G6.out.alloc (.cells #[Value.int .i64 h, .bool hok] 159)).c 2
        refine wpAnyH_ready (rs := [4]) (by kernel_rfl) (by simp) ?_
        refine AllReadyH.cons rfl (fun K hK => ?_) AllReadyH.nil
        go_simp
        refine hK.out _ _ hHeld2 (fun hHeld3 => ?_)
        clear hK K
        refine wpAnyH_ready (rs := [7]) (by kernel_rfl) (by simp) ?_
        refine AllReadyH.cons rfl (fun K hK => ?_) AllReadyH.nil
        (refine step_appS infoN rfl (by decide) (by decide) Tryd.underlying157 rfl (.tmp 31) (.tmp 33) rfl base FV' pre.length (flat2 (fld bs.length (pre.map Subtype.val)).1) (by simp [Act.eval]) O6.out (fun _ => True) (some ⟨w6.heap.size, 0, none⟩) 1 1 [Value.int .i64 h, .bool hok] (by simp [Act.eval]) rfl Y6.out (two_ev h hok) BL.out LB.out ?_)
        intro v8 w8 hv8 hg8 ha8
        have G8 := Lib.hid (Bk.grown (G6.out.alloc _) (grown_drew hg8) (fun e => NG.out e.symm))
        have X8 := Lib.hid (Bk.grown (BX6.out.alloc _) (grown_drew hg8) (fun e => NX.out e.symm))
        have R8 := Lib.hid (Bk.grown (RB6.out.alloc _) (grown_drew hg8) (fun e => NR.out e.symm))
        have H8 := Lib.hid (Bk.grown (H6.out.alloc _) (grown_drew hg8) (fun e => NH.out e.symm))
        obtain ⟨A8, c8, rfl, -⟩ := own_seq hv8 (by decide)
        have hd2 : (w8.cell? ⟨g, 2, none⟩).isSome = true := by rw [G8.out.c 2]; rfl
        have hf2 := G8.out.f 2
        have hV8 := Lib.hid hv8
        have hG8 := Lib.hid (grown_drew hg8)
        have hA8 := Lib.hid ha8
        clear hv8 hg8 ha8
        refine hK.out _ _ ⟨X8.out.c 0, H8.out.c 0, H8.out.c 1⟩ (fun hHeld => ?_)
        clear hK K
        refine take_yes (i := 9) (some 36) (.pointer (some ⟨g, 0, none⟩)) rfl rfl (by kernel_rfl) (by kernel_rfl) (by kernel_rfl) (fun _ _ _ h => h) (by rfl) hHeld ?_ ?_
        · intro wq hSw; obtain ⟨s0, s1, s2⟩ := hSw; go_simp
        simp only [Act.put, List.setIfInBounds_toArray]
        refine take_yes (i := 10) (some 37) (.pointer (some ⟨g, 2, none⟩)) rfl rfl (by kernel_rfl) (by kernel_rfl) (by kernel_rfl) (fun _ _ _ h => h) (by rfl) hHeld ?_ ?_
        · intro wq hSw; obtain ⟨s0, s1, s2⟩ := hSw; go_simp
        simp only [Act.put]
        refine wpAnyH_ready (rs := [11]) (by kernel_rfl) (by simp) ?_
        refine AllReadyH.cons rfl (fun K hK => ?_) AllReadyH.nil
        have g82 := G8.out.c 2
        go_simp
        have R9 := Lib.hid (R8.out.far (p := ⟨g, 2, none⟩) N1.out (.slice A8 (pre.length + 1) c8))
        have X9 := Lib.hid (X8.out.far (p := ⟨g, 2, none⟩) N2.out (.slice A8 (pre.length + 1) c8))
        have H9 := Lib.hid (H8.out.far (p := ⟨g, 2, none⟩) N3.out (.slice A8 (pre.length + 1) c8))
        refine hK.out _ _ ⟨X9.out.c 0, H9.out.c 0, H9.out.c 1⟩ (fun hHeld => ?_)
        clear hK K g82 hf2 hd2
        refine wpAnyH_ready (rs := [12]) (by kernel_rfl) (by simp) ?_
        refine AllReadyH.cons rfl (fun K hK => ?_) AllReadyH.nil
        have r90 := R9.out.c 0
        have r91 := R9.out.c 1
        have r92 := R9.out.f 0
        have r93 := R9.out.f 1
        generalize hw9 : w8.setCell ⟨g, 2, none⟩ (.slice A8 (pre.length + 1) c8) = w9 at *
        go_simp
        refine hK.out _ _ ⟨((X9.out.far (p := ⟨w.heap.size + 1, 0, none⟩) N5.out _).far (p := ⟨w.heap.size + 1, 1, none⟩) N5.out _).c 0, ((H9.out.far (p := ⟨w.heap.size + 1, 0, none⟩) N4.out _).far (p := ⟨w.heap.size + 1, 1, none⟩) N4.out _).c 0, ((H9.out.far (p := ⟨w.heap.size + 1, 0, none⟩) N4.out _).far (p := ⟨w.heap.size + 1, 1, none⟩) N4.out _).c 1⟩ (fun hHeld => ?_)
        clear hK K
        refine wpAnyH_done (by kernel_rfl) ?_ _
        rw [← hw9]
        exact mid_end MM.out (fun b hb => (HR.out.lt b (.inr (.inl hb))).1) (Nat.le_refl _) (HR.out.lt g (.inl rfl)).1 (fun b hb => (HR.out.lt b (.inr (.inr hb))).1) T6.out hV8.out hG8.out (hA8.out.imp id (fun e => by rw [e]; show some (w6.alloc (.cells #[Value.int .i64 h, .bool hok] 159)).heap.size = _; simp)) (by rw [HQ.out]; exact HE.out)
    · have t1 : decide ((i : Int) < (bs.length : Int) - 1) = false := decide_eq_false hx
      have HE := Lib.hid (show hr bs.length (q, ok) (i, v) = (v, true) by unfold hr; rw [if_neg (by simp; omega)])
      clear hx
      gi_wp2_with fail
      clear hW1 x0 x1 y0 y1 y2 y3
      have BX6 := B1
      have G6 := G1
      have H6 := X4
      have T6 := T1
      have RB6 := Lib.hid (RB.out.next T1.out)
      refine Go.Proofs.YtfamgaakcbinkaaDoor.Tw.wpIn_region_held (S := fun w' => w'.cell? ⟨w.heap.size, 0, none⟩ = some (.pointer (some ⟨g, 0, none⟩)) ∧ w'.cell? ⟨W.heap.size, 0, none⟩ = some (Value.int .i64 v) ∧ w'.cell? ⟨W.heap.size, 1, none⟩ = some (.bool true)) (by kernel_rfl) ?nodefer ?noout ⟨BX6.out.c 0, H6.out.c 0, H6.out.c 1⟩ (fun hHeld => ?_)
      case nodefer =>
        intro j oj hj cj
        have hjs := (Array.getElem?_eq_some_iff.1 hj).1
        simp only [List.size_toArray, List.length_cons, List.length_nil, Nat.reduceAdd] at hjs
        rcases j with _ | _ | _ | _ | _ | _ | _ | _ | _ | _ | _ | _ | _ | j
        all_goals first | (cases hj; intro hcj; cases hcj; done) | omega
      case noout =>
        rintro ⟨aq, wq, hQ⟩
        exact hQ
      refine take_yes (i := 0) (some 27) (.pointer (some ⟨g, 0, none⟩)) rfl rfl (by kernel_rfl) (by kernel_rfl) (by kernel_rfl) (fun _ _ _ h => h) (by rfl) hHeld ?_ ?_
      · intro wq hSw; obtain ⟨s0, s1, s2⟩ := hSw; go_simp
      simp only [Act.put, List.setIfInBounds_toArray, List.set_cons_zero, List.set_cons_succ]
      refine take_yes (i := 1) (some 28) (.pointer (some ⟨g, 0, none⟩)) rfl rfl (by kernel_rfl) (by kernel_rfl) (by kernel_rfl) (fun _ _ _ h => h) (by rfl) hHeld ?_ ?_
      · intro wq hSw; obtain ⟨s0, s1, s2⟩ := hSw; go_simp
      simp only [Act.put, List.setIfInBounds_toArray, List.set_cons_zero, List.set_cons_succ]
      refine take_yes (i := 2) (some 29) (.pointer (some ⟨g, 0, none⟩)) rfl rfl (by kernel_rfl) (by kernel_rfl) (by kernel_rfl) (fun _ _ _ h => h) (by rfl) hHeld ?_ ?_
      · intro wq hSw; obtain ⟨s0, s1, s2⟩ := hSw; go_simp
      simp only [Act.put, List.setIfInBounds_toArray, List.set_cons_zero, List.set_cons_succ]
      refine take_yes (i := 3) (some 30) (.pointer (some ⟨g, 2, none⟩)) rfl rfl (by kernel_rfl) (by kernel_rfl) (by kernel_rfl) (fun _ _ _ h => h) (by rfl) hHeld ?_ ?_
      · intro wq hSw; obtain ⟨s0, s1, s2⟩ := hSw; go_simp
      simp only [Act.put, List.setIfInBounds_toArray, List.set_cons_zero, List.set_cons_succ]
      refine take_yes (i := 5) (some 32) (.agg #[Value.int .i64 v, .bool true]) rfl rfl (by kernel_rfl) (by kernel_rfl) (by kernel_rfl) (fun _ _ _ h => h) (by rfl) hHeld ?_ ?_
      · intro wq hSw; obtain ⟨s0, s1, s2⟩ := hSw; go_simp
      simp only [Act.put, List.setIfInBounds_toArray, List.set_cons_zero, List.set_cons_succ]
      refine take_yes (i := 8) (some 35) (.agg #[Value.int .i64 v, .bool true]) rfl rfl (by kernel_rfl) (by kernel_rfl) (by kernel_rfl) (fun _ _ _ h => h) (by rfl) hHeld ?_ ?_
      · intro wq hSw; obtain ⟨s0, s1, s2⟩ := hSw; go_simp
      simp only [Act.put, List.setIfInBounds_toArray, List.set_cons_zero, List.set_cons_succ]
      have hS8 : W1.drew.cell? ⟨g, 2, none⟩ = some FV' := G6.out.c 2
      have O6 := Lib.hid (show ((W1.alloc (.cells #[Value.int .i64 v, .bool true] 159)).drew).ownsRow base 159 2 FV' pre.length (flat2 (fld bs.length (pre.map Subtype.val)).1) from World.ownsRow.alloc (own_below OW.out T6.out) _)
      have Y6 := Lib.hid (show Seq (fun _ => True) ((W1.alloc (.cells #[Value.int .i64 v, .bool true] 159)).drew) (some ⟨W1.heap.size, 0, none⟩) [Value.int .i64 v, .bool true] from seq_new 159 W1 [Value.int .i64 v, .bool true])
      have LB := Lib.hid (show base ≤ ((W1.alloc (.cells #[Value.int .i64 v, .bool true] 159)).drew).heap.size from by have := T6.out.size; have := LB0.out; show base ≤ (W1.alloc (.cells #[Value.int .i64 v, .bool true] 159)).heap.size; simp; omega)
      refine wpAnyH_ready (rs := [4, 6]) (by kernel_rfl) (by simp) ?_
      refine AllReadyH.cons rfl (fun K hK => ?_) (AllReadyH.cons rfl (fun K hK => ?_) AllReadyH.nil)
      · go_simp
        refine hK.out _ _ hHeld (fun hHeld2 => ?_)
        clear hK K
        refine wpAnyH_ready (rs := [6]) (by kernel_rfl) (by simp) ?_
        refine AllReadyH.cons rfl (fun K hK => ?_) AllReadyH.nil
        go_simp
        refine hK.out _ _ ⟨(BX6.out.alloc _).c 0, (H6.out.alloc _).c 0, (H6.out.alloc _).c 1⟩ (fun hHeld3 => ?_)
        clear hK K
        refine wpAnyH_ready (rs := [7]) (by kernel_rfl) (by simp) ?_
        refine AllReadyH.cons rfl (fun K hK => ?_) AllReadyH.nil
        (refine step_appS infoN rfl (by decide) (by decide) Tryd.underlying157 rfl (.tmp 31) (.tmp 33) rfl base FV' pre.length (flat2 (fld bs.length (pre.map Subtype.val)).1) (by simp [Act.eval]) O6.out (fun _ => True) (some ⟨W1.heap.size, 0, none⟩) 1 1 [Value.int .i64 v, .bool true] (by simp [Act.eval]) rfl Y6.out (two_ev v true) BL.out LB.out ?_)
        intro v8 w8 hv8 hg8 ha8
        have G8 := Lib.hid (Bk.grown (G6.out.alloc _) (grown_drew hg8) (fun e => NG.out e.symm))
        have X8 := Lib.hid (Bk.grown (BX6.out.alloc _) (grown_drew hg8) (fun e => NX.out e.symm))
        have R8 := Lib.hid (Bk.grown (RB6.out.alloc _) (grown_drew hg8) (fun e => NR.out e.symm))
        have H8 := Lib.hid (Bk.grown (H6.out.alloc _) (grown_drew hg8) (fun e => NH.out e.symm))
        obtain ⟨A8, c8, rfl, -⟩ := own_seq hv8 (by decide)
        have hd2 : (w8.cell? ⟨g, 2, none⟩).isSome = true := by rw [G8.out.c 2]; rfl
        have hf2 := G8.out.f 2
        have hV8 := Lib.hid hv8
        have hG8 := Lib.hid (grown_drew hg8)
        have hA8 := Lib.hid ha8
        clear hv8 hg8 ha8
        refine hK.out _ _ ⟨X8.out.c 0, H8.out.c 0, H8.out.c 1⟩ (fun hHeld => ?_)
        clear hK K
        refine take_yes (i := 9) (some 36) (.pointer (some ⟨g, 0, none⟩)) rfl rfl (by kernel_rfl) (by kernel_rfl) (by kernel_rfl) (fun _ _ _ h => h) (by rfl) hHeld ?_ ?_
        · intro wq hSw; obtain ⟨s0, s1, s2⟩ := hSw; go_simp
        simp only [Act.put, List.setIfInBounds_toArray]
        refine take_yes (i := 10) (some 37) (.pointer (some ⟨g, 2, none⟩)) rfl rfl (by kernel_rfl) (by kernel_rfl) (by kernel_rfl) (fun _ _ _ h => h) (by rfl) hHeld ?_ ?_
        · intro wq hSw; obtain ⟨s0, s1, s2⟩ := hSw; go_simp
        simp only [Act.put]
        refine wpAnyH_ready (rs := [11]) (by kernel_rfl) (by simp) ?_
        refine AllReadyH.cons rfl (fun K hK => ?_) AllReadyH.nil
        have g82 := G8.out.c 2
        go_simp
        have R9 := Lib.hid (R8.out.far (p := ⟨g, 2, none⟩) N1.out (.slice A8 (pre.length + 1) c8))
        have X9 := Lib.hid (X8.out.far (p := ⟨g, 2, none⟩) N2.out (.slice A8 (pre.length + 1) c8))
        have H9 := Lib.hid (H8.out.far (p := ⟨g, 2, none⟩) N3.out (.slice A8 (pre.length + 1) c8))
        refine hK.out _ _ ⟨X9.out.c 0, H9.out.c 0, H9.out.c 1⟩ (fun hHeld => ?_)
        clear hK K g82 hf2 hd2
        refine wpAnyH_ready (rs := [12]) (by kernel_rfl) (by simp) ?_
        refine AllReadyH.cons rfl (fun K hK => ?_) AllReadyH.nil
        have r90 := R9.out.c 0
        have r91 := R9.out.c 1
        have r92 := R9.out.f 0
        have r93 := R9.out.f 1
        generalize hw9 : w8.setCell ⟨g, 2, none⟩ (.slice A8 (pre.length + 1) c8) = w9 at *
        go_simp
        refine hK.out _ _ ⟨((X9.out.far (p := ⟨w.heap.size + 1, 0, none⟩) N5.out _).far (p := ⟨w.heap.size + 1, 1, none⟩) N5.out _).c 0, ((H9.out.far (p := ⟨w.heap.size + 1, 0, none⟩) N4.out _).far (p := ⟨w.heap.size + 1, 1, none⟩) N4.out _).c 0, ((H9.out.far (p := ⟨w.heap.size + 1, 0, none⟩) N4.out _).far (p := ⟨w.heap.size + 1, 1, none⟩) N4.out _).c 1⟩ (fun hHeld => ?_)
        clear hK K
        refine wpAnyH_done (by kernel_rfl) ?_ _
        rw [← hw9]
        exact mid_end MM.out (fun b hb => (HR.out.lt b (.inr (.inl hb))).1) (Nat.le_refl _) (HR.out.lt g (.inl rfl)).1 (fun b hb => (HR.out.lt b (.inr (.inr hb))).1) T6.out hV8.out hG8.out (hA8.out.imp id (fun e => by rw [e]; show some (W1.alloc (.cells #[Value.int .i64 v, .bool true] 159)).heap.size = _; simp)) (by rw [HQ.out]; exact HE.out)
      · go_simp
        refine hK.out _ _ ⟨(BX6.out.alloc _).c 0, (H6.out.alloc _).c 0, (H6.out.alloc _).c 1⟩ (fun hHeld2 => ?_)
        clear hK K
        have hS9 := (G6.out.alloc (.cells #[Value.int .i64 v, .bool true] 159)).c 2
        refine wpAnyH_ready (rs := [4]) (by kernel_rfl) (by simp) ?_
        refine AllReadyH.cons rfl (fun K hK => ?_) AllReadyH.nil
        go_simp
        refine hK.out _ _ hHeld2 (fun hHeld3 => ?_)
        clear hK K
        refine wpAnyH_ready (rs := [7]) (by kernel_rfl) (by simp) ?_
        refine AllReadyH.cons rfl (fun K hK => ?_) AllReadyH.nil
        (refine step_appS infoN rfl (by decide) (by decide) Tryd.underlying157 rfl (.tmp 31) (.tmp 33) rfl base FV' pre.length (flat2 (fld bs.length (pre.map Subtype.val)).1) (by simp [Act.eval]) O6.out (fun _ => True) (some ⟨W1.heap.size, 0, none⟩) 1 1 [Value.int .i64 v, .bool true] (by simp [Act.eval]) rfl Y6.out (two_ev v true) BL.out LB.out ?_)
        intro v8 w8 hv8 hg8 ha8
        have G8 := Lib.hid (Bk.grown (G6.out.alloc _) (grown_drew hg8) (fun e => NG.out e.symm))
        have X8 := Lib.hid (Bk.grown (BX6.out.alloc _) (grown_drew hg8) (fun e => NX.out e.symm))
        have R8 := Lib.hid (Bk.grown (RB6.out.alloc _) (grown_drew hg8) (fun e => NR.out e.symm))
        have H8 := Lib.hid (Bk.grown (H6.out.alloc _) (grown_drew hg8) (fun e => NH.out e.symm))
        obtain ⟨A8, c8, rfl, -⟩ := own_seq hv8 (by decide)
        have hd2 : (w8.cell? ⟨g, 2, none⟩).isSome = true := by rw [G8.out.c 2]; rfl
        have hf2 := G8.out.f 2
        have hV8 := Lib.hid hv8
        have hG8 := Lib.hid (grown_drew hg8)
        have hA8 := Lib.hid ha8
        clear hv8 hg8 ha8
        refine hK.out _ _ ⟨X8.out.c 0, H8.out.c 0, H8.out.c 1⟩ (fun hHeld => ?_)
        clear hK K
        refine take_yes (i := 9) (some 36) (.pointer (some ⟨g, 0, none⟩)) rfl rfl (by kernel_rfl) (by kernel_rfl) (by kernel_rfl) (fun _ _ _ h => h) (by rfl) hHeld ?_ ?_
        · intro wq hSw; obtain ⟨s0, s1, s2⟩ := hSw; go_simp
        simp only [Act.put, List.setIfInBounds_toArray]
        refine take_yes (i := 10) (some 37) (.pointer (some ⟨g, 2, none⟩)) rfl rfl (by kernel_rfl) (by kernel_rfl) (by kernel_rfl) (fun _ _ _ h => h) (by rfl) hHeld ?_ ?_
        · intro wq hSw; obtain ⟨s0, s1, s2⟩ := hSw; go_simp
        simp only [Act.put]
        refine wpAnyH_ready (rs := [11]) (by kernel_rfl) (by simp) ?_
        refine AllReadyH.cons rfl (fun K hK => ?_) AllReadyH.nil
        have g82 := G8.out.c 2
        go_simp
        have R9 := Lib.hid (R8.out.far (p := ⟨g, 2, none⟩) N1.out (.slice A8 (pre.length + 1) c8))
        have X9 := Lib.hid (X8.out.far (p := ⟨g, 2, none⟩) N2.out (.slice A8 (pre.length + 1) c8))
        have H9 := Lib.hid (H8.out.far (p := ⟨g, 2, none⟩) N3.out (.slice A8 (pre.length + 1) c8))
        refine hK.out _ _ ⟨X9.out.c 0, H9.out.c 0, H9.out.c 1⟩ (fun hHeld => ?_)
        clear hK K g82 hf2 hd2
        refine wpAnyH_ready (rs := [12]) (by kernel_rfl) (by simp) ?_
        refine AllReadyH.cons rfl (fun K hK => ?_) AllReadyH.nil
        have r90 := R9.out.c 0
        have r91 := R9.out.c 1
        have r92 := R9.out.f 0
        have r93 := R9.out.f 1
        generalize hw9 : w8.setCell ⟨g, 2, none⟩ (.slice A8 (pre.length + 1) c8) = w9 at *
        go_simp
        refine hK.out _ _ ⟨((X9.out.far (p := ⟨w.heap.size + 1, 0, none⟩) N5.out _).far (p := ⟨w.heap.size + 1, 1, none⟩) N5.out _).c 0, ((H9.out.far (p := ⟨w.heap.size + 1, 0, none⟩) N4.out _).far (p := ⟨w.heap.size + 1, 1, none⟩) N4.out _).c 0, ((H9.out.far (p := ⟨w.heap.size + 1, 0, none⟩) N4.out _).far (p := ⟨w.heap.size + 1, 1, none⟩) N4.out _).c 1⟩ (fun hHeld => ?_)
        clear hK K
        refine wpAnyH_done (by kernel_rfl) ?_ _
        rw [← hw9]
        exact mid_end MM.out (fun b hb => (HR.out.lt b (.inr (.inl hb))).1) (Nat.le_refl _) (HR.out.lt g (.inl rfl)).1 (fun b hb => (HR.out.lt b (.inr (.inr hb))).1) T6.out hV8.out hG8.out (hA8.out.imp id (fun e => by rw [e]; show some (W1.alloc (.cells #[Value.int .i64 v, .bool true] 159)).heap.size = _; simp)) (by rw [HQ.out]; exact HE.out)
  case done =>
    rintro D ys W hD rfl ⟨FV', M⟩ hK
    obtain ⟨hcl, hO⟩ := own_clear M.back hb0
    have y0 := M.box.c 0
    have y3 := M.obj.c 3
    have MM := Lib.hid M
    have HO := Lib.hid hO
    have TC := Lib.hid (Go.Proofs.YtfamgaakcbinkaaDoor.Dq.setCells_turn kb (List.replicate bs.length (.int .i64 0 : Value)) 0 W)
    clear hO M
    have BX2 := Lib.hid (MM.out.box.turn TC.out (fun e => by omega))
    have G2 := Lib.hid (MM.out.obj.turn TC.out (fun e => hkg e.symm))
    gi_wp2
    clear hcl y0 y3
    generalize W.setCells kb 0 (List.replicate bs.length (.int .i64 0 : Value)) = W2 at *
    have y0 := BX2.out.c 0
    have y3 := G2.out.c 3
    have y4 := G2.out.c 4
    have y5 := G2.out.c 5
    have f3 := G2.out.f 3
    have f4 := G2.out.f 4
    have f5 := G2.out.f 5
    refine wpIn_wide.2 ?_
    go_region
    have TT := Lib.hid ((TC.out.mono (T' := fun b => b = kb ∨ b = g) (fun _ h => .inl h)).trans (Turn.setCell (p := ⟨g, 5, none⟩) (Turn.setCell (p := ⟨g, 4, none⟩) (Turn.setCell (p := ⟨g, 3, none⟩) (Turn.refl (fun b => b = kb ∨ b = g) W2) (.inl (.inr rfl)) (.slice (some ⟨kb, 0, none⟩) 0 c)) (.inl (.inr rfl)) (.int .i64 0 : Value)) (.inl (.inr rfl)) (.bool false)).drew)
    have hD1 : D < W.heap.size := (Array.getElem?_eq_some_iff.1 hK).1
    have hK' := (TT.out.at_ hD1 (by omega)).trans hK
    gi_wp2
    refine ⟨by simp, .inl ⟨_, _, rfl, run_takeDeferred hK', ?_⟩⟩
    refine ⟨_, results_none rfl _ _ _, rfl, ?_⟩
    exact turn_end MM.out (by simp [seen]) (by rw [seen_dn, fld_dn bs bs.length 0 (by omega)]; rfl) hkb hg0 hkg (by omega) hK TC.out HO.out HR.out.2.2.2.1
  case stop =>
    rintro D c pre W _ _ h _
    exact h.elim
end Go.Proofs.YtfamgaakcbinkaaDoor.Twc
