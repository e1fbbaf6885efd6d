/-
  A range over a function whose iterator may itself range over such functions: what the iterator promises (each value in its order; only the blocks of a set turn between), and the law of the statement. Conditions: as told in each.
-/
import Derived.Test.YtffccemipkhjnaaStBase
import Derived.RangeFuncNested
import Derived.RangeFuncBound
import Derived.RangeFuncLeaves
import Derived.Shelf.Abstract
import Derived.Shelf.RegionOpen
import Derived.WalkKit
import Derived.OwnWalkIn
import Derived.TacticsInMore
import Derived.LoopNIn
import Derived.LoopIn
set_option maxRecDepth 100000
namespace Go.Proofs.Ytffccemipkhjnaa.Tr
open Go.Proofs.Ytffccemipkhjnaa.Sh Go.Proofs.Ytffccemipkhjnaa.St
open Go.RowKit
set_option linter.unusedVariables false

theorem Turn.putObj {T : Nat → Prop} {a w : World} (h : Turn T a w) {r : Nat} (hr : T r ∨ a.heap.size ≤ r) (o : Obj) : Turn T a (w.putObj r o) :=
  ⟨h.1, h.2.1, h.2.2.1, by rw [World.putObj_size]; exact h.size, fun i hi hn => (World.putObj_heap_other (by
    rintro rfl
    rcases hr with hr | hr
    · exact hn hr
    · omega)).trans (h.at_ hi hn)⟩
theorem below_putObj {B : Nat} {w : World} {r : Nat} (hr : B ≤ r) (o : Obj) : Below B w (w.putObj r o) :=
  ⟨rfl, rfl, rfl, by rw [World.putObj_size]; exact Nat.le_refl _, fun i hi => World.putObj_heap_other (by omega)⟩
/-- What is said hangs on the blocks below B alone. -/
def Stab (B : Nat) (p : World → Prop) : Prop := ∀ A C, p A → Below B A C → p C
theorem Stab.mono {B B' : Nat} {p : World → Prop} (h : Stab B p) (hB : B ≤ B') : Stab B' p := fun A C ha hb => h A C ha (hb.mono hB)
theorem Stab.and {B : Nat} {p q : World → Prop} (h : Stab B p) (k : Stab B q) : Stab B (fun W => p W ∧ q W) := fun A C ha hb => ⟨h A C ha.1 hb, k A C ha.2 hb⟩
theorem stab_pure (B : Nat) (p : Prop) : Stab B (fun _ => p) := fun _ _ h _ => h
theorem stab_bk {B g : Nat} {t : TypeId} {xs : List Value} (h : g < B) : Stab B (fun W => Bk t W g xs) := fun A C ha hb => (hb.block g h).trans ha
theorem stab_turn {B : Nat} {T : Nat → Prop} {w : World} (h : w.heap.size ≤ B) : Stab B (fun W => Turn T w W) := fun A C ha hb =>
  ⟨hb.os.trans ha.1, hb.tape.trans ha.2.1, hb.output.trans ha.2.2.1, Nat.le_trans ha.size hb.size, fun i hi hn => (hb.block i (by omega)).trans (ha.at_ hi hn)⟩
theorem stab_below {B B' : Nat} {w : World} (h : B' ≤ B) : Stab B (fun W => Below B' w W) := fun A C ha hb => ha.trans (hb.mono h)
theorem stab_heap {B r : Nat} {o : Option Obj} (h : r < B) : Stab B (fun W => W.heap[r]? = o) := fun A C ha hb => (hb.block r h).trans ha

/-- What an iterator promises: it hands on N values in their order, or stops where a round wants no more; between two rounds only the blocks of T turn. -/
def RfWalks (F : Fence) (P : Program) (g : Nat) (lb : Array Value) (N : Nat) (enc : Nat → Value → Array Value) (Rd : Nat → Value → World → Prop) (T : Nat → Prop) (W : World) : Prop :=
  ∀ (n l : Nat) (Tx : Nat → Prop) (J : Nat → World → Prop) (Jx : World → Prop), (∀ b, T b → Tx b) → (∀ b, Tx b → b < W.heap.size) →
    (∀ j, Stab W.heap.size (J j)) → Stab W.heap.size Jx →
    (∀ m j v A, J j A → j < N → Rd j v A → YieldAt F m P l (enc j v) A fun e B => (e = .returned (.bool true) ∧ J (j + 1) B ∧ Turn T A B) ∨ (e = .returned (.bool false) ∧ Jx B ∧ Turn Tx A B)) →
    J 0 W → CallsIn F n P g (#[.func (.yield l) #[] #[]] ++ lb) W fun e B => (∃ v, e = .returned v) ∧ ((J N B ∧ Turn T W B) ∨ (Jx B ∧ Turn Tx W B))
/-- How the body of a round may be left. -/
def rfPost (T Tx : Nat → Prop) (I : Nat → World → Prop) (Ix : Code → World → Prop) (j : Nat) (W : World) : Exit → Act → World → Prop
  | .normal, _, W' => Turn T W W' ∧ I j W'
  | .ret, _, W' => Turn Tx W W' ∧ Ix .ret W'
  | .exit id, _, W' => Turn Tx W W' ∧ Ix (.exit id) W'
  | .goto t, _, W' => Turn Tx W W' ∧ Ix (.goto t) W'
  | .panic _, _, _ => False
  | .outgrown, _, _ => False

theorem room_none {F : Fence} (hd : F.depth = none) (k : Nat) : F.room k := fun d h => by rw [hd] at h; cases h
theorem round_any {F : Fence} (hd : F.depth = none) {m m' : Nat} {P : Program} {l : Nat} {f : FuncId} {tmps : Array Value} {assign body : Code} {w : World} {R : Ending → World → Prop}
    (h : RoundIn F m P l f tmps assign body w R) : RoundIn F m' P l f tmps assign body w R := ⟨h.1, fun c cs _ => h.2 c cs (room_none hd _)⟩
theorem yield_any {F : Fence} (hd : F.depth = none) {m : Nat} (m' : Nat) {P : Program} {l : Nat} {args : Array Value} {W : World} {R : Ending → World → Prop} (h : YieldAt F m P l args W R) : YieldAt F m' P l args W R := by
  obtain ⟨fn, tmps, assign, body, hy, hR⟩ := h
  exact ⟨fn, tmps, assign, body, hy, round_any hd hR⟩

theorem wpIn_rangeFunc_T {F : Fence} {n : Nat} {P : Program} {g : Operand} {ps : Array Tmp} {assign body : Code} {Q : Exit → Act → World → Prop} {a : Act} {w : World}
    (hro : F.round = none) (hd : F.depth = none) {gf : Nat} {lb : Array Value} (hg : a.eval g = .func (.func gf) #[] lb) (hFg : F.fn gf) (eg : ∀ args w, (callFunc gf args).run P w = .ok (.enter gf args) w)
    {N : Nat} {enc : Nat → Value → Array Value} {Rd : Nat → Value → World → Prop} (T Tx : Nat → Prop) (hT : ∀ b, T b → b < w.heap.size) (hTT : ∀ b, T b → Tx b) (hTx : ∀ b, Tx b → b < w.heap.size)
    (hseq : ∀ W, Below w.heap.size w W → RfWalks F P gf lb N enc Rd T W)
    (hps : ∀ j v, (enc j v).size = ps.size)
    (I : Nat → World → Prop) (Ix : Code → World → Prop) (hI : ∀ j, Stab w.heap.size (I j)) (hIx : ∀ c, Stab w.heap.size (Ix c)) (h0 : I 0 w) (Ax : Nat → Value → Act → World → Prop)
    (hAx : ∀ j v a' A l r o', Ax j v a' A → A.heap[l]? = some (.loop r) → Ax j v a' (A.putObj l o'))
    (hassign : ∀ (l m j : Nat) (v : Value) (W : World) (K : Act → World → Prop), I j W → j < N → Rd j v W → (∀ a' W', Below W.heap.size W W' → Ax j v a' W' → K a' W') →
      assign.wpIn (F.inRound l) m P (Exit.then K (fun _ _ _ => False)) { tmps := (ps.zip (enc j v)).foldl (fun t (p, v) => t.setIfInBounds p v) a.tmps, defers := [] } W)
    (hbody : ∀ (l m j : Nat) (v : Value) (a' : Act) (W : World), w.heap.size ≤ l → I j W → j < N → Ax j v a' W → body.wpIn (F.inRound l) m P (rfPost T Tx I Ix (j + 1) W) a' W)
    (hdone : ∀ (D : Nat) (W : World), w.heap.size ≤ D → I N W → Turn T w W → W.heap[D]? = some (.deferred (some [])) → Q .normal { a with defers := { target := .collected D, args := #[] } :: a.defers } W)
    (hstop : ∀ (D : Nat) (c : Code) (W : World), w.heap.size ≤ D → Ix c W → Turn Tx w W → W.heap[D]? = some (.deferred (some [])) → c.wpIn F n P Q { a with defers := { target := .collected D, args := #[] } :: a.defers } W) :
    (Code.rangeFunc g ps assign body).wpIn F n P Q a w := by
  refine wpIn_rangeFunc ?_
  intro fn hfn
  rw [hro]
  obtain ⟨rec, hrec⟩ : ∃ rec : LoopState → Option Code → Loop, rec = fun st pe => { state := st, pending := pe, fn, tmps := a.tmps, params := ps, assign, body, defers := w.heap.size } := ⟨_, rfl⟩
  obtain ⟨W1, hW1⟩ : ∃ W1, (w.alloc (.deferred (some []))).alloc (.loop (rec .ready none)) = W1 := ⟨_, rfl⟩
  have hL1 : W1.heap[w.heap.size + 1]? = some (.loop (rec .ready none)) := by
    rw [← hW1]; have := World.alloc_heap_new (w.alloc (.deferred (some []))) (.loop (rec .ready none)); rwa [World.size_alloc] at this
  have hK1 : W1.heap[w.heap.size]? = some (.deferred (some [])) := by
    rw [← hW1]; exact (Below.heap_alloc _ _ _ (by simp)).trans (World.alloc_heap_new w _)
  have hb1 : Below w.heap.size w W1 := by rw [← hW1]; exact ((Below.refl _ w).alloc (Nat.le_refl _) _).alloc (by simp) _
  have hz1 : W1.heap.size = w.heap.size + 2 := by rw [← hW1]; simp
  have hI1 : I 0 W1 := hI 0 _ _ h0 hb1
  refine ⟨w.heap.size + 1, [{ target := .collected w.heap.size, args := #[] }], W1, { target := .fn (.func gf) lb, args := #[.func (.yield (w.heap.size + 1)) #[] #[]] }, W1, gf,
    #[.func (.yield (w.heap.size + 1)) #[] #[]] ++ lb, W1, ?_, ?_, ?_, ?_, fun h => (by rw [hd] at h; cases h), ?_⟩
  · rw [← hW1, hrec]; exact run_enterLoop_outer _ _ _ _ _
  · simp only [resolve, hg]
    simp [go_sem]
  · intro f' hf'; simp [Target.leads] at hf'; subst hf'; exact hFg
  · simp [invoke, go_sem, eg]
  · refine (hseq W1 hb1 (n - 1) (w.heap.size + 1) (fun b => Tx b ∨ b = w.heap.size + 1)
      (fun j W => I j W ∧ W.heap[w.heap.size + 1]? = some (.loop (rec .ready none)) ∧ W.heap[w.heap.size]? = some (.deferred (some [])))
      (fun W => ∃ c, Ix c W ∧ W.heap[w.heap.size + 1]? = some (.loop (rec .done (some c))) ∧ W.heap[w.heap.size]? = some (.deferred (some [])))
      (fun b h => .inl (hTT b h)) (fun b h => by rcases h with h | h; (· have := hTx b h; omega); (· omega))
      (fun j => ((hI j).mono (by omega)).and ((stab_heap (by omega)).and (stab_heap (by omega))))
      (fun A C ⟨c, hc, hl, hk⟩ hb => ⟨c, hIx c _ _ hc (hb.mono (by omega)), (hb.block _ (by omega)).trans hl, (hb.block _ (by omega)).trans hk⟩)
      ?_ ⟨hI1, hL1, hK1⟩).mono ?_
    · -- one round
      rintro m j v W0 ⟨hi0, hl0, hk0⟩ hlen hrd
      have hlt0 : w.heap.size + 1 < W0.heap.size := (Array.getElem?_eq_some_iff.1 hl0).1
      have hy := run_yield (P := P) (args := enc j v) hl0 (by rw [hrec]; exact hps j v)
      rw [hrec] at hy
      refine ⟨fn, _, assign, body, hy, roundIn_of_wpIn hfn (hassign _ _ j v W0 _ hi0 hlen hrd ?_)⟩
      clear hy
      intro a' W hba hax
      have tba : Turn T W0 W := Turn.of_below T hba
      have hi := hI j _ _ hi0 (hba.mono (by omega))
      have hl : W.heap[w.heap.size + 1]? = some (.loop (rec .ready none)) := (hba.block _ hlt0).trans hl0
      have hk : W.heap[w.heap.size]? = some (.deferred (some [])) := (hba.block _ (by omega)).trans hk0
      have hlt : w.heap.size + 1 < W.heap.size := (Array.getElem?_eq_some_iff.1 hl).1
      refine ⟨_, run_beginRound hl (by rw [hrec]), ?_⟩
      have hl2 : (W.putObj (w.heap.size + 1) (.loop { rec .ready none with state := .busy })).heap[w.heap.size + 1]? = some (.loop { rec .ready none with state := .busy }) := World.putObj_heap_same hlt
      have hk2 : (W.putObj (w.heap.size + 1) (.loop { rec .ready none with state := .busy })).heap[w.heap.size]? = some (.deferred (some [])) := (World.putObj_heap_other (by omega)).trans hk
      have hz2 : (W.putObj (w.heap.size + 1) (.loop { rec .ready none with state := .busy })).heap.size = W.heap.size := World.putObj_size
      refine wpIn_mono (hbody _ _ j v a' _ (by omega) (hI j _ _ hi (below_putObj (by omega) _)) hlen (hAx _ _ _ _ _ _ _ hax hl)) ?_
      have fin : ∀ (U : Nat → Prop), (∀ b, U b → b < w.heap.size) → ∀ (jump : Option Code) (W3 : World), Turn U (W.putObj (w.heap.size + 1) (.loop { rec .ready none with state := .busy })) W3 →
          (Instr.endRound (w.heap.size + 1) jump).run P W3 = .ok (.bool jump.isNone) (W3.putObj (w.heap.size + 1) (.loop (rec (if jump.isNone then .ready else .done) jump))) ∧
          (W3.putObj (w.heap.size + 1) (.loop (rec (if jump.isNone then .ready else .done) jump))).heap[w.heap.size + 1]? = some (.loop (rec (if jump.isNone then .ready else .done) jump)) ∧
          (W3.putObj (w.heap.size + 1) (.loop (rec (if jump.isNone then .ready else .done) jump))).heap[w.heap.size]? = some (.deferred (some [])) ∧
          Turn (fun b => U b ∨ b = w.heap.size + 1) W (W3.putObj (w.heap.size + 1) (.loop (rec (if jump.isNone then .ready else .done) jump))) := fun U hU jump W3 ht => by
        have hl3 : W3.heap[w.heap.size + 1]? = some (.loop { rec .ready none with state := .busy }) := (ht.at_ (by omega) (fun h => by have := hU _ h; omega)).trans hl2
        have hk3 : W3.heap[w.heap.size]? = some (.deferred (some [])) := (ht.at_ (by omega) (fun h => by have := hU _ h; omega)).trans hk2
        have := run_endRound (P := P) jump hl3
        rw [hrec] at this ⊢
        refine ⟨this, World.putObj_heap_same (Array.getElem?_eq_some_iff.1 hl3).1, (World.putObj_heap_other (by omega)).trans hk3, ?_⟩
        refine ⟨ht.1, ht.2.1, ht.2.2.1, by rw [World.putObj_size]; have := ht.size; omega, fun i hi hn => ?_⟩
        rw [World.putObj_heap_other (fun e => hn (.inr e)), ht.at_ (by omega) (fun h => hn (.inl h)), World.putObj_heap_other (fun e => hn (.inr e))]
      rintro e a3 W3 hp
      cases e with
      | normal =>
        obtain ⟨ht3, hi3⟩ := hp
        obtain ⟨hr, hl4, hk4, ht4⟩ := fin T hT none W3 ht3
        refine ⟨_, _, hr, .inl ⟨rfl, ⟨hI _ _ _ hi3 (below_putObj (by omega) _), hl4, hk4⟩, tba.trans ?_⟩⟩
        refine ⟨ht4.1, ht4.2.1, ht4.2.2.1, ht4.size, fun i hi hn => ?_⟩
        by_cases e : i = w.heap.size + 1
        · subst e
          exact hl4.trans hl.symm
        · exact ht4.at_ hi (fun h => h.elim hn e)
      | ret =>
        obtain ⟨ht3, hi3⟩ := hp
        obtain ⟨hr, hl4, hk4, ht4⟩ := fin Tx hTx (some .ret) W3 ht3
        exact ⟨_, _, hr, .inr ⟨rfl, ⟨.ret, hIx _ _ _ hi3 (below_putObj (by omega) _), hl4, hk4⟩, (tba.mono fun b h => .inl (hTT b h)).trans ht4⟩⟩
      | exit id =>
        obtain ⟨ht3, hi3⟩ := hp
        obtain ⟨hr, hl4, hk4, ht4⟩ := fin Tx hTx (some (.exit id)) W3 ht3
        exact ⟨_, _, hr, .inr ⟨rfl, ⟨.exit id, hIx _ _ _ hi3 (below_putObj (by omega) _), hl4, hk4⟩, (tba.mono fun b h => .inl (hTT b h)).trans ht4⟩⟩
      | goto t =>
        obtain ⟨ht3, hi3⟩ := hp
        obtain ⟨hr, hl4, hk4, ht4⟩ := fin Tx hTx (some (.goto t)) W3 ht3
        exact ⟨_, _, hr, .inr ⟨rfl, ⟨.goto t, hIx _ _ _ hi3 (below_putObj (by omega) _), hl4, hk4⟩, (tba.mono fun b h => .inl (hTT b h)).trans ht4⟩⟩
      | panic ch => exact hp.elim
      | outgrown => exact hp.elim
    · -- behind the iterator
      have hTw : ∀ (U : Nat → Prop) (W2 : World) (o : Obj), Turn (fun b => U b ∨ b = w.heap.size + 1) W1 W2 → Turn U w (W2.putObj (w.heap.size + 1) o) := fun U W2 o ht =>
        ⟨ht.1.trans hb1.os, ht.2.1.trans hb1.tape, ht.2.2.1.trans hb1.output, by rw [World.putObj_size]; have := ht.size; omega, fun i hi hn => by
          rw [World.putObj_heap_other (by omega), ht.at_ (by omega) (fun h => h.elim hn (by omega)), hb1.block i hi]⟩
      rintro e W2 ⟨⟨v, rfl⟩, (⟨⟨hi, hl, hk⟩, ht⟩ | ⟨⟨c, hi, hl, hk⟩, ht⟩)⟩
      · exact ⟨none, _, by have := run_endLoop (P := P) hl (by rw [hrec]; simp); rw [hrec] at this; exact this, hdone _ _ (Nat.le_refl _) (hI _ _ _ hi (below_putObj (by omega) _)) (hTw T _ _ (ht.mono fun b h => .inl h)) ((World.putObj_heap_other (by omega)).trans hk)⟩
      · exact ⟨some c, _, by have := run_endLoop (P := P) hl (by rw [hrec]; simp); rw [hrec] at this; exact this, hstop _ c _ (Nat.le_refl _) (hIx c _ _ hi (below_putObj (by omega) _)) (hTw Tx _ _ ht) ((World.putObj_heap_other (by omega)).trans hk)⟩

theorem ints_loop {A : World} {X : Option Addr} {l : List Int} {r : Nat} {o : Loop} (h : Ints A X l) (hl : A.heap[r]? = some (.loop o)) (o' : Obj) : Ints (A.putObj r o') X l := fun hp => by
  obtain ⟨b, off, e, hb, hc⟩ := h hp
  refine ⟨b, off, e, by rw [World.putObj_size]; exact hb, fun i hi => ?_⟩
  have hne : b ≠ r := by
    rintro rfl
    have := hc i hi
    simp [World.cell?, hl] at this
  have hcc := hc i hi
  rw [← hcc]
  exact World.cell?_of_block (World.putObj_heap_other hne)
theorem bk_loop {A : World} {t : TypeId} {g r : Nat} {xs : List Value} {o : Loop} (h : Bk t A g xs) (hl : A.heap[r]? = some (.loop o)) (o' : Obj) : Bk t (A.putObj r o') g xs := by
  have hne : g ≠ r := by
    rintro rfl
    unfold Bk at h
    rw [hl] at h
    cases h
  exact (World.putObj_heap_other hne).trans h
/-- The marks of the loops that have been gone through: the block of each is there, for its own. -/
inductive Marks (B : Nat) (W : World) : List Deferred → Prop where
  | nil : Marks B W []
  | cons {D : Nat} {ds : List Deferred} (h : B ≤ D) (hk : W.heap[D]? = some (.deferred (some []))) (hn : ∀ d ∈ ds, d.target ≠ .collected D) (r : Marks B W ds) : Marks B W ({ target := .collected D, args := #[] } :: ds)
theorem Marks.of {B : Nat} {W W' : World} : ∀ {ds : List Deferred}, Marks B W ds → (∀ (D : Nat), (∃ d ∈ ds, d.target = .collected D) → W.heap[D]? = some (.deferred (some [])) → W'.heap[D]? = some (.deferred (some []))) → Marks B W' ds
  | _, .nil, _ => .nil
  | _, .cons h hk hn r, H => .cons h (H _ ⟨_, List.mem_cons_self, rfl⟩ hk) hn (r.of fun D ⟨d, hd, e⟩ => H D ⟨d, List.mem_cons_of_mem _ hd, e⟩)
theorem Marks.turn {B : Nat} {T : Nat → Prop} {W W' : World} {ds : List Deferred} (h : Marks B W ds) (ht : Turn T W W') (hT : ∀ D, T D → D < B) : Marks B W' ds := by
  induction h with
  | nil => exact .nil
  | cons h hk hn r ih => exact .cons h ((ht.at_ (Array.getElem?_eq_some_iff.1 hk).1 (fun e => by have := hT _ e; omega)).trans hk) hn ih
theorem Marks.lt {B : Nat} {W : World} : ∀ {ds : List Deferred}, Marks B W ds → ∀ d ∈ ds, ∀ D, d.target = .collected D → D < W.heap.size
  | _, .cons h hk hn r, d, hd, D, e => by
    rcases List.mem_cons.1 hd with rfl | hd
    · injection e with e; subst e; exact (Array.getElem?_eq_some_iff.1 hk).1
    · exact r.lt d hd D e
/-- A frame on its way out by marks alone. -/
theorem leaves_marks {F : Fence} {n : Nat} {P : Program} {fn : Func} {tmps : Array Value} {R : Ending → World → Prop} {B : Nat} : ∀ {ds : List Deferred} {W : World}, Marks B W ds → (∀ W', Below B W W' → LeavesIn F n P fn tmps R [] .returning W') → LeavesInM F n P fn tmps R ds .returning W
  | _, W, .nil, H => H W (Below.refl _ _)
  | _, W, .cons (D := D) h hk hn r, H => ⟨by simp, .inl ⟨D, _, rfl, run_takeDeferred hk, leaves_marks (r.of fun D' ⟨d, hd, e⟩ hk' => (World.putObj_heap_other (fun e' => hn d hd (by rw [e, e']))).trans hk') (fun W' hb => H W' ((below_putObj h _).trans hb))⟩⟩
end Go.Proofs.Ytffccemipkhjnaa.Tr
