/-
  A round of a range over a function: a statement that draws its order and defers nothing goes in a round as it goes elsewhere. No condition; nothing of the program stands here. carve.places, which tells the places of axes to whoever ranges over them: its contract for every loop body that goes on. Condition: at most 100 axes. What carve.carved answers: at each place the number of the cell that stands where the function says; nothing that was there is written. Condition: the axes may be; the function, called with a place, tells numbers and writes nothing that was there. What carve.movedAlong answers, by what the function that moves tells: the number that stands, along the axis, where it says; nothing that was there is written. Condition: the cell may be; the function that moves only reads. What the program's Flip, Roll and Turn answer for any cells; nothing that was there is written. Condition: at most 100 axes and 1000 numbers.
-/
import Derived.Test.YtbanegjmapgkdaaDoorProg
import Derived.Test.YtbanegjmapgkdaaDoorPkC
import Derived.RangeFuncNested
import Derived.RangeFuncBound
import Derived.RangeFuncCalls
import Derived.RangeFuncLeaves
import Derived.Shelf.Abstract
import Derived.Shelf.RegionOpen
import Derived.WalkKit
import Derived.OwnWalkIn
import Derived.TacticsInMore
import Derived.LoopNIn
import Derived.LoopIn
import Derived.OrdersHeld
import Derived.Test.YtbanegjmapgkdaaDoorPkR
import Derived.IntWalk
import Derived.Test.YtbanegjmapgkdaaDoorPkO
-- CvRound
namespace Go.Proofs.YtbanegjmapgkdaaDoor.Sh
open Go.RowKit Go.Shelf
set_option linter.unusedVariables false

section
variable {P : Program} {l n : Nat} {Q : Exit → Act → World → Prop}
theorem oper_round {o : Oper} {a : Act} {w : World} {K : Act → World → Prop} (hd : ∀ c, o.op ≠ .defer c) (h : o.wp P a w K Q) : o.wpIn (Fence.wide.inRound l) n P a w K Q := by
  refine ⟨fun _ _ => trivial, ?_⟩
  rw [Oper.semAt_eq _ _ _ hd]
  unfold Oper.wp at h
  generalize (execOp a.eval o).run P w = r at *
  cases r with
  | ok nx w' =>
    cases nx with
    | value v => exact h
    | skip => exact h
    | defer d => exact h
    | enter f args => exact ⟨(fun hh => by cases hh), CallsIn.inRound l (callsIn_wide.2 h)⟩
    | row row args => exact ⟨(fun hh => by cases hh), fun c cs _ => let ⟨v, w2, r, s⟩ := h c cs; ⟨v, w2, r, stepsIn_wide.2 s⟩⟩
    | round l f t a b => exact h.elim
    | _ => exact h
  | halt x w' =>
    cases x with
    | panic v => exact h
    | _ => exact h
theorem any_round {md : Region.Mode} {ops : Array Oper} (hd : ∀ (i : Nat) (o : Oper), ops[i]? = some o → ∀ c, o.op ≠ .defer c) (hl : ¬ LetsOut Q) :
    ∀ (fuel : Nat) (listed : Array Bool) (a : Act) (w : World), wpAny P md ops Q fuel listed a w → wpAnyIn (Fence.wide.inRound l) n P md ops Q fuel listed a w := by
  intro fuel
  induction fuel with
  | zero => intro listed a w h; exact h
  | succ k ih =>
    intro listed a w h
    refine ⟨h.1, fun i hi => ?_⟩
    have h2 := h.2 i hi
    unfold wpOp at h2
    unfold wpOpIn
    cases ho : ops[i]? with
    | none => rw [ho] at h2; exact ih _ _ _ h2
    | some o =>
      rw [ho] at h2
      simp only at h2 ⊢
      split
      · rename_i hw
        rw [if_pos hw] at h2
        rcases h2 with h2 | h2
        · exact Oper.wpIn_mono (fun a' w' h' => ih _ a' w' h') (oper_round (hd i o ho) h2)
        · exact absurd h2.2 hl
      · rename_i hw
        rw [if_neg hw] at h2
        exact ⟨fun _ _ => trivial, ih _ _ _ h2⟩
theorem region_round {id : Nat} {ops : Array Oper} {S : World → Prop} {a : Act} {w : World} (hm : P.follows .mixedOrders = true) (hd : ∀ (i : Nat) (o : Oper), ops[i]? = some o → ∀ c, o.op ≠ .defer c) (hl : ¬ LetsOut Q)
    (h : wpAnyH P .any ops Q S ops.size (Array.replicate ops.size false) a w.drew) : (Code.region id ops true).wpIn (Fence.wide.inRound l) n P Q a w :=
  wpIn_region_any hm (any_round hd hl _ _ _ _ (wpAny_of_held _ _ _ _ h))
end
/-- The body of a round may only run to its end; then its loop is still busy, and R holds. -/
def OnlyOn (l : Nat) (r : Loop) (R : World → Prop) : Exit → Act → World → Prop
  | .normal, _, W => W.heap[l]? = some (.loop { r with state := .busy }) ∧ R W
  | _, _, _ => False
theorem onlyOn_out (l : Nat) (r : Loop) (R : World → Prop) : ¬ LetsOut (OnlyOn l r R) := fun ⟨_, _, h⟩ => h
/-- A round that can only go on. -/
theorem yield_on {P : Program} {n l : Nat} {r : Loop} {args : Array Value} {W : World} {R : World → Prop} (hl : W.heap[l]? = some (.loop r)) (hr : r.state = .ready) (hs : args.size = r.params.size) (a1 : Act)
    (hassign : ∀ K : Act → World → Prop, K a1 W → r.assign.wpIn (Fence.wide.inRound l) n P (Exit.then K (fun _ _ _ => False)) { tmps := (r.params.zip args).foldl (fun t (p, v) => t.setIfInBounds p v) r.tmps, defers := [] } W)
    (hbody : r.body.wpIn (Fence.wide.inRound l) n P (OnlyOn l r R) a1 (W.putObj l (.loop { r with state := .busy }))) :
    YieldAt Fence.wide n P l args W fun e W' => e = .returned (.bool true) ∧ ∃ W3, R W3 ∧ W3.heap[l]? = some (.loop { r with state := .busy }) ∧ W' = W3.putObj l (.loop { r with state := .ready, pending := none }) := by
  refine ⟨r.fn, _, r.assign, r.body, run_yield hl hs, roundIn_of_wpIn trivial (hassign _ ⟨_, run_beginRound hl hr, ?_⟩)⟩
  refine wpIn_mono hbody ?_
  intro e a w h
  cases e with
  | normal =>
    obtain ⟨h1, h2⟩ := h
    exact ⟨_, _, run_endRound none h1, rfl, w, h2, h1, rfl⟩
  | ret => exact h.elim
  | exit id => exact h.elim
  | goto t => exact h.elim
  | panic c => exact h.elim
  | outgrown => exact h.elim
/-- A range over a function whose rounds can only go on. -/
theorem range_on {P : Program} {n : Nat} {g : Operand} {ps : Array Tmp} {assign body : Code} {Q : Exit → Act → World → Prop} {a : Act} {w : World} {gf : Nat} {lb : Array Value} (hg : a.eval g = .func (.func gf) #[] lb) (eg : ∀ args w, (callFunc gf args).run P w = .ok (.enter gf args) w)
    (h : ∀ r : Loop, r.state = .ready → r.pending = none → r.params = ps → r.assign = assign → r.body = body → r.tmps = a.tmps →
      CallsIn Fence.wide (n - 1) P gf (#[.func (.yield (w.heap.size + 1)) #[] #[]] ++ lb) ((w.alloc (.deferred (some []))).alloc (.loop r)) fun e W => (∃ v, e = .returned v) ∧ W.heap[w.heap.size + 1]? = some (.loop r) ∧
        Q .normal { a with defers := { target := .collected w.heap.size, args := #[] } :: a.defers } (W.putObj (w.heap.size + 1) (.loop { r with state := .exhausted }))) :
    (Code.rangeFunc g ps assign body).wpIn Fence.wide n P Q a w := by
  refine wpIn_rangeFunc fun fn _ => ?_
  obtain ⟨r, hr⟩ : ∃ r : Loop, r = { state := .ready, pending := none, fn, tmps := a.tmps, params := ps, assign, body, defers := w.heap.size } := ⟨_, rfl⟩
  have h' := h r (by rw [hr]) (by rw [hr]) (by rw [hr]) (by rw [hr]) (by rw [hr]) (by rw [hr])
  have he := run_enterLoop_outer (P := P) (w := w) fn a.tmps ps assign body
  rw [← hr] at he
  refine ⟨w.heap.size + 1, [{ target := .collected w.heap.size, args := #[] }], (w.alloc (.deferred (some []))).alloc (.loop r), { target := .fn (.func gf) lb, args := #[.func (.yield (w.heap.size + 1)) #[] #[]] }, (w.alloc (.deferred (some []))).alloc (.loop r), gf, #[.func (.yield (w.heap.size + 1)) #[] #[]] ++ lb, (w.alloc (.deferred (some []))).alloc (.loop r), he, ?_, fun _ _ => trivial, ?_, (fun hh => by cases hh), ?_⟩
  · simp only [resolve, hg]
    simp [go_sem]
  · simp [invoke, go_sem, eg]
  · refine h'.mono ?_
    rintro e W ⟨⟨v, rfl⟩, hl, hq⟩
    have hp : r.pending = none := by rw [hr]
    have hs : r.state ≠ .busy := by rw [hr]; simp
    have := run_endLoop (P := P) hl hs
    rw [hp] at this hq
    exact ⟨none, _, this, hq⟩
/-- Where a block is put anew that lies at or above B, all below B stays. -/
theorem below_put {B : Nat} {a w : World} (h : Below B a w) {r : Nat} (hr : B ≤ r) (o : Obj) : Below B a (w.putObj r o) :=
  ⟨h.os, h.tape, h.output, by simpa [World.putObj] using h.size, fun k hk => (World.putObj_heap_other (show k ≠ r by omega)).trans (h.block k hk)⟩
end Go.Proofs.YtbanegjmapgkdaaDoor.Sh
-- CvPlaces
namespace Go.Proofs.YtbanegjmapgkdaaDoor.Sh
open Go.RowKit Go.Shelf
set_option linter.unusedVariables false

/-- A round has gone on. -/
def GoesOn (J : Nat → World → Prop) (k : Nat) (e : Ending) (W' : World) : Prop := e = .returned (.bool true) ∧ J (k + 1) W'

set_option maxHeartbeats 4000000 in
theorem places1_in (l m Bd : Nat) (A : Option Addr) (c : Nat) (d : List Int) (n : Nat) (J : Nat → World → Prop) (hn : sizeI d = n) (hl : d.length ≤ 100)
    (hD : ∀ k W, J k W → W.cell? ⟨Bd, 0, none⟩ = some (.slice A d.length c) ∧ Ints W A d)
    (hJ : ∀ k W W', J k W → Below W.heap.size W W' → J k W')
    (hY : ∀ k W A' c', k < n → J k W → Ints W A' (dg d k) → YieldAt Fence.wide (m + 1 - 1) Tryd.prog l #[.int .i64 (k : Int), .slice A' d.length c'] W (GoesOn J k))
    (W : World) (h0 : J 0 W) :
    CallsIn Fence.wide (m + 1) Tryd.prog 102 #[.func (.yield l) #[] #[], .pointer (some ⟨Bd, 0, none⟩)] W fun e W' => (∃ v, e = .returned v) ∧ J n W' := by
  have hn64 : n ≤ 64 := by have := sizeI_bd d; omega
  have hc := (hD 0 W h0).1
  have SZ := Lib.hid (size_n A c d d.length W rfl hl (hD 0 W h0).2)
  rw [hn] at SZ
  have HJ := Lib.hid hJ
  have HY := Lib.hid hY
  have HD := Lib.hid hD
  have HN := Lib.hid hn
  have H0 := Lib.hid h0
  clear hJ hY hD hn h0
  refine callsIn_of_wp Tryd.func102 rfl trivial ?_ rfl
  simp only [Tryd.ntmps102, List.size_toArray, List.length_cons, List.length_nil, Nat.reduceAdd, Nat.reduceSub, Array.replicate_succ, Array.replicate_zero, List.push_toArray, List.append_toArray, List.nil_append, List.cons_append]
  gi_wp2_with (refine ⟨trivial, ?_⟩; gi_at_call 36; refine (callsIn_wide.2 SZ.out).mono ?_; rintro e W1 ⟨rfl, hb⟩; have HJ1 := Lib.hid (HJ.out 0 W W1 H0.out hb); clear hb)
  gi_loopw [6] (fun j wr => ∃ k : Nat, k ≤ n ∧ j = .int .i64 (k : Int) ∧ J k wr) (fun j _ => n - (intOf j).toNat)
  case atStart => exact ⟨0, Nat.zero_le _, rfl, HJ1.out⟩
  case round =>
    obtain ⟨k, hk, rfl, hJk⟩ := hrel
    have HJk := Lib.hid hJk
    have hck := (HD.out k wr hJk).1
    clear hJk
    by_cases hlt : k < n
    · have k0 : (0 : Int) ≤ (k : Int) := by omega
      have PLC := Lib.hid (place_n A c d (k : Int) wr hl (HD.out k wr HJk.out).2 k0 (by rw [HN.out]; omega))
      gi_wp2_with (refine ⟨trivial, ?_⟩; gi_at_call 103; refine (callsIn_wide.2 PLC.out).mono ?_; rintro e W2 ⟨A2, c2, rfl, hi2, hb2⟩; obtain ⟨fn, tmps, assign, body, hy, hR⟩ := HY.out k W2 A2 c2 hlt (HJ.out k wr W2 HJk.out hb2) hi2; have HR := Lib.hid hR; clear hi2 hb2 hR)
      refine HR.out.mono ?_
      rintro e W3 ⟨rfl, hJ3⟩
      have HJ3 := Lib.hid hJ3
      clear hJ3
      gi_wp2
      go_roundw
      case rel => exact ⟨k + 1, by omega, by go_num, HJ3.out⟩
      case measure => simp [intOf]; omega
    · obtain rfl : k = n := by omega
      gi_wp2
      go_end0
      exact ⟨⟨_, rfl⟩, HJk.out⟩
end Go.Proofs.YtbanegjmapgkdaaDoor.Sh
-- CvCarved
namespace Go.Proofs.YtbanegjmapgkdaaDoor.Sh
open Go.RowKit Go.Shelf
set_option linter.unusedVariables false
attribute [local go_sem] Oper.semAt_some

def noDefer (ops : Array Oper) : Bool := ops.all fun o => match o.op with | .defer _ => false | _ => true
theorem noDefer_of {ops : Array Oper} (h : noDefer ops = true) : ∀ (i : Nat) (o : Oper), ops[i]? = some o → ∀ c, o.op ≠ .defer c := by
  intro i o ho c hc
  have := Array.all_eq_true'.1 h o (Array.mem_of_getElem? ho)
  rw [hc] at this
  cases this
set_option maxHeartbeats 1000000 in
theorem places_ret (A : Option Addr) (c : Nat) (d : List Int) (w : World) :
    Calls Tryd.prog 82 #[.slice A d.length c] w fun e w' => e = .returned (.func (.func 102) #[] #[.pointer (some ⟨w.heap.size, 0, none⟩)]) ∧ w' = w.alloc (.cells #[.slice A d.length c] 26) := by
  go_enter Tryd.func82, Tryd.ntmps82
  go_wp2
  go_ret
  exact ⟨rfl, rfl⟩
theorem Ints.put {W : World} {A : Option Addr} {xs : List Int} {l : Nat} {r : Loop} (h : Ints W A xs) (hl : W.heap[l]? = some (.loop r)) (o : Obj) : Ints (W.putObj l o) A xs := fun hp => by
  obtain ⟨b, off, e, hb, hc⟩ := h hp
  refine ⟨b, off, e, by simpa [World.putObj] using hb, fun i hi => cell_kept (hc i hi) (grownBy_putObj' W l o) (fun q e => ?_)⟩
  cases e
  exact ⟨_, hl, rfl⟩
theorem turned_put {a W : World} {g l : Nat} (h : a.grownBy W (some g)) (hl : a.heap.size ≤ l) (o : Obj) : a.grownBy (W.putObj l o) (some g) :=
  ⟨h.os, h.tape, h.output, by simpa [World.putObj] using h.size, fun b hb hne => (World.putObj_heap_other (show b ≠ l by omega)).trans (h.block b hb hne)⟩
theorem loop_same {r : Loop} (hs : r.state = .ready) (hp : r.pending = none) : ({ r with state := .ready, pending := none } : Loop) = r := by cases r; simp at hs hp; subst hs hp; rfl
theorem cat_v (A : Option Addr) (c : Nat) (d : List Int) (B : Option Addr) (c2 : Nat) (v : List Int) (C : Option Addr) (c3 : Nat) (p : List Int) (x : Int) (w : World) (hx : atI d v p = x) (hd : d.length ≤ 100) (hv : v.length ≤ 1000) (hp : p.length ≤ 100) (id : Ints w A d) (iv : Ints w B v) (ip : Ints w C p) :
    Calls Tryd.prog 83 #[.agg #[.slice A d.length c, .slice B v.length c2], .slice C p.length c3] w fun r w' => ∃ t : Bool, r = .returned (.tuple #[.int .i64 x, .bool t]) ∧ Below w.heap.size w w' := by
  subst hx
  exact (cat_any A c d B c2 v C c3 p w (by unfold maxLen; omega) (by unfold maxLen; omega) (by unfold maxLen; omega) id iv ip).mono fun r w' ⟨h1, h2⟩ => ⟨_, h1, h2⟩
/-- What holds behind k rounds. -/
def CvJ (w3 : World) (g n : Nat) (F : Nat → Int) (r : Loop) (k : Nat) (W : World) : Prop := w3.grownBy W (some g) ∧ Row64 W g (fillK F n k) ∧ W.heap[w3.heap.size + 1]? = some (.loop r) ∧ W.heap[w3.heap.size]? = some (.deferred (some []))

set_option maxHeartbeats 8000000 in
set_option maxRecDepth 100000 in
theorem carved_any (A : Option Addr) (c : Nat) (d : List Int) (A' : Option Addr) (c' : Nat) (e : List Int) (B' : Option Addr) (c2' : Nat) (u : List Int) (fk : Nat) (lb : Array Value) (f : List Int → List Int) (n : Nat) (w : World)
    (hR : rightB d = true) (hn : sizeI d = n) (id : Ints w A d) (ie : Ints w A' e) (iu : Ints w B' u) (he : e.length ≤ 100) (hu : u.length ≤ 1000)
    (hfe : ∀ args W, (callFunc fk args).run Tryd.prog W = .ok (.enter fk args) W)
    (hf : ∀ k W A2 c2, k < n → Below w.heap.size w W → Ints W A2 (dg d (k : Int)) → Calls Tryd.prog fk (#[.slice A2 d.length c2] ++ lb) W (RetInts W (f (dg d (k : Int)))))
    (hfl : ∀ k : Nat, k < n → (f (dg d (k : Int))).length ≤ 100) :
    Calls Tryd.prog 58 #[.slice A d.length c, .agg #[.slice A' e.length c', .slice B' u.length c2'], .func (.func fk) #[] lb] w (RetC1 w d ((List.range n).map fun k : Nat => atI e u (f (dg d (k : Int))))) := by
  have hl3 := (rightB_all hR).1
  have hn64 : n ≤ 64 := by have := sizeI_bd d; omega
  have HFE := Lib.hid hfe
  have HF := Lib.hid hf
  have HFL := Lib.hid hfl
  have HN := Lib.hid hn
  have hz := fun W iW => zero_m A c d W (by omega) iW hR
  rw [hn, Int.toNat_natCast] at hz
  have HZ := Lib.hid hz
  clear hfe hf hfl hn hz
  have b1 := below_new w (.cells #[.slice A' e.length c', .slice B' u.length c2'] 29)
  have x1 := Box.new w (.slice A' e.length c') (.slice B' u.length c2')
  have b2 := below_new (w.alloc (.cells #[.slice A' e.length c', .slice B' u.length c2'] 29)) (.cells #[.func (.func fk) #[] lb] 89)
  have x2 : ((w.alloc (.cells #[.slice A' e.length c', .slice B' u.length c2'] 29)).alloc (.cells #[.func (.func fk) #[] lb] 89)).cell? ⟨w.heap.size + 1, 0, none⟩ = some (.func (.func fk) #[] lb) := by rw [World.cell?_alloc_at _ _ _ _ (by simp)]; rfl
  generalize hWa : w.alloc (.cells #[.slice A' e.length c', .slice B' u.length c2'] 29) = Wa at *
  have ha : Wa.heap.size = w.heap.size + 1 := by rw [← hWa]; simp
  generalize hWb : Wa.alloc (.cells #[.func (.func fk) #[] lb] 89) = Wb at *
  have hb : Wb.heap.size = w.heap.size + 1 + 1 := by rw [← hWb]; simp [ha]
  have b3 := below_new Wb (.cells #[.slice none 0 0, .slice none 0 0] 29)
  have x3 := Box.new Wb (.slice none 0 0) (.slice none 0 0)
  rw [hb] at x3
  have BC := Lib.hid ((x1.next b2).next b3)
  have FC := Lib.hid ((b3.cell (p := ⟨w.heap.size + 1, 0, none⟩) (by simp [hb])).trans x2)
  have BR := Lib.hid x3
  have L0 := Lib.hid (below_next (below_next b1 b2) b3)
  subst hWb hWa
  have I0 := Lib.hid (id.below L0.out)
  have IDw := Lib.hid id
  have IE := Lib.hid ie
  have IU := Lib.hid iu
  clear b1 b2 b3 x1 x2 x3 ha hb id ie iu
  refine (callsIn_wide (n := 3)).1 ?_
  refine callsIn_of_wp_marks Tryd.func58 rfl trivial ?_ rfl
  simp only [Tryd.ntmps58, List.size_toArray, List.length_cons, List.length_nil, Nat.reduceAdd, Nat.reduceSub, Array.replicate_succ, Array.replicate_zero, List.push_toArray, List.append_toArray, List.nil_append, List.cons_append]
  gi_wp2_with (first
    | (refine ⟨trivial, ?_⟩; gi_at_call 33; refine (callsIn_wide.2 (HZ.out _ I0.out)).mono ?_; rintro r w1 ⟨A1, c1, g, rfl, hm1, hr1, hg1, hb1⟩; have M1 := Lib.hid hm1; have R1 := Lib.hid (show Row64 w1 g (List.replicate n 0) from hr1); have HB1 := Lib.hid hb1; have HG1 := Lib.hid hg1; clear hm1 hr1 hg1 hb1)
    | (refine ⟨trivial, ?_⟩; gi_at_call 82; refine (callsIn_wide.2 (places_ret A c d _)).mono ?_; rintro r w2 ⟨rfl, rfl⟩))
  have hgl : g < w1.heap.size := R1.out.lt
  have hgW : w.heap.size + 1 + 1 + 1 ≤ g := by simpa using HG1.out
  have k1 := below_new w1 (.cells #[.slice A1 d.length c1, .slice (some ⟨g, 0, none⟩) n n] 29)
  have k2 := below_new (w1.alloc (.cells #[.slice A1 d.length c1, .slice (some ⟨g, 0, none⟩) n n] 29)) (.cells #[.slice A d.length c] 26)
  have y1 := (Box.new w1 (.slice A1 d.length c1) (.slice (some ⟨g, 0, none⟩) n n)).next k2
  have y2 : ((w1.alloc (.cells #[.slice A1 d.length c1, .slice (some ⟨g, 0, none⟩) n n] 29)).alloc (.cells #[.slice A d.length c] 26)).cell? ⟨w1.heap.size + 1, 0, none⟩ = some (.slice A d.length c) := by rw [World.cell?_alloc_at _ _ _ _ (by simp)]; rfl
  have k3 := below_next k1 k2
  have k4 := below_next HB1.out k3
  have BM := Lib.hid y1
  have DB := Lib.hid y2
  have R3 := Lib.hid (R1.out.next k3)
  have M3 := Lib.hid (M1.out.below k3 (Nat.le_refl _))
  have BC3 := Lib.hid (BC.out.next k4)
  have BR3 := Lib.hid (BR.out.next k4)
  have FC3 := Lib.hid ((k4.cell (p := ⟨w.heap.size + 1, 0, none⟩) (by simp)).trans FC.out)
  have L3 := Lib.hid (below_next L0.out k4)
  have I3 := Lib.hid (I0.out.below k4)
  have hs3 : ((w1.alloc (.cells #[.slice A1 d.length c1, .slice (some ⟨g, 0, none⟩) n n] 29)).alloc (.cells #[.slice A d.length c] 26)).heap.size = w1.heap.size + 1 + 1 := by simp
  generalize hw3 : (w1.alloc (.cells #[.slice A1 d.length c1, .slice (some ⟨g, 0, none⟩) n n] 29)).alloc (.cells #[.slice A d.length c] 26) = w3 at *
  clear hw3 k1 k2 k3 k4 y1 y2 HB1 HG1 R1 M1 BC BR FC L0 I0 HZ
  generalize w1.heap.size = g7 at *
  clear w1
  have hg3 : g < w3.heap.size := by omega
  have HS3 := Lib.hid hs3
  clear hs3
  refine range_on (gf := 102) (lb := #[.pointer (some ⟨g7 + 1, 0, none⟩)]) rfl (enters_of Tryd.func102 (by kernel_rfl) rfl) ?_
  intro r hs hp hps has hbd htm
  obtain ⟨F, hF⟩ : ∃ F : Nat → Int, F = fun k : Nat => atI e u (f (dg d (k : Int))) := ⟨_, rfl⟩
  have HFF := Lib.hid hF
  have hgw : w.heap.size ≤ g := by omega
  have hl7 : g7 + 1 < w3.heap.size := by have := HS3.out; omega
  refine (places1_in (w3.heap.size + 1) 1 (g7 + 1) A c d n (CvJ w3 g n F r) HN.out (by omega) ?hD ?hJ ?hY _ ?h0).mono ?done
  case hD =>
    intro k W h
    exact ⟨(World.cell?_of_block (h.1.block (g7 + 1) hl7 (fun e => by injection e with e; omega))).trans DB.out, IDw.out.below (below_turned L3.out h.1 hgw)⟩
  case hJ =>
    intro k W W' h hb
    have l1 : w3.heap.size + 1 < W.heap.size := (Array.getElem?_eq_some_iff.1 h.2.2.1).1
    exact ⟨turned_below h.1 hb, h.2.1.next hb, (hb.block _ l1).trans h.2.2.1, (hb.block _ (by omega)).trans h.2.2.2⟩
  case h0 =>
    have z1 := below_new w3 (.deferred (some []))
    have z2 := below_next z1 (below_new _ (.loop r))
    refine ⟨turned_below (turned_refl _ _) z2, by rw [fillK_0]; exact R3.out.next z2, ?_, ?_⟩
    · have := World.alloc_heap_new (w3.alloc (.deferred (some []))) (.loop r)
      rwa [World.size_alloc] at this
    · exact (Below.heap_alloc _ _ _ (by simp)).trans (World.alloc_heap_new w3 _)
  case hY =>
    intro k W A2 c2 hk hJk hi2
    have HI2 := Lib.hid hi2
    have HJk := Lib.hid hJk
    clear hi2 hJk
    refine (yield_on (n := 1) (l := w3.heap.size + 1) (r := r) (args := #[.int .i64 (k : Int), .slice A2 d.length c2]) (W := W)
      (R := fun W3 => w3.grownBy W3 (some g) ∧ Row64 W3 g (fillK F n (k + 1)) ∧ W3.heap[w3.heap.size]? = some (.deferred (some []))) HJk.out.2.2.1 hs (by rw [hps]; rfl)
      { tmps := #[.slice A d.length c, .agg #[.slice A' e.length c', .slice B' u.length c2'], .func (.func fk) #[] lb, undef, .pointer (some ⟨w.heap.size, 0, none⟩), .pointer (some ⟨w.heap.size + 1, 0, none⟩), .pointer (some ⟨w.heap.size + 1 + 1, 0, none⟩), .pointer (some ⟨g7, 0, none⟩), .int .i64 (k : Int), .slice A2 d.length c2, .slice A d.length c, .agg #[.slice A1 d.length c1, .slice (some ⟨g, 0, none⟩) n n], .slice A d.length c, .func (.func 102) #[] #[.pointer (some ⟨g7 + 1, 0, none⟩)], .int .i64 (k : Int), .slice A2 d.length c2, undef, undef, undef, undef, undef, undef, undef, undef, undef, undef, undef, undef, undef], defers := [] } ?assign ?body).mono ?_
    case assign =>
      rw [has, hps, htm]
      intro K hK
      gi_wp2
      exact hK
    case body =>
      have lW : w3.heap.size + 1 < W.heap.size := (Array.getElem?_eq_some_iff.1 HJk.out.2.2.1).1
      have keep : ∀ b, b < w3.heap.size + 1 → (W.putObj (w3.heap.size + 1) (.loop { r with state := .busy })).heap[b]? = W.heap[b]? := fun b hb => World.putObj_heap_other (by omega)
      have G0 := Lib.hid (turned_put HJk.out.1 (Nat.le_succ _) (.loop { r with state := .busy }))
      have Lp := Lib.hid (below_turned L3.out G0.out hgw)
      have Bm := Lib.hid (BM.out.grown G0.out (fun e => by injection e with e; omega))
      have Bc := Lib.hid (BC3.out.grown G0.out (fun e => by injection e with e; omega))
      have Fc := Lib.hid ((World.cell?_of_block (G0.out.block (w.heap.size + 1) (by omega) (fun e => by injection e with e; omega))).trans FC3.out)
      have Rp := Lib.hid (show Row64 _ g _ from (keep g (by omega)).trans HJk.out.2.1)
      have Dp := Lib.hid ((keep w3.heap.size (by omega)).trans HJk.out.2.2.2)
      have Hp := Lib.hid (World.putObj_heap_same (o := .loop { r with state := .busy }) lW)
      have I2 := Lib.hid (HI2.out.put HJk.out.2.2.1 (.loop { r with state := .busy }))
      have lp : w3.heap.size + 1 < (W.putObj (w3.heap.size + 1) (.loop { r with state := .busy })).heap.size := by simpa [World.putObj] using lW
      clear keep
      generalize W.putObj (w3.heap.size + 1) (.loop { r with state := .busy }) = Wp at *
      rw [hbd]
      clear hs hp hps has hbd htm
      have IEp := Lib.hid (IE.out.below Lp.out)
      have IUp := Lib.hid (IU.out.below Lp.out)
      have HFk := Lib.hid (HFL.out k hk)
      have HX := Lib.hid (show atI e u (f (dg d (k : Int))) = F k by rw [HFF.out])
      have HS := Lib.hid (fillK_succ F n k hk)
      have hSd : Wp.drew.cell? ⟨g7, 1, none⟩ = some (.slice (some ⟨g, 0, none⟩) n n) ∧ Wp.drew.cell? ⟨w.heap.size, 0, none⟩ = some (.slice A' e.length c') ∧ Wp.drew.cell? ⟨w.heap.size, 1, none⟩ = some (.slice B' u.length c2') ∧ Wp.drew.cell? ⟨w.heap.size + 1, 0, none⟩ = some (.func (.func fk) #[] lb) := ⟨Bm.out.c1, Bc.out.c0, Bc.out.c1, Fc.out⟩
      gi_wp2
      refine region_round (S := fun w' => w'.cell? ⟨g7, 1, none⟩ = some (.slice (some ⟨g, 0, none⟩) n n) ∧ w'.cell? ⟨w.heap.size, 0, none⟩ = some (.slice A' e.length c') ∧ w'.cell? ⟨w.heap.size, 1, none⟩ = some (.slice B' u.length c2') ∧ w'.cell? ⟨w.heap.size + 1, 0, none⟩ = some (.func (.func fk) #[] lb)) (by kernel_rfl) (noDefer_of (by kernel_rfl)) (fun ⟨_, _, h⟩ => h) ?_
      refine take_yes (i := 0) (some 17) (.pointer (some ⟨g7, 1, none⟩)) rfl rfl (by kernel_rfl) (by kernel_rfl) (by kernel_rfl) (fun _ _ _ h => h) (by rfl) hSd ?_ ?_
      · intro w hSw; (try dsimp only at hSw); go_simp
      simp only [Act.put, List.setIfInBounds_toArray, List.set_cons_zero, List.set_cons_succ]
      refine take_yes (i := 1) (some 18) (.slice (some ⟨g, 0, none⟩) n n) rfl rfl (by kernel_rfl) (by kernel_rfl) (by kernel_rfl) (fun _ _ _ h => h) (by rfl) hSd ?_ ?_
      · intro w hSw; (try dsimp only at hSw); go_simp
      simp only [Act.put, List.setIfInBounds_toArray, List.set_cons_zero, List.set_cons_succ]
      refine take_yes (i := 2) (some 19) (.int .i64 (k : Int)) rfl rfl (by kernel_rfl) (by kernel_rfl) (by kernel_rfl) (fun _ _ _ h => h) (by rfl) hSd ?_ ?_
      · intro w hSw; (try dsimp only at hSw); go_simp
      simp only [Act.put, List.setIfInBounds_toArray, List.set_cons_zero, List.set_cons_succ]
      refine take_yes (i := 3) (some 20) (.agg #[.slice A' e.length c', .slice B' u.length c2']) rfl rfl (by kernel_rfl) (by kernel_rfl) (by kernel_rfl) (fun _ _ _ h => h) (by rfl) hSd ?_ ?_
      · intro w hSw; (try dsimp only at hSw); go_simp
      simp only [Act.put, List.setIfInBounds_toArray, List.set_cons_zero, List.set_cons_succ]
      refine take_yes (i := 4) (some 21) (.func (.func fk) #[] lb) rfl rfl (by kernel_rfl) (by kernel_rfl) (by kernel_rfl) (fun _ _ _ h => h) (by rfl) hSd ?_ ?_
      · intro w hSw; (try dsimp only at hSw); go_simp
      simp only [Act.put, List.setIfInBounds_toArray, List.set_cons_zero, List.set_cons_succ]
      refine take_yes (i := 5) (some 22) (.slice A2 d.length c2) rfl rfl (by kernel_rfl) (by kernel_rfl) (by kernel_rfl) (fun _ _ _ h => h) (by rfl) hSd ?_ ?_
      · intro w hSw; (try dsimp only at hSw); go_simp
      simp only [Act.put, List.setIfInBounds_toArray, List.set_cons_zero, List.set_cons_succ]
      refine wpAnyH_ready (rs := [6]) (by kernel_rfl) (by simp) ?_
      refine AllReadyH.cons rfl (fun K hK => ?_) AllReadyH.nil
      have hfe := HFE.out
      go_simp
      clear hfe
      have WD := Lib.hid ((Below.refl Wp.heap.size Wp).drew)
      refine (HF.out k Wp.drew A2 c2 hk (Lp.out.drew) (I2.out.below WD.out)).mono ?_
      rintro r2 w5 ⟨A5, c5, rfl, hi5, hb5⟩
      have D5 := Lib.hid (below_next WD.out hb5)
      have I5 := Lib.hid hi5
      have hS5 : w5.cell? ⟨g7, 1, none⟩ = some (.slice (some ⟨g, 0, none⟩) n n) ∧ w5.cell? ⟨w.heap.size, 0, none⟩ = some (.slice A' e.length c') ∧ w5.cell? ⟨w.heap.size, 1, none⟩ = some (.slice B' u.length c2') ∧ w5.cell? ⟨w.heap.size + 1, 0, none⟩ = some (.func (.func fk) #[] lb) := ⟨(Bm.out.next D5.out).c1, (Bc.out.next D5.out).c0, (Bc.out.next D5.out).c1, (D5.out.cell (p := ⟨w.heap.size + 1, 0, none⟩) (by have := Bm.out.lt; show w.heap.size + 1 < Wp.heap.size; omega)).trans Fc.out⟩
      refine hK.out _ _ hS5 (fun _ => ?_)
      clear hK K hi5 hb5 hSd
      refine wpAnyH_ready (rs := [7]) (by kernel_rfl) (by simp) ?_
      refine AllReadyH.cons rfl (fun K hK => ?_) AllReadyH.nil
      go_simp
      go_at_call 83
      refine (cat_v A' c' e B' c2' u A5 c5 (f (dg d (k : Int))) (F k) w5 HX.out he hu HFk.out (IEp.out.below D5.out) (IUp.out.below D5.out) I5.out).mono ?_
      rintro r3 w6 ⟨tb, rfl, hb6⟩
      have D6 := Lib.hid (below_next D5.out hb6)
      have hS6 : w6.cell? ⟨g7, 1, none⟩ = some (.slice (some ⟨g, 0, none⟩) n n) ∧ w6.cell? ⟨w.heap.size, 0, none⟩ = some (.slice A' e.length c') ∧ w6.cell? ⟨w.heap.size, 1, none⟩ = some (.slice B' u.length c2') ∧ w6.cell? ⟨w.heap.size + 1, 0, none⟩ = some (.func (.func fk) #[] lb) := ⟨(Bm.out.next D6.out).c1, (Bc.out.next D6.out).c0, (Bc.out.next D6.out).c1, (D6.out.cell (p := ⟨w.heap.size + 1, 0, none⟩) (by have := Bm.out.lt; show w.heap.size + 1 < Wp.heap.size; omega)).trans Fc.out⟩
      refine hK.out _ _ hS6 (fun _ => ?_)
      clear hK K hb6 hS5
      generalize F k = x at *
      have k0 : (0 : Int) ≤ (k : Int) := by omega
      have k1 : (k : Int) < (n : Int) := by omega
      have R6 := Lib.hid (Rp.out.next D6.out)
      have x0 := R6.out.cell (i := k) (by rw [fillK_length]; exact hk)
      have x1 := R6.out.frozen k
      refine take_yes (i := 8) (some 16) (.tuple #[.int .i64 x, .bool tb]) rfl rfl (by kernel_rfl) (by kernel_rfl) (by kernel_rfl) (fun _ _ _ h => h) (by rfl) hS6 ?_ ?_
      · intro w hSw; (try dsimp only at hSw); go_simp
      simp only [Act.put, List.setIfInBounds_toArray, List.set_cons_zero, List.set_cons_succ]
      refine take_yes (i := 9) (some 25) (.int .i64 x) rfl rfl (by kernel_rfl) (by kernel_rfl) (by kernel_rfl) (fun _ _ _ h => h) (by rfl) hS6 ?_ ?_
      · intro w hSw; (try dsimp only at hSw); go_simp
      simp only [Act.put, List.setIfInBounds_toArray, List.set_cons_zero, List.set_cons_succ]
      refine take_yes (i := 10) (some 26) (.bool tb) rfl rfl (by kernel_rfl) (by kernel_rfl) (by kernel_rfl) (fun _ _ _ h => h) (by rfl) hS6 ?_ ?_
      · intro w hSw; (try dsimp only at hSw); go_simp
      simp only [Act.put, List.setIfInBounds_toArray, List.set_cons_zero, List.set_cons_succ]
      refine take_yes (i := 11) (some 27) (.pointer (some ⟨g, k, none⟩)) rfl rfl (by kernel_rfl) (by kernel_rfl) (by kernel_rfl) (fun _ _ _ h => h) (by rfl) hS6 ?_ ?_
      · intro w hSw; (try dsimp only at hSw); go_simp
      simp only [Act.put, List.setIfInBounds_toArray, List.set_cons_zero, List.set_cons_succ]
      refine wpAnyH_ready (rs := [12]) (by kernel_rfl) (by simp) ?_
      refine AllReadyH.cons rfl (fun K hK => ?_) AllReadyH.nil
      go_simp
      have n1 : g ≠ g7 := by omega
      have n2 : g ≠ w.heap.size := by omega
      have n3 : g ≠ w.heap.size + 1 := by omega
      refine hK.out _ _ ⟨(World.cell?_setCell_far _ _ _ _ n1).trans hS6.1, (World.cell?_setCell_far _ _ _ _ n2).trans hS6.2.1, (World.cell?_setCell_far _ _ _ _ n2).trans hS6.2.2.1, (World.cell?_setCell_far _ _ _ _ n3).trans hS6.2.2.2⟩ (fun _ => ?_)
      clear hK K
      refine wpAnyH_done (by kernel_rfl) ?_ _
      have hlne : w3.heap.size + 1 ≠ g := by omega
      have hDne : w3.heap.size ≠ g := by omega
      exact ⟨(Below.heap_setCell _ _ _ _ hlne).trans ((D6.out.block _ lp).trans Hp.out), turned_set (turned_below G0.out D6.out) k _, by rw [← HS.out]; exact R6.out.set_ k _, (Below.heap_setCell _ _ _ _ hDne).trans ((D6.out.block _ (by omega)).trans Dp.out)⟩
    · rintro e2 W' ⟨rfl, W3, ⟨h1, h2, h3⟩, h4, rfl⟩
      have l3 : w3.heap.size + 1 < W3.heap.size := (Array.getElem?_eq_some_iff.1 h4).1
      rw [loop_same hs hp]
      exact ⟨rfl, turned_put h1 (Nat.le_succ _) _, (World.putObj_heap_other (show g ≠ w3.heap.size + 1 by omega)).trans h2, World.putObj_heap_same l3, (World.putObj_heap_other (show w3.heap.size ≠ w3.heap.size + 1 by omega)).trans h3⟩
  case done =>
    rintro e2 W ⟨hv, hJn⟩
    refine ⟨hv, hJn.2.2.1, ?_⟩
    have l1 : w3.heap.size + 1 < W.heap.size := (Array.getElem?_eq_some_iff.1 hJn.2.2.1).1
    have Lw := below_put (below_turned L3.out hJn.1 hgw) (r := w3.heap.size + 1) (by have := L3.out.size; omega) (.loop { r with state := .exhausted })
    have bm := BM.out.grown hJn.1 (fun e => by injection e with e; omega)
    have br := BR3.out.grown hJn.1 (fun e => by injection e with e; omega)
    have mm := mine_turned M3.out R3.out (by decide) hJn.1
    have rw_ := hJn.2.1
    rw [fillK_n] at rw_
    have hK := hJn.2.2.2
    have keep : ∀ b, b < w3.heap.size + 1 → (W.putObj (w3.heap.size + 1) (.loop { r with state := .exhausted })).heap[b]? = W.heap[b]? := fun b hb => World.putObj_heap_other (by omega)
    have LW := Lib.hid Lw
    have BMz := Lib.hid (show Box _ g7 _ _ from (keep g7 (by omega)).trans bm)
    have BRz := Lib.hid (show Box _ (w.heap.size + 1 + 1) _ _ from (keep _ (by omega)).trans br)
    have RZ := Lib.hid (show Row64 _ g _ from (keep g (by omega)).trans rw_)
    have HKz := Lib.hid ((keep w3.heap.size (by omega)).trans hK)
    have MZ := Lib.hid (mm.keep (fun b hb => keep b (by have := M3.out.lt b hb; omega)))
    clear Lw bm br mm rw_ hK keep
    generalize W.putObj (w3.heap.size + 1) (.loop { r with state := .exhausted }) = Z at *
    obtain ⟨q0, q1, -, -⟩ := BMz.out.all
    obtain ⟨r0, r1, r2, r3⟩ := BRz.out.all
    gi_wp2
    have hne : w.heap.size + 1 + 1 ≠ w3.heap.size := by omega
    have T9 := (BRz.out.set0 (.slice A1 d.length c1)).set1 (.slice (some ⟨g, 0, none⟩) n n)
    have hK2 : ((Z.setCell ⟨w.heap.size + 1 + 1, 0, none⟩ (.slice A1 d.length c1)).setCell ⟨w.heap.size + 1 + 1, 1, none⟩ (.slice (some ⟨g, 0, none⟩) n n)).heap[w3.heap.size]? = some (.deferred (some [])) := (Below.heap_setCell _ _ _ _ (Ne.symm hne)).trans ((Below.heap_setCell _ _ _ _ (Ne.symm hne)).trans HKz.out)
    refine ⟨by simp, .inl ⟨_, _, rfl, run_takeDeferred hK2, ?_⟩⟩
    have T8 : Box (((Z.setCell ⟨w.heap.size + 1 + 1, 0, none⟩ (.slice A1 d.length c1)).setCell ⟨w.heap.size + 1 + 1, 1, none⟩ (.slice (some ⟨g, 0, none⟩) n n)).putObj w3.heap.size (.deferred none)) (w.heap.size + 1 + 1) (.slice A1 d.length c1) (.slice (some ⟨g, 0, none⟩) n n) := (World.putObj_heap_other hne).trans T9
    obtain ⟨t0, t1, _, _⟩ := T8.all
    have m0 := MZ.out.box (g := w.heap.size + 1 + 1) (by simp) (.slice A1 d.length c1) (.slice (some ⟨g, 0, none⟩) n n)
    have m1 := ((m0.keep (w' := ((Z.setCell ⟨w.heap.size + 1 + 1, 0, none⟩ (.slice A1 d.length c1)).setCell ⟨w.heap.size + 1 + 1, 1, none⟩ (.slice (some ⟨g, 0, none⟩) n n)).putObj w3.heap.size (.deferred none)) (fun b hb => World.putObj_heap_other (by have := M3.out.lt b hb; omega))).fr).mono (b' := w.heap.size) (by simp; omega)
    have hng : g ≠ w.heap.size + 1 + 1 := by omega
    have r1' := (RZ.out.far (p := ⟨w.heap.size + 1 + 1, 0, none⟩) hng (.slice A1 d.length c1)).far (p := ⟨w.heap.size + 1 + 1, 1, none⟩) hng (.slice (some ⟨g, 0, none⟩) n n)
    have r2' : Row64 (((Z.setCell ⟨w.heap.size + 1 + 1, 0, none⟩ (.slice A1 d.length c1)).setCell ⟨w.heap.size + 1 + 1, 1, none⟩ (.slice (some ⟨g, 0, none⟩) n n)).putObj w3.heap.size (.deferred none)) g ((List.range n).map F) := (World.putObj_heap_other (show g ≠ w3.heap.size by omega)).trans r1'
    refine ⟨.agg #[.slice A1 d.length c1, .slice (some ⟨g, 0, none⟩) n n], by simp [results, Tryd.results58, go_sem, t0, t1], ?_⟩
    rw [HFF.out] at r2'
    exact ⟨_, rfl, ⟨A1, c1, some ⟨g, 0, none⟩, n, by simp, m1, r2'.fr hgw, by simp, by unfold maxLen; omega, MZ.out.cap.1, MZ.out.cap.2⟩, below_put ((LW.out.setCell (by simp; omega) _).setCell (by simp; omega) _) (by have := L3.out.size; omega) _⟩
end Go.Proofs.YtbanegjmapgkdaaDoor.Sh
-- CvMoved
namespace Go.Proofs.YtbanegjmapgkdaaDoor.Sh
open Go.RowKit Go.Shelf
set_option linter.unusedVariables false

/-- The axis that is meant. -/
def aI (d : List Int) (b : Bool) : Int := if b = true then 0 else (d.length : Int) - 1
/-- A place with another number at the axis. -/
def mvP (mv : Int → Int → Int) (d : List Int) (x : Int) (p : List Int) : List Int := if p.length = 0 then p else withL p x (mv (p.getD x.toNat 0) (d.getD x.toNat 0))
theorem mvP_len (mv : Int → Int → Int) (d : List Int) (x : Int) (p : List Int) : (mvP mv d x p).length = p.length := by unfold mvP; split; rfl; exact withL_len _ _ _
theorem aI_nat {d : List Int} (h : 0 < d.length) (b : Bool) : ∃ a : Nat, aI d b = a ∧ a < d.length := by
  unfold aI; split
  · exact ⟨0, rfl, h⟩
  · exact ⟨d.length - 1, by omega, by omega⟩
/-- The axis is known. -/
def CutA (w3 : World) (g7 : Nat) (x : Int) (wx : World) : Prop := wx.cell? ⟨g7, 0, none⟩ = some (.int .i64 x) ∧ Below g7 w3 wx
def rollI (by_ i L : Int) : Int := (i + by_) % L
theorem tmod_bd (x : Int) {L : Int} (h : 0 < L) : -L < x.tmod L ∧ x.tmod L < L := by
  have := Int.tmod_lt_of_pos x h
  have := Int.lt_tmod_of_pos x h
  omega
theorem roll_eq (x i L : Int) (h : 0 < L) : (i + x.tmod L + L) % L = rollI x i L := by
  unfold rollI
  have e : x.tmod L = x - L * x.tdiv L := by have := Int.tmod_add_mul_tdiv x L; omega
  rw [e, show i + (x - L * x.tdiv L) + L = (i + x) + L * (1 - x.tdiv L) by rw [Int.mul_sub, Int.mul_one]; omega, Int.add_mul_emod_self_left]
end Go.Proofs.YtbanegjmapgkdaaDoor.Sh
-- CvTurn
set_option maxRecDepth 100000
namespace Go.Proofs.YtbanegjmapgkdaaDoor.Sh
open Go.RowKit Go.Shelf
set_option linter.unusedVariables false

def flI (i L : Int) : Int := L - 1 - i
/-- The numbers of a cell, moved along an axis. -/
def mvV (mv : Int → Int → Int) (d v : List Int) (b : Bool) : List Int := (List.range (sizeI d).toNat).map fun k : Nat => atI d v (mvP mv d (aI d b) (dg d (k : Int)))
def tuV (d v : List Int) : List Int := (List.range (sizeI d.reverse).toNat).map fun k : Nat => atI d v (dg d.reverse (k : Int)).reverse
def roE (dn vn d v : List Int) : Int := if cellB dn vn.length = true ∧ cellB d v.length = true then (if vn.length = 1 then 0 else 2) else 1
def roD (dn vn d v : List Int) : List Int := if roE dn vn d v = 0 then d else []
def roV (dn vn d v : List Int) (b : Bool) : List Int := if roE dn vn d v = 0 then mvV (rollI (vn.getD 0 0)) d v b else []
section
variable {dn vn d v : List Int} {b : Bool}
theorem ro_1 (h : cellB dn vn.length = false) : roE dn vn d v = 1 ∧ roD dn vn d v = [] ∧ roV dn vn d v b = [] := by
  have : roE dn vn d v = 1 := by simp [roE, h]
  simp [roD, roV, this]
theorem ro_1' (h : cellB d v.length = false) : roE dn vn d v = 1 ∧ roD dn vn d v = [] ∧ roV dn vn d v b = [] := by
  have : roE dn vn d v = 1 := by simp [roE, h]
  simp [roD, roV, this]
theorem ro_2 (h1 : cellB dn vn.length = true) (h2 : cellB d v.length = true) (h : ¬ vn.length = 1) : roE dn vn d v = 2 ∧ roD dn vn d v = [] ∧ roV dn vn d v b = [] := by
  have : roE dn vn d v = 2 := by unfold roE; rw [if_pos ⟨h1, h2⟩, if_neg h]
  simp [roD, roV, this]
theorem ro_0 (h1 : cellB dn vn.length = true) (h2 : cellB d v.length = true) (h : vn.length = 1) : roE dn vn d v = 0 ∧ roD dn vn d v = d ∧ roV dn vn d v b = mvV (rollI (vn.getD 0 0)) d v b := by
  have : roE dn vn d v = 0 := by unfold roE; rw [if_pos ⟨h1, h2⟩, if_pos h]
  simp [roD, roV, this]
theorem dg_at_bd {d : List Int} {k a n : Nat} (hn : sizeI d = n) (hk : k < n) (ha : a < d.length) : 0 ≤ (dg d (k : Int)).getD a 0 ∧ (dg d (k : Int)).getD a 0 < d.getD a 0 ∧ d.getD a 0 ≤ 64 := by
  obtain ⟨h1, h2, h3⟩ := sizeI_pos (d := d) (i := (k : Int)) (by omega) (by omega)
  have := posL_at h3 ha
  have h4 := okAx_at (rightB_all h1).2.1 a ha
  rw [dg_at d k a ha]
  exact ⟨Int.emod_nonneg _ (by omega), Int.emod_lt_of_pos _ (by omega), h4.2⟩
end
theorem turned_v (A : Option Addr) (c : Nat) (l r : List Int) (n : Nat) (w : World) (hr : l.reverse = r) (hn : l.length = n) (hl : n ≤ 100) (hi : Ints w A l) :
    Calls Tryd.prog 59 #[.slice A n c] w (RetInts w r) := by
  subst hr
  refine (turned_n A c l n w hn hl hi).mono ?_
  rintro e w' ⟨A', c', h1, h2, h3⟩
  exact ⟨A', c', by rw [List.length_reverse, hn]; exact h1, h2, h3⟩
theorem rev_right {d : List Int} (h : rightB d = true) : rightB d.reverse = true ∧ sizeI d.reverse = sizeI d := by
  have hp := sizeI_perm (List.reverse_perm d)
  have h3 := rightB_all h
  have hr : rightB d.reverse = true := rightB_mk (by simpa using h3.1) (by rw [all_perm (List.reverse_perm d)]; exact h3.2.1) (by rw [prod_perm (List.reverse_perm d)]; exact h3.2.2)
  exact ⟨hr, hp⟩
set_option maxHeartbeats 4000000 in
theorem turn_any (A : Option Addr) (c : Nat) (d : List Int) (B : Option Addr) (c2 : Nat) (v : List Int) (w : World) (id : Ints w A d) (iv : Ints w B v) (hd : d.length ≤ 100) (hv : v.length ≤ 1000) :
    Calls Tryd.prog 20 #[.agg #[.slice A d.length c, .slice B v.length c2]] w (RetC w (okL d v.length d.reverse) (okL d v.length (tuV d v)) (.int .i64 (okE d v.length))) := by
  obtain ⟨ba0, br0, hb0⟩ := w1_all w (.slice A d.length c) (.slice B v.length c2)
  have BA := Lib.hid (ba0)
  have BR := Lib.hid (br0)
  have L := Lib.hid (hb0)
  have ID := Lib.hid (id.below hb0)
  have IV := Lib.hid (iv.below hb0)
  clear ba0 br0 hb0 id iv
  by_cases h : cellB d v.length = true
  rotate_left
  · have HN := Lib.hid (show cellB d v.length = false by simpa using h)
    rw [(ok_no HN.out d.reverse).1, (ok_no HN.out d.reverse).2, (ok_no HN.out (tuV d v)).2]
    clear h
    go_enter Tryd.func20, Tryd.ntmps20
    go_wp2_with fail
    refine (cright_no _ _ d _ _ _ _ (by unfold maxLen; omega) ID.out HN.out).mono ?_
    rintro r w1 ⟨rfl, hb⟩
    replace BA := Lib.hid (BA.out.next hb)
    replace BR := Lib.hid (BR.out.next hb)
    replace L := Lib.hid (below_next L.out hb)
    replace ID := Lib.hid (ID.out.below hb)
    replace IV := Lib.hid (IV.out.below hb)
    clear hb
    obtain ⟨r0, r1, r2, r3⟩ := BR.out.all
    go_wp2
    have T9 := (BR.out.set0 (.slice none 0 0)).set1 (.slice none 0 0)
    obtain ⟨t0, t1, _, _⟩ := T9.all
    refine bodyPost_ret (v := .tuple #[.agg #[.slice none 0 0, .slice none 0 0], .int .i64 1]) (by simp [results, Tryd.results20, go_sem, t0, t1]) rfl ?_
    exact ⟨_, rfl, IsCell.none _ _, (L.out.setCell (by first | (simp; done) | (simp; omega)) _).setCell (by first | (simp; done) | (simp; omega)) _⟩
  rw [(ok_yes h d.reverse).1, (ok_yes h d.reverse).2, (ok_yes h (tuV d v)).2]
  have H1 := Lib.hid h
  obtain ⟨n, hn, hn64⟩ := sizeI_nat _ (cellB_parts h).1
  have HR := Lib.hid (rev_right (cellB_parts h).1)
  obtain ⟨rd, hrd⟩ : ∃ rd, d.reverse = rd := ⟨_, rfl⟩
  have hrl : rd.length = d.length := by rw [← hrd, List.length_reverse]
  have h3 := (cellB_small h).1
  rw [hrd] at HR
  have HV := Lib.hid (show tuV d v = (List.range n).map (fun k : Nat => atI d v ((dg rd (k : Int)).reverse)) by unfold tuV; rw [hrd, HR.out.2, hn, Int.toNat_natCast])
  rw [hrd]
  have HRD := Lib.hid hrd
  have HRL := Lib.hid hrl
  have HN := Lib.hid (show sizeI rd = n by rw [HR.out.2, hn])
  clear h hn hrd hrl
  have CV := Lib.hid (fun W A' c' iR iA iB => carved_any A' c' rd A c d B c2 v 59 #[] List.reverse n W HR.out.1 HN.out iR iA iB hd hv (enters_of Tryd.func59 (by kernel_rfl) rfl)
    (fun k W2 A2 c2 hk _ hi => turned_v A2 c2 (dg rd (k : Int)) _ rd.length W2 rfl (dg_length _ _) (by rw [HRL.out]; omega) hi)
    (fun k hk => by rw [List.length_reverse, dg_length, HRL.out]; omega))
  rw [← HV.out] at CV
  generalize tuV d v = VV at *
  go_enter Tryd.func20, Tryd.ntmps20
  go_wp2_with fail
  refine (cright_yes _ _ d _ _ _ _ (by unfold maxLen; omega) ID.out H1.out).mono ?_
  rintro r w1 ⟨rfl, hb⟩
  replace BA := Lib.hid (BA.out.next hb)
  replace BR := Lib.hid (BR.out.next hb)
  replace L := Lib.hid (below_next L.out hb)
  replace ID := Lib.hid (ID.out.below hb)
  replace IV := Lib.hid (IV.out.below hb)
  clear hb
  obtain ⟨qBA0, qBA1, -, -⟩ := BA.out.all
  have WD := Lib.hid ((Below.refl w1.heap.size w1).drew)
  have CT := Lib.hid (turned_v A c d rd d.length w1.drew HRD.out rfl hd (ID.out.below WD.out))
  have hlt := BR.out.lt
  have hle := L.out.size
  go_upto_region 3 with (fail)
  go_region_held3 (fun w' => w'.cell? ⟨w.heap.size, 0, none⟩ = some (.slice A d.length c) ∧ w'.cell? ⟨w.heap.size, 1, none⟩ = some (.slice B v.length c2))
    (first
      | with_reducible exact KK3.out
      | with_reducible exact KK2.out
      | with_reducible exact KK.out
      | go_keep)
    (first
      | (go_at_call 59; (with_reducible refine (CT.out).mono ?_); rintro r w2 ⟨A5, c5, rfl, hi5, hb5⟩; have I5 := Lib.hid hi5; have L5 := Lib.hid (below_next WD.out hb5); have KK := Lib.hid (show w2.cell? ⟨w.heap.size, 0, none⟩ = some (.slice A d.length c) ∧ w2.cell? ⟨w.heap.size, 1, none⟩ = some (.slice B v.length c2) from ⟨(BA.out.next L5.out).c0, (BA.out.next L5.out).c1⟩); clear hi5 hb5)
      | (go_at_call 58; (with_reducible refine (CV.out w2 A5 c5 I5.out (ID.out.below L5.out) (IV.out.below L5.out)).mono ?_); rintro r w3 ⟨x, rfl, ⟨A6, c6, B6, e6, rfl, f1, f2, g1, g2⟩, hb⟩; have HC := Lib.hid (show IsCell w3 w2.heap.size rd VV (.agg #[.slice A6 rd.length c6, .slice B6 VV.length e6]) from ⟨A6, c6, B6, e6, rfl, f1, f2, g1, g2⟩); have L6 := Lib.hid (below_next L5.out hb); have KK2 := Lib.hid (show w3.cell? ⟨w.heap.size, 0, none⟩ = some (.slice A d.length c) ∧ w3.cell? ⟨w.heap.size, 1, none⟩ = some (.slice B v.length c2) from ⟨(BA.out.next L6.out).c0, (BA.out.next L6.out).c1⟩); obtain ⟨r0, r1, r2, r3⟩ := (BR.out.next L6.out).all; have KK3 := Lib.hid (show ((w3.setCell ⟨w.heap.size + 1, 0, none⟩ (.slice A6 rd.length c6)).setCell ⟨w.heap.size + 1, 1, none⟩ (.slice B6 VV.length e6)).cell? ⟨w.heap.size, 0, none⟩ = some (.slice A d.length c) ∧ ((w3.setCell ⟨w.heap.size + 1, 0, none⟩ (.slice A6 rd.length c6)).setCell ⟨w.heap.size + 1, 1, none⟩ (.slice B6 VV.length e6)).cell? ⟨w.heap.size, 1, none⟩ = some (.slice B v.length c2) from ⟨(((BA.out.next L6.out).far (p := ⟨w.heap.size + 1, 0, none⟩) (by simp) _).far (p := ⟨w.heap.size + 1, 1, none⟩) (by simp) _).c0, (((BA.out.next L6.out).far (p := ⟨w.heap.size + 1, 0, none⟩) (by simp) _).far (p := ⟨w.heap.size + 1, 1, none⟩) (by simp) _).c1⟩); clear f1 f2 g1 g2 hb))
  have hsz := L5.out.size
  have BR9 := Lib.hid (BR.out.next L6.out)
  have L9 := Lib.hid (below_next L.out L6.out)
  have HLT := Lib.hid (show w.heap.size + 1 < w2.heap.size by omega)
  have HLE := Lib.hid (show w.heap.size ≤ w2.heap.size by omega)
  clear qBA0 qBA1
  go_wp2
  have T9 := (BR9.out.set0 (.slice A6 rd.length c6)).set1 (.slice B6 VV.length e6)
  obtain ⟨t0, t1, _, _⟩ := T9.all
  refine bodyPost_ret (v := .tuple #[.agg #[.slice A6 rd.length c6, .slice B6 VV.length e6], .int .i64 0]) (by simp [results, Tryd.results20, go_sem, t0, t1]) rfl ?_
  exact ⟨_, rfl, (HC.out.set2 HLT.out _ _).mono HLE.out, (L9.out.setCell (by simp) _).setCell (by simp) _⟩
end Go.Proofs.YtbanegjmapgkdaaDoor.Sh
