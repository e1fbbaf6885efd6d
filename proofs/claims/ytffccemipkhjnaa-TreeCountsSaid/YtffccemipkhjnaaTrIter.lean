/-
  Layer 18, tree: the iterator of Walk: each node below one, with its place, as a copy in new memory, till nobody wants more. Conditions: the parts of a node stand ahead of it.
-/
import Derived.Test.YtffccemipkhjnaaTrWalkN
import Derived.Test.YtffccemipkhjnaaTrRWalk
import Derived.Test.YtffccemipkhjnaaTrHeld
set_option maxRecDepth 100000
namespace Go.Proofs.Ytffccemipkhjnaa.Tr
open Go.Proofs.Ytffccemipkhjnaa.Sh Go.Proofs.Ytffccemipkhjnaa.St
open Go.RowKit
set_option linter.unusedVariables false
set_option linter.unusedSimpArgs false
attribute [local go_sem] Oper.semAt_some

def encW (cs : List Nq) (k j : Nat) (v : Value) : Array Value := #[.int .i64 ((walkL cs (k : Int)).getD j 0), v]
/-- What is handed on: a copy of the node at the next place. -/
def RdW (cs : List Nq) (k j : Nat) (v : Value) (A : World) : Prop := ∃ (m : Nat) (q : Nq) (ka : Option Addr) (kc : Nat) (na : Option Addr) (nc : Nat), (walkL cs (k : Int))[j]? = some (m : Int) ∧ cs[m]? = some q ∧ v = nodeV ⟨q.n, ka, kc, na, nc⟩ ∧ NodeIn A ⟨q.n, ka, kc, na, nc⟩
theorem fm_at {f : Int → List Int} : ∀ {l : List Int} {c : Nat} {x : Int} {j : Nat}, l[c]? = some x → j < (f x).length → (l.flatMap f)[((l.take c).flatMap f).length + j]? = (f x)[j]?
  | [], c, x, j, h, _ => by simp at h
  | y :: r, 0, x, j, h, hj => by
    simp at h
    subst h
    simp only [List.take_zero, List.flatMap_nil, List.length_nil, Nat.zero_add, List.flatMap_cons]
    rw [List.getElem?_append_left hj]
  | y :: r, c + 1, x, j, h, hj => by
    simp only [List.take_succ_cons, List.flatMap_cons, List.length_append]
    rw [List.getElem?_append_right (by omega), show (f y).length + ((r.take c).flatMap f).length + j - (f y).length = ((r.take c).flatMap f).length + j by omega]
    exact fm_at (by simpa using h) hj
theorem fm_lt {f : Int → List Int} {l : List Int} {c : Nat} {x : Int} {j : Nat} (h : l[c]? = some x) (hj : j < (f x).length) : ((l.take c).flatMap f).length + j < (l.flatMap f).length := by
  have := fm_at (f := f) h hj
  rw [List.getElem?_eq_getElem hj] at this
  exact (List.getElem?_eq_some_iff.1 this).1
theorem walk_kid {cs : List Nq} (hA : Ahead cs) {k c m j : Nat} {q : Nq} (hq : cs[k]? = some q) (hm : q.n.kids[c]? = some (m : Int)) (hj : j < (walkL cs (m : Int)).length) :
    (walkL cs (k : Int))[1 + ((q.n.kids.take c).flatMap (walkL cs)).length + j]? = (walkL cs (m : Int))[j]? := by
  rw [walkL_eq hA hq, show 1 + ((q.n.kids.take c).flatMap (walkL cs)).length + j = (((q.n.kids.take c).flatMap (walkL cs)).length + j) + 1 by omega, List.getElem?_cons_succ]
  exact fm_at hm hj
theorem walk_0 {cs : List Nq} (hA : Ahead cs) {k : Nat} {q : Nq} (hq : cs[k]? = some q) : (walkL cs (k : Int))[0]? = some (k : Int) := by rw [walkL_eq hA hq]; rfl
theorem walk_len {cs : List Nq} (hA : Ahead cs) {k : Nat} {q : Nq} (hq : cs[k]? = some q) : (walkL cs (k : Int)).length = 1 + (q.n.kids.flatMap (walkL cs)).length := by rw [walkL_eq hA hq, List.length_cons]; omega
theorem noDefer_of {ops : Array Oper} (h : ops.all (fun o => match o.op with | .defer _ => false | _ => true) = true) : ∀ (j : Nat) (o : Oper) c, ops[j]? = some o → o.op ≠ .defer c := fun j o c ho e => by
  have := (Array.all_eq_true.1 h) j (Array.getElem?_eq_some_iff.1 ho).1
  rw [(Array.getElem?_eq_some_iff.1 ho).2, e] at this
  cases this
theorem opIn_wide {P : Program} {n : Nat} {Q : Exit → Act → World → Prop} {o : Oper} {a : Act} {w : World} {K : Act → World → Prop} (h : o.wp P a w K Q) (hnd : ∀ c, o.op ≠ .defer c) : o.wpIn Fence.wide n P a w K Q := by
  refine ⟨fun _ _ => trivial, ?_⟩
  rw [show Fence.wide.round = none from rfl, Oper.semAt_none]
  unfold Oper.wp at h
  generalize (execOp a.eval o).run P w = r at *
  cases r with
  | ok x w' =>
    cases x <;> simp only [Oper.upon, Oper.uponIn] at h ⊢
    case value => exact h
    case skip => exact h
    case defer => exact h
    case enter f args => exact ⟨fun hd => by simp [Fence.wide] at hd, callsIn_wide.2 (h.mono fun e w'' he => by cases e <;> exact he)⟩
    case row row args => exact ⟨fun hd => by simp [Fence.wide] at hd, fun c cs _ => let ⟨v, w'', r, s⟩ := h c cs; ⟨v, w'', r, stepsIn_wide.2 s⟩⟩
  | halt x w' => cases x <;> simp only [Oper.upon, Oper.uponIn] at h ⊢ <;> exact h

theorem only_normal {F : Fence} {n : Nat} {P : Program} {c : Code} {K : Act → World → Prop} {Q : Exit → Act → World → Prop} {a : Act} {w : World} (h : c.wpIn F n P (Exit.then K (fun _ _ _ => False)) a w) : c.wpIn F n P (Exit.then K Q) a w :=
  wpIn_mono h (fun e a w hh => by cases e <;> first | exact hh | exact hh.elim)
/-- What the round of the inner loop begins with. -/
def AxW (cs : List Nq) (m : Nat) (f : Value → Value → Value → Value → Act) (j : Nat) (v : Value) (a' : Act) (A : World) : Prop := ∃ (p : Nat) (q : Nq) (ka : Option Addr) (kc : Nat) (na : Option Addr) (nc : Nat) (g : Nat), (walkL cs (m : Int))[j]? = some (p : Int) ∧ cs[p]? = some q ∧ NodeIn A ⟨q.n, ka, kc, na, nc⟩ ∧ Bk 37 A g (cqN ⟨q.n, ka, kc, na, nc⟩) ∧ a' = f (.int .i64 (p : Int)) (.pointer (some ⟨g, 0, none⟩)) (.int .i64 (p : Int)) (nodeV ⟨q.n, ka, kc, na, nc⟩)
theorem axW_loop {cs : List Nq} {m : Nat} {f : Value → Value → Value → Value → Act} (j : Nat) (v : Value) (a' : Act) (A : World) (l : Nat) (r : Loop) (o' : Obj) (h : AxW cs m f j v a' A) (hl : A.heap[l]? = some (.loop r)) : AxW cs m f j v a' (A.putObj l o') := by
  obtain ⟨p, q, ka, kc, na, nc, g, h1, h2, h3, h4, h5⟩ := h
  exact ⟨p, q, ka, kc, na, nc, g, h1, h2, ⟨ints_loop h3.1 hl o', ints_loop h3.2.1 hl o', h3.2.2⟩, bk_loop h4 hl o', h5⟩
set_option maxRecDepth 100000 in
set_option maxHeartbeats 8000000 in
theorem down1_walks (cs : List Nq) (hA : Ahead cs) (hb : ∀ q ∈ cs, q.n.kids.length ≤ 100 ∧ q.n.nums.length ≤ 1000) (hlen : cs.length ≤ 1000) : ∀ (k : Nat), k < cs.length → ∀ (bi bn : Nat) (A : Option Addr) (c : Nat) (W : World) (T : Nat → Prop), (∀ b, T b → b < W.heap.size) → (∀ W', Turn T W W' → Lies bi bn (k : Int) A c cs W') →
    RfWalks Fence.wide Try.prog 36 #[.pointer (some ⟨bi, 0, none⟩), .pointer (some ⟨bn, 0, none⟩)] (walkL cs (k : Int)).length (encW cs k) (RdW cs k) T W := by
  intro k
  induction k using Nat.strongRecOn with
  | ind k ih =>
  intro hk bi bn A c W T hTW hL n l Tx J Jx hTT hTX hJ hJx hY h0
  obtain ⟨q, hq⟩ : ∃ q, cs[k]? = some q := ⟨_, List.getElem?_eq_getElem hk⟩
  have li0 := hL W (Turn.refl _ _)
  obtain ⟨b0, o0, rfl, hb0, -, -⟩ := li0.2.2.at_ hq
  -- the cells that are read
  have HC : Hid (∀ W', Turn T W W' → W'.cell? ⟨bi, 0, none⟩ = some (.int .i64 (k : Int)) ∧ W'.cell? ⟨bn, 0, none⟩ = some (.slice (some ⟨b0, o0, none⟩) cs.length c) ∧
      (W'.cell? ⟨b0, o0 + k * 6, none⟩ = some (.int .i64 q.n.kind) ∧ W'.cell? ⟨b0, o0 + k * 6 + 1, none⟩ = some (.int .i64 q.n.pos) ∧ W'.cell? ⟨b0, o0 + k * 6 + 2, none⟩ = some (.int .i64 q.n.code) ∧ W'.cell? ⟨b0, o0 + k * 6 + 3, none⟩ = some (.slice q.ka q.n.kids.length q.kc) ∧ W'.cell? ⟨b0, o0 + k * 6 + 4, none⟩ = some (.slice q.na q.n.nums.length q.nc) ∧ W'.cell? ⟨b0, o0 + k * 6 + 5, none⟩ = some (.string q.n.name)) ∧ NodeIn W' q) := Lib.hid (fun W' ht => by
    have li := hL W' ht
    obtain ⟨b1, o1, e1, hb1, hc, hin⟩ := li.2.2.at_ hq
    injection e1 with e1
    injection e1 with e1 e2
    subst e1 e2
    exact ⟨li.1.c 0, li.2.1.c 0, hc, hin⟩)
  have B1 := Lib.hid (Bk.new 51 W [.func (.yield l) #[] #[]])
  have L1 := Lib.hid (below_new W (.cells #[.func (.yield l) #[] #[]] 51))
  clear li0
  refine callsIn_of_wp_marks Try.func36 rfl trivial ?_
  simp only [Try.ntmps36, List.size_toArray, List.length_cons, List.length_nil, Nat.reduceAdd, Nat.reduceSub, Array.replicate_succ, Array.replicate_zero, List.push_toArray, List.append_toArray, List.nil_append, List.cons_append]
  gi_wp2
  refine only_normal ?_
  obtain ⟨W1, hW1⟩ : ∃ W1, W.alloc (.cells #[.func (.yield l) #[] #[]] 51) = W1 := ⟨_, rfl⟩
  rw [hW1] at B1 L1 ⊢
  clear hW1
  have T1 := Lib.hid (Turn.of_below T L1.out)
  obtain ⟨S, hS⟩ : ∃ S : World → Prop, S = fun w' => w'.cell? ⟨W.heap.size, 0, none⟩ = some (.func (.yield l) #[] #[]) ∧ w'.cell? ⟨bi, 0, none⟩ = some (.int .i64 (k : Int)) ∧ w'.cell? ⟨bn, 0, none⟩ = some (.slice (some ⟨b0, o0, none⟩) cs.length c) ∧
      (w'.cell? ⟨b0, o0 + k * 6, none⟩ = some (.int .i64 q.n.kind) ∧ w'.cell? ⟨b0, o0 + k * 6 + 1, none⟩ = some (.int .i64 q.n.pos) ∧ w'.cell? ⟨b0, o0 + k * 6 + 2, none⟩ = some (.int .i64 q.n.code) ∧ w'.cell? ⟨b0, o0 + k * 6 + 3, none⟩ = some (.slice q.ka q.n.kids.length q.kc) ∧ w'.cell? ⟨b0, o0 + k * 6 + 4, none⟩ = some (.slice q.na q.n.nums.length q.nc) ∧ w'.cell? ⟨b0, o0 + k * 6 + 5, none⟩ = some (.string q.n.name)) := ⟨_, rfl⟩
  have HS : Hid (∀ W', Turn T W W' → Bk 51 W' W.heap.size [.func (.yield l) #[] #[]] → S W') := Lib.hid (fun W' ht hb => by
    obtain ⟨x1, x2, x3, -⟩ := HC.out W' ht
    rw [hS]
    exact ⟨hb.c 0, x1, x2, x3⟩)
  have i0 : (0 : Int) ≤ (k : Int) := by omega
  have i1 : (k : Int) < (cs.length : Int) := by omega
  refine region_anyS (S := S) (L := [7, 8]) (by kernel_rfl) ?_
  have hS1 : S W1.drew := HS.out _ T1.out.drew B1.out.drew
  refine anyS_take (i := 0) (v := .func (.yield l) #[] #[]) [7, 8] (by kernel_rfl) (by decide) (by decide) rfl rfl (by kernel_rfl) (noDefer_of (by kernel_rfl)) (by kernel_rfl) (by kernel_rfl) (fun _ _ _ h => h) rfl (fun _ => rfl) hS1 ?_ ?_
  · intro wq hSw; rw [hS] at hSw; obtain ⟨s0, s1, s2, s3, s4, s5, s6, s7, s8⟩ := hSw; go_simp
  simp only [Act.put, List.setIfInBounds_toArray, List.set_cons_zero, List.set_cons_succ]
  refine anyS_take (i := 1) (v := .int .i64 (k : Int)) [7, 8] (by kernel_rfl) (by decide) (by decide) rfl rfl (by kernel_rfl) (noDefer_of (by kernel_rfl)) (by kernel_rfl) (by kernel_rfl) (fun _ _ _ h => h) rfl (fun _ => rfl) hS1 ?_ ?_
  · intro wq hSw; rw [hS] at hSw; obtain ⟨s0, s1, s2, s3, s4, s5, s6, s7, s8⟩ := hSw; go_simp
  simp only [Act.put, List.setIfInBounds_toArray, List.set_cons_zero, List.set_cons_succ]
  refine anyS_take (i := 2) (v := .slice (some ⟨b0, o0, none⟩) cs.length c) [4, 5, 6, 7, 8] (by kernel_rfl) (by decide) (by decide) rfl rfl (by kernel_rfl) (noDefer_of (by kernel_rfl)) (by kernel_rfl) (by kernel_rfl) (fun _ _ _ h => h) rfl (fun _ => rfl) hS1 ?_ ?_
  · intro wq hSw; rw [hS] at hSw; obtain ⟨s0, s1, s2, s3, s4, s5, s6, s7, s8⟩ := hSw; go_simp
  simp only [Act.put, List.setIfInBounds_toArray, List.set_cons_zero, List.set_cons_succ]
  refine anyS_take (i := 3) (v := .int .i64 (k : Int)) [4, 5, 6, 7, 8] (by kernel_rfl) (by decide) (by decide) rfl rfl (by kernel_rfl) (noDefer_of (by kernel_rfl)) (by kernel_rfl) (by kernel_rfl) (fun _ _ _ h => h) rfl (fun _ => rfl) hS1 ?_ ?_
  · intro wq hSw; rw [hS] at hSw; obtain ⟨s0, s1, s2, s3, s4, s5, s6, s7, s8⟩ := hSw; go_simp
  simp only [Act.put, List.setIfInBounds_toArray, List.set_cons_zero, List.set_cons_succ]
  refine anyS_take (i := 4) (v := .pointer (some ⟨b0, o0 + k * 6, none⟩)) [5, 6, 7, 8] (by kernel_rfl) (by decide) (by decide) rfl rfl (by kernel_rfl) (noDefer_of (by kernel_rfl)) (by kernel_rfl) (by kernel_rfl) (fun _ _ _ h => h) rfl (fun _ => rfl) hS1 ?_ ?_
  · intro wq hSw; rw [hS] at hSw; obtain ⟨s0, s1, s2, s3, s4, s5, s6, s7, s8⟩ := hSw; go_simp
  simp only [Act.put, List.setIfInBounds_toArray, List.set_cons_zero, List.set_cons_succ]
  refine anyS_take (i := 5) (v := nodeV q) [6, 7, 8] (by kernel_rfl) (by decide) (by decide) rfl rfl (by kernel_rfl) (noDefer_of (by kernel_rfl)) (by kernel_rfl) (by kernel_rfl) (fun _ _ _ h => h) rfl (fun _ => rfl) hS1 ?_ ?_
  · intro wq hSw; rw [hS] at hSw; obtain ⟨s0, s1, s2, s3, s4, s5, s6, s7, s8⟩ := hSw; unfold nodeV; go_simp
  simp only [Act.put, List.setIfInBounds_toArray, List.set_cons_zero, List.set_cons_succ]
  have HCP := Lib.hid (copied_any q W1.drew (HC.out _ T1.out.drew).2.2.2 (by have := hb q (List.mem_of_getElem? hq); omega) (by have := hb q (List.mem_of_getElem? hq); omega))
  refine anyS_one (i := 6) (by kernel_rfl) rfl rfl (fun K hK => ?_)
  refine opIn_wide ?_ (fun c h => by cases h)
  go_simp
  go_at_call 22
  refine HCP.out.mono ?_
  rintro e w5 ⟨ka, kc, na, nc, rfl, hin5, hb5, -, -⟩
  have L5 := Lib.hid (Gl.below_next L1.out.drew hb5)
  have T5 := Lib.hid (Turn.of_below T L5.out)
  have B5 := Lib.hid (B1.out.drew.next hb5)
  have J5 := hJ 0 _ _ h0 L5.out
  have hY0 := hY (n - 1) 0 (nodeV ⟨q.n, ka, kc, na, nc⟩) w5 J5 (by rw [walk_len hA hq]; omega) ⟨k, q, ka, kc, na, nc, walk_0 hA hq, hq, rfl, hin5⟩
  have ew0 : encW cs k 0 (nodeV ⟨q.n, ka, kc, na, nc⟩) = #[.int .i64 (k : Int), nodeV ⟨q.n, ka, kc, na, nc⟩] := by unfold encW; rw [List.getD_eq_getElem?_getD, walk_0 hA hq]; rfl
  rw [ew0] at hY0
  obtain ⟨fn, tmps, assign, body, hy, hR⟩ := hY0
  have S5 := HS.out _ T5.out B5.out
  refine hK.out _ _ (fun _ => S5) ?_
  clear hK K S5 ew0 J5
  refine anyS_one (i := 7) (by kernel_rfl) rfl rfl (fun K hK => ?_)
  refine ⟨fun _ _ => trivial, ?_⟩
  go_simp
  refine ⟨fun h => by simp [Fence.wide] at h, ?_⟩
  refine hR.mono ?_
  rintro e w6 (⟨rfl, hJ6, t6⟩ | ⟨rfl, hJx6, t6⟩)
  · simp only
    refine hK.out _ _ (fun h => absurd h (by simp)) ?_
    clear hK K
    refine anyS_one (i := 8) (by kernel_rfl) rfl rfl (fun K hK => ?_)
    refine ⟨fun _ _ => trivial, ?_⟩
    go_simp
    refine hK.out _ _ (fun h => absurd h (by simp)) ?_
    clear hK K
    refine anyS_done (by kernel_rfl) ?_ _
    have T6 := Lib.hid (T5.out.trans t6)
    have B6 := Lib.hid (B5.out.turn t6 (fun h => absurd (hTW _ h) (by omega)))
    obtain ⟨x1, x2, ⟨-, -, -, x3, -, -⟩, -⟩ := HC.out w6 T6.out
    have J6 := Lib.hid hJ6
    obtain ⟨KA, hKA⟩ : ∃ KA, q.ka = KA := ⟨_, rfl⟩
    rw [hKA] at x3
    have HC3 : Hid (∀ W', Turn T W W' → W'.cell? ⟨bn, 0, none⟩ = some (.slice (some ⟨b0, o0, none⟩) cs.length c) ∧ Ints W' KA q.n.kids) := Lib.hid (fun W' ht => ⟨(HC.out W' ht).2.1, by rw [← hKA]; exact (HC.out W' ht).2.2.2.1⟩)
    obtain ⟨vq, hvq⟩ : ∃ vq, nodeV q = vq := ⟨_, rfl⟩
    obtain ⟨vq', hvq'⟩ : ∃ vq, nodeV ⟨q.n, ka, kc, na, nc⟩ = vq := ⟨_, rfl⟩
    rw [hvq, hvq']
    have HKL := Lib.hid (hb q (List.mem_of_getElem? hq))
    clear HCP HS hy hR S hS hS1 hJ6 t6 hKA hvq hvq' HC B1 L1 T1 hin5 hb5 L5 T5 B5
    gi_wp2
    refine wpIn_loop (fun a' wr => ∃ (d : Nat) (u5 u24 u25 u26 u27 u28 u29 u37 : Value) (ds : List Deferred), d ≤ q.n.kids.length ∧ Hid (Marks W.heap.size wr ds) ∧ Hid (J (1 + ((q.n.kids.take d).flatMap (walkL cs)).length) wr) ∧ Hid (Turn T W wr) ∧ Hid (Bk 51 wr W.heap.size [.func (.yield l) #[] #[]]) ∧
      a' = { tmps := #[.func (.yield l) #[] #[], .pointer (some ⟨bi, 0, none⟩), .pointer (some ⟨bn, 0, none⟩), .pointer (some ⟨W.heap.size, 0, none⟩), undef, u5, undef, undef, .func (.yield l) #[] #[], .int .i64 (k : Int), .slice (some ⟨b0, o0, none⟩) cs.length c, .int .i64 (k : Int), .pointer (some ⟨b0, o0 + k * 6, none⟩), vq, vq', .bool true, .bool false, .slice (some ⟨b0, o0, none⟩) cs.length c, .int .i64 (k : Int), .pointer (some ⟨b0, o0 + k * 6, none⟩), .pointer (some ⟨b0, o0 + k * 6 + 3, none⟩), .slice KA q.n.kids.length q.kc, .int .i64 (q.n.kids.length : Int), .int .i64 (d : Int), u24, u25, u26, u27, u28, u29, undef, undef, undef, undef, undef, undef, undef, u37], defers := ds })
      (fun a' _ => q.n.kids.length - (intOf (a'.tmps.getD 23 undef)).toNat) ?_ ?_
    · exact ⟨0, undef, undef, undef, undef, undef, undef, undef, undef, [], Nat.zero_le _, Lib.hid .nil, Lib.hid (by simpa using J6.out), T6, B6, rfl⟩
    · rintro a' wr ⟨d, u5, u24, u25, u26, u27, u28, u29, u37, ds, hd, HM, HJ, HT, HB, rfl⟩
      obtain ⟨y2, hki⟩ := HC3.out wr HT.out
      clear J6 T6 B6 x1 x2 x3
      by_cases hlt : d < q.n.kids.length
      · obtain ⟨x, hx⟩ : ∃ x, q.n.kids[d]? = some x := ⟨_, List.getElem?_eq_getElem hlt⟩
        have hxa := hA k q hq x (List.mem_of_getElem? hx)
        obtain ⟨m, rfl⟩ : ∃ m : Nat, x = (m : Int) := ⟨x.toNat, by omega⟩
        have hmk : m < k := by omega
        obtain ⟨bK, oK, rfl, hbK, hcK⟩ := hki (by omega)
        have hcx := hcK d hlt
        rw [show q.n.kids.getD d 0 = (m : Int) by rw [List.getD_eq_getElem?_getD, hx]; rfl] at hcx
        have i2 : (0 : Int) ≤ (d : Int) := by omega
        have i3 : (d : Int) < (q.n.kids.length : Int) := by omega
        have hsum := wrap_k d (by have := HKL.out; omega)
        have hjn : decide (d < q.n.kids.length) = true := by simpa using hlt
        have HX := Lib.hid hx
        have HXA := Lib.hid hxa
        have HIH := Lib.hid (ih m hmk (by omega))
        have SZ := Lib.hid HT.out.size
        have DA := Lib.hid (fun W => down_any (some ⟨b0, o0, none⟩) cs.length c (m : Int) W)
        clear ih hx hxa hcK hki hbK
        gi_wp2_with (refine ⟨trivial, (fun h => by simp [Fence.wide] at h), ?_⟩; gi_at_call 23; refine (callsIn_wide.2 (DA.out _)).mono ?_; rintro e w7 ⟨bi', bn', rfl, hbi, hbn, hB1, hB2, hb7⟩; unfold downV)
        have hTz := SZ.out
        have h7z := hb7.size
        have T7 := Lib.hid (Turn.next HT.out hb7)
        have B7 := Lib.hid (HB.out.next hb7)
        have M7 := Lib.hid (HM.out.turn (Turn.of_below T hb7) hTW)
        have J7 := Lib.hid (hJ _ _ _ HJ.out (hb7.mono hTz))
        refine wpIn_rangeFunc_T rfl rfl (gf := 36) (lb := #[.pointer (some ⟨bi', 0, none⟩), .pointer (some ⟨bn', 0, none⟩)]) rfl trivial (enters_of Try.func36 (by kernel_rfl) rfl)
          (N := (walkL cs (m : Int)).length) (enc := encW cs m) (Rd := RdW cs m) T Tx (fun b h => by have := hTW b h; omega) hTT (fun b h => by have := hTX b h; omega)
          (fun V hV => HIH.out bi' bn' (some ⟨b0, o0, none⟩) c V T (fun b h => by have := hTW b h; have := hV.size; omega) (fun V' hV' => ⟨(hB1.next hV).turn hV' (fun h => by have := hTW _ h; omega), (hB2.next hV).turn hV' (fun h => by have := hTW _ h; omega), (hL V' ((T7.out.next hV).trans hV')).2.2⟩))
          (fun _ _ => rfl)
          (fun j V => J (1 + ((q.n.kids.take d).flatMap (walkL cs)).length + j) V ∧ Bk 51 V W.heap.size [.func (.yield l) #[] #[]])
          (fun c V => c = .ret ∧ Jx V)
          (fun j => ((hJ _).mono (by omega)).and (stab_bk (by have := B7.out.lt; omega)))
          (fun c => (stab_pure _ _).and (hJx.mono (by omega)))
          ⟨by simpa using J7.out, B7.out⟩
          (AxW cs m (fun t6 t7 t30 t31 => { tmps := #[.func (.yield l) #[] #[], .pointer (some ⟨bi, 0, none⟩), .pointer (some ⟨bn, 0, none⟩), .pointer (some ⟨W.heap.size, 0, none⟩), undef, .int .i64 (m : Int), t6, t7, .func (.yield l) #[] #[], .int .i64 (k : Int), .slice (some ⟨b0, o0, none⟩) cs.length c, .int .i64 (k : Int), .pointer (some ⟨b0, o0 + k * 6, none⟩), vq, vq', .bool true, .bool false, .slice (some ⟨b0, o0, none⟩) cs.length c, .int .i64 (k : Int), .pointer (some ⟨b0, o0 + k * 6, none⟩), .pointer (some ⟨b0, o0 + k * 6 + 3, none⟩), .slice (some ⟨bK, oK, none⟩) q.n.kids.length q.kc, .int .i64 (q.n.kids.length : Int), .int .i64 (d : Int), .bool true, .pointer (some ⟨bK, oK + d, none⟩), .int .i64 (m : Int), .slice (some ⟨b0, o0, none⟩) cs.length c, .int .i64 (m : Int), .func (.func 36) #[] #[.pointer (some ⟨bi', 0, none⟩), .pointer (some ⟨bn', 0, none⟩)], t30, t31, undef, undef, undef, undef, undef, u37], defers := [] }))
          axW_loop ?assign ?body ?done ?stop
        case assign =>
          rintro l2 m2 j v V K ⟨hJV, hBV⟩ hj ⟨p, q2, ka2, kc2, na2, nc2, hp, hq2, rfl, hin2⟩ hK
          have hK' := Lib.hid hK
          rw [show encW cs m j (nodeV ⟨q2.n, ka2, kc2, na2, nc2⟩) = #[.int .i64 (p : Int), nodeV ⟨q2.n, ka2, kc2, na2, nc2⟩] by unfold encW; rw [List.getD_eq_getElem?_getD, hp]; rfl]
          clear hK hJV hBV
          unfold nodeV
          gi_wp2
          exact hK'.out _ _ (below_new V _) ⟨p, q2, ka2, kc2, na2, nc2, V.heap.size, hp, hq2, hin2.next (below_new V _), Bk.new _ V _, rfl⟩
        case body =>
          rintro l2 m2 j v a' V hl ⟨hJV, hBV⟩ hj ⟨p, q2, ka2, kc2, na2, nc2, g, hp, hq2, hin2, hbk, rfl⟩
          have hY2 := hY (m2 - 1) (1 + ((q.n.kids.take d).flatMap (walkL cs)).length + j) (nodeV ⟨q2.n, ka2, kc2, na2, nc2⟩) V hJV (by rw [walk_len hA hq]; have := fm_lt (f := walkL cs) HX.out hj; omega) ⟨p, q2, ka2, kc2, na2, nc2, (walk_kid hA hq HX.out hj).trans hp, hq2, rfl, hin2⟩
          rw [show encW cs k (1 + ((q.n.kids.take d).flatMap (walkL cs)).length + j) (nodeV ⟨q2.n, ka2, kc2, na2, nc2⟩) = #[.int .i64 (p : Int), nodeV ⟨q2.n, ka2, kc2, na2, nc2⟩] by unfold encW; rw [List.getD_eq_getElem?_getD, walk_kid hA hq HX.out hj, hp]; rfl] at hY2
          unfold nodeV at hY2
          obtain ⟨fn, tmps, assign, body, hy, hR⟩ := hY2
          have x0 := hbk.c 0
          have x1 := hbk.c 1
          have x2 := hbk.c 2
          have x3 := hbk.c 3
          have x4 := hbk.c 4
          have x5 := hbk.c 5
          have x6 := hBV.c 0
          unfold cqN at x0 x1 x2 x3 x4 x5
          simp only [List.getElem?_cons_zero, List.getElem?_cons_succ] at x0 x1 x2 x3 x4 x5 x6
          have HBV := Lib.hid hBV
          clear hJV hBV hin2 hbk y2 hp hq2
          unfold nodeV
          gi_wp2
          refine ⟨fun h => by simp [Fence.wide] at h, ?_⟩
          refine RoundIn.mono (show RoundIn (Fence.wide.inRound l2) _ _ _ _ _ _ _ _ _ from hR) ?_
          rintro e W' (⟨rfl, hJ2, t2⟩ | ⟨rfl, hX2, t2⟩)
          · gi_wp2
            exact ⟨t2, by rw [← Nat.add_assoc] ; exact hJ2, HBV.out.turn t2 (fun h => by have := hTW _ h; omega)⟩
          · gi_wp2
            exact ⟨t2, rfl, hX2⟩
        case done =>
          rintro D V hD ⟨hJV, hBV⟩ ht hK
          gi_wp2
          refine ⟨⟨d + 1, _, _, _, _, _, _, _, _, _, by omega, Lib.hid (Marks.cons (B := W.heap.size) (by omega) hK (fun e he h => by have := M7.out.lt e he D h; omega) (M7.out.turn ht hTW)), Lib.hid ?_, Lib.hid (T7.out.trans ht), Lib.hid (B7.out.turn ht (fun h => by have := hTW _ h; omega)), by rw [show ((d + 1 : Nat) : Int) = (d : Int) + 1 by omega]⟩, ?_⟩
          · rw [fm_take HX.out, List.length_append, ← Nat.add_assoc]
            exact hJV
          · simp [intOf]
            omega
        case stop =>
          rintro D c V hD ⟨rfl, hXV⟩ ht hK
          gi_wp2
          refine leaves_marks (Marks.cons (B := W.heap.size) (by omega) hK (fun e he h => by have := M7.out.lt e he D h; omega) (M7.out.turn ht hTX)) (fun V' hb' => ?_)
          refine ⟨_, results_none rfl _ _ _, ⟨_, rfl⟩, .inr ⟨hJx _ _ hXV hb', stab_turn (Nat.le_refl _) _ _ (((T7.out).mono hTT).trans ht) hb'⟩⟩
      · have hje : d = q.n.kids.length := by omega
        have hjn : decide (d < q.n.kids.length) = false := by simpa using hlt
        subst hje
        have HN : Hid (J (walkL cs (k : Int)).length wr) := Lib.hid (by rw [walk_len hA hq]; have := HJ.out; rwa [List.take_of_length_le (Nat.le_refl _)] at this)
        clear y2 hki HJ ih
        gi_wp2
        refine leaves_marks HM.out (fun W' hb' => ?_)
        refine ⟨_, results_none rfl _ _ _, ⟨_, rfl⟩, .inl ⟨hJ _ _ _ HN.out hb', stab_turn (Nat.le_refl _) _ _ HT.out hb'⟩⟩
  · simp only
    refine hK.out _ _ (fun h => absurd h (by simp)) ?_
    clear hK K
    refine anyS_one (i := 8) (by kernel_rfl) rfl rfl (fun K hK => ?_)
    refine ⟨fun _ _ => trivial, ?_⟩
    go_simp
    refine hK.out _ _ (fun h => absurd h (by simp)) ?_
    clear hK K
    refine anyS_done (by kernel_rfl) ?_ _
    gi_wp2
    refine ⟨_, results_none rfl _ _ _, ⟨_, rfl⟩, .inr ⟨hJx6, ?_⟩⟩
    exact ((T5.out).mono hTT).trans t6
end Go.Proofs.Ytffccemipkhjnaa.Tr
