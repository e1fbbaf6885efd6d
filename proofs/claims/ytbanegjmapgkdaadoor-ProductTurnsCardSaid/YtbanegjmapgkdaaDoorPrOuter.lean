/-
  product.Outer where there is one: what it tells. Conditions: the table of traits holds what its text lays; the numbers are int64.
-/
import Derived.Test.YtbanegjmapgkdaaDoorPrOut
import Derived.Deep.RegionHeld3
import Derived.Test.YtbanegjmapgkdaaDoorPkC
import Derived.Test.YtbanegjmapgkdaaDoorStBase
set_option maxRecDepth 100000
namespace Go.Proofs.YtbanegjmapgkdaaDoor.Pr
open Go.Proofs.YtbanegjmapgkdaaDoor.Sh Go.Proofs.YtbanegjmapgkdaaDoor.St
open Go.Proofs.YtbanegjmapgkdaaDoor.Fd
open Go.RowKit
set_option linter.unusedVariables false

theorem keep3 {W w1 : World} {a g : Nat} {x y : Value} {l : List Int} (h : W.cell? ⟨a, 0, none⟩ = some x ∧ W.cell? ⟨a, 1, none⟩ = some y ∧ LineAt W g l) (hb : Below W.heap.size W w1) : w1.cell? ⟨a, 0, none⟩ = some x ∧ w1.cell? ⟨a, 1, none⟩ = some y ∧ LineAt w1 g l :=
  ⟨keepC' hb h.1, keepC' hb h.2.1, h.2.2.next hb⟩
theorem keep3B {W w1 : World} {B a g : Nat} {x y : Value} {l : List Int} (h : W.cell? ⟨a, 0, none⟩ = some x ∧ W.cell? ⟨a, 1, none⟩ = some y ∧ LineAt W g l) (hb : Below B W w1) (ha : a < B) (hg : g < B) : w1.cell? ⟨a, 0, none⟩ = some x ∧ w1.cell? ⟨a, 1, none⟩ = some y ∧ LineAt w1 g l :=
  ⟨(hb.cell (p := ⟨a, 0, none⟩) ha).trans h.1, (hb.cell (p := ⟨a, 1, none⟩) ha).trans h.2.1, (hb.block g hg).trans h.2.2⟩
theorem step_copyM {w : World} {ops : Array Oper} {o : Oper} {a : Act} {K : Act → World → Prop} {Q : Exit → Act → World → Prop} {E : Prop} (hgd : o.guard = none) (d x : Operand)
    (ho : o.op = .call { callee := .builtin .copy, args := #[d, x], argTypes := #[27, 27] })
    (g off : Nat) (cur ys : List Int) (dp A : Option Addr) (s c c' q m : Nat) (hd : a.eval d = .slice dp s c) (hx : a.eval x = .slice A m c') (hm : ys.length = m) (hg : Row64 w g cur) (hq : q = Nat.min m s) (hdp : 0 < s → dp = some ⟨g, off, none⟩) (hy : Ints w A ys) (hf : off + s ≤ cur.length)
    (h : ∀ w', Row64 w' g (splice cur off (ys.take q)) → w.grownBy w' (some g) → K (a.put o.dst (goInt q)) w') :
    if Region.wanted o (yielded ops a.tmps) = true then Oper.wp Tryd.prog o a w K Q else E := by
  subst hm
  have hw : Region.wanted o (yielded ops a.tmps) = true := by simp [Region.wanted, hgd]
  rw [if_pos hw]
  obtain ⟨w', hrun, h1, h2⟩ := run_copyM (ty := o.type) (c := c) (c' := c') hg hq hdp hy hf
  unfold Oper.wp execOp
  simp only [ho, resolve, invoke, builtin, Sem.run_bind, Sem.run_pure, Result.andThen_ok, List.map_toArray, List.map_cons, List.map_nil, hd, hx, hrun]
  exact h w' h1 h2
/-- The first numbers of a line. -/
theorem LineAt.part {w : World} {g : Nat} {xs : List Int} (h : LineAt w g xs) {n : Nat} (hn : n ≤ xs.length) : Ints w (some ⟨g, 0, none⟩) (xs.take n) := fun hp => ⟨g, 0, rfl, h.lt, fun i hi => by
  have hi2 : i < n := by rw [List.length_take] at hi; omega
  rw [Nat.zero_add, h.cell (by omega)]
  simp [List.getD, List.getElem?_take_of_lt hi2]⟩
/-- A row alone has grown: all else is as it was. -/
theorem grown_keep {w w' : World} {g : Nat} (h : w.grownBy w' (some g)) {b : Nat} (hb : b < w.heap.size) (hne : b ≠ g) : w'.heap[b]? = w.heap[b]? := h.block b hb (fun e => hne (by injection e))
theorem undrew {w w' : World} {r : Option Nat} (h : w.drew.grownBy w' r) : w.grownBy w' r := ⟨h.os, h.tape, h.output, h.size, h.block⟩
theorem FnAt.kept {w w' : World} {b : Nat} {c : Int} {s : Bool} (h : FnAt w b c s) (e : w'.heap[b]? = w.heap[b]?) : FnAt w' b c s := by
  have k : ∀ i, w'.cell? ⟨b, i, none⟩ = w.cell? ⟨b, i, none⟩ := fun i => by unfold World.cell?; simp only [e]
  exact ⟨(k 0).trans h.1, (k 1).trans h.2⟩
theorem own_grown {w w' : World} {t : TypeId} {base : Nat} {V : Value} {xs : List Int} {g : Nat} (m : MineT t w base V xs) (h : w.grownBy w' (some g)) (hn : ∀ b, V.ownBlock = some b → b ≠ g) : MineT t w' base V xs :=
  own_turn m (Turn.of_grown (T := fun b => b = g) h fun k e => by injection e with e; exact e.symm) hn
theorem line_slice (gN n : Nat) (hn : n ≤ 64) (W : World) : (Instr.sliceAt 68 (.pointer (some ⟨gN, 0, none⟩)) none (some (.int .i64 (n : Nat))) none).run Tryd.prog W = .ok (.slice (some ⟨gN, 0, none⟩) n 64) W := by
  have h1 : (0 : Int) ≤ (n : Int) := by omega
  have h2 : (n : Int) ≤ 64 := by omega
  unfold Instr.sliceAt
  go_simp
attribute [-simp] Tryd.isAgg68 Tryd.sizeOf68
section
variable (c : Int) (s : Bool) (A : Option Addr) (c1 : Nat) (d : List Int) (B : Option Addr) (c2 : Nat) (v : List Int) (A' : Option Addr) (c1' : Nat) (d' : List Int) (B' : Option Addr) (c2' : Nat) (v' : List Int) (w : World)
set_option maxHeartbeats 4000000 in
theorem outer_0 (hT : Sc.Tab w) (id : Ints w A d) (id' : Ints w A' d') (hd : d.length ≤ 50) (hd' : d'.length ≤ 50) (h : pfitE d v.length d' v'.length [(c, s)] = 0) (hR : rightB (d ++ d') = true) (N : Nat) (hn : (sizeI (d ++ d')).toNat = N) (hnn : N = v.length * v'.length) (hv : v.length ≤ 64) (hv' : v'.length ≤ 64) (hc' : cellB d' v'.length = true) (rv : AllR v) (rv' : AllR v') (iv : Ints w B v) (iv' : Ints w B' v') :
    Calls Tryd.prog 15 #[.agg #[.int .i64 c, .bool s], .agg #[.slice A d.length c1, .slice B v.length c2], .agg #[.slice A' d'.length c1', .slice B' v'.length c2']] w (RetCI w (d ++ d') (outV c s v v') (.int .i64 0)) := by
  obtain ⟨f0, b0, b1, b2, hs0, hb0⟩ := out0_all w c s (.slice A d.length c1) (.slice B v.length c2) (.slice A' d'.length c1') (.slice B' v'.length c2')
  have FN := Lib.hid f0
  have BA := Lib.hid b0
  have BB := Lib.hid b1
  have BO := Lib.hid b2
  have HS := Lib.hid hs0
  have L := Lib.hid hb0
  have T := Lib.hid (hT.below L.out)
  have ID := Lib.hid (id.below L.out)
  have ID' := Lib.hid (id'.below L.out)
  have HH := Lib.hid h
  have HR := Lib.hid hR
  have IV := Lib.hid (iv.below L.out)
  have IV' := Lib.hid (iv'.below L.out)
  have HN := Lib.hid hn
  have HNN := Lib.hid hnn
  have HC := Lib.hid hc'
  have RV := Lib.hid rv
  have RV' := Lib.hid rv'
  have T0 := Lib.hid hT
  have IV0 := Lib.hid iv
  clear f0 b0 b1 b2 hs0 hb0 hT id id' h hR iv iv' hn hnn hc' rv rv'
  go_enter Tryd.func15, Tryd.ntmps15
  go_upto_region 1 with (fail)
  generalize hW : (World.alloc (World.alloc (World.alloc (World.alloc w (Obj.cells #[Value.int IntKind.i64 c, Value.bool s] 23)) (Obj.cells #[(.slice A d.length c1), (.slice B v.length c2)] 29)) (Obj.cells #[(.slice A' d'.length c1'), (.slice B' v'.length c2')] 29)) (Obj.cells #[Value.slice none 0 0, Value.slice none 0 0] 29)) = W at *
  clear hW
  obtain ⟨q0, q1⟩ := FN.out
  obtain ⟨a0, a1, -, -⟩ := BA.out.all
  obtain ⟨b0, b1, -, -⟩ := BB.out.all
  have KB := Lib.hid (below_new W (.cells #[.int .i64 c, .bool s] 23))
  have PF := Lib.hid (HH.out ▸ pfit_any A c1 d B c2 v A' c1' d' B' c2' v' W.heap.size [(c, s)] _ (T.out.below KB.out) (ID.out.below KB.out) (ID'.out.below KB.out) (fns_one W c s 23) (by simp) (by omega) (by omega))
  go_wp2_with fail
  refine (PF.out).mono ?_
  rintro r w1 ⟨rfl, hb⟩
  have KW := Lib.hid (below_next KB.out hb)
  clear hb q0 q1 a0 a1 b0 b1 PF KB
  replace FN := Lib.hid (FN.out.below KW.out)
  replace BA := Lib.hid (BA.out.next KW.out)
  replace BB := Lib.hid (BB.out.next KW.out)
  replace BO := Lib.hid (BO.out.next KW.out)
  replace T := Lib.hid (T.out.below KW.out)
  replace ID := Lib.hid (ID.out.below KW.out)
  replace ID' := Lib.hid (ID'.out.below KW.out)
  replace IV := Lib.hid (IV.out.below KW.out)
  replace IV' := Lib.hid (IV'.out.below KW.out)
  replace L := Lib.hid (below_next L.out KW.out)
  clear KW
  go_upto_region 4 with (fail)
  obtain ⟨a0, a1, -, -⟩ := BA.out.all
  obtain ⟨b0, b1, -, -⟩ := BB.out.all
  have KB := Lib.hid (below_new w1 (.cells #[.slice A d.length c1, .slice A' d'.length c1'] 26))
  have RW := heap_alloc_new w1 (.cells #[.slice A d.length c1, .slice A' d'.length c1'] 26)
  have CC := Lib.hid (concat_any w1.heap.size A c1 d A' c1' d' _ (by rw [cell_of_row _ _ 0 _ _ _ RW]; rfl) (by rw [cell_of_row _ _ 1 _ _ _ RW]; rfl) (by omega) (by omega) (ID.out.below KB.out) (ID'.out.below KB.out))
  clear RW
  go_wp2_with fail
  refine (CC.out).mono ?_
  rintro r w2 ⟨A2, n2, rfl, hm2, hb⟩
  have KW := Lib.hid (below_next KB.out hb)
  have I2 := Lib.hid hm2.ints'
  clear hb hm2 KB a0 a1 b0 b1 CC
  replace FN := Lib.hid (FN.out.below KW.out)
  replace BA := Lib.hid (BA.out.next KW.out)
  replace BB := Lib.hid (BB.out.next KW.out)
  replace BO := Lib.hid (BO.out.next KW.out)
  replace T := Lib.hid (T.out.below KW.out)
  replace ID' := Lib.hid (ID'.out.below KW.out)
  replace IV := Lib.hid (IV.out.below KW.out)
  replace IV' := Lib.hid (IV'.out.below KW.out)
  replace L := Lib.hid (below_next L.out KW.out)
  clear KW ID
  have g4 : w.heap.size + 1 + 1 + 1 < w2.heap.size := BO.out.lt
  have ZZ := Lib.hid (zero_m A2 n2 (d ++ d') w2 (by simp; omega) I2.out HR.out)
  rw [HN.out, List.length_append] at ZZ
  go_wp2_with fail
  refine (ZZ.out).mono ?_
  rintro r w3 ⟨A3, n3, g, rfl, hm3, hr3, hg3, hb⟩
  have M3 := Lib.hid hm3.ints'
  have MM := Lib.hid (hm3.mono (b := w.heap.size) (by omega))
  have R3 := Lib.hid (show Row64 w3 g (outK c s v v' 0) by rw [outK_0, ← HNN.out]; exact hr3)
  have hg4 : w.heap.size + 1 + 1 + 1 < g := by omega
  have hg9 : g < w3.heap.size := R3.out.lt
  replace FN := Lib.hid (FN.out.below hb)
  replace BA := Lib.hid (BA.out.next hb)
  replace BB := Lib.hid (BB.out.next hb)
  replace BO := Lib.hid (BO.out.next hb)
  replace T := Lib.hid (T.out.below hb)
  replace ID' := Lib.hid (ID'.out.below hb)
  replace IV := Lib.hid (IV.out.below hb)
  replace IV' := Lib.hid (IV'.out.below hb)
  replace L := Lib.hid (below_next L.out hb)
  clear hb ZZ hm3 hr3 hg3 I2 g4
  rw [List.length_append]
  have KB := Lib.hid (below_new w3 (.cells #[.slice A3 (d.length + d'.length) n3, .slice (some ⟨g, 0, none⟩) N N] 29))
  have BQ := Lib.hid (Box.new w3 (.slice A3 (d.length + d'.length) n3) (.slice (some ⟨g, 0, none⟩) N N))
  replace FN := Lib.hid (FN.out.below KB.out)
  replace BA := Lib.hid (BA.out.next KB.out)
  replace BB := Lib.hid (BB.out.next KB.out)
  replace BO := Lib.hid (BO.out.next KB.out)
  replace T := Lib.hid (T.out.below KB.out)
  replace IV := Lib.hid (IV.out.below KB.out)
  replace IV' := Lib.hid (IV'.out.below KB.out)
  replace L := Lib.hid (below_next L.out KB.out)
  replace R3 := Lib.hid (R3.out.next KB.out)
  replace M3 := Lib.hid (M3.out.below KB.out)
  replace MM := Lib.hid (MM.out.below KB.out (Nat.le_refl _))
  have CR := Lib.hid (cright_yes A3 n3 (d ++ d') (some ⟨g, 0, none⟩) N N _ (by unfold maxLen; simp; omega) M3.out (by rw [cellB_is HR.out, ← HN.out]; have := (sizeI_bd (d ++ d')).1; simp; omega))
  rw [List.length_append] at CR
  go_upto_region 5 with (fail)
  generalize hW4 : w3.alloc (.cells #[.slice A3 (d.length + d'.length) n3, .slice (some ⟨g, 0, none⟩) N N] 29) = W4 at *
  clear hW4 KB
  generalize w3.heap.size = g9 at *
  obtain ⟨q0, q1, -, -⟩ := BQ.out.all
  go_wp2_with fail
  refine (CR.out).mono ?_
  rintro r w5 ⟨rfl, hb⟩
  replace FN := Lib.hid (FN.out.below hb)
  replace BA := Lib.hid (BA.out.next hb)
  replace BB := Lib.hid (BB.out.next hb)
  replace BO := Lib.hid (BO.out.next hb)
  replace T := Lib.hid (T.out.below hb)
  replace IV := Lib.hid (IV.out.below hb)
  replace IV' := Lib.hid (IV'.out.below hb)
  replace L := Lib.hid (below_next L.out hb)
  replace R3 := Lib.hid (R3.out.next hb)
  replace M3 := Lib.hid (M3.out.below hb)
  replace MM := Lib.hid (MM.out.below hb (Nat.le_refl _))
  replace BQ := Lib.hid (BQ.out.next hb)
  clear hb CR q0 q1
  obtain ⟨b0, b1, -, -⟩ := BB.out.all
  have AL := Lib.hid (along_b A' B' c1' c2' d' v' w5 (by omega) HC.out hv' IV'.out)
  go_wp2_with fail
  refine (AL.out).mono ?_
  rintro r w6 ⟨rfl, hb⟩
  replace FN := Lib.hid (FN.out.below hb)
  replace BA := Lib.hid (BA.out.next hb)
  replace BB := Lib.hid (BB.out.next hb)
  replace BO := Lib.hid (BO.out.next hb)
  replace T := Lib.hid (T.out.below hb)
  replace IV := Lib.hid (IV.out.below hb)
  replace IV' := Lib.hid (IV'.out.below hb)
  replace L := Lib.hid (below_next L.out hb)
  replace R3 := Lib.hid (R3.out.next hb)
  replace M3 := Lib.hid (M3.out.below hb)
  replace MM := Lib.hid (MM.out.below hb (Nat.le_refl _))
  replace BQ := Lib.hid (BQ.out.next hb)
  clear hb AL b0 b1
  have hz := line_zero.1
  go_wp2
  have hsz : (cellsI (padL v')).size = 64 := by rw [cellsI_size, padL_len]
  have hsc := (LineAt.new w6 noughts).storeCells (ys := padL v') noughts_len (padL_len _)
  rw [World.setRow_alloc_new] at hsc
  simp only [Tryd.sizeOf68, Result.andThen, ↓reduceIte, hsz, hsc]
  rw [Oper.upon_skip]
  clear hsz hsc
  have KB := Lib.hid (below_new w6 (.cells (cellsI (padL v')) 68))
  have BN := Lib.hid (LineAt.new w6 (padL v'))
  have hgl : g9 < w6.heap.size := BQ.out.lt
  replace FN := Lib.hid (FN.out.below KB.out)
  replace BA := Lib.hid (BA.out.next KB.out)
  replace BO := Lib.hid (BO.out.next KB.out)
  replace L := Lib.hid (below_next L.out KB.out)
  replace R3 := Lib.hid (R3.out.next KB.out)
  replace MM := Lib.hid (MM.out.below KB.out (Nat.le_refl _))
  replace BQ := Lib.hid (BQ.out.next KB.out)
  clear KB M3 T IV IV' BB ID'
  go_upto_region 9 with (fail)
  generalize hW7 : w6.alloc (.cells (cellsI (padL v')) 68) = W7 at *
  clear hW7
  generalize w6.heap.size = gl at *
  obtain ⟨a0, a1, -, -⟩ := BA.out.all
  go_wp2
  clear a0 a1
  go_loopw [44] (fun j wr => ∃ k : Nat, k ≤ v.length ∧ j = .int .i64 (k : Int) ∧ FnAt wr w.heap.size c s ∧ Box wr (w.heap.size + 1 + 1 + 1) (.slice none 0 0) (.slice none 0 0) ∧ Box wr g9 (.slice A3 (d.length + d'.length) n3) (.slice (some ⟨g, 0, none⟩) N N) ∧ Row64 wr g (outK c s v v' k) ∧ LineAt wr gl (padL v') ∧ MineT 3 wr w.heap.size (.slice A3 (d ++ d').length n3) (d ++ d') ∧ Below w.heap.size w wr) (fun j _ => v.length - (intOf j).toNat)
  case atStart => exact ⟨0, Nat.zero_le _, rfl, FN.out, BO.out, BQ.out, R3.out, BN.out, MM.out, L.out⟩
  case round =>
    obtain ⟨k, hk, rfl, hf, ho, hq, hr, hl, hm, hB⟩ := hrel
    replace FN := Lib.hid hf
    replace BO := Lib.hid ho
    replace BQ := Lib.hid hq
    replace R3 := Lib.hid hr
    replace BN := Lib.hid hl
    replace MM := Lib.hid hm
    replace L := Lib.hid hB
    clear hf ho hq hr hl hm hB BA
    by_cases hlt : k < v.length
    · obtain ⟨b, off, rfl, hb, hcs⟩ := IV0.out.below L.out (by omega)
      obtain ⟨x, hx⟩ : ∃ x, v.getD k 0 = x := ⟨_, rfl⟩
      have q0 := hcs k hlt
      rw [hx] at q0
      have HX := Lib.hid hx
      have k0 : (0 : Int) ≤ (k : Int) := by omega
      have k1 : (k : Int) < (v.length : Int) := by omega
      clear hcs hx
      obtain ⟨f0, f1⟩ := FN.out
      have T := Lib.hid (T0.out.below L.out.drew)
      go_upto_region 12 with (fail)
      have SC := Lib.hid (fun W => scalar_any x W)
      have AS := Lib.hid (fun W A5 c5 B5 c6 (hi : Ints W B5 [x]) => along_s A5 B5 c5 c6 x v'.length W hv' hi)
      have MT := (fun W (hT : Sc.Tab W) => meet_any c s (padL (List.replicate v'.length x)) (padL v') v'.length W hT hv' (padL_len _) (padL_len _) (padL_R (fun y hy => by rw [(List.mem_replicate.1 hy).2, ← HX.out]; exact RV.out.at k)) (padL_R RV'.out))
      have LW0 := Lib.hid (Below.refl wr.heap.size wr).drew
      have HWL := Lib.hid (show w.heap.size < wr.heap.size by have := BO.out.lt; omega)
      have HGL := Lib.hid BN.out.lt
      obtain ⟨ZZ, hZZ⟩ : ∃ ZZ, meetL c s (padL (List.replicate v'.length x)) (padL v') v'.length = ZZ := ⟨_, rfl⟩
      have HZL := Lib.hid (show ZZ.length = 64 by rw [← hZZ, meet_len])
      have HZZ := Lib.hid hZZ
      rw [hZZ] at MT
      have MT := Lib.hid MT
      clear q0 hZZ
      go_cut [14] (fun s14 wx => ∃ gN, s14 = .pointer (some ⟨gN, 0, none⟩) ∧ wr.heap.size ≤ gN ∧ LineAt wx gN ZZ ∧ Hid (Below wr.heap.size wr wx))
      case first =>
        refine wp_region_held_drew (S := fun w' => (w'.cell? ⟨w.heap.size, 0, none⟩ = some (.int .i64 c) ∧ w'.cell? ⟨w.heap.size, 1, none⟩ = some (.bool s) ∧ LineAt w' gl (padL v'))) (by kernel_rfl) ⟨f0, f1, BN.out.drew⟩ (fun hHeld => ?_)
        refine take_yes (i := 0) (some 49) (.agg #[.int .i64 c, .bool s]) rfl rfl (by kernel_rfl) (by kernel_rfl) (by kernel_rfl) (fun _ _ _ h => h) (by rfl) hHeld ?_ ?_
        · intro wq hSw; obtain ⟨s0, s1, s2⟩ := hSw; go_simp
        simp only [Act.put, List.setIfInBounds_toArray, List.set_cons_zero, List.set_cons_succ]
        refine take_yes (i := 1) (some 50) (.int .i64 x) rfl rfl (by kernel_rfl) (by kernel_rfl) (by kernel_rfl) (fun _ _ _ h => h) (by rfl) hHeld ?_ ?_
        · intro wq hSw; obtain ⟨s0, s1, s2⟩ := hSw; go_simp
        simp only [Act.put, List.setIfInBounds_toArray, List.set_cons_zero, List.set_cons_succ]
        refine take_yes (i := 3) (some 52) (.int .i64 (v'.length : Nat)) rfl rfl (by kernel_rfl) (by kernel_rfl) (by kernel_rfl) (fun _ _ _ h => h) (by rfl) hHeld ?_ ?_
        · intro wq hSw; obtain ⟨s0, s1, s2⟩ := hSw; go_simp
        simp only [Act.put, List.setIfInBounds_toArray, List.set_cons_zero, List.set_cons_succ]
        refine take_yes (i := 6) (some 55) (.int .i64 (v'.length : Nat)) rfl rfl (by kernel_rfl) (by kernel_rfl) (by kernel_rfl) (fun _ _ _ h => h) (by rfl) hHeld ?_ ?_
        · intro wq hSw; obtain ⟨s0, s1, s2⟩ := hSw; go_simp
        simp only [Act.put, List.setIfInBounds_toArray, List.set_cons_zero, List.set_cons_succ]
        refine take_yes (i := 5) (some 54) (.agg (cellsI (padL v'))) rfl rfl (by kernel_rfl) (by kernel_rfl) (by kernel_rfl) (fun _ _ _ h => h) (by rfl) hHeld ?_ ?_
        · intro wq hSw; obtain ⟨s0, s1, s2⟩ := hSw; have hl := s2.cellsFrom (padL_len _); go_simp; simp only [Tryd.isAgg68, Tryd.sizeOf68, Result.andThen, ↓reduceIte, hl]
        simp only [Act.put, List.setIfInBounds_toArray, List.set_cons_zero, List.set_cons_succ]
        refine wpAnyH_ready (rs := [2, 8]) (by kernel_rfl) (by simp) ?_
        refine AllReadyH.cons rfl (fun K hK => ?_) (AllReadyH.cons rfl (fun K hK => ?_) AllReadyH.nil)
        · go_simp
          (go_at_call 49; refine (SC.out _).mono ?_; rintro r w21 ⟨XS, rfl, ⟨A5, c5, B5, c6, rfl, hi4, hi5, hi6⟩, hbS⟩)
          have LL1 := Lib.hid (below_next LW0.out hbS)
          have I1 := Lib.hid hi5.ints
          have hq := keep3 hHeld hbS
          clear hi4 hi5 hi6 hbS
          go_wp2_with fail
          refine hK.out _ _ hq (fun hHeld => ?_)
          clear hK K
          refine wpAnyH_ready (rs := [4, 8]) (by kernel_rfl) (by simp) ?_
          refine AllReadyH.cons rfl (fun K hK => ?_) (AllReadyH.cons rfl (fun K hK => ?_) AllReadyH.nil)
          · go_simp
            (go_at_call 38; refine (AS.out _ _ _ _ _ I1.out).mono ?_; rintro r w22 ⟨rfl, hbA⟩)
            have LL2 := Lib.hid (below_next LL1.out hbA)
            have hq := keep3 hHeld hbA
            clear hbA
            go_wp2_with fail
            refine hK.out _ _ hq (fun hHeld => ?_)
            clear hK K
            refine wpAnyH_ready (rs := [7, 8]) (by kernel_rfl) (by simp) ?_
            refine AllReadyH.cons rfl (fun K hK => ?_) (AllReadyH.cons rfl (fun K hK => ?_) AllReadyH.nil)
            · go_simp
              (go_at_call 37; refine (MT.out _ (T0.out.below (below_next L.out LL2.out))).mono ?_; rintro r w23 ⟨rfl, hbM⟩)
              have LL3 := Lib.hid (below_next LL2.out hbM)
              have hq := keep3 hHeld hbM
              clear hbM
              go_wp2_with fail
              refine hK.out _ _ hq (fun hHeld => ?_)
              clear hK K
              refine wpAnyH_ready (rs := [8]) (by kernel_rfl) (by simp) ?_
              refine AllReadyH.cons rfl (fun K hK => ?_) AllReadyH.nil
              have hz := line_zero.1
              go_simp
              have LL4 := Lib.hid (below_next LL3.out (below_new w23 (.cells (cellsI noughts) 68)))
              have NY := Lib.hid (LineAt.new w23 noughts)
              have HGN := Lib.hid (LL3.out.size)
              have hq := keep3 hHeld (below_new w23 (.cells (cellsI noughts) 68))
              refine hK.out _ _ hq (fun hHeld => ?_)
              clear hK K hz hq
              generalize hW8 : World.alloc w23 (.cells (cellsI noughts) 68) = w24 at *
              clear hW8
              refine wpAnyH_ready (rs := [9]) (by kernel_rfl) (by simp) ?_
              refine AllReadyH.cons rfl (fun K hK => ?_) AllReadyH.nil
              have hsc := NY.out.storeCells (ys := ZZ) noughts_len HZL.out
              have hsz : (cellsI ZZ).size = 64 := by rw [cellsI_size, HZL.out]
              go_simp
              simp only [Tryd.sizeOf68, Result.andThen, ↓reduceIte, hsc]
              rw [Oper.upon_skip]
              have hq := keep3B hHeld (below_setRow (Below.refl _ _) HGN.out (cellsI ZZ)) HWL.out HGL.out
              have CUT := Lib.hid (show wr.heap.size ≤ _ ∧ LineAt (World.setRow _ _ (cellsI ZZ)) _ ZZ ∧ Below wr.heap.size wr (World.setRow _ _ (cellsI ZZ)) from ⟨HGN.out, NY.out.stored ZZ, below_setRow LL4.out HGN.out (cellsI ZZ)⟩)
              refine hK.out _ _ hq (fun hHeld => ?_)
              clear hK K hq hsc hsz
              refine wpAnyH_done (by kernel_rfl) ?_ _
              go_wp2_with fail
              go_meet
              exact ⟨_, rfl, CUT.1, CUT.2.1, Lib.hid CUT.2.2⟩
            · have hz := line_zero.1
              go_simp
              have LL6 := Lib.hid (below_next LL2.out (below_new w22 (.cells (cellsI noughts) 68)))
              have NY := Lib.hid (LineAt.new w22 noughts)
              have HGN := Lib.hid (LL2.out.size)
              have hq := keep3 hHeld (below_new w22 (.cells (cellsI noughts) 68))
              refine hK.out _ _ hq (fun hHeld => ?_)
              clear hK K hz hq
              generalize hW8 : World.alloc w22 (.cells (cellsI noughts) 68) = w26 at *
              clear hW8
              refine wpAnyH_ready (rs := [7]) (by kernel_rfl) (by simp) ?_
              refine AllReadyH.cons rfl (fun K hK => ?_) AllReadyH.nil
              go_simp
              (go_at_call 37; refine (MT.out _ (T0.out.below (below_next L.out LL6.out))).mono ?_; rintro r w27 ⟨rfl, hbM⟩)
              have LL7 := Lib.hid (below_next LL6.out hbM)
              have NZ := Lib.hid (NY.out.next hbM)
              have hq := keep3 hHeld hbM
              clear hbM
              replace NY := NZ; clear NZ
              go_wp2_with fail
              refine hK.out _ _ hq (fun hHeld => ?_)
              clear hK K
              refine wpAnyH_ready (rs := [9]) (by kernel_rfl) (by simp) ?_
              refine AllReadyH.cons rfl (fun K hK => ?_) AllReadyH.nil
              have hsc := NY.out.storeCells (ys := ZZ) noughts_len HZL.out
              have hsz : (cellsI ZZ).size = 64 := by rw [cellsI_size, HZL.out]
              go_simp
              simp only [Tryd.sizeOf68, Result.andThen, ↓reduceIte, hsc]
              rw [Oper.upon_skip]
              have hq := keep3B hHeld (below_setRow (Below.refl _ _) HGN.out (cellsI ZZ)) HWL.out HGL.out
              have CUT := Lib.hid (show wr.heap.size ≤ _ ∧ LineAt (World.setRow _ _ (cellsI ZZ)) _ ZZ ∧ Below wr.heap.size wr (World.setRow _ _ (cellsI ZZ)) from ⟨HGN.out, NY.out.stored ZZ, below_setRow LL7.out HGN.out (cellsI ZZ)⟩)
              refine hK.out _ _ hq (fun hHeld => ?_)
              clear hK K hq hsc hsz
              refine wpAnyH_done (by kernel_rfl) ?_ _
              go_wp2_with fail
              go_meet
              exact ⟨_, rfl, CUT.1, CUT.2.1, Lib.hid CUT.2.2⟩
          · have hz := line_zero.1
            go_simp
            have LL9 := Lib.hid (below_next LL1.out (below_new w21 (.cells (cellsI noughts) 68)))
            have NY := Lib.hid (LineAt.new w21 noughts)
            have HGN := Lib.hid (LL1.out.size)
            have hq := keep3 hHeld (below_new w21 (.cells (cellsI noughts) 68))
            replace I1 := Lib.hid (I1.out.below (below_new w21 (.cells (cellsI noughts) 68)))
            refine hK.out _ _ hq (fun hHeld => ?_)
            clear hK K hz hq
            generalize hW8 : World.alloc w21 (.cells (cellsI noughts) 68) = w29 at *
            clear hW8
            refine wpAnyH_ready (rs := [4]) (by kernel_rfl) (by simp) ?_
            refine AllReadyH.cons rfl (fun K hK => ?_) AllReadyH.nil
            go_simp
            (go_at_call 38; refine (AS.out _ _ _ _ _ I1.out).mono ?_; rintro r w30 ⟨rfl, hbA⟩)
            have NZ := Lib.hid (NY.out.next hbA)
            have LL10 := Lib.hid (below_next LL9.out hbA)
            have hq := keep3 hHeld hbA
            clear hbA
            replace NY := NZ; clear NZ
            go_wp2_with fail
            refine hK.out _ _ hq (fun hHeld => ?_)
            clear hK K
            refine wpAnyH_ready (rs := [7]) (by kernel_rfl) (by simp) ?_
            refine AllReadyH.cons rfl (fun K hK => ?_) AllReadyH.nil
            go_simp
            (go_at_call 37; refine (MT.out _ (T0.out.below (below_next L.out LL10.out))).mono ?_; rintro r w31 ⟨rfl, hbM⟩)
            have LL11 := Lib.hid (below_next LL10.out hbM)
            have NZ := Lib.hid (NY.out.next hbM)
            have hq := keep3 hHeld hbM
            clear hbM
            replace NY := NZ; clear NZ
            go_wp2_with fail
            refine hK.out _ _ hq (fun hHeld => ?_)
            clear hK K
            refine wpAnyH_ready (rs := [9]) (by kernel_rfl) (by simp) ?_
            refine AllReadyH.cons rfl (fun K hK => ?_) AllReadyH.nil
            have hsc := NY.out.storeCells (ys := ZZ) noughts_len HZL.out
            have hsz : (cellsI ZZ).size = 64 := by rw [cellsI_size, HZL.out]
            go_simp
            simp only [Tryd.sizeOf68, Result.andThen, ↓reduceIte, hsc]
            rw [Oper.upon_skip]
            have hq := keep3B hHeld (below_setRow (Below.refl _ _) HGN.out (cellsI ZZ)) HWL.out HGL.out
            have CUT := Lib.hid (show wr.heap.size ≤ _ ∧ LineAt (World.setRow _ _ (cellsI ZZ)) _ ZZ ∧ Below wr.heap.size wr (World.setRow _ _ (cellsI ZZ)) from ⟨HGN.out, NY.out.stored ZZ, below_setRow LL11.out HGN.out (cellsI ZZ)⟩)
            refine hK.out _ _ hq (fun hHeld => ?_)
            clear hK K hq hsc hsz
            refine wpAnyH_done (by kernel_rfl) ?_ _
            go_wp2_with fail
            go_meet
            exact ⟨_, rfl, CUT.1, CUT.2.1, Lib.hid CUT.2.2⟩
        · have hz := line_zero.1
          go_simp
          have LL13 := Lib.hid (show Below wr.heap.size wr (World.alloc wr (.cells (cellsI noughts) 68)).drew from (below_new wr (.cells (cellsI noughts) 68)).drew)
          have NY := Lib.hid (show LineAt (World.alloc wr (.cells (cellsI noughts) 68)).drew wr.heap.size noughts from (LineAt.new wr noughts).drew)
          have HGN := Lib.hid (Nat.le_refl wr.heap.size)
          have hq := keep3 (w1 := (World.alloc wr (.cells (cellsI noughts) 68)).drew) hHeld (below_new wr.drew (.cells (cellsI noughts) 68))
          refine hK.out _ _ hq (fun hHeld => ?_)
          clear hK K hz hq
          generalize hW8 : (World.alloc wr (.cells (cellsI noughts) 68)).drew = w33 at *
          clear hW8
          refine wpAnyH_ready (rs := [2]) (by kernel_rfl) (by simp) ?_
          refine AllReadyH.cons rfl (fun K hK => ?_) AllReadyH.nil
          go_simp
          (go_at_call 49; refine (SC.out _).mono ?_; rintro r w34 ⟨XS, rfl, ⟨A5, c5, B5, c6, rfl, hi4, hi5, hi6⟩, hbS⟩)
          have LL14 := Lib.hid (below_next LL13.out hbS)
          have NZ := Lib.hid (NY.out.next hbS)
          have I14 := Lib.hid hi5.ints
          have hq := keep3 hHeld hbS
          clear hi4 hi5 hi6 hbS
          replace NY := NZ; clear NZ
          go_wp2_with fail
          refine hK.out _ _ hq (fun hHeld => ?_)
          clear hK K
          refine wpAnyH_ready (rs := [4]) (by kernel_rfl) (by simp) ?_
          refine AllReadyH.cons rfl (fun K hK => ?_) AllReadyH.nil
          go_simp
          (go_at_call 38; refine (AS.out _ _ _ _ _ I14.out).mono ?_; rintro r w35 ⟨rfl, hbA⟩)
          have NZ := Lib.hid (NY.out.next hbA)
          have LL15 := Lib.hid (below_next LL14.out hbA)
          have hq := keep3 hHeld hbA
          clear hbA
          replace NY := NZ; clear NZ
          go_wp2_with fail
          refine hK.out _ _ hq (fun hHeld => ?_)
          clear hK K
          refine wpAnyH_ready (rs := [7]) (by kernel_rfl) (by simp) ?_
          refine AllReadyH.cons rfl (fun K hK => ?_) AllReadyH.nil
          go_simp
          (go_at_call 37; refine (MT.out _ (T0.out.below (below_next L.out LL15.out))).mono ?_; rintro r w36 ⟨rfl, hbM⟩)
          have LL16 := Lib.hid (below_next LL15.out hbM)
          have NZ := Lib.hid (NY.out.next hbM)
          have hq := keep3 hHeld hbM
          clear hbM
          replace NY := NZ; clear NZ
          go_wp2_with fail
          refine hK.out _ _ hq (fun hHeld => ?_)
          clear hK K
          refine wpAnyH_ready (rs := [9]) (by kernel_rfl) (by simp) ?_
          refine AllReadyH.cons rfl (fun K hK => ?_) AllReadyH.nil
          have hsc := NY.out.storeCells (ys := ZZ) noughts_len HZL.out
          have hsz : (cellsI ZZ).size = 64 := by rw [cellsI_size, HZL.out]
          go_simp
          simp only [Tryd.sizeOf68, Result.andThen, ↓reduceIte, hsc]
          rw [Oper.upon_skip]
          have hq := keep3B hHeld (below_setRow (Below.refl _ _) HGN.out (cellsI ZZ)) HWL.out HGL.out
          have CUT := Lib.hid (show wr.heap.size ≤ _ ∧ LineAt (World.setRow _ _ (cellsI ZZ)) _ ZZ ∧ Below wr.heap.size wr (World.setRow _ _ (cellsI ZZ)) from ⟨HGN.out, NY.out.stored ZZ, below_setRow LL16.out HGN.out (cellsI ZZ)⟩)
          refine hK.out _ _ hq (fun hHeld => ?_)
          clear hK K hq hsc hsz
          refine wpAnyH_done (by kernel_rfl) ?_ _
          go_wp2_with fail
          go_meet
          exact ⟨_, rfl, CUT.1, CUT.2.1, Lib.hid CUT.2.2⟩
      case rest =>
        obtain ⟨gN, rfl, hgn, hln, LN⟩ := hcut
        replace FN := Lib.hid (FN.out.below LN)
        replace BO := Lib.hid (BO.out.next LN)
        replace BQ := Lib.hid (BQ.out.next LN)
        replace R3 := Lib.hid (R3.out.next LN)
        replace BN := Lib.hid (BN.out.next LN)
        replace MM := Lib.hid (MM.out.below LN (Nat.le_refl _))
        replace L := Lib.hid (below_next L.out LN)
        have PT := Lib.hid (hln.part (n := v'.length) (by rw [HZL.out]; omega))
        have PL := Lib.hid (show (ZZ.take v'.length).length = v'.length by rw [List.length_take, HZL.out]; omega)
        obtain ⟨of2, hof2⟩ : ∃ of2, k * v'.length = of2 := ⟨_, rfl⟩
        have HO := Lib.hid hof2
        have hle : of2 + v'.length ≤ N := by
          rw [HNN.out, ← hof2, ← Nat.succ_mul]
          exact Nat.mul_le_mul_right _ hlt
        have hN64 : N ≤ 4096 := by rw [HNN.out]; exact Nat.mul_le_mul hv hv'
        have hmul : IntKind.i64.wrap ((k : Int) * (v'.length : Int)) = (of2 : Int) := by rw [← Int.natCast_mul, hof2]; exact IntWalk.i64_in _ (by omega)
        have SPL := Lib.hid (show splice (outK c s v v' k) of2 ((ZZ.take v'.length).take v'.length) = outK c s v v' (k + 1) by
          rw [List.take_take, Nat.min_self, ← HZZ.out, meet_take c s _ _ hv', met_one, ← HO.out, ← HX.out]
          exact outK_succ c s v v' hlt)
        have OL := Lib.hid (show (outK c s v v' k).length = N by rw [outK_len c s v v' (Nat.le_of_lt hlt), HNN.out])
        have o0 : (0 : Int) ≤ (of2 : Int) := by omega
        have o1 : (of2 : Int) ≤ (N : Int) := by omega
        obtain ⟨b0, b1, -, -⟩ := BQ.out.all
        have hgo := R3.out
        clear hln hgn LN f0 f1 hof2 LW0
        have hsl := fun W => line_slice gN v'.length hv' W
        go_wp2_with fail
        go_region_law (first
          | (refine step_copyM rfl (.tmp 62) (.tmp 64) rfl g of2 (outK c s v v' k) (ZZ.take v'.length) (if N = of2 then some ⟨g, 0, none⟩ else some ⟨g, of2, none⟩) (some ⟨gN, 0, none⟩) (N - of2) (N - of2) 64 v'.length v'.length (by simp [Act.eval, Act.put]) (by simp [Act.eval, Act.put]) PL.out R3.out (Nat.min_eq_left (by omega)).symm (fun h => by rw [if_neg (by omega)]) PT.out (by rw [OL.out]; omega) ?_; intro w14 hr14 hg14; rw [SPL.out] at hr14; have R14 := Lib.hid hr14; have G14 := Lib.hid hg14; clear hr14 hg14))
        all_goals
          have G15 := Lib.hid (undrew G14.out)
          have bo := BO.out.lt
          have bq := BQ.out.lt
          have bn := BN.out.lt
          have ne : ∀ b, (Value.slice A3 (d ++ d').length n3).ownBlock = some b → b ≠ g := fun b hb e => own_bk_ne (t := 2) (cs := (outK c s v v' k).map (Value.int .i64)) MM.out R3.out (by decide) (by rw [hb, e])
          have PA := Lib.hid (show FnAt w14 w.heap.size c s ∧ Box w14 (w.heap.size + 1 + 1 + 1) (.slice none 0 0) (.slice none 0 0) ∧ Box w14 g9 (.slice A3 (d.length + d'.length) n3) (.slice (some ⟨g, 0, none⟩) N N) ∧ LineAt w14 gl (padL v') ∧ MineT 3 w14 w.heap.size (.slice A3 (d ++ d').length n3) (d ++ d') ∧ Below w.heap.size w w14 from
            ⟨FnAt.kept FN.out (grown_keep G15.out (by omega) (by omega)), BO.out.grown G15.out (fun e => by injection e; omega), BQ.out.grown G15.out (fun e => by injection e; omega), (grown_keep G15.out bn (by omega)).trans BN.out, own_grown MM.out G15.out ne,
              L.out.trans ((St.Turn.of_grown (T := fun b => b = g) G15.out fun k e => by injection e with e; exact e.symm).below (by omega) fun i hi => by rw [hi]; omega)⟩)
          clear bo bq bn ne
          go_wp2
          exact ⟨⟨k + 1, by omega, by go_num, PA.out.1, PA.out.2.1, PA.out.2.2.1, R14.out, PA.out.2.2.2.1, PA.out.2.2.2.2.1, PA.out.2.2.2.2.2⟩, by simp [intOf]; omega⟩
    · obtain rfl : k = v.length := by omega
      have HO := Lib.hid (outK_n c s v v')
      rw [HO.out] at R3
      obtain ⟨q0, q1, -, -⟩ := BQ.out.all
      obtain ⟨o0, o1, o2, o3⟩ := BO.out.all
      go_wp2
      have LV : (outV c s v v').length = N := by rw [outV_len, HNN.out]
      obtain ⟨t0, t1, _, _⟩ := ((BO.out.set0 (.slice A3 (d.length + d'.length) n3)).set1 (.slice (some ⟨g, 0, none⟩) N N)).all
      refine bodyPost_ret (v := .tuple #[.agg #[.slice A3 (d.length + d'.length) n3, .slice (some ⟨g, 0, none⟩) N N], .int .i64 0]) (by simp [results, Tryd.results15, go_sem, t0, t1]) rfl ?_
      have hM := (MM.out.ints'.set_box BO.out (.slice A3 (d.length + d'.length) n3) (.slice (some ⟨g, 0, none⟩) N N))
      have hV := (R3.out.ints.set_box BO.out (.slice A3 (d.length + d'.length) n3) (.slice (some ⟨g, 0, none⟩) N N))
      exact ⟨A3, n3, some ⟨g, 0, none⟩, N, by rw [List.length_append, LV], hM, hV, (L.out.setCell (by simp; omega) _).setCell (by simp; omega) _⟩
end
end Go.Proofs.YtbanegjmapgkdaaDoor.Pr
