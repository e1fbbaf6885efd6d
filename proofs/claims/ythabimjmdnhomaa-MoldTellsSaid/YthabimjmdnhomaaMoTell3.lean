/-
  What the document's Ravel answers for any cell; nothing that was there is written. Condition: at most 100 axes and 1000 numbers.
-/
import Derived.Test.YthabimjmdnhomaaMoTell2
namespace Go.Proofs.Ythabimjmdnhomaa.Sh
open Go.RowKit
set_option linter.unusedVariables false

theorem keepRS {W : World} {g gR : Nat} {x : Value} (h : W.cell? ⟨g, 1, none⟩ = some x) (hne : g ≠ gR) (a b : Value) : ((W.setCell ⟨gR, 0, none⟩ a).setCell ⟨gR, 1, none⟩ b).cell? ⟨g, 1, none⟩ = some x :=
  (World.cell?_setCell_other _ ⟨gR, 1, none⟩ ⟨g, 1, none⟩ b (fun e => by injection e with e1; omega)).trans ((World.cell?_setCell_other W ⟨gR, 0, none⟩ ⟨g, 1, none⟩ a (fun e => by injection e with e1; omega)).trans h)
theorem keepAl {W : World} {g : Nat} {x : Value} (h : W.cell? ⟨g, 1, none⟩ = some x) (o : Obj) : (W.alloc o).cell? ⟨g, 1, none⟩ = some x :=
  ((below_new W o).cell (p := ⟨g, 1, none⟩) (World.block_lt_of_cell? W ⟨g, 1, none⟩ h)).trans h
theorem keepRA {W : World} {g gR : Nat} {x : Value} (h : W.cell? ⟨g, 1, none⟩ = some x) (hne : g ≠ gR) (a b : Value) (o : Obj) : (((W.setCell ⟨gR, 0, none⟩ a).setCell ⟨gR, 1, none⟩ b).alloc o).cell? ⟨g, 1, none⟩ = some x := keepAl (keepRS h hne a b) o
/-- Behind the answer's making. -/
def CutR (w : World) (g : Nat) (n : Nat) (v : List Int) (wx : World) : Prop := ∃ A6 B6 e6, Box wx g (.slice A6 1 1) (.slice B6 v.length e6) ∧ IsCell wx w.heap.size [(n : Int)] v (.agg #[.slice A6 1 1, .slice B6 v.length e6]) ∧ Below g w wx
theorem cutR_mk {w w9 : World} {gR b n : Nat} {v : List Int} {A9 : Option Addr} {c9 : Nat} {x y : Value} (hm : MineT 2 w9 w.heap.size (.slice A9 v.length c9) v) (hi : MineT 3 w9 w.heap.size (.slice (some ⟨b, 0, none⟩) 1 1) [(n : Int)]) (hb : Below w.heap.size w w9) (bx : Box w9 gR x y) (hg : gR < w.heap.size) :
    CutR w gR n v ((w9.setCell ⟨gR, 0, none⟩ (.slice (some ⟨b, 0, none⟩) 1 1)).setCell ⟨gR, 1, none⟩ (.slice A9 v.length c9)) :=
  ⟨_, _, _, (bx.set0 _).set1 _, isCell_of (d := [(n : Int)]) (hi.box hg _ _) (hm.box hg _ _) (Nat.le_refl _) (Nat.le_refl _), ((hb.mono (Nat.le_of_lt hg)).setCell (Nat.le_refl _) _).setCell (Nat.le_refl _) _⟩
theorem cutR_a {w w9 : World} {gR n : Nat} {v : List Int} {A9 : Option Addr} {c9 : Nat} {x y : Value} (hm : MineT 2 w9 w.heap.size (.slice A9 v.length c9) v) (hb : Below w.heap.size w w9) (bx : Box w9 gR x y) (hg : gR < w.heap.size) :
    CutR w gR n v (((w9.setCell ⟨gR, 0, none⟩ (.slice (some ⟨w9.heap.size, 0, none⟩) 1 1)).setCell ⟨gR, 1, none⟩ (.slice A9 v.length c9)).alloc (.cells #[.int .i64 (n : Int)] 3)) := by
  have hsz : ((w9.setCell ⟨gR, 0, none⟩ (.slice (some ⟨w9.heap.size, 0, none⟩) 1 1)).setCell ⟨gR, 1, none⟩ (.slice A9 v.length c9)).heap.size = w9.heap.size := by simp [World.setCell]
  have hi := MineT.new 3 ((w9.setCell ⟨gR, 0, none⟩ (.slice (some ⟨w9.heap.size, 0, none⟩) 1 1)).setCell ⟨gR, 1, none⟩ (.slice A9 v.length c9)) [(n : Int)] w.heap.size (by rw [hsz]; exact hb.size) (by unfold maxLen; simp)
  rw [hsz] at hi
  exact ⟨_, _, _, ((bx.set0 _).set1 _).alloc _, isCell_of (d := [(n : Int)]) hi ((hm.box hg _ _).alloc _) (Nat.le_refl _) (Nat.le_refl _), (((hb.mono (Nat.le_of_lt hg)).setCell (Nat.le_refl _) _).setCell (Nat.le_refl _) _).alloc (by rw [hsz]; have := hb.size; omega) _⟩

set_option maxHeartbeats 4000000 in
theorem rravel_any (A : Option Addr) (c : Nat) (d : List Int) (B : Option Addr) (c2 : Nat) (v : List Int) (w : World) (id : Ints w A d) (iv : Ints w B v) (hd : d.length ≤ 100) (hv : v.length ≤ 1000) :
    Calls Try.prog 14 #[.agg #[.slice A d.length c, .slice B v.length c2]] w (RetC w (okL d v.length [(v.length : Int)]) (okL d v.length v) (.int .i64 (okE d v.length))) := by
  by_cases h1 : cellB d v.length = true
  · rw [(ok_yes h1 [(v.length : Int)]).2, (ok_yes h1 v).2, (ok_yes h1 []).1]
    obtain ⟨hd3, hv64⟩ := cellB_small h1
    have H1 := Lib.hid h1
    clear h1
    obtain ⟨ba0, br0, hb0⟩ := w1_all w (.slice A d.length c) (.slice B v.length c2)
    have BA := Lib.hid (ba0)
    have BR := Lib.hid (br0)
    have L := Lib.hid (hb0)
    have ID0 := Lib.hid id
    have IV0 := Lib.hid iv
    have ID := Lib.hid (id.below hb0)
    have IV := Lib.hid (iv.below hb0)
    clear ba0 br0 hb0 id iv
    go_enter Try.func14, Try.ntmps14
    go_wp2_with fail
    refine (rright_yes _ _ d _ _ _ _ (by unfold maxLen; omega) ID.out H1.out).mono ?_
    rintro r w1 ⟨rfl, hb⟩
    replace BA := Lib.hid (BA.out.next hb)
    replace BR := Lib.hid (BR.out.next hb)
    replace L := Lib.hid (below_next L.out hb)
    replace ID := Lib.hid (ID.out.below hb)
    replace IV := Lib.hid (IV.out.below hb)
    clear hb
    obtain ⟨qBA0, qBA1, -, -⟩ := BA.out.all
    have hgT := BR.out.lt
    have hgL := L.out.size
    have hgA := BA.out.lt
    have rB := BR.out.all
    obtain ⟨r0, r1, r2, r3⟩ := rB
    have MI0 := Lib.hid (MineT.new 3 w1 [(v.length : Int)] w1.heap.size (Nat.le_refl _) (by unfold maxLen; simp))
    have ZA := Lib.hid (show MineT 2 (w1.alloc (.cells #[] 2)).drew w1.heap.size (.slice (some ⟨w1.heap.size, 0, none⟩) 0 0) [] from MineT.new 2 w1 [] w1.heap.size (Nat.le_refl _) (by simp))
    have ZB := Lib.hid (show MineT 2 ((w1.alloc (.cells #[.int .i64 (v.length : Int)] 3)).alloc (.cells #[] 2)).drew w1.heap.size (.slice (some ⟨w1.heap.size + 1, 0, none⟩) 0 0) [] from by have := MineT.new 2 (w1.alloc (.cells #[.int .i64 (v.length : Int)] 3)) [] w1.heap.size (by simp) (by simp); rw [show (w1.alloc (.cells #[.int .i64 (v.length : Int)] 3)).heap.size = w1.heap.size + 1 from by simp] at this; exact this)
    have ZC := Lib.hid (show MineT 2 ((w1.alloc (.cells #[] 2)).alloc (.cells #[.int .i64 (v.length : Int)] 3)).drew w1.heap.size (.slice (some ⟨w1.heap.size, 0, none⟩) 0 0) [] from (MineT.new 2 w1 [] w1.heap.size (Nat.le_refl _) (by simp)).alloc _)
    have IB := Lib.hid (show MineT 3 ((w1.alloc (.cells #[.int .i64 (v.length : Int)] 3)).alloc (.cells #[] 2)).drew w1.heap.size (.slice (some ⟨w1.heap.size, 0, none⟩) 1 1) [(v.length : Int)] from MI0.out.alloc _)
    have IC := Lib.hid (show MineT 3 ((w1.alloc (.cells #[] 2)).alloc (.cells #[.int .i64 (v.length : Int)] 3)).drew w1.heap.size (.slice (some ⟨w1.heap.size + 1, 0, none⟩) 1 1) [(v.length : Int)] from by have := MineT.new 3 (w1.alloc (.cells #[] 2)) [(v.length : Int)] w1.heap.size (by simp) (by unfold maxLen; simp); rw [show (w1.alloc (.cells #[] 2)).heap.size = w1.heap.size + 1 from by simp] at this; exact this)
    have YA := Lib.hid (show Ints (w1.alloc (.cells #[] 2)).drew B v from IV.out.below (below_new w1 _).drew)
    have YB := Lib.hid (show Ints ((w1.alloc (.cells #[.int .i64 (v.length : Int)] 3)).alloc (.cells #[] 2)).drew B v from (IV.out.below (below_new w1 _)).below (below_new _ _).drew)
    have YC := Lib.hid (show Ints ((w1.alloc (.cells #[] 2)).alloc (.cells #[.int .i64 (v.length : Int)] 3)).drew B v from (IV.out.below (below_new w1 _)).below (below_new _ _).drew)
    have NE := Lib.hid (show w.heap.size ≠ w.heap.size + 1 by omega)
    go_upto_region 3 with (fail)
    go_cut [3] (fun s3 wx => s3 = .int .i64 0 ∧ CutR w1 (w.heap.size + 1) v.length v wx)
    case first =>
      go_region_held3 (fun w' => w'.cell? ⟨w.heap.size, 1, none⟩ = some (.slice B v.length c2))
        (first
          | with_reducible exact KK.out
          | with_reducible exact keepRS KK.out NE.out _ _
          | with_reducible exact keepRA KK.out NE.out _ _ _
          | with_reducible exact keepAl KK.out _
          | go_keep)
        (first
          | ((with_reducible refine step_appI numL Try.underlying23 rfl (.tmp 12) (.tmp 14) rfl w1.heap.size (.slice (some ⟨w1.heap.size, 0, none⟩) 0 0) [] (by simp [Act.eval]) ZA.out B c2 v (by simp [Act.eval]) YA.out (by simp; omega) (by simp) ?_); intro V9 w9 hm9 hg9 ha9; have BL9 := Lib.hid (below_turned (g := w1.heap.size) (below_new w1 (.cells #[] 2)).drew hg9 (Nat.le_refl _)); have HM9 := Lib.hid (show MineT 2 w9 w1.heap.size V9 v from hm9); clear hm9 hg9 ha9; obtain ⟨A9, c9, rfl, -⟩ := HM9.out.ints; have BX9 := Lib.hid (BR.out.next BL9.out); obtain ⟨n0, n1, n2, n3⟩ := BX9.out.all; have hl9 := BX9.out.lt; have BY9 := Lib.hid (BX9.out.alloc (.cells #[.int .i64 (v.length : Int)] 3)); obtain ⟨m0, m1, m2, m3⟩ := BY9.out.all; have KK := Lib.hid (keep1 BL9.out qBA1))
          | ((with_reducible refine step_appI numL Try.underlying23 rfl (.tmp 12) (.tmp 14) rfl w1.heap.size (.slice (some ⟨w1.heap.size + 1, 0, none⟩) 0 0) [] (by simp [Act.eval]) ZB.out B c2 v (by simp [Act.eval]) YB.out (by simp; omega) (by simp; omega) ?_); intro V9 w9 hm9 hg9 ha9; have BL9 := Lib.hid (below_turned (g := w1.heap.size + 1) (below_next (below_new w1 (.cells #[.int .i64 (v.length : Int)] 3)) (below_new _ (.cells #[] 2))).drew hg9 (Nat.le_succ _)); have MI9 := Lib.hid (IB.out.keep fun g' hg' => hg9.block g' (IB.out.lt g' hg') (fun e => by simp [Value.ownBlock] at e hg'; omega)); have HM9 := Lib.hid (show MineT 2 w9 w1.heap.size V9 v from hm9); clear hm9 hg9 ha9; obtain ⟨A9, c9, rfl, -⟩ := HM9.out.ints; have BX9 := Lib.hid (BR.out.next BL9.out); obtain ⟨n0, n1, n2, n3⟩ := BX9.out.all; have hl9 := BX9.out.lt; have BY9 := Lib.hid (BX9.out.alloc (.cells #[.int .i64 (v.length : Int)] 3)); obtain ⟨m0, m1, m2, m3⟩ := BY9.out.all; have KK := Lib.hid (keep1 BL9.out qBA1))
          | ((with_reducible refine step_appI numL Try.underlying23 rfl (.tmp 12) (.tmp 14) rfl w1.heap.size (.slice (some ⟨w1.heap.size, 0, none⟩) 0 0) [] (by simp [Act.eval]) ZC.out B c2 v (by simp [Act.eval]) YC.out (by simp; omega) (by simp; omega) ?_); intro V9 w9 hm9 hg9 ha9; have BL9 := Lib.hid (below_turned (g := w1.heap.size) (below_next (below_new w1 (.cells #[] 2)) (below_new _ (.cells #[.int .i64 (v.length : Int)] 3))).drew hg9 (Nat.le_refl _)); have MI9 := Lib.hid (IC.out.keep fun g' hg' => hg9.block g' (IC.out.lt g' hg') (fun e => by simp [Value.ownBlock] at e hg'; omega)); have HM9 := Lib.hid (show MineT 2 w9 w1.heap.size V9 v from hm9); clear hm9 hg9 ha9; obtain ⟨A9, c9, rfl, -⟩ := HM9.out.ints; have BX9 := Lib.hid (BR.out.next BL9.out); obtain ⟨n0, n1, n2, n3⟩ := BX9.out.all; have hl9 := BX9.out.lt; have BY9 := Lib.hid (BX9.out.alloc (.cells #[.int .i64 (v.length : Int)] 3)); obtain ⟨m0, m1, m2, m3⟩ := BY9.out.all; have KK := Lib.hid (keep1 BL9.out qBA1)))
      all_goals (go_wp2_with fail; go_meet)
      all_goals first | exact ⟨rfl, cutR_mk HM9.out MI9.out BL9.out BX9.out hgT⟩ | exact ⟨rfl, cutR_a HM9.out BL9.out BX9.out hgT⟩
    case rest =>
      obtain ⟨rfl, A6, B6, e6, bx, ic, hb⟩ := hcut
      have LX := Lib.hid (L.out.trans (hb.mono (Nat.le_succ _)))
      have IC6 := Lib.hid (ic.mono hgL)
      obtain ⟨t0, t1, -, -⟩ := bx.all
      clear ic hb r0 r1 r2 r3 qBA0 qBA1
      go_wp2
      refine bodyPost_ret (v := .tuple #[.agg #[.slice A6 1 1, .slice B6 v.length e6], .int .i64 0]) (by simp [results, Try.results14, go_sem, t0, t1]) rfl ?_
      exact ⟨_, rfl, IC6.out, LX.out⟩
  · have H1 := Lib.hid (show cellB d v.length = false by simpa using h1)
    rw [(ok_no H1.out [(v.length : Int)]).2, (ok_no H1.out v).2, (ok_no H1.out []).1]
    clear h1
    obtain ⟨ba0, br0, hb0⟩ := w1_all w (.slice A d.length c) (.slice B v.length c2)
    have BA := Lib.hid (ba0)
    have BR := Lib.hid (br0)
    have L := Lib.hid (hb0)
    have ID0 := Lib.hid id
    have IV0 := Lib.hid iv
    have ID := Lib.hid (id.below hb0)
    have IV := Lib.hid (iv.below hb0)
    clear ba0 br0 hb0 id iv
    go_enter Try.func14, Try.ntmps14
    go_wp2_with fail
    refine (rright_no _ _ d _ _ _ _ (by unfold maxLen; omega) ID.out H1.out).mono ?_
    rintro r w1 ⟨rfl, hb⟩
    replace BA := Lib.hid (BA.out.next hb)
    replace BR := Lib.hid (BR.out.next hb)
    replace L := Lib.hid (below_next L.out hb)
    replace ID := Lib.hid (ID.out.below hb)
    replace IV := Lib.hid (IV.out.below hb)
    clear hb
    obtain ⟨qBR0, qBR1, fBR0, fBR1⟩ := BR.out.all
    go_wp2
    have T9 := (BR.out.set0 (.slice none 0 0)).set1 (.slice none 0 0)
    obtain ⟨t0, t1, _, _⟩ := T9.all
    refine bodyPost_ret (v := .tuple #[.agg #[.slice none 0 0, .slice none 0 0], .int .i64 1]) (by simp [results, Try.results14, go_sem, t0, t1]) rfl ?_
    exact ⟨_, rfl, IsCell.none _ _, (L.out.setCell (by simp) _).setCell (by simp) _⟩
end Go.Proofs.Ythabimjmdnhomaa.Sh
