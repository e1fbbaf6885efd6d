/-
  cell.Zero with its new row known whole, cell.cut with the address told, and copy of a list into such a row. Conditions: as told in each.
-/
import Derived.Test.YthabimjmdnhomaaCellAll
import Derived.Laws.CopyOwn
import Derived.Deep.RegionHeld3
namespace Go.Proofs.Ythabimjmdnhomaa.Sh
open Go.RowKit
set_option linter.unusedVariables false

/-- A cell of these axes with n noughts, whose row is a new block known whole. -/
def RetZ (w : World) (d : List Int) (n : Nat) (e : Ending) (w' : World) : Prop := ∃ A c g, e = .returned (.agg #[.slice A d.length c, .slice (some ⟨g, 0, none⟩) n n]) ∧ MineT 3 w' w.heap.size (.slice A d.length c) d ∧ w'.heap[g]? = some (.cells (cellsI (List.replicate n 0)) 2 (0, 0)) ∧ w.heap.size ≤ g ∧ Below w.heap.size w w'
set_option maxHeartbeats 1000000 in
theorem zero_m (A : Option Addr) (c : Nat) (d : List Int) (w : World) (hd : d.length ≤ 100) (id : Ints w A d) (hR : rightB d = true) :
    Calls Try.prog 32 #[.slice A d.length c] w (RetZ w d (sizeI d).toNat) := by
  have ID := Lib.hid (id.below (w' := w.alloc (.cells #[.slice none 0 0, .slice none 0 0] 25)) (below_box (Below.refl _ _)))
  have ID0 := Lib.hid id
  have HS := Lib.hid (Box.new w (.slice none 0 0) (.slice none 0 0))
  clear id
  · have HR := Lib.hid hR
    obtain ⟨h3, hall, h64⟩ := rightB_all hR
    have hp0 := (prod_bd d hall).1
    obtain ⟨n, hn⟩ : ∃ n : Nat, sizeI d = n := ⟨(prod d).toNat, by rw [sizeI_mk h3 hall h64]; omega⟩
    have hn64 : n ≤ 64 := by have : sizeI d = prod d := sizeI_mk h3 hall h64; omega
    rw [hn, Int.toNat_natCast]
    have HN := Lib.hid hn
    clear hR hall hn hp0 h64 h3
    have hmk := fun W => run_make_row' (P := Try.prog) 23 2 (.int .i64 0) 8 Try.underlying23 numL rfl .i64 .i64 n (by omega) (by omega) W
    go_enter Try.func32, Try.ntmps32
    go_wp2_with fail
    refine (right_yes _ _ d _ HR.out (by unfold maxLen; omega) ID.out).mono ?_
    rintro r w1 ⟨rfl, hb1⟩
    have S1 := Lib.hid (HS.out.next hb1)
    have H1 := Lib.hid (below_box hb1)
    have I1 := Lib.hid (ID0.out.below H1.out)
    clear hb1
    go_wp2_with fail
    refine (clone_t _ _ d _ hd I1.out).mono ?_
    rintro r w2 ⟨A2, c2, rfl, hm2, hb2⟩
    have S2 := Lib.hid (S1.out.next hb2)
    have H2 := Lib.hid (below_next H1.out hb2)
    have I2 := Lib.hid (ID0.out.below H2.out)
    have M2 := Lib.hid hm2
    clear hb2 hm2
    go_wp2_with fail
    refine (size_any _ _ d _ (by unfold maxLen; omega) I2.out).mono ?_
    rintro r w3 ⟨rfl, hb3⟩
    have S3 := Lib.hid (S2.out.next hb3)
    have H3 := Lib.hid (below_next H2.out hb3)
    have M3 := Lib.hid (M2.out.below hb3 (Nat.le_refl _))
    clear hb3
    rw [HN.out]
    have S4 := Lib.hid (S3.out.alloc (.cells (madeCells #[Value.int .i64 0] n) 2))
    obtain ⟨s0, s1, s2, s3⟩ := S4.out.all
    go_wp2
    have T := (S4.out.set0 (.slice A2 d.length c2)).set1 (.slice (some ⟨w3.heap.size, 0, none⟩) n n)
    obtain ⟨t0, t1, _, _⟩ := T.all
    refine bodyPost_ret (v := .agg #[.slice A2 d.length c2, .slice (some ⟨w3.heap.size, 0, none⟩) n n]) (by simp [results, Try.results32, go_sem, t0, t1]) rfl ?_
    have m3 := (M3.out.alloc (.cells (madeCells #[Value.int .i64 0] n) 2)).box S1.out.lt (.slice A2 d.length c2) (.slice (some ⟨w3.heap.size, 0, none⟩) n n)
    have hrow : (((w3.alloc (.cells (madeCells #[Value.int .i64 0] n) 2)).setCell ⟨w.heap.size, 0, none⟩ (.slice A2 d.length c2)).setCell ⟨w.heap.size, 1, none⟩ (.slice (some ⟨w3.heap.size, 0, none⟩) n n)).heap[w3.heap.size]? = some (.cells (cellsI (List.replicate n 0)) 2 (0, 0)) := by
      have hne : ¬ w3.heap.size = w.heap.size := by have := S3.out.lt; omega
      rw [Below.heap_setCell _ ⟨w.heap.size, 1, none⟩ _ _ hne, Below.heap_setCell _ ⟨w.heap.size, 0, none⟩ _ _ hne, ← cells_made]
      exact heap_alloc_new w3 _
    exact ⟨A2, c2, w3.heap.size, rfl, m3.mono H1.out.size, hrow, H3.out.size, (((H3.out.alloc H3.out.size _).setCell (Nat.le_refl _) _).setCell (Nat.le_refl _) _)⟩

/-- A piece of a row, with its address. -/
def RetAt (g i s : Nat) (w : World) (e : Ending) (w' : World) : Prop := ∃ A, e = .returned (.slice A s s) ∧ (0 < s → A = some ⟨g, i * s, none⟩) ∧ w = w'
theorem run_copyI {ty : TypeId} {w : World} {g off : Nat} {cur ys : List Int} {dp A : Option Addr} {s c c' : Nat} (hg : w.heap[g]? = some (.cells (cellsI cur) 2 (0, 0))) (hdp : 0 < s → dp = some ⟨g, off, none⟩) (hy : Ints w A ys) (hn : ys.length = s) (hf : off + ys.length ≤ cur.length) :
    ∃ w', (Builtin.copy_ #[23, 23] ty #[.slice dp s c, .slice A ys.length c']).run Try.prog w = .ok (goInt ys.length) w' ∧ w'.heap[g]? = some (.cells (cellsI (splice cur off ys)) 2 (0, 0)) ∧ w.grownBy w' (some g) := by
  have hsz : (Try.prog.info? 2).map (·.size) = some 1 := by kernel_rfl
  rcases Nat.eq_zero_or_pos ys.length with h0 | h0
  · obtain rfl : ys = [] := List.eq_nil_of_length_eq_zero h0
    refine ⟨w, ?_, by simpa [splice] using hg, World.grownBy.refl w _⟩
    exact run_copy_none (P := Try.prog) w 23 23 ty 2 dp A s c 0 c' Try.underlying23 hsz (by simp)
  · obtain ⟨b, o, rfl, hb, hcs⟩ := hy h0
    have hd := hdp (by omega)
    subst hd
    have hrun := run_copy_row (P := Try.prog) w 23 23 ty 2 g off s c ⟨b, o, none⟩ ys.length c' (cellsI cur) 2 (ys.map (Value.int .i64)) Try.underlying23 hsz hg (by simp [hn])
      (fun j v hj => by
        have hjl : j < ys.length := by
          have := (List.getElem?_eq_some_iff.1 hj).1
          simpa using this
        rw [Go.WideShapes.add_plain, hcs j hjl]
        rw [List.getElem?_map, List.getElem?_eq_getElem hjl] at hj
        simp at hj
        simp [List.getD, hjl, hj]) (by simpa [cellsI] using hf) (fun v hv => by simp at hv; obtain ⟨y, _, rfl⟩ := hv; rfl)
    rw [List.length_map] at hrun
    refine ⟨_, hrun, ?_, ?_⟩
    · rw [setRow_heap w g _ _ 2 _ hg]
      simp [cellsI, splice]
    · exact ⟨rfl, rfl, rfl, by simp [World.setRow], fun i hi hne => setRow_other w g i _ (fun e => hne (by rw [e]))⟩
theorem step_copyI {w : World} {ops : Array Oper} {o : Oper} {a : Act} {K : Act → World → Prop} {Q : Exit → Act → World → Prop} {E : Prop} (hgd : o.guard = none) (d x : Operand)
    (ho : o.op = .call { callee := .builtin .copy, args := #[d, x], argTypes := #[23, 23] })
    (g off : Nat) (cur ys : List Int) (dp A : Option Addr) (s c c' : Nat) (hd : a.eval d = .slice dp s c) (hx : a.eval x = .slice A ys.length c') (hg : w.heap[g]? = some (.cells (cellsI cur) 2 (0, 0))) (hdp : 0 < s → dp = some ⟨g, off, none⟩) (hy : Ints w A ys) (hn : ys.length = s) (hf : off + ys.length ≤ cur.length)
    (h : ∀ w', w'.heap[g]? = some (.cells (cellsI (splice cur off ys)) 2 (0, 0)) → w.grownBy w' (some g) → K (a.put o.dst (goInt ys.length)) w') :
    if Region.wanted o (yielded ops a.tmps) = true then Oper.wp Try.prog o a w K Q else E := by
  have hw : Region.wanted o (yielded ops a.tmps) = true := by simp [Region.wanted, hgd]
  rw [if_pos hw]
  obtain ⟨w', hrun, h1, h2⟩ := run_copyI (ty := o.type) (c := c) (c' := c') hg hdp hy hn hf
  unfold Oper.wp execOp
  simp only [ho, resolve, invoke, builtin, Sem.run_bind, Sem.run_pure, Result.andThen_ok, List.map_toArray, List.map_cons, List.map_nil, hd, hx, hrun]
  exact h w' h1 h2
end Go.Proofs.Ythabimjmdnhomaa.Sh
