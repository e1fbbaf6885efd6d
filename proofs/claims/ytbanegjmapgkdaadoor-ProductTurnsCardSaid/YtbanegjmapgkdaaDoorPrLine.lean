/-
  What product.along and product.meet answer: lines of 64 numbers by value; nothing that was there is written. Conditions: the numbers of the line are there; the table of traits holds what its text lays.
-/
import Derived.Test.YtbanegjmapgkdaaDoorFdLine
import Derived.Deep.WholeRow
set_option maxRecDepth 100000
namespace Go.Proofs.YtbanegjmapgkdaaDoor.Pr
open Go.Proofs.YtbanegjmapgkdaaDoor.Sh
open Go.Proofs.YtbanegjmapgkdaaDoor.Fd
open Go.RowKit
set_option linter.unusedVariables false

/-- Block g is just this line. -/
def LineAt (w : World) (g : Nat) (xs : List Int) : Prop := w.heap[g]? = some (.cells (cellsI xs) 68 (0, 0))
def noughts : List Int := List.replicate 64 0
theorem line_zero : (∀ w, (zeroValue 68).run Tryd.prog w = .ok (.agg (cellsI noughts)) w) ∧ (Tryd.prog.info? 68).map (·.size) = some 64 := zero_of_info (by kernel_rfl)
theorem line_und : Tryd.prog.underlying 68 = some (.array 64 2) := by kernel_rfl
theorem cellsI_size (xs : List Int) : (cellsI xs).size = xs.length := by simp [cellsI]
theorem cellsI_one (xs : List Int) : (cellsI xs).all (·.oneCell') = true := by
  simp [cellsI, Value.oneCell']
section
variable {w w' : World} {g : Nat} {xs : List Int}
theorem LineAt.lt (h : LineAt w g xs) : g < w.heap.size := by
  rcases Nat.lt_or_ge g w.heap.size with hlt | hge
  · exact hlt
  · unfold LineAt at h; rw [Array.getElem?_eq_none hge] at h; cases h
theorem LineAt.new (w : World) (xs : List Int) : LineAt (w.alloc (.cells (cellsI xs) 68)) w.heap.size xs := heap_alloc_new w _
theorem LineAt.cell (h : LineAt w g xs) {i : Nat} (hi : i < xs.length) : w.cell? ⟨g, i, none⟩ = some (.int .i64 (xs.getD i 0)) := by
  rw [cell_of_row w g i _ _ _ h]; simp [cellsI, List.getD, hi]
theorem LineAt.frozen (h : LineAt w g xs) (i : Nat) : w.frozen? ⟨g, i, none⟩ = false := by unfold LineAt at h; simp [World.frozen?, h]
theorem LineAt.drewN (h : LineAt w g xs) (n : Nat) : LineAt (w.drewN n) g xs := h
theorem LineAt.drew (h : LineAt w g xs) : LineAt w.drew g xs := h
theorem LineAt.alloc (h : LineAt w g xs) (o : Obj) : LineAt (w.alloc o) g xs := (Below.heap_alloc w o g h.lt).trans h
theorem LineAt.next (h : LineAt w g xs) (hb : Below w.heap.size w w') : LineAt w' g xs := (hb.block g h.lt).trans h
theorem LineAt.far (h : LineAt w g xs) {p : Addr} (hp : g ≠ p.block) (u : Value) : LineAt (w.setCell p u) g xs := (Below.heap_setCell w p u g hp).trans h
theorem LineAt.set_ (h : LineAt w g xs) (i : Nat) (x : Int) : LineAt (w.setCell ⟨g, i, none⟩ (.int .i64 x)) g (xs.set i x) := by
  unfold LineAt at h ⊢
  simp [World.setCell, Array.getElem?_modify, h, cellsI, List.map_set]
theorem LineAt.load (h : LineAt w g xs) (hn : xs.length = 64) : (Instr.loadAt 68 (.pointer (some ⟨g, 0, none⟩))).run Tryd.prog w = .ok (.agg (cellsI xs)) w := by
  simp only [Instr.loadAt, Instr.sureAddr, Sem.run_bind, Sem.run_pure, Result.andThen]
  exact run_loadVar_row w g _ _ _ _ _ h line_und rfl (by rw [cellsI_size, hn]; exact line_zero.2)
theorem LineAt.cellsFrom (h : LineAt w g xs) (hn : xs.length = 64) : (loadCellsFrom ⟨g, 0, none⟩ 0 64 #[]).run Tryd.prog w = .ok (cellsI xs) w := by
  have := run_loadCells_list (P := Tryd.prog) w ⟨g, 0, none⟩ (cellsI xs).toList (fun j v hv => by
    have hadd : (⟨g, 0, none⟩ : Addr).add j = ⟨g, j, none⟩ := by unfold Addr.add; split <;> simp_all
    rw [hadd, cell_of_row w g j _ _ _ h]
    simpa using hv)
  have hl : (cellsI xs).toList.length = 64 := by simp [cellsI, hn]
  rw [hl] at this
  simpa [loadCells] using this
theorem LineAt.storeCells {ys : List Int} (h : LineAt w g xs) (hn : xs.length = 64) (hy : ys.length = 64) : (Go.storeCells ⟨g, 0, none⟩ (cellsI ys).toList 0).run Tryd.prog w = .ok () (w.setRow g (cellsI ys)) := by
  have := run_storeVar_row (P := Tryd.prog) w g _ 68 _ (cellsI ys) h (by rw [cellsI_size, hy]; exact line_zero.2) (by rw [cellsI_size, cellsI_size, hn, hy]) (cellsI_one _)
  have hs : (cellsI ys).size = 64 := by rw [cellsI_size, hy]
  simpa [storeVar, Value.cells, hs] using this
theorem LineAt.loadVar (h : LineAt w g xs) (hn : xs.length = 64) : (Go.loadVar 68 ⟨g, 0, none⟩).run Tryd.prog w = .ok (.agg (cellsI xs)) w :=
  run_loadVar_row w g _ _ _ _ _ h line_und rfl (by rw [cellsI_size, hn]; exact line_zero.2)
theorem LineAt.store {ys : List Int} (h : LineAt w g xs) (hn : xs.length = 64) (hy : ys.length = 64) : (Instr.storeAt 68 (.pointer (some ⟨g, 0, none⟩)) (.agg (cellsI ys))).run Tryd.prog w = .ok () (w.setRow g (cellsI ys)) := by
  simp only [Instr.storeAt, Instr.sureAddr, Sem.run_bind, Sem.run_pure, Result.andThen]
  exact run_storeVar_row w g _ _ _ _ h (by rw [cellsI_size, hy]; exact line_zero.2) (by rw [cellsI_size, cellsI_size, hn, hy]) (cellsI_one _)
theorem LineAt.stored (h : LineAt w g xs) (ys : List Int) : LineAt (w.setRow g (cellsI ys)) g ys := by
  unfold LineAt at h ⊢
  simp [World.setRow, Array.getElem?_modify, h]
end
theorem below_setRow {B : Nat} {w w' : World} (hb : Below B w w') {g : Nat} (hg : B ≤ g) (ys : Array Value) : Below B w (w'.setRow g ys) :=
  hb.trans ⟨rfl, rfl, rfl, by simp [World.setRow], fun k hk => by
    show (w'.heap.modify g _)[k]? = w'.heap[k]?
    rw [Array.getElem?_modify, if_neg (by omega)]⟩
theorem results_cell1 {fn : Func} {p : Tmp} {ty : TypeId} (h : fn.results = #[.cell p ty]) (tmps : Array Value) (P : Program) (w : World) :
    (results fn tmps).run P w = ((asAddr (tmps.getD p undef)).run P w).andThen fun a w₁ => (Go.loadVar ty a).run P w₁ := by
  simp only [results, h]
  simp [Sem.run_bind, Result.andThen]
theorem results_ptr {fn : Func} {p : Tmp} {ty : TypeId} {tmps : Array Value} {P : Program} {w : World} {a : Addr} {v : Value} (h : fn.results = #[.cell p ty]) (ht : tmps.getD p undef = .pointer (some a)) (hl : (Go.loadVar ty a).run P w = .ok v w) : (results fn tmps).run P w = .ok v w := by
  rw [results_cell1 h, ht]
  simp [asAddr, Result.andThen, hl]
/-- A line's numbers: so many, noughts behind. -/
def padL (l : List Int) : List Int := (List.range 64).map fun i => l.getD i 0
theorem padL_len (l : List Int) : (padL l).length = 64 := by simp [padL]
theorem padL_fill {F : Nat → Int} {l : List Int} {n : Nat} (hn : n ≤ 64) (h : l = (List.range n).map F) : padL l = fillK F 64 n := by
  apply List.map_congr_left
  intro i hi
  subst h
  by_cases hin : i < n <;> simp [List.getD, hin]
theorem noughts_len : noughts.length = 64 := by simp [noughts]
/-- What a function makes of two lines, so many places. -/
def mixK (F : Nat → Int) (xs : List Int) (k : Nat) : List Int := (List.range 64).map fun i => if i < k then F i else xs.getD i 0
theorem mixK_length (F : Nat → Int) (xs : List Int) (k : Nat) : (mixK F xs k).length = 64 := by simp [mixK]
theorem mixK_0 (F : Nat → Int) {xs : List Int} (h : xs.length = 64) : mixK F xs 0 = xs := by
  apply List.ext_getElem
  · simp [mixK, h]
  · intro i h1 h2
    simp [mixK, List.getD, h2]
theorem mixK_at (F : Nat → Int) (xs : List Int) {k : Nat} (h : k < 64) : (mixK F xs k).getD k 0 = xs.getD k 0 := by
  simp [mixK, List.getD, h]
theorem mixK_succ (F : Nat → Int) (xs : List Int) (k : Nat) (h : k < 64) : (mixK F xs k).set k (F k) = mixK F xs (k + 1) := by
  apply List.ext_getElem
  · simp [mixK]
  · intro i h1 h2
    rw [List.getElem_set]
    simp only [mixK, List.getElem_map, List.getElem_range]
    by_cases hik : k = i
    · subst hik; simp
    · rw [if_neg hik]
      by_cases hlt : i < k
      · rw [if_pos hlt, if_pos (by omega)]
      · rw [if_neg hlt, if_neg (by omega)]
def meetL (c : Int) (s : Bool) (xs ys : List Int) (n : Nat) : List Int := mixK (fun i => Sc.doI c s (xs.getD i 0) (ys.getD i 0)) xs n
attribute [-simp] Tryd.isAgg68 Tryd.sizeOf68
set_option maxHeartbeats 2000000 in
theorem along_any (A B : Option Addr) (c c2 : Nat) (d v : List Int) (f st n : Nat) (w : World) (hn : n ≤ 64) (hf : f ≤ 100000) (ht : st ≤ 1000) (hd : 0 < d.length) (hd2 : d.length ≤ 100) (hk : ∀ k, k < n → f + k * st < v.length) (hv : v.length ≤ 1000) (iv : Ints w B v) :
    Calls Tryd.prog 38 #[.agg #[.slice A d.length c, .slice B v.length c2], .int .i64 (f : Int), .int .i64 (st : Int), .int .i64 (n : Int)] w fun e w' => e = .returned (.agg (cellsI (padL (lineL v f st n)))) ∧ Below w.heap.size w w' := by
  have hz := line_zero.1
  have H1 := Lib.hid (Box.new w (.slice A d.length c) (.slice B v.length c2))
  have hb1 := below_new w (.cells #[.slice A d.length c, .slice B v.length c2] 29)
  have hb2 := below_next hb1 (below_new _ (.cells (cellsI noughts) 68))
  have L := Lib.hid (below_next hb2 (below_new _ (.cells (cellsI noughts) 68)))
  have B1 := Lib.hid ((H1.out.alloc (.cells (cellsI noughts) 68)).alloc (.cells (cellsI noughts) 68))
  have N1 := Lib.hid ((LineAt.new (w.alloc (.cells #[.slice A d.length c, .slice B v.length c2] 29)) noughts).alloc (.cells (cellsI noughts) 68))
  have N2 := Lib.hid (LineAt.new ((w.alloc (.cells #[.slice A d.length c, .slice B v.length c2] 29)).alloc (.cells (cellsI noughts) 68)) noughts)
  have hs : ∀ (W : World) (o : Obj), (W.alloc o).heap.size = W.heap.size + 1 := fun W o => by simp
  rw [hs] at N1
  rw [hs, hs] at N2
  have IV := Lib.hid iv
  have HK := Lib.hid hk
  clear iv hk hb1 hb2 H1 hs
  obtain ⟨F, hF⟩ : ∃ F : Nat → Int, (fun k => v.getD (f + k * st) 0) = F := ⟨_, rfl⟩
  have HL := Lib.hid (padL_fill (l := lineL v f st n) hn (show lineL v f st n = (List.range n).map F by unfold lineL; rw [hF]))
  rw [HL.out]
  have HF := Lib.hid hF
  clear hF
  go_enter Tryd.func38, Tryd.ntmps38
  go_wp2
  go_loopw [16] (fun j wr => ∃ k : Nat, k ≤ n ∧ j = .int .i64 (k : Int) ∧ LineAt wr (w.heap.size + 1 + 1) (fillK F 64 k) ∧ LineAt wr (w.heap.size + 1) noughts ∧ Box wr w.heap.size (.slice A d.length c) (.slice B v.length c2) ∧ Below w.heap.size w wr) (fun j _ => n - (intOf j).toNat)
  case atStart => exact ⟨0, Nat.zero_le _, rfl, by rw [fillK_0]; exact N2.out, N1.out, B1.out, L.out⟩
  case round =>
    obtain ⟨k, hk, rfl, hOw, hN, hBx, hB⟩ := hrel
    have OW := Lib.hid hOw
    have LB := Lib.hid hB
    have NN := Lib.hid hN
    have BX := Lib.hid hBx
    clear hOw hB hN hBx
    by_cases hlt : k < n
    · have hkv := HK.out k hlt
      obtain ⟨b, off, rfl, hb, hcs⟩ := IV.out.below LB.out (by omega)
      obtain ⟨q, hq⟩ : ∃ q : Nat, f + k * st = q := ⟨_, rfl⟩
      have hqi : (f : Int) + (k : Int) * (st : Int) = (q : Int) := by rw [← hq]; simp
      have hkm : 0 ≤ (k : Int) * (st : Int) ∧ (k : Int) * (st : Int) ≤ 64000 := by
        refine ⟨Int.mul_nonneg (by omega) (by omega), Int.le_trans (Int.mul_le_mul (show (k : Int) ≤ 64 by omega) (show (st : Int) ≤ 1000 by omega) (by omega) (by omega)) (by omega)⟩
      rw [hq] at hkv
      have hck := hcs q hkv
      have HKK := Lib.hid (show v.getD q 0 = F k by rw [← HF.out, ← hq])
      rw [HKK.out] at hck
      have i0 : (0 : Int) ≤ (q : Int) := by omega
      have i1 : (q : Int) < (v.length : Int) := by omega
      have j0 : (0 : Int) ≤ (k : Int) := by omega
      have j1 : (k : Int) < 64 := by omega
      have q0 := OW.out.cell (i := k) (by rw [fillK_length]; omega)
      have q1 := OW.out.frozen k
      obtain ⟨b0, b1, b2, b3⟩ := BX.out.all
      have HS := Lib.hid (fillK_succ F 64 k (by omega))
      clear hcs hq hz
      go_wp2
      go_roundw
      case rel => exact ⟨k + 1, by omega, by go_num, by rw [← HS.out]; exact OW.out.set_ k _, NN.out.far (by simp) _, BX.out.far (by simp; omega) _, LB.out.setCell (by simp; omega) _⟩
      case measure => simp [intOf]; omega
    · obtain rfl : k = n := by omega
      clear hz
      have hlc := OW.out.cellsFrom (fillK_length _ _ _)
      go_wp2
      simp only [Tryd.isAgg68, Tryd.sizeOf68, Result.andThen, ↓reduceIte, hlc]
      rw [Oper.upon_value]
      have hsc := NN.out.storeCells (ys := fillK F 64 k) noughts_len (fillK_length _ _ _)
      have hsz : (cellsI (fillK F 64 k)).size = 64 := by rw [cellsI_size, fillK_length]
      go_wp2
      simp only [Tryd.sizeOf68, Result.andThen, ↓reduceIte, hsc]
      rw [Oper.upon_skip]
      go_wp2
      have hld := (NN.out.stored (fillK F 64 k)).loadVar (fillK_length _ _ _)
      refine bodyPost_ret (v := .agg (cellsI (fillK F 64 k))) (results_ptr rfl rfl hld) rfl ?_
      · exact ⟨rfl, below_setRow LB.out (Nat.le_succ _) _⟩
set_option maxHeartbeats 2000000 in
theorem along_0 (A B : Option Addr) (c c2 : Nat) (v : List Int) (f st n : Nat) (w : World) (hn : n ≤ 64) (hk : 0 < v.length) (hv : v.length ≤ 1000) (iv : Ints w B v) :
    Calls Tryd.prog 38 #[.agg #[.slice A 0 c, .slice B v.length c2], .int .i64 (f : Int), .int .i64 (st : Int), .int .i64 (n : Int)] w fun e w' => e = .returned (.agg (cellsI (padL (lineL v 0 0 n)))) ∧ Below w.heap.size w w' := by
  have hz := line_zero.1
  have H1 := Lib.hid (Box.new w (.slice A 0 c) (.slice B v.length c2))
  have hb1 := below_new w (.cells #[.slice A 0 c, .slice B v.length c2] 29)
  have hb2 := below_next hb1 (below_new _ (.cells (cellsI noughts) 68))
  have L := Lib.hid (below_next hb2 (below_new _ (.cells (cellsI noughts) 68)))
  have B1 := Lib.hid ((H1.out.alloc (.cells (cellsI noughts) 68)).alloc (.cells (cellsI noughts) 68))
  have N1 := Lib.hid ((LineAt.new (w.alloc (.cells #[.slice A 0 c, .slice B v.length c2] 29)) noughts).alloc (.cells (cellsI noughts) 68))
  have N2 := Lib.hid (LineAt.new ((w.alloc (.cells #[.slice A 0 c, .slice B v.length c2] 29)).alloc (.cells (cellsI noughts) 68)) noughts)
  have hs : ∀ (W : World) (o : Obj), (W.alloc o).heap.size = W.heap.size + 1 := fun W o => by simp
  rw [hs] at N1
  rw [hs, hs] at N2
  have IV := Lib.hid iv
  have HK := Lib.hid hk
  clear iv hk hb1 hb2 H1 hs
  obtain ⟨F, hF⟩ : ∃ F : Nat → Int, (fun k => v.getD (0 + k * 0) 0) = F := ⟨_, rfl⟩
  have HL := Lib.hid (padL_fill (l := lineL v 0 0 n) hn (show lineL v 0 0 n = (List.range n).map F by unfold lineL; rw [hF]))
  rw [HL.out]
  have HF := Lib.hid hF
  clear hF
  go_enter Tryd.func38, Tryd.ntmps38
  go_wp2
  go_loopw [16] (fun j wr => ∃ k : Nat, k ≤ n ∧ j = .int .i64 (k : Int) ∧ LineAt wr (w.heap.size + 1 + 1) (fillK F 64 k) ∧ LineAt wr (w.heap.size + 1) noughts ∧ Box wr w.heap.size (.slice A 0 c) (.slice B v.length c2) ∧ Below w.heap.size w wr) (fun j _ => n - (intOf j).toNat)
  case atStart => exact ⟨0, Nat.zero_le _, rfl, by rw [fillK_0]; exact N2.out, N1.out, B1.out, L.out⟩
  case round =>
    obtain ⟨k, hk, rfl, hOw, hN, hBx, hB⟩ := hrel
    have OW := Lib.hid hOw
    have LB := Lib.hid hB
    have NN := Lib.hid hN
    have BX := Lib.hid hBx
    clear hOw hB hN hBx
    by_cases hlt : k < n
    · have hkv := HK.out
      obtain ⟨b, off, rfl, hb, hcs⟩ := IV.out.below LB.out HK.out
      have hkm : (k : Int) * 0 = 0 := Int.mul_zero _
      have hck : wr.cell? ⟨b, off, none⟩ = some (.int .i64 (v.getD 0 0)) := hcs 0 HK.out
      have HKK := Lib.hid (show v.getD 0 0 = F k by rw [← HF.out]; simp)
      rw [HKK.out] at hck
      have i1 : (0 : Int) < (v.length : Int) := by omega
      have j0 : (0 : Int) ≤ (k : Int) := by omega
      have j1 : (k : Int) < 64 := by omega
      have q0 := OW.out.cell (i := k) (by rw [fillK_length]; omega)
      have q1 := OW.out.frozen k
      obtain ⟨b0, b1, b2, b3⟩ := BX.out.all
      have HS := Lib.hid (fillK_succ F 64 k (by omega))
      clear hcs hz
      go_wp2
      go_roundw
      case rel => exact ⟨k + 1, by omega, by go_num, by rw [← HS.out]; exact OW.out.set_ k _, NN.out.far (by simp) _, BX.out.far (by simp; omega) _, LB.out.setCell (by simp; omega) _⟩
      case measure => simp [intOf]; omega
    · obtain rfl : k = n := by omega
      clear hz
      have hlc := OW.out.cellsFrom (fillK_length _ _ _)
      go_wp2
      simp only [Tryd.isAgg68, Tryd.sizeOf68, Result.andThen, ↓reduceIte, hlc]
      rw [Oper.upon_value]
      have hsc := NN.out.storeCells (ys := fillK F 64 k) noughts_len (fillK_length _ _ _)
      have hsz : (cellsI (fillK F 64 k)).size = 64 := by rw [cellsI_size, fillK_length]
      go_wp2
      simp only [Tryd.sizeOf68, Result.andThen, ↓reduceIte, hsc]
      rw [Oper.upon_skip]
      go_wp2
      have hld := (NN.out.stored (fillK F 64 k)).loadVar (fillK_length _ _ _)
      refine bodyPost_ret (v := .agg (cellsI (fillK F 64 k))) (results_ptr rfl rfl hld) rfl ?_
      · exact ⟨rfl, below_setRow LB.out (Nat.le_succ _) _⟩
set_option maxHeartbeats 4000000 in
theorem meet_any (c : Int) (s : Bool) (xs ys : List Int) (n : Nat) (w : World) (hT : Sc.Tab w) (hn : n ≤ 64) (hx : xs.length = 64) (hy : ys.length = 64) (rx : AllR xs) (ry : AllR ys) :
    Calls Tryd.prog 37 #[.agg #[.int .i64 c, .bool s], .agg (cellsI xs), .agg (cellsI ys), .int .i64 (n : Int)] w fun e w' => e = .returned (.agg (cellsI (meetL c s xs ys n))) ∧ Below w.heap.size w w' := by
  have hz := line_zero.1
  have hs : ∀ (W : World) (o : Obj), (W.alloc o).heap.size = W.heap.size + 1 := fun W o => by simp
  have L := Lib.hid (below_next (below_next (below_next (below_new w (.cells #[.int .i64 c, .bool s] 23)) (below_new _ (.cells (cellsI xs) 68))) (below_new _ (.cells (cellsI ys) 68))) (below_new _ (.cells (cellsI noughts) 68)))
  have HT0 := Lib.hid hT
  have B1 := Lib.hid ((((Bx.new 23 w #[.int .i64 c, .bool s]).alloc (.cells (cellsI xs) 68)).alloc (.cells (cellsI ys) 68)).alloc (.cells (cellsI noughts) 68))
  have N1 := Lib.hid (((LineAt.new (w.alloc (.cells #[.int .i64 c, .bool s] 23)) xs).alloc (.cells (cellsI ys) 68)).alloc (.cells (cellsI noughts) 68))
  have N2 := Lib.hid ((LineAt.new ((w.alloc (.cells #[.int .i64 c, .bool s] 23)).alloc (.cells (cellsI xs) 68)) ys).alloc (.cells (cellsI noughts) 68))
  have N3 := Lib.hid (LineAt.new (((w.alloc (.cells #[.int .i64 c, .bool s] 23)).alloc (.cells (cellsI xs) 68)).alloc (.cells (cellsI ys) 68)) noughts)
  rw [hs] at N1
  rw [hs, hs] at N2
  rw [hs, hs, hs] at N3
  have HX := Lib.hid hx
  have HY := Lib.hid hy
  have RX := Lib.hid rx
  have RY := Lib.hid ry
  obtain ⟨F, hF⟩ : ∃ F : Nat → Int, (fun i => Sc.doI c s (xs.getD i 0) (ys.getD i 0)) = F := ⟨_, rfl⟩
  have HM := Lib.hid (show meetL c s xs ys n = mixK F xs n by unfold meetL; rw [hF])
  rw [HM.out]
  have HF := Lib.hid hF
  clear hF hT hs hx hy rx ry
  go_enter Tryd.func37, Tryd.ntmps37
  go_wp2
  go_loopw [11] (fun j wr => ∃ k : Nat, k ≤ n ∧ j = .int .i64 (k : Int) ∧ LineAt wr (w.heap.size + 1) (mixK F xs k) ∧ LineAt wr (w.heap.size + 1 + 1) ys ∧ LineAt wr (w.heap.size + 1 + 1 + 1) noughts ∧ Bx 23 wr w.heap.size #[.int .i64 c, .bool s] ∧ Below w.heap.size w wr) (fun j _ => n - (intOf j).toNat)
  case atStart => exact ⟨0, Nat.zero_le _, rfl, by rw [mixK_0 F HX.out]; exact N1.out, N2.out, N3.out, B1.out, L.out⟩
  case round =>
    obtain ⟨k, hk, rfl, hOw, hY, hN, hBx, hB⟩ := hrel
    have OW := Lib.hid hOw
    have LB := Lib.hid hB
    have YW := Lib.hid hY
    have NN := Lib.hid hN
    have BX := Lib.hid hBx
    have TT := Lib.hid (HT0.out.below LB.out)
    clear hOw hB hN hBx hY
    by_cases hlt : k < n
    · have j0 : (0 : Int) ≤ (k : Int) := by omega
      have j1 : (k : Int) < 64 := by omega
      have hk64 : k < 64 := by omega
      obtain ⟨x, hx⟩ : ∃ x, xs.getD k 0 = x := ⟨_, rfl⟩
      obtain ⟨y, hy⟩ : ∃ y, ys.getD k 0 = y := ⟨_, rfl⟩
      have q0 := OW.out.cell (i := k) (by rw [mixK_length]; omega)
      rw [mixK_at F xs hk64, hx] at q0
      have q1 := OW.out.frozen k
      have q2 := YW.out.cell (i := k) (by rw [HY.out]; omega)
      rw [hy] at q2
      have HFK := Lib.hid (show Sc.doI c s x y = F k by rw [← HF.out, ← hx, ← hy])
      have DO := Lib.hid (fun W hW => Sc.do_any c s x y W hW (hx ▸ RX.out.at k) (hy ▸ RY.out.at k))
      rw [HFK.out] at DO
      have HS := Lib.hid (mixK_succ F xs k hk64)
      obtain ⟨b0, b1⟩ := bx2 BX.out
      clear hz hx hy
      have TD := Lib.hid (TT.out.below ((Below.refl wr.heap.size wr).drew))
      have L5 := Lib.hid (LB.out.drew)
      go_upto_region 4 with (fail)
      go_region_with
        (first
          | (go_at_call 56; (with_reducible refine (DO.out _ TD.out).mono ?_); rintro r w3 ⟨rfl, hb⟩; have HB3 := Lib.hid hb; have O3 := Lib.hid (OW.out.drew.next hb); have f3 := O3.out.frozen k; have x3 := Fd.keepC hb q0; clear hb))
      all_goals
        go_wp2
        go_roundw
        case rel => exact ⟨k + 1, by omega, by go_num, by rw [← HS.out]; exact O3.out.set_ k _, (YW.out.drew.next HB3.out).far (by simp <;> omega) _, (NN.out.drew.next HB3.out).far (by simp <;> omega) _, (BX.out.drew.next HB3.out).far (by simp <;> omega) _, (below_next L5.out HB3.out).setCell (by simp <;> omega) _⟩
        case measure => simp [intOf]; omega
    · obtain rfl : k = n := by omega
      clear hz
      have hlc := OW.out.cellsFrom (mixK_length _ _ _)
      go_wp2
      simp only [Tryd.isAgg68, Tryd.sizeOf68, Result.andThen, ↓reduceIte, hlc]
      rw [Oper.upon_value]
      have hsc := NN.out.storeCells (ys := mixK F xs k) noughts_len (mixK_length _ _ _)
      have hsz : (cellsI (mixK F xs k)).size = 64 := by rw [cellsI_size, mixK_length]
      go_wp2
      simp only [Tryd.sizeOf68, Result.andThen, ↓reduceIte, hsc]
      rw [Oper.upon_skip]
      go_wp2
      have hld := (NN.out.stored (mixK F xs k)).loadVar (mixK_length _ _ _)
      refine bodyPost_ret (v := .agg (cellsI (mixK F xs k))) (results_ptr rfl rfl hld) rfl ?_
      exact ⟨rfl, below_setRow LB.out (by omega) _⟩
end Go.Proofs.YtbanegjmapgkdaaDoor.Pr
