/-
  What glyph.table answers: 44 entries, each a sign and a word, by code; nothing that was there is written. No condition.
-/
import Derived.Test.YtdhpplbopciijaaDoorProg
import Derived.WalkKit
import Derived.WalkSpells
import Derived.Lib.Hide
import Derived.Deep.WholeRow
import Derived.Deep.Draws
set_option maxRecDepth 100000
namespace Go.Proofs.YtdhpplbopciijaaDoor.Gl
open Go.RowKit
set_option linter.unusedVariables false

/-- The signs and the words, by code. -/
def ents : List (Int × List UInt8) := [(0, []), (43, []), (45, []), (215, [109, 117, 108]), (247, [100, 105, 118]), (8902, [112, 111, 119]), (124, []), (8968, [109, 97, 120]), (8970, [109, 105, 110]), (61, []), (8800, [110, 101]), (60, []), (8804, [108, 101]), (62, []), (8805, [103, 101]), (8743, [97, 110, 100]), (8744, [111, 114]), (8867, [108, 101, 102, 116]), (8866, [114, 105, 103, 104, 116]), (126, []), (9076, [114, 104, 111]), (44, []), (9021, [114, 101, 118]), (8854, [102, 108, 105, 112]), (9033, [116, 117, 114, 110]), (8593, [116, 97, 107, 101]), (8595, [100, 114, 111, 112]), (9075, [105, 111, 116, 97]), (8802, [116, 97, 108, 108, 121]), (9031, [112, 114, 101, 118]), (9032, [110, 101, 120, 116]), (47, []), (9023, [100, 111, 119, 110]), (92, []), (9024, [114, 117, 110]), (9018, [110, 101, 97, 114]), (46, []), (8728, [106, 111, 116]), (9064, [115, 119, 97, 112]), (40, []), (41, []), (8592, [105, 115]), (58, []), (8900, [116, 104, 101, 110])]
def entCells (e : Int × List UInt8) : List Value := [.int .i32 e.1, .string ⟨e.2.toArray⟩]
def tabA : Array Value := (ents.flatMap entCells).toArray
def zeroA : Array Value := (List.replicate 44 [Value.int .i32 0, Value.string ByteArray.empty]).flatten.toArray
theorem zeroTab (W : World) : Sem.run Tryd.prog (zeroValue 79) W = .ok (.agg zeroA) W := by kernel_rfl
theorem sizeTab : (Tryd.prog.info? 79).map (·.size) = some tabA.size := by kernel_rfl
theorem sizeZero : zeroA.size = tabA.size := by kernel_rfl
theorem oneTab : tabA.all (·.oneCell') = true := by kernel_rfl

theorem wpList_buildTab {ops : Array Oper} {rest : List Oper} {o : Oper} {a : Act} {w : World} {Q : Exit → Act → World → Prop} (hg : o.guard = none) (parts : Array (Nat × Operand)) (ho : o.op = .build 79 parts)
    (hf : Tryd.prog.built 79 (parts.map fun (i, x) => (i, a.eval x)).toList = some tabA)
    (h : wpList Tryd.prog ops Q rest (a.put o.dst (.agg tabA)) w) : wpList Tryd.prog ops Q (o :: rest) a w :=
  wpList_build hg _ parts ho (by rw [hf]; rfl) (by rw [hf]; exact h)
theorem wpList_storeTab {ops : Array Oper} {rest : List Oper} {o : Oper} {a : Act} {w : World} {Q : Exit → Act → World → Prop} (hgd : o.guard = none) (x y : Operand) (ho : o.op = .store 79 x y)
    (hx : a.eval x = .pointer (some ⟨w.heap.size, 0, none⟩)) (hy : a.eval y = .agg tabA)
    (h : wpList Tryd.prog ops Q rest (a.put o.dst undef) (w.alloc (.cells tabA 79))) : wpList Tryd.prog ops Q (o :: rest) a (w.alloc (.cells zeroA 79)) :=
  wpList_store_row hgd _ x y ho w.heap.size tabA hx hy 79 zeroA (heap_alloc_last w _) sizeTab sizeZero oneTab (by rw [World.setRow_alloc_new]; exact h)

def tabParts : List (Nat × Value) := (ents.zipIdx.drop 1).map fun (e, i) => (i, .agg (entCells e).toArray)
theorem builtTab : Tryd.prog.built 79 tabParts = some tabA := by kernel_rfl

theorem results_tab {fn : Func} {p : Tmp} {w : World} (h : fn.results = #[.cell p 79]) (tmps : Array Value) (hp : tmps.getD p undef = .pointer (some ⟨w.heap.size, 0, none⟩)) :
    (results fn tmps).run Tryd.prog (w.alloc (.cells tabA 79)) = .ok (.agg tabA) (w.alloc (.cells tabA 79)) := by
  have hl := run_loadVar_new (P := Tryd.prog) w 79 tabA 44 73 Tryd.underlying79 sizeTab
  have hp' : tmps[p]?.getD undef = .pointer (some ⟨w.heap.size, 0, none⟩) := by simpa using hp
  simp only [results, h]
  simp [hp', asAddr, hl]
def Marked (p : Prop) : Prop := p
theorem mark44 {ops : Array Oper} {rest : List Oper} {t : TypeId} {x : Array (Nat × Operand)} {pos : String} {af : Array Edge} {a : Act} {w : World} {Q : Exit → Act → World → Prop} (h : Marked (wpList Tryd.prog ops Q (⟨some 44, .build 79 x, t, pos, af, none⟩ :: rest) a w)) : wpList Tryd.prog ops Q (⟨some 44, .build 79 x, t, pos, af, none⟩ :: rest) a w := h

set_option maxHeartbeats 4000000 in
set_option maxRecDepth 1000000 in
theorem table_any (w : World) : Calls Tryd.prog 68 #[] w fun e w' => e = .returned (.agg tabA) ∧ Below w.heap.size w w' := by
  have hz := zeroTab
  have hsz : 88 ≤ zeroA.size := by decide
  go_enter Tryd.func68, Tryd.ntmps68
  go_wp2_with (with_reducible refine mark44 ?_)
  unfold Marked
  refine wpList_buildTab rfl _ rfl ?_ ?_
  · kernel_rfl
  simp only [Act.put]
  refine wpList_storeTab rfl _ _ rfl rfl rfl ?_
  go_wp2_with fail
  exact bodyPost_ret (v := .agg tabA) (results_tab (w := w) Tryd.results68 _ rfl) rfl ⟨rfl, (Below.refl _ _).alloc (Nat.le_refl _) _⟩
end Go.Proofs.YtdhpplbopciijaaDoor.Gl
