/-
  How a struct of two functions reads as an argument and lies in a box. No condition.
-/
import Derived.Test.YtbanegjmapgkdaaDoorPrCard
import Derived.Deep.SlicePairs
set_option maxRecDepth 100000
namespace Go.Proofs.YtbanegjmapgkdaaDoor.Pr
open Go.Proofs.YtbanegjmapgkdaaDoor.Sh
open Go.Proofs.YtbanegjmapgkdaaDoor.Fd
open Go.Joins Go.ChangeShapes Go.WideShapes Go.ChangeAt Go.RowKit Go.Deep
set_option linter.unusedVariables false

theorem bx4 {t : TypeId} {w : World} {g : Nat} {x y z u : Value} (h : Bx t w g #[x, y, z, u]) : w.cell? ⟨g, 0, none⟩ = some x ∧ w.cell? ⟨g, 1, none⟩ = some y ∧ w.cell? ⟨g, 2, none⟩ = some z ∧ w.cell? ⟨g, 3, none⟩ = some u := ⟨h.c 0, h.c 1, h.c 2, h.c 3⟩
/-- Two functions and two cells in boxes. -/
def Tw4 (w W : World) (cf : Int) (sf : Bool) (cg : Int) (sg : Bool) (X Y X' Y' : Value) : Prop :=
  Bx 25 W w.heap.size #[.int .i64 cf, .bool sf, .int .i64 cg, .bool sg] ∧ Box W (w.heap.size + 1) X Y ∧ Box W (w.heap.size + 1 + 1) X' Y' ∧ Below w.heap.size w W
theorem Tw4.next {w W W' : World} {cf : Int} {sf : Bool} {cg : Int} {sg : Bool} {X Y X' Y' : Value} (h : Tw4 w W cf sf cg sg X Y X' Y') (hb : Below W.heap.size W W') : Tw4 w W' cf sf cg sg X Y X' Y' := ⟨h.1.next hb, h.2.1.next hb, h.2.2.1.next hb, below_next h.2.2.2 hb⟩
theorem tw4_start (w : World) (cf : Int) (sf : Bool) (cg : Int) (sg : Bool) (X Y X' Y' : Value) : Tw4 w (((w.alloc (.cells #[.int .i64 cf, .bool sf, .int .i64 cg, .bool sg] 25)).alloc (.cells #[X, Y] 29)).alloc (.cells #[X', Y'] 29)) cf sf cg sg X Y X' Y' := by
  have hs : ∀ (W : World) (o : Obj), (W.alloc o).heap.size = W.heap.size + 1 := fun W o => by simp
  have b2 := Box.new (w.alloc (.cells #[.int .i64 cf, .bool sf, .int .i64 cg, .bool sg] 25)) X Y
  rw [hs] at b2
  have b3 := Box.new ((w.alloc (.cells #[.int .i64 cf, .bool sf, .int .i64 cg, .bool sg] 25)).alloc (.cells #[X, Y] 29)) X' Y'
  rw [hs, hs] at b3
  exact ⟨((Bx.new 25 w _).alloc _).alloc _, b2.alloc _, b3, below_next (below_next (below_new _ _) (below_new _ _)) (below_new _ _)⟩
theorem array4 {cs : Array Value} (h : cs.size = 4) : ∃ a b c d, cs = #[a, b, c, d] := by
  obtain ⟨l⟩ := cs
  match l, h with
  | [c0, c1, c2, c3], _ => exact ⟨c0, c1, c2, c3, rfl⟩
section
variable {H : Type} {enc : TypeId × Value → H} {w : World} {v : Value} {d : DataW H} {p : List MemPlace} {r : Reach} {b0 base : Nat}
theorem two_arg (hok : Value.okWide Tryd.prog w r b0 25 v) (h : DataW.Trod enc Tryd.prog w base (fun _ => true) true 25 v d p) :
    ∃ (c : Int) (s : Bool) (x : Int) (y : Bool), v = .agg #[.int .i64 c, .bool s, .int .i64 x, .bool y] ∧ True ∧ True := by
  have ce : Tryd.prog.cellsOf 25 = 4 := by kernel_rfl
  have cf : Tryd.prog.cellsOf 23 = 2 := by kernel_rfl
  have ci : Tryd.prog.cellsOf 3 = 1 := by kernel_rfl
  have cb : Tryd.prog.cellsOf 4 = 1 := by kernel_rfl
  obtain ⟨cs, rfl, hsz⟩ := okWide_struct Tryd.underlying25 hok
  obtain ⟨c0, c1, c2, c3, rfl⟩ := array4 (hsz.trans ce)
  obtain ⟨fuel, hf⟩ := h
  obtain ⟨y0, y1, n, hx, _, h0, h1⟩ := trod_struct2 Tryd.underlying25 hf
  simp only [Value.cells, cf, List.drop, List.take] at h0 h1
  obtain ⟨z0, z1, m, hz, _, k0, k1⟩ := trod_struct2 Tryd.underlying23 h0
  obtain ⟨u0, u1, m', hu, _, j0, j1⟩ := trod_struct2 Tryd.underlying23 h1
  simp only [cb, ci, List.drop, List.take] at k0 k1 j0 j1
  obtain ⟨a0, e0, _, w0⟩ := DataW.trod_int Tryd.underlying3 k0
  obtain ⟨a1, e1, _⟩ := DataW.trod_bool Tryd.underlying4 k1
  obtain ⟨a2, e2, _, w2⟩ := DataW.trod_int Tryd.underlying3 j0
  obtain ⟨a3, e3, _⟩ := DataW.trod_bool Tryd.underlying4 j1
  simp at e0 e1 e2 e3
  subst e0 e1 e2 e3
  exact ⟨a0, a1, a2, a3, rfl, trivial, trivial⟩
end
end Go.Proofs.YtbanegjmapgkdaaDoor.Pr
