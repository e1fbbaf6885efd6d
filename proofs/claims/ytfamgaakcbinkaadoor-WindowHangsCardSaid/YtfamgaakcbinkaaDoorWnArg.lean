/-
  How the arguments of layer 15's laws read: a window's terms, rows of numbers, pairs of numbers; the world of their cards. No condition.
-/
import Derived.Test.YtfamgaakcbinkaaDoorCards
import Derived.Test.YtfamgaakcbinkaaDoorTie
import Derived.Test.YtfamgaakcbinkaaDoorWnPlays
import Derived.Test.YtfamgaakcbinkaaDoorPkC
import Derived.Deep.SlicePairs
import Derived.Deep.DeepHandedRow
import Derived.Deep.DeepWitnessRowRef
import Derived.Lib.LaidIn
import Derived.SevenTiedPlain
set_option maxRecDepth 100000
namespace Go.Proofs.YtfamgaakcbinkaaDoor.Wn
open Go.Proofs.YtfamgaakcbinkaaDoor.Sh Go.Proofs.YtfamgaakcbinkaaDoor.St Go.Proofs.YtfamgaakcbinkaaDoor.Fd
open Go.Joins Go.ChangeShapes Go.WideShapes Go.ChangeAt Go.RowKit Go.Deep
set_option linter.unusedVariables false

theorem tab_met {W : World} (hL : laidMetH Tryd.prog Rows.windowPlaysRow.laid W) : Sc.Tab W := by
  have h := Lib.laidMet.reads hL (.head _)
  rw [Sc.laidEq] at h
  exact Sc.tab_of h
theorem tab_lt {w : World} (h : Sc.Tab w) : 0 < w.heap.size := by
  have h0 := h 0 (by omega) 0 (by omega)
  have hs : (w.cell? ⟨0, 6 * 0 + 0, none⟩).isSome := by rw [h0]; decide
  obtain ⟨v, hv⟩ := Option.isSome_iff_exists.1 hs
  exact World.block_lt_of_cell? w _ hv
/-- A world for the witness: the settled one, the table holding what its initialiser lays. -/
noncomputable def laidWorld (os : Os) : World :=
  let w0 := World.holding Tryd.prog os ⟨#[], #[], []⟩
  { w0 with heap := w0.heap.modify 0 fun
    | .cells _ t frozen => .cells (Sc.trL.flatMap Sc.Tr.vals).toArray t frozen
    | o => o }
theorem laid_met (os : Os) (args : Array Value) : laidMet Tryd.prog Rows.windowPlaysRow.laid ((laidWorld os).forCall (fun _ _ => 0) ⟨#[], args, []⟩).memory :=
  (LaidIn.of_run (l := Rows.windowPlaysRow.laid) [0] 8 (by kernel_rfl) (by kernel_rfl) (by kernel_rfl) (by kernel_rfl)).met
theorem inR_of {n : Int} (h : (Lit.int .i64 n).wf = true) : Sc.InR n := by
  simp only [Lit.wf, IntKind.min, IntKind.max, IntKind.signed, IntKind.bits, Bool.and_eq_true, decide_eq_true_eq, if_true] at h
  unfold Sc.InR
  omega
theorem allR_of {l : List Int} (h : WfL l) : AllR l := fun x hx => inR_of (h x hx)
section
variable {H : Type} {enc : TypeId × Value → H} {w : World} {v : Value} {d : DataW H} {p : List MemPlace} {r : Reach} {b0 base : Nat}
theorem rows_arg (hok : Value.okWide Tryd.prog w r b0 46 v) (h : DataW.Trod enc Tryd.prog w base (fun _ => true) true 46 v d p) :
    ∃ (A : Option Addr) (c : Nat) (rs : List (List Int)), v = .slice A rs.length c ∧ RwsIn (fun b => b < w.heap.size) w (.slice A rs.length c) rs ∧ (∀ q ∈ rs, WfL q ∧ q.length ≤ maxLen) ∧ rs.length ≤ maxLen := by
  obtain ⟨a, len, cap, rfl⟩ := okWide_slice Tryd.underlying46 hok
  obtain ⟨fuel, hf⟩ := h
  rcases open_slice Tryd.underlying46 hf with ⟨hcs, _⟩ | ⟨x, l, c, m, n, D, Pl, hcs, _, hl, hm, hmm, _, hx⟩
  · simp [Value.cells] at hcs
    obtain ⟨rfl, rfl, rfl⟩ := hcs
    exact ⟨none, 0, [], rfl, RwsIn.none _ _, fun q hq => by simp at hq, by simp⟩
  · simp [Value.cells] at hcs
    obtain ⟨rfl, rfl, rfl⟩ := hcs
    have hlm : len ≤ m := by rw [hmm]; split <;> omega
    have ce : Tryd.prog.cellsOf 27 = 1 := by kernel_rfl
    have each : ∀ i, i < len → ∃ q : List Int, ∃ B cB, w.cell? (x.add i) = some (.slice B q.length cB) ∧ IntsC w B cB q := by
      intro i hi
      obtain ⟨cs', h1, h2⟩ := hx i (by omega)
      rw [ce] at h1
      obtain ⟨_, hlen, hcell⟩ := World.cells?_some h1
      match cs', hlen with
      | [v0], _ =>
        obtain ⟨B, cB, row, rfl, hrow⟩ := row_of Tryd.underlying27 Tryd.underlying2 (by kernel_rfl) h2
        have e0 := hcell 0 (by omega)
        rw [add_add] at e0
        exact ⟨row, B, cB, by simpa using e0, hrow⟩
    obtain ⟨q, hq⟩ := choose_lt each
    have hL : ((List.range len).map q).length = len := by simp
    refine ⟨some x, cap, (List.range len).map q, by simp, ?_, fun r hr => ?_, by simp; omega⟩
    · refine ⟨some x, cap, (List.range len).map fun i => (w.cell? (x.add i)).getD default, by simp, by rw [hL]; exact hl, hm, by simp, fun hp => ?_, fun t r hr => ?_⟩
      · have hp' : 0 < len := by simpa using hp
        obtain ⟨B, cB, h0, _⟩ := hq 0 hp'
        obtain ⟨bb, off, spot⟩ := x
        have hspot : spot = none := by simpa [Addr.add] using World.cell?_spot h0
        subst hspot
        have hlt := World.block_lt_of_cell? w ⟨bb, off, none⟩ (by simpa [Addr.add] using h0)
        refine ⟨bb, off, rfl, hlt, hlt, fun j u hu => ?_⟩
        have hj : j < len := by have := (List.getElem?_eq_some_iff.1 hu).1; simpa using this
        rw [List.getElem?_map, List.getElem?_range hj] at hu
        simp only [Option.map_some, Option.some.injEq] at hu
        obtain ⟨B, cB, h1, _⟩ := hq j hj
        rw [h1] at hu
        simp only [Option.getD_some] at hu
        subst hu
        rw [Go.WideShapes.add_plain] at h1
        exact h1
      · have ht : t < len := by have := (List.getElem?_eq_some_iff.1 hr).1; simpa using this
        rw [List.getElem?_map, List.getElem?_range ht] at hr
        simp only [Option.map_some, Option.some.injEq] at hr
        subst hr
        obtain ⟨B, cB, h1, h2⟩ := hq t ht
        exact ⟨B, cB, by rw [List.getElem?_map, List.getElem?_range ht]; simp [h1], h2.2.1, h2.2.2.1, Ints.sints h2.1 fun b off _ hb => hb⟩
    · obtain ⟨i, hi, rfl⟩ := List.mem_map.1 hr
      obtain ⟨B, cB, _, h2⟩ := hq i (by simpa using hi)
      exact ⟨h2.2.2.2.2, h2.2.2.2.1⟩
theorem two_cells {fuel : Nat} {held : Bool} {b : Nat} {sp : Nat → Bool} {x : DataW H × List MemPlace} {c0 c1 : Value} (hf : DataW.trod enc Tryd.prog w b sp held fuel 62 [c0, c1] = some x) :
    ∃ a e : Int, c0 = .int .i64 a ∧ c1 = .int .i64 e ∧ Sc.InR a ∧ Sc.InR e := by
  have ce : Tryd.prog.cellsOf 2 = 1 := by kernel_rfl
  obtain ⟨xs, m, _, _, _, hl, hat⟩ := DataW.trod_array Tryd.underlying62 hf
  rw [ce] at hat
  have h0 := hat 0 (by omega)
  have h1 := hat 1 (by omega)
  match xs, hl with
  | [y0, y1], _ =>
    obtain ⟨n0, e0, _, w0⟩ := DataW.trod_int Tryd.underlying2 h0
    obtain ⟨n1, e1, _, w1⟩ := DataW.trod_int Tryd.underlying2 h1
    simp at e0 e1
    exact ⟨n0, n1, e0, e1, inR_of w0, inR_of w1⟩
theorem pair_arg (hv : Value.okWide Tryd.prog w r b0 62 v) (h : DataW.Trod enc Tryd.prog w base (fun _ => true) true 62 v d p) : ∃ x y : Int, v = .agg #[.int .i64 x, .int .i64 y] ∧ Sc.InR x ∧ Sc.InR y := by
  simp only [Value.okWide, Tryd.underlying62] at hv
  obtain ⟨cs, rfl, hsz, _⟩ := hv
  have ce : Tryd.prog.cellsOf 62 = 2 := by kernel_rfl
  rw [ce] at hsz
  obtain ⟨l⟩ := cs
  match l, hsz with
  | [c0, c1], _ =>
    obtain ⟨fuel, hf⟩ := h
    obtain ⟨a, e, rfl, rfl, h1, h2⟩ := two_cells (by simpa [Value.cells] using hf)
    exact ⟨a, e, rfl, h1, h2⟩
theorem array5 {α : Type} {cs : Array α} (h : cs.size = 5) : ∃ c0 c1 c2 c3 c4, cs = #[c0, c1, c2, c3, c4] := by
  obtain ⟨l⟩ := cs
  match l, h with
  | [c0, c1, c2, c3, c4], _ => exact ⟨c0, c1, c2, c3, c4, rfl⟩
theorem of_arg (hok : Value.okWide Tryd.prog w r b0 45 v) (h : DataW.Trod enc Tryd.prog w base (fun _ => true) true 45 v d p) :
    ∃ (c : Int) (s : Bool) (bk lk wd : Int), v = .agg #[.int .i64 c, .bool s, .int .i64 bk, .int .i64 lk, .int .i64 wd] ∧ Sc.InR bk ∧ Sc.InR lk ∧ Sc.InR wd := by
  have ce : Tryd.prog.cellsOf 45 = 5 := by kernel_rfl
  have cf : Tryd.prog.cellsOf 23 = 2 := by kernel_rfl
  have ci : Tryd.prog.cellsOf 3 = 1 := by kernel_rfl
  have cb : Tryd.prog.cellsOf 4 = 1 := by kernel_rfl
  obtain ⟨cs, rfl, hsz⟩ := okWide_struct Tryd.underlying45 hok
  obtain ⟨c0, c1, c2, c3, c4, rfl⟩ := array5 (hsz.trans ce)
  obtain ⟨fuel, hf⟩ := h
  obtain ⟨y0, y1, y2, y3, n, hx, _, h0, h1, h2, h3⟩ := trod_struct4 Tryd.underlying45 hf
  simp only [Value.cells, cf, ci, List.drop, List.take] at h0 h1 h2 h3
  obtain ⟨z0, z1, m, hz, _, k0, k1⟩ := trod_struct2 Tryd.underlying23 h0
  simp only [cb, ci, List.drop, List.take] at k0 k1
  obtain ⟨a0, e0, _, w0⟩ := DataW.trod_int Tryd.underlying3 k0
  obtain ⟨a1, e1, _⟩ := DataW.trod_bool Tryd.underlying4 k1
  obtain ⟨a2, e2, _, w2⟩ := DataW.trod_int Tryd.underlying3 h1
  obtain ⟨a3, e3, _, w3⟩ := DataW.trod_int Tryd.underlying3 h2
  obtain ⟨a4, e4, _, w4⟩ := DataW.trod_int Tryd.underlying3 h3
  simp at e0 e1 e2 e3 e4
  subst e0 e1 e2 e3 e4
  exact ⟨a0, a1, a2, a3, a4, rfl, inR_of w2, inR_of w3, inR_of w4⟩
/-- Pairs of numbers in memory. -/
def Prs (w : World) (A : Option Addr) (ps : List (Int × Int)) : Prop := 0 < ps.length → ∃ b off, A = some ⟨b, off, none⟩ ∧ b < w.heap.size ∧ ∀ (k : Nat) (d : Int × Int), ps[k]? = some d → w.cell? ⟨b, off + k * 2, none⟩ = some (.int .i64 d.1) ∧ w.cell? ⟨b, off + k * 2 + 1, none⟩ = some (.int .i64 d.2)
theorem Prs.turn {T : Nat → Prop} {w w' : World} {A : Option Addr} {ds : List (Int × Int)} {B0 : Nat} (h : Prs w A ds) (hb : Below w.heap.size w w') : Prs w' A ds := fun hp => by
  obtain ⟨b, off, e, hlt, hc⟩ := h hp
  exact ⟨b, off, e, Nat.lt_of_lt_of_le hlt hb.size, fun k d hd => ⟨(hb.cell (p := ⟨b, _, none⟩) hlt).trans (hc k d hd).1, (hb.cell (p := ⟨b, _, none⟩) hlt).trans (hc k d hd).2⟩⟩
theorem Prs.next {w w' : World} {A : Option Addr} {ds : List (Int × Int)} (h : Prs w A ds) (hb : Below w.heap.size w w') : Prs w' A ds := Prs.turn (T := fun _ => True) (B0 := 0) h hb
theorem pairs_arg (hok : Value.okWide Tryd.prog w r b0 61 v) (h : DataW.Trod enc Tryd.prog w base (fun _ => true) true 61 v d p) :
    ∃ (A : Option Addr) (c : Nat) (ps : List (Int × Int)), v = .slice A ps.length c ∧ Prs w A ps ∧ (∀ q ∈ ps, Sc.InR q.1 ∧ Sc.InR q.2) ∧ ps.length ≤ maxLen := by
  obtain ⟨a, len, cap, rfl⟩ := okWide_slice Tryd.underlying61 hok
  obtain ⟨fuel, hf⟩ := h
  rcases open_slice Tryd.underlying61 hf with ⟨hcs, _⟩ | ⟨x, l, c, m, n, D, Pl, hcs, _, hl, hm, hmm, _, hx⟩
  · simp [Value.cells] at hcs
    obtain ⟨rfl, rfl, rfl⟩ := hcs
    exact ⟨none, 0, [], rfl, fun hp => absurd hp (by simp), fun q hq => by simp at hq, by simp⟩
  · simp [Value.cells] at hcs
    obtain ⟨rfl, rfl, rfl⟩ := hcs
    have hlm : len ≤ m := by rw [hmm]; split <;> omega
    have ce : Tryd.prog.cellsOf 62 = 2 := by kernel_rfl
    have each : ∀ i, i < len → ∃ q : Int × Int, w.cell? (x.add (i * 2)) = some (.int .i64 q.1) ∧ w.cell? (x.add (i * 2 + 1)) = some (.int .i64 q.2) ∧ Sc.InR q.1 ∧ Sc.InR q.2 := by
      intro i hi
      obtain ⟨cs', h1, h2⟩ := hx i (by omega)
      rw [ce] at h1
      obtain ⟨_, hlen, hcell⟩ := World.cells?_some h1
      match cs', hlen with
      | [v0, v1], _ =>
        obtain ⟨a, e, rfl, rfl, r1, r2⟩ := two_cells h2
        have e0 := hcell 0 (by omega)
        have e1 := hcell 1 (by omega)
        rw [add_add] at e0 e1
        exact ⟨(a, e), by simpa using e0, by simpa using e1, r1, r2⟩
    obtain ⟨q, hq⟩ := choose_lt each
    refine ⟨some x, cap, (List.range len).map q, by simp, fun hp => ?_, fun r hr => ?_, by simp; omega⟩
    · have hp' : 0 < len := by simpa using hp
      obtain ⟨bb, off, spot⟩ := x
      have h0 := (hq 0 hp').1
      have hspot : spot = none := by simpa [Addr.add] using World.cell?_spot h0
      subst hspot
      refine ⟨bb, off, rfl, World.block_lt_of_cell? w ⟨bb, off, none⟩ (by simpa [Addr.add] using h0), fun k dd hd => ?_⟩
      have hk : k < len := by have := (List.getElem?_eq_some_iff.1 hd).1; simpa using this
      rw [List.getElem?_map, List.getElem?_range hk] at hd
      simp only [Option.map_some, Option.some.injEq] at hd
      subst hd
      obtain ⟨k0, k1, _⟩ := hq k hk
      rw [Go.WideShapes.add_plain] at k0 k1
      exact ⟨k0, by rw [Nat.add_assoc]; exact k1⟩
    · obtain ⟨i, hi, rfl⟩ := List.mem_map.1 hr
      exact (hq i (by simpa using hi)).2.2
end
end Go.Proofs.YtfamgaakcbinkaaDoor.Wn
