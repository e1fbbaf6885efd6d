/-
  Layer 18, tree: nodes, definitions and programs as they lie in memory. No condition.
-/
import Derived.Test.YtjmpilmmgfjpmaaDoorStBase
import Derived.Test.YtjmpilmmgfjpmaaDoorTkOps
import Derived.Test.YtjmpilmmgfjpmaaDoorCellTells1
import Derived.Laws.EntriesVeiled
import Derived.Deep.RegionHeld3
import Derived.IntWalk
set_option maxRecDepth 100000
namespace Go.Proofs.YtjmpilmmgfjpmaaDoor.Tr
open Go.Proofs.YtjmpilmmgfjpmaaDoor.Sh Go.Proofs.YtjmpilmmgfjpmaaDoor.St
open Go.RowKit
set_option linter.unusedVariables false

/-- A node, whatever its fields are. -/
structure Nd where
  kind : Int
  pos : Int
  code : Int
  kids : List Int
  nums : List Int
  name : ByteArray
/-- A node with the slices that hold its parts and numbers. -/
structure Nq where
  n : Nd
  ka : Option Addr
  kc : Nat
  na : Option Addr
  nc : Nat
/-- A definition. -/
structure Df where
  name : ByteArray
  pos : Int
  node : Int
structure Pq where
  name : ByteArray
  da : Option Addr
  dc : Nat
  dims : List Int
  na : Option Addr
  nc : Nat
  nodes : List Nq
  fa : Option Addr
  fc : Nat
  defs : List Df
  root : Int
def cqN (q : Nq) : List Value := [.int .i64 q.n.kind, .int .i64 q.n.pos, .int .i64 q.n.code, .slice q.ka q.n.kids.length q.kc, .slice q.na q.n.nums.length q.nc, .string q.n.name]
def cqD (d : Df) : List Value := [.string d.name, .int .i64 d.pos, .int .i64 d.node]
def nodeV (q : Nq) : Value := .agg #[.int .i64 q.n.kind, .int .i64 q.n.pos, .int .i64 q.n.code, .slice q.ka q.n.kids.length q.kc, .slice q.na q.n.nums.length q.nc, .string q.n.name]
def progV (p : Pq) : Value := .agg #[.string p.name, .slice p.da p.dims.length p.dc, .slice p.na p.nodes.length p.nc, .slice p.fa p.defs.length p.fc, .int .i64 p.root]
/-- A node's own lists lie in memory. -/
def NodeIn (w : World) (q : Nq) : Prop := Ints w q.ka q.n.kids ∧ Ints w q.na q.n.nums ∧ q.n.kids.length ≤ maxLen ∧ q.n.nums.length ≤ maxLen ∧ q.n.name.size ≤ maxLen
def Nodes (w : World) (A : Option Addr) (qs : List Nq) : Prop := (0 < qs.length → ∃ b off, A = some ⟨b, off, none⟩ ∧ b < w.heap.size ∧ ∀ (k : Nat) (q : Nq), qs[k]? = some q →
    w.cell? ⟨b, off + k * 6, none⟩ = some (.int .i64 q.n.kind) ∧ w.cell? ⟨b, off + k * 6 + 1, none⟩ = some (.int .i64 q.n.pos) ∧ w.cell? ⟨b, off + k * 6 + 2, none⟩ = some (.int .i64 q.n.code) ∧ w.cell? ⟨b, off + k * 6 + 3, none⟩ = some (.slice q.ka q.n.kids.length q.kc) ∧ w.cell? ⟨b, off + k * 6 + 4, none⟩ = some (.slice q.na q.n.nums.length q.nc) ∧ w.cell? ⟨b, off + k * 6 + 5, none⟩ = some (.string q.n.name)) ∧
  ∀ q ∈ qs, NodeIn w q
def Defs (w : World) (A : Option Addr) (ds : List Df) : Prop := (0 < ds.length → ∃ b off, A = some ⟨b, off, none⟩ ∧ b < w.heap.size ∧ ∀ (k : Nat) (d : Df), ds[k]? = some d →
    w.cell? ⟨b, off + k * 3, none⟩ = some (.string d.name) ∧ w.cell? ⟨b, off + k * 3 + 1, none⟩ = some (.int .i64 d.pos) ∧ w.cell? ⟨b, off + k * 3 + 2, none⟩ = some (.int .i64 d.node)) ∧
  ∀ d ∈ ds, d.name.size ≤ maxLen
def ProgIn (w : World) (p : Pq) : Prop := Ints w p.da p.dims ∧ Nodes w p.na p.nodes ∧ Defs w p.fa p.defs ∧ p.name.size ≤ maxLen ∧ p.dims.length ≤ maxLen ∧ p.nodes.length ≤ maxLen ∧ p.defs.length ≤ maxLen
section
variable {w w' : World}
theorem NodeIn.next {q : Nq} (h : NodeIn w q) (hb : Below w.heap.size w w') : NodeIn w' q := ⟨h.1.below hb, h.2.1.below hb, h.2.2⟩
theorem Nodes.next {A : Option Addr} {qs : List Nq} (h : Nodes w A qs) (hb : Below w.heap.size w w') : Nodes w' A qs := by
  refine ⟨fun hp => ?_, fun q hq => (h.2 q hq).next hb⟩
  obtain ⟨b, off, e, hlt, hc⟩ := h.1 hp
  refine ⟨b, off, e, Nat.lt_of_lt_of_le hlt hb.size, fun k q hq => ?_⟩
  obtain ⟨c0, c1, c2, c3, c4, c5⟩ := hc k q hq
  exact ⟨(hb.cell (p := ⟨b, _, none⟩) hlt).trans c0, (hb.cell (p := ⟨b, _, none⟩) hlt).trans c1, (hb.cell (p := ⟨b, _, none⟩) hlt).trans c2, (hb.cell (p := ⟨b, _, none⟩) hlt).trans c3, (hb.cell (p := ⟨b, _, none⟩) hlt).trans c4, (hb.cell (p := ⟨b, _, none⟩) hlt).trans c5⟩
theorem Defs.next {A : Option Addr} {ds : List Df} (h : Defs w A ds) (hb : Below w.heap.size w w') : Defs w' A ds := by
  refine ⟨fun hp => ?_, h.2⟩
  obtain ⟨b, off, e, hlt, hc⟩ := h.1 hp
  refine ⟨b, off, e, Nat.lt_of_lt_of_le hlt hb.size, fun k d hd => ?_⟩
  obtain ⟨c0, c1, c2⟩ := hc k d hd
  exact ⟨(hb.cell (p := ⟨b, _, none⟩) hlt).trans c0, (hb.cell (p := ⟨b, _, none⟩) hlt).trans c1, (hb.cell (p := ⟨b, _, none⟩) hlt).trans c2⟩
theorem ProgIn.next {p : Pq} (h : ProgIn w p) (hb : Below w.heap.size w w') : ProgIn w' p := ⟨h.1.below hb, h.2.1.next hb, h.2.2.1.next hb, h.2.2.2⟩
theorem Nodes.at_ {A : Option Addr} {qs : List Nq} (h : Nodes w A qs) {k : Nat} {q : Nq} (hq : qs[k]? = some q) : ∃ b off, A = some ⟨b, off, none⟩ ∧ b < w.heap.size ∧ (w.cell? ⟨b, off + k * 6, none⟩ = some (.int .i64 q.n.kind) ∧ w.cell? ⟨b, off + k * 6 + 1, none⟩ = some (.int .i64 q.n.pos) ∧ w.cell? ⟨b, off + k * 6 + 2, none⟩ = some (.int .i64 q.n.code) ∧ w.cell? ⟨b, off + k * 6 + 3, none⟩ = some (.slice q.ka q.n.kids.length q.kc) ∧ w.cell? ⟨b, off + k * 6 + 4, none⟩ = some (.slice q.na q.n.nums.length q.nc) ∧ w.cell? ⟨b, off + k * 6 + 5, none⟩ = some (.string q.n.name)) ∧ NodeIn w q := by
  obtain ⟨b, off, e, hlt, hc⟩ := h.1 (by have := (List.getElem?_eq_some_iff.1 hq).1; omega)
  exact ⟨b, off, e, hlt, hc k q hq, h.2 q (List.mem_of_getElem? hq)⟩
theorem Defs.at_ {A : Option Addr} {ds : List Df} (h : Defs w A ds) {k : Nat} {d : Df} (hd : ds[k]? = some d) : ∃ b off, A = some ⟨b, off, none⟩ ∧ b < w.heap.size ∧ (w.cell? ⟨b, off + k * 3, none⟩ = some (.string d.name) ∧ w.cell? ⟨b, off + k * 3 + 1, none⟩ = some (.int .i64 d.pos) ∧ w.cell? ⟨b, off + k * 3 + 2, none⟩ = some (.int .i64 d.node)) ∧ d.name.size ≤ maxLen := by
  obtain ⟨b, off, e, hlt, hc⟩ := h.1 (by have := (List.getElem?_eq_some_iff.1 hd).1; omega)
  exact ⟨b, off, e, hlt, hc k d hd, h.2 d (List.mem_of_getElem? hd)⟩
end
def RetBl (b : Bool) (w : World) (e : Ending) (w' : World) : Prop := e = .returned (.bool b) ∧ Below w.heap.size w w'
/-! The kinds. -/
def valI (k : Int) : Bool := decide (1 ≤ k) && decide (k ≤ 4)
def funI (k : Int) : Bool := decide (5 ≤ k) && decide (k ≤ 12)
theorem value_b (k : Int) (b : Bool) (w : World) (h : valI k = b) : Calls Tryd.prog 66 #[.int .i64 k] w fun e w' => e = .returned (.bool b) ∧ w = w' := by
  subst h
  by_cases h1 : 1 ≤ k
  · have t1 : decide (1 ≤ k) = true := by simpa using h1
    have HS := Lib.hid (show valI k = decide (k ≤ 4) by unfold valI; rw [t1, Bool.true_and])
    clear h1
    go_enter Tryd.func66, Tryd.ntmps66
    go_wp2
    go_ret
    exact ⟨by rw [HS.out]; rfl, rfl⟩
  · have t1 : decide (1 ≤ k) = false := by simpa using h1
    have HS := Lib.hid (show valI k = false by unfold valI; rw [t1, Bool.false_and])
    clear h1
    go_enter Tryd.func66, Tryd.ntmps66
    go_wp2
    go_ret
    exact ⟨by rw [HS.out]; rfl, rfl⟩
theorem function_b (k : Int) (b : Bool) (w : World) (h : funI k = b) : Calls Tryd.prog 15 #[.int .i64 k] w fun e w' => e = .returned (.bool b) ∧ w = w' := by
  subst h
  by_cases h1 : 5 ≤ k
  · have t1 : decide (5 ≤ k) = true := by simpa using h1
    have HS := Lib.hid (show funI k = decide (k ≤ 12) by unfold funI; rw [t1, Bool.true_and])
    clear h1
    go_enter Tryd.func15, Tryd.ntmps15
    go_wp2
    go_ret
    exact ⟨by rw [HS.out]; rfl, rfl⟩
  · have t1 : decide (5 ≤ k) = false := by simpa using h1
    have HS := Lib.hid (show funI k = false by unfold funI; rw [t1, Bool.false_and])
    clear h1
    go_enter Tryd.func15, Tryd.ntmps15
    go_wp2
    go_ret
    exact ⟨by rw [HS.out]; rfl, rfl⟩
theorem rvalue_b (k : Int) (b : Bool) (w : World) (h : valI k = b) : Calls Tryd.prog 41 #[.int .i64 k] w fun e w' => e = .returned (.bool b) ∧ w = w' := by
  subst h
  have e0 : decide (0 < k) = decide (1 ≤ k) := by simp; omega
  have e1 : decide (k < 5) = decide (k ≤ 4) := by simp; omega
  by_cases h1 : 1 ≤ k
  · have t1 : decide (0 < k) = true := by simp; omega
    have HS := Lib.hid (show valI k = decide (k < 5) by unfold valI; rw [e1, ← e0, t1, Bool.true_and])
    clear h1 e0 e1
    go_enter Tryd.func41, Tryd.ntmps41
    go_wp2
    go_ret
    exact ⟨by rw [HS.out]; rfl, rfl⟩
  · have t1 : decide (0 < k) = false := by simp; omega
    have HS := Lib.hid (show valI k = false by unfold valI; rw [← e0, t1, Bool.false_and])
    clear h1 e0 e1
    go_enter Tryd.func41, Tryd.ntmps41
    go_wp2
    go_ret
    exact ⟨by rw [HS.out]; rfl, rfl⟩
theorem rfunction_b (k : Int) (b : Bool) (w : World) (h : funI k = b) : Calls Tryd.prog 43 #[.int .i64 k] w fun e w' => e = .returned (.bool b) ∧ w = w' := by
  subst h
  have e0 : decide (4 < k) = decide (5 ≤ k) := by simp; omega
  have e1 : decide (k < 13) = decide (k ≤ 12) := by simp; omega
  by_cases h1 : 5 ≤ k
  · have t1 : decide (4 < k) = true := by simp; omega
    have HS := Lib.hid (show funI k = decide (k < 13) by unfold funI; rw [e1, ← e0, t1, Bool.true_and])
    clear h1 e0 e1
    go_enter Tryd.func43, Tryd.ntmps43
    go_wp2
    go_ret
    exact ⟨by rw [HS.out]; rfl, rfl⟩
  · have t1 : decide (4 < k) = false := by simp; omega
    have HS := Lib.hid (show funI k = false by unfold funI; rw [← e0, t1, Bool.false_and])
    clear h1 e0 e1
    go_enter Tryd.func43, Tryd.ntmps43
    go_wp2
    go_ret
    exact ⟨by rw [HS.out]; rfl, rfl⟩
end Go.Proofs.YtjmpilmmgfjpmaaDoor.Tr
