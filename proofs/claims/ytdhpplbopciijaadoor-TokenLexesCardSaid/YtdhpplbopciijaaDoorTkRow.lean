/-
  Layer 17, token: tokens as they lie in memory, and the reader. No condition.
-/
import Derived.Test.YtdhpplbopciijaaDoorTkCut
import Derived.Test.YtdhpplbopciijaaDoorStBase
import Derived.Laws.EntriesVeiled
import Derived.Deep.QuietTactic
import Derived.BigQuiet
import Derived.Deep.RegionLaw
import Derived.Lib.SliceRun
set_option maxRecDepth 100000
namespace Go.Proofs.YtdhpplbopciijaaDoor.Tk
open Go.Proofs.YtdhpplbopciijaaDoor.Sh Go.Proofs.YtdhpplbopciijaaDoor.St
open Go.RowKit
set_option linter.unusedVariables false

/-- A token with the slice that holds its numbers. -/
abbrev Qt : Type := Tk × (Option Addr × Nat)
def nm (l : List UInt8) : ByteArray := ⟨l.toArray⟩
def vq (q : Qt) : Value := .slice q.2.1 q.1.nums.length q.2.2
def cq (q : Qt) : List Value := [.int .i64 (q.1.kind : Nat), .int .i64 (q.1.pos : Nat), .int .i64 (q.1.code : Nat), vq q, .string (nm q.1.name)]
def flat5 (qs : List Qt) : List Value := qs.flatMap cq
theorem flat5_cons (q : Qt) (qs : List Qt) : flat5 (q :: qs) = .int .i64 (q.1.kind : Nat) :: .int .i64 (q.1.pos : Nat) :: .int .i64 (q.1.code : Nat) :: vq q :: .string (nm q.1.name) :: flat5 qs := rfl
theorem flat5_app (a b : List Qt) : flat5 (a ++ b) = flat5 a ++ flat5 b := List.flatMap_append
theorem flat5_len : ∀ qs : List Qt, (flat5 qs).length = qs.length * 5
  | [] => rfl
  | q :: qs => by rw [flat5_cons, List.length_cons, List.length_cons, List.length_cons, List.length_cons, List.length_cons, List.length_cons, flat5_len qs]; omega
theorem flat5_at : ∀ (qs : List Qt) (i : Nat) (q : Qt), qs[i]? = some q → (flat5 qs)[i * 5]? = some (.int .i64 (q.1.kind : Nat)) ∧ (flat5 qs)[i * 5 + 1]? = some (.int .i64 (q.1.pos : Nat)) ∧ (flat5 qs)[i * 5 + 2]? = some (.int .i64 (q.1.code : Nat)) ∧ (flat5 qs)[i * 5 + 3]? = some (vq q) ∧ (flat5 qs)[i * 5 + 4]? = some (.string (nm q.1.name))
  | [], i, q, h => by simp at h
  | p :: qs, 0, q, h => by
    obtain rfl : p = q := by simpa using h
    exact ⟨rfl, rfl, rfl, rfl, rfl⟩
  | p :: qs, i + 1, q, h => by
    have ih := flat5_at qs i q (by simpa using h)
    rw [flat5_cons, show (i + 1) * 5 = i * 5 + 1 + 1 + 1 + 1 + 1 by omega]
    simpa using ih
theorem flat5_one (qs : List Qt) : ∀ u ∈ flat5 qs, u.oneCell' = true := by
  intro u hu
  obtain ⟨p, _, hp⟩ := List.mem_flatMap.1 hu
  simp [cq] at hp
  rcases hp with rfl | rfl | rfl | rfl | rfl <;> rfl
theorem flat5_set : ∀ (qs : List Qt) (i : Nat) (q q' : Qt), qs[i]? = some q → q'.1.kind = q.1.kind → q'.1.pos = q.1.pos → q'.1.code = q.1.code → q'.1.name = q.1.name → flat5 (qs.set i q') = (flat5 qs).set (i * 5 + 3) (vq q')
  | [], i, q, q', h, _, _, _, _ => by simp at h
  | p :: qs, 0, q, q', h, h1, h2, h3, h4 => by
    obtain rfl : p = q := by simpa using h
    rw [List.set_cons_zero, flat5_cons, flat5_cons, h1, h2, h3, h4]
    rfl
  | p :: qs, i + 1, q, q', h, h1, h2, h3, h4 => by
    have ih := flat5_set qs i q q' (by simpa using h) h1 h2 h3 h4
    rw [List.set_cons_succ, flat5_cons, ih, flat5_cons, show (i + 1) * 5 = i * 5 + 1 + 1 + 1 + 1 + 1 by omega]
    simp
theorem infoT : (Tryd.prog.info? 37).map (fun i => (i.zero, i.size, i.bytes)) = some (some (.agg #[.int .i64 0, .int .i64 0, .int .i64 0, .slice none 0 0, .string ⟨#[]⟩]), 5, 64) := by kernel_rfl
/-- V is a row of one's own with these tokens. -/
def TRow (base : Nat) (w : World) (V : Value) (qs : List Qt) : Prop := w.ownsRow base 37 5 V qs.length (flat5 qs)
/-- And their numbers are one's own too. -/
def Live (base : Nat) (w : World) (V : Value) (qs : List Qt) : Prop := TRow base w V qs ∧ ∀ q ∈ qs, MineT 2 w base (vq q) q.1.nums
/-- Two rows are apart. -/
def Off (V W : Value) : Prop := ∀ k, V.ownBlock = some k → W.ownBlock ≠ some k
/-- The last one's numbers are apart from those of the others. -/
def Lone (qs : List Qt) : Prop := ∀ ps q, qs = ps ++ [q] → ∀ p ∈ ps, Off (vq q) (vq p)
section
variable {base : Nat} {w w' : World} {V : Value} {qs : List Qt}
theorem Live.nil' (base : Nat) (w : World) : Live base w (.slice none 0 0) [] := ⟨World.ownsRow_nil _ _ _ _, fun q h => by simp at h⟩
theorem Live.view (h : Live base w V qs) : ∃ A c, V = .slice A qs.length c ∧ qs.length ≤ c ∧ c ≤ maxLen ∧ Seq (base ≤ ·) w A (flat5 qs) := own_seq h.1 (by decide)
theorem Live.next (h : Live base w V qs) (hb : Below w.heap.size w w') : Live base w' V qs := ⟨own_below h.1 hb, fun q hq => own_below (h.2 q hq) hb⟩
theorem Live.lt (h : Live base w V qs) : ∀ g, V.ownBlock = some g → g < w.heap.size ∧ base ≤ g := fun g hg => ⟨own_lt h.1 g hg, own_base h.1 g hg⟩
/-- One more. -/
theorem Live.app {w6 : World} {V' : Value} {q : Qt} (h : Live base w V qs) (hq : MineT 2 w base (vq q) q.1.nums) (h6 : w6.ownsRow base 37 5 V' (qs.length + 1) (flat5 qs ++ cq q)) (hg : w.grownBy w6 V.ownBlock) : Live base w6 V' (qs ++ [q]) := by
  have keep : ∀ p : Qt, MineT 2 w base (vq p) p.1.nums → MineT 2 w6 base (vq p) p.1.nums := fun p hp => World.ownsRow.kept hp hg (own_apart hp h.1 (by decide))
  refine ⟨?_, fun p hp => ?_⟩
  · unfold TRow
    rw [flat5_app, List.length_append]
    simpa [flat5] using h6
  · rcases List.mem_append.1 hp with hp | hp
    · exact keep p (h.2 p hp)
    · simp at hp
      subst hp
      exact keep p hq
theorem Lone.app {q : Qt} (hq : q.1.nums = [] ∧ q.2 = (none, 0)) : Lone (qs ++ [q]) := by
  intro ps p e x hx
  obtain ⟨rfl, h2⟩ := List.append_inj' e rfl
  obtain rfl : q = p := by simpa using h2
  intro k hk
  simp [vq, Value.ownBlock, hq.1, hq.2] at hk
end
/-- Behind the pointer to block g is a reader of this text, at this byte, with these tokens. -/
def Rd (w : World) (g : Nat) (s : ByteArray) (a : Nat) (V : Value) (qs : List Qt) : Prop :=
  Bk 33 w g [.string s, .int .i64 (a : Nat), V] ∧ Live (g + 1) w V qs ∧ Lone qs
section
variable {w w' : World} {g a : Nat} {s : ByteArray} {V : Value} {qs : List Qt}
theorem Rd.all (d : Rd w g s a V qs) : w.cell? ⟨g, 0, none⟩ = some (.string s) ∧ w.cell? ⟨g, 1, none⟩ = some (.int .i64 (a : Nat)) ∧ w.cell? ⟨g, 2, none⟩ = some V := ⟨Bk.c d.1 0, Bk.c d.1 1, Bk.c d.1 2⟩
theorem Rd.froz (d : Rd w g s a V qs) : w.frozen? ⟨g, 1, none⟩ = false ∧ w.frozen? ⟨g, 2, none⟩ = false := ⟨Bk.f d.1 1, Bk.f d.1 2⟩
theorem Rd.lt (d : Rd w g s a V qs) : g < w.heap.size := Bk.lt d.1
theorem Rd.next (d : Rd w g s a V qs) (hb : Below w.heap.size w w') : Rd w' g s a V qs := ⟨d.1.next hb, d.2.1.next hb, d.2.2⟩
theorem Rd.ne (d : Rd w g s a V qs) : some g ≠ V.ownBlock := fun e => by have := (d.2.1.lt g e.symm).2; omega
/-- The reader's place is laid anew. -/
theorem Live.far {w : World} {g : Nat} (h : Live (g + 1) w V qs) (i : Nat) (u : Value) : Live (g + 1) (w.setCell ⟨g, i, none⟩ u) V qs :=
  ⟨ownsRow_setCell_below (a := ⟨g, i, none⟩) h.1 (Nat.lt_succ_self g) u, fun q hq => ownsRow_setCell_below (a := ⟨g, i, none⟩) (h.2 q hq) (Nat.lt_succ_self g) u⟩
theorem Rd.at_ (d : Rd w g s a V qs) (b : Nat) : Rd (w.setCell ⟨g, 1, none⟩ (.int .i64 (b : Nat))) g s b V qs := ⟨d.1.set_ 1 _, d.2.1.far 1 _, d.2.2⟩
end
end Go.Proofs.YtdhpplbopciijaaDoor.Tk
