/-
  Layer 17, token: what the reader does at a byte, and what comes of a text, as relations. No condition.
-/
import Derived.Test.YtdhpplbopciijaaDoorTkOps
set_option maxRecDepth 100000
namespace Go.Proofs.YtdhpplbopciijaaDoor.Tk
open Go.RowKit
set_option linter.unusedVariables false

theorem first_one {l : List UInt8} {c n c' n' : Nat} (h : Gl.FirstIs l c n) (k : Gl.FirstIs l c' n') : c = c' ∧ n = n' := by
  rcases h with ⟨h0, h1, h2⟩ | ⟨h0, h1, h2⟩
  · rcases k with ⟨_, k1, k2⟩ | ⟨k0, _⟩
    · obtain rfl := h1.same k1 (fun _ _ _ => Iff.rfl)
      exact ⟨rfl, by rw [h2, k2]⟩
    · exact absurd k0 h0
  · rcases k with ⟨k0, _⟩ | ⟨_, k1, k2⟩
    · exact absurd h0 k0
    · obtain rfl := h1.same k1 (fun _ _ _ => Iff.rfl)
      exact ⟨rfl, by rw [h2, k2]⟩
/-- A token. -/
structure Tk where
  kind : Nat
  pos : Nat
  code : Nat
  nums : List Int
  name : List UInt8
/-- What comes of a byte: on, or what is wrong, and where. -/
inductive Out where
  | next (a : Nat) (ts : List Tk)
  | bad (e p : Nat)
/-- How a rest begins: 0 a blank, 1 a line's end, 2 a number, 3 a name, 4 a remark, 5 a sign. -/
def clsN (r : List UInt8) : Nat := match r with
  | [] => 5
  | c :: _ => if c = 32 ∨ c = 9 then 0 else if c = 10 then 1 else if diB c = true ∨ 0 < Dg.signL r then 2 else if leB c = true then 3
    else if Lib.hasPrefix r [226, 141, 157] = true ∨ Lib.hasPrefix r [35] = true then 4 else 5
/-- How many bytes stand ahead of the line's end. -/
def lineN (r : List UInt8) : Nat := (r.takeWhile fun c => decide (c ≠ 10)).length
def addO (ts : List Tk) (t : Tk) (b : Nat) : Out := if ts.length = 400 then .bad 8 t.pos else .next b (ts ++ [t])
def putO (ts : List Tk) (a b : Nat) (v : Int) : Out := match ts.getLast? with
  | none => addO ts ⟨1, a, 0, [v], []⟩ b
  | some t => if t.kind = 1 then (if t.nums.length = 64 then .bad 8 a else .next b (ts.dropLast ++ [{ t with nums := t.nums ++ [v] }])) else addO ts ⟨1, a, 0, [v], []⟩ b
def numO (r : List UInt8) (a : Nat) (ts : List Tk) : Out :=
  if Dg.valB (Dg.readD r) (Dg.readS r) = false then .bad 7 a else putO ts a (a + Dg.readN r) (Dg.valI (Dg.readD r) (Dg.readS r))
def nameO (r : List UInt8) (a : Nat) (ts : List Tk) : Out :=
  if namedN (r.take (runA r)) = 0 then .bad 11 a else addO ts ⟨namedN (r.take (runA r)), a, 0, [], r.take (runA r)⟩ (a + runA r)
def signO (c n a : Nat) (ts : List Tk) : Out :=
  if c = 0 then .bad 6 a else if c = 43 then addO ts ⟨5, a, 0, [], []⟩ (a + n) else addO ts ⟨4, a, c, [], []⟩ (a + n)
/-- What comes of the byte at a place. -/
def Step (l : List UInt8) (a : Nat) (ts : List Tk) (o : Out) : Prop :=
  (clsN (l.drop a) = 0 ∧ o = .next (a + 1) ts) ∨ (clsN (l.drop a) = 1 ∧ o = addO ts ⟨5, a, 0, [], []⟩ (a + 1)) ∨ (clsN (l.drop a) = 2 ∧ o = numO (l.drop a) a ts) ∨
  (clsN (l.drop a) = 3 ∧ o = nameO (l.drop a) a ts) ∨ (clsN (l.drop a) = 4 ∧ o = .next (a + lineN (l.drop a)) ts) ∨
  (clsN (l.drop a) = 5 ∧ ∃ c n, Gl.FirstIs (l.drop a) c n ∧ o = signO c n a ts)
theorem step_same {l : List UInt8} {a : Nat} {ts : List Tk} {o o' : Out} (h : Step l a ts o) (k : Step l a ts o') : o = o' := by
  rcases h with ⟨h, rfl⟩ | ⟨h, rfl⟩ | ⟨h, rfl⟩ | ⟨h, rfl⟩ | ⟨h, rfl⟩ | ⟨h, c, n, hf, rfl⟩ <;>
  rcases k with ⟨k, rfl⟩ | ⟨k, rfl⟩ | ⟨k, rfl⟩ | ⟨k, rfl⟩ | ⟨k, rfl⟩ | ⟨k, c', n', kf, rfl⟩ <;>
  first
  | rfl
  | (exfalso; omega)
  | (obtain ⟨rfl, rfl⟩ := first_one hf kf; rfl)
/-- What comes of a text from a place on. -/
inductive Lexes (l : List UInt8) : Nat → List Tk → (List Tk ⊕ Nat × Nat) → Prop
  | done {a ts} : l.length ≤ a → Lexes l a ts (.inl ts)
  | bad {a ts e p} : a < l.length → Step l a ts (.bad e p) → Lexes l a ts (.inr (e, p))
  | next {a ts a' ts' R} : a < l.length → Step l a ts (.next a' ts') → Lexes l a' ts' R → Lexes l a ts R
theorem lexes_same {l : List UInt8} {a : Nat} {ts : List Tk} {R S : List Tk ⊕ Nat × Nat} (h : Lexes l a ts R) : Lexes l a ts S → R = S := by
  induction h with
  | done h => intro k; cases k with
    | done _ => rfl
    | bad h2 _ => omega
    | next h2 _ _ => omega
  | bad h hs => intro k; cases k with
    | done h2 => omega
    | bad _ k2 => have := step_same hs k2; cases this; rfl
    | next _ k2 _ => have := step_same hs k2; cases this
  | next h hs _ ih => intro k; cases k with
    | done h2 => omega
    | bad _ k2 => have := step_same hs k2; cases this
    | next _ k2 k3 => have := step_same hs k2; cases this; exact ih k3
/-- What comes of a text. -/
def LexIs (l : List UInt8) (R : List Tk ⊕ Nat × Nat) : Prop := if 2000 < l.length then R = .inr (8, 2000) else Lexes l 0 [] R
theorem lexIs_same {l : List UInt8} {R S : List Tk ⊕ Nat × Nat} (h : LexIs l R) (k : LexIs l S) : R = S := by
  unfold LexIs at h k
  by_cases hl : 2000 < l.length
  · rw [if_pos hl] at h k; rw [h, k]
  · rw [if_neg hl] at h k; exact lexes_same h k
theorem line_le (r : List UInt8) : lineN r ≤ r.length := (List.takeWhile_prefix _).length_le
theorem line_pos {c : UInt8} {r : List UInt8} (h : c ≠ 10) : 0 < lineN (c :: r) := by unfold lineN; rw [List.takeWhile_cons]; simp [h]
/-- What a rest of its class begins with. -/
theorem cls_nil : clsN [] = 5 := rfl
theorem cls_lt (r : List UInt8) : clsN r < 6 := by
  unfold clsN
  split
  · omega
  · repeat' split
    all_goals omega
theorem addO_next {ts ts' : List Tk} {t : Tk} {b a' : Nat} (h : addO ts t b = .next a' ts') : a' = b ∧ ts' = ts ++ [t] ∧ ts.length ≠ 400 := by
  unfold addO at h
  split at h
  · cases h
  · cases h; exact ⟨rfl, rfl, by assumption⟩
theorem putO_next {ts ts' : List Tk} {a b a' : Nat} {v : Int} (h : putO ts a b v = .next a' ts') : a' = b := by
  unfold putO at h
  split at h
  · exact (addO_next h).1
  · split at h
    · split at h
      · cases h
      · cases h; rfl
    · exact (addO_next h).1
theorem runA_pos {c : UInt8} {r : List UInt8} (h : leB c = true) : 0 < runA (c :: r) := by unfold runA; rw [List.takeWhile_cons]; simp [anB, h]
theorem valB_nil (b : Bool) : Dg.valB [] b = false := by cases b <;> rfl
theorem readN_pos {r : List UInt8} (h : Dg.valB (Dg.readD r) (Dg.readS r) = true) : 0 < Dg.readN r ∧ Dg.readN r ≤ r.length := by
  have h1 := Dg.signL_le r
  have h2 := Dg.runL_le (r.drop (Dg.signL r))
  rw [List.length_drop] at h2
  unfold Dg.readN
  refine ⟨?_, by omega⟩
  by_cases hz : Dg.runL (r.drop (Dg.signL r)) = 0
  · unfold Dg.readD at h
    rw [hz, List.take_zero, valB_nil] at h
    cases h
  · omega
theorem first_pos {r : List UInt8} {c n : Nat} (h : Gl.FirstIs r c n) (hc : c ≠ 0) : 0 < n ∧ n ≤ r.length := by
  rcases h with ⟨hd, hl, rfl⟩ | ⟨hd, hl, rfl⟩
  · obtain ⟨h1, h2, h3⟩ := hl.at_ hc
    refine ⟨?_, h3.length_le⟩
    have := Gl.rs_nil c h1 h2
    exact List.length_pos_iff.2 this
  · rw [if_neg hc]
    refine ⟨by omega, ?_⟩
    have h5 : (Gl.wordOf r).length ≤ (r.drop 1).length := (List.takeWhile_prefix _).length_le
    rw [List.length_drop] at h5
    cases r with
    | nil => simp at hd
    | cons x t => simp at h5 ⊢; omega
/-- A step goes on, and not beyond the text. -/
theorem step_on {l : List UInt8} {a a' : Nat} {ts ts' : List Tk} (ha : a < l.length) (h : Step l a ts (.next a' ts')) : a < a' ∧ a' ≤ l.length := by
  obtain ⟨c, r, hr⟩ : ∃ c r, l.drop a = c :: r := by
    cases hd : l.drop a with
    | nil => have := congrArg List.length hd; rw [List.length_drop] at this; simp at this; omega
    | cons c r => exact ⟨c, r, rfl⟩
  have hl : (l.drop a).length = l.length - a := List.length_drop
  rcases h with ⟨h, e⟩ | ⟨h, e⟩ | ⟨h, e⟩ | ⟨h, e⟩ | ⟨h, e⟩ | ⟨h, c', n, hf, e⟩
  · cases e; omega
  · have := (addO_next e.symm).1; omega
  · unfold numO at e
    split at e
    · cases e
    · rename_i hv
      have h1 := putO_next e.symm
      have h2 := readN_pos (by simpa using hv)
      omega
  · unfold nameO at e
    split at e
    · cases e
    · rename_i hv
      have h1 := (addO_next e.symm).1
      have h2 := runA_le (l.drop a)
      have h3 : 0 < runA (l.drop a) := by
        by_cases hz : runA (l.drop a) = 0
        · rw [hz, List.take_zero] at hv; exact absurd rfl hv
        · omega
      omega
  · cases e
    have h2 := line_le (l.drop a)
    have h3 : 0 < lineN (l.drop a) := by
      rw [hr]
      refine line_pos fun h10 => ?_
      rw [hr] at h
      subst h10
      simp [clsN] at h
    omega
  · unfold signO at e
    split at e
    · cases e
    · rename_i hc
      have h2 := first_pos hf hc
      split at e
      · have := (addO_next e.symm).1; omega
      · have := (addO_next e.symm).1; omega
end Go.Proofs.YtdhpplbopciijaaDoor.Tk
