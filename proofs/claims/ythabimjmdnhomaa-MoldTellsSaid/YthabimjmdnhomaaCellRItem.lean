/-
  What riffleref03.Item answers for any cell and any number; nothing that was there is written. Condition: at most 100 axes and 1000 numbers.
-/
import Derived.Test.YthabimjmdnhomaaCellItem
import Derived.Test.YthabimjmdnhomaaShapePls3
import Derived.Deep.RegionLaw
namespace Go.Proofs.Ythabimjmdnhomaa.Sh
open Go.RowKit
set_option linter.unusedVariables false

theorem step_appI {t e : TypeId} (hinf : NumT e) (ht : Try.prog.underlying t = some (.slice e)) {w : World} {ops : Array Oper} {o : Oper} {a : Act} {K : Act → World → Prop} {Q : Exit → Act → World → Prop} {E : Prop} (hgd : o.guard = none) (s x : Operand)
    (ho : o.op = .call { callee := .builtin .append, args := #[s, x], argTypes := #[t, t] })
    (base : Nat) (v : Value) (xs : List Int) (hs : a.eval s = v) (hown : MineT e w base v xs) (A : Option Addr) (c : Nat) (ys : List Int) (hx : a.eval x = .slice A ys.length c) (hi : Ints w A ys)
    (hlen : xs.length + ys.length ≤ 100000) (hbase : base ≤ w.heap.size)
    (h : ∀ v' w', MineT e w' base v' (xs ++ ys) → w.grownBy w' v.ownBlock → (v'.ownBlock = v.ownBlock ∨ v'.ownBlock = some w.heap.size) → K (a.put o.dst v') w') :
    if Region.wanted o (yielded ops a.tmps) = true then Oper.wp Try.prog o a w K Q else E := by
  have hw : Region.wanted o (yielded ops a.tmps) = true := by simp [Region.wanted, hgd]
  rw [if_pos hw]
  exact wp_appI hinf ht s x ho base v xs hs hown A c ys hx hi hlen hbase h

/-- The numbers of the i-th piece among the first q. -/
def part (v : List Int) (i s q : Nat) : List Int := ((v.take q).drop (i * s)).take s
theorem part_zero (v : List Int) (i s : Nat) : part v i s 0 = [] := by simp [part]
theorem part_length (v : List Int) (i s q : Nat) : (part v i s q).length ≤ s := by simp [part]; omega
theorem part_in {v : List Int} {i s q : Nat} (h1 : i * s ≤ q) (h2 : q < i * s + s) (hq : q < v.length) : part v i s (q + 1) = part v i s q ++ [v.getD q 0] := by
  unfold part
  have l1 : ((v.take q).drop (i * s)).length ≤ s := by simp; omega
  have l2 : ((v.take q).drop (i * s) ++ [v.getD q 0]).length ≤ s := by simp; omega
  rw [take_snoc v q hq, List.drop_append_of_le_length (by simp; omega), List.take_of_length_le l2, List.take_of_length_le l1]
theorem part_out {v : List Int} {i s q : Nat} (h : q < i * s ∨ i * s + s ≤ q) (hq : q < v.length) : part v i s (q + 1) = part v i s q := by
  unfold part
  rcases h with h | h
  · rw [List.drop_of_length_le (by simp; omega), List.drop_of_length_le (by simp; omega)]
  · rw [take_snoc v q hq, List.drop_append_of_le_length (by simp; omega), List.take_append_of_le_length (by simp; omega)]
theorem part_all (v : List Int) (i s : Nat) : part v i s v.length = piece v i s := by simp [part, piece]
theorem head_is {x s q k : Nat} {t : List Int} (hr : rightB t = true) (hs : sizeI t = s) (hq : q < x * s) : ((dg ((x : Int) :: t) q).getD 0 0 = (k : Int)) ↔ (k * s ≤ q ∧ q < k * s + s) := by
  have hp : prod t = s := by rw [← hs]; simp [sizeI, hr]
  have h0 : 0 < s := by
    rcases Nat.eq_zero_or_pos s with h | h
    · subst h; simp at hq
    · exact h
  have e : (dg ((x : Int) :: t) q).getD 0 0 = ((q / s : Nat) : Int) := by
    show ((q : Int) / prod t) % (x : Int) = _
    rw [hp]
    have h1 : q / s < x := (Nat.div_lt_iff_lt_mul h0).2 hq
    rw [← Int.natCast_ediv, ← Int.natCast_emod, Nat.mod_eq_of_lt h1]
  rw [e]
  constructor
  · intro h
    have h1 : q / s = k := by omega
    have h2 := Nat.div_add_mod q s
    have h3 := Nat.mod_lt q h0
    rw [h1, Nat.mul_comm] at h2
    omega
  · rintro ⟨h1, h2⟩
    have : q / s = k := by
      apply Nat.div_eq_of_lt_le
      · rw [Nat.mul_comm] at h1; rw [Nat.mul_comm]; exact h1
      · rw [Nat.add_mul, Nat.one_mul]; omega
    omega

theorem Outs.view {d : List Int} {w : World} {base : Nat} {v : Value} {n : Nat} (h : Outs d w base v n) :
    ∃ A c, v = .slice A n c ∧ ∀ t, t < n → ∃ b At ct, A = some ⟨b, 0, none⟩ ∧ w.cell? ⟨b, t, none⟩ = some (.slice At d.length ct) ∧ Ints w At (dg d t) := by
  obtain ⟨vs, h1, h2⟩ := h
  have hlen : vs.length = n := by simpa using h1.1
  rcases h1.2 with ⟨rfl, h0⟩ | ⟨g, cap, cur, rfl, _⟩
  · exact ⟨none, 0, by rw [h0], fun t ht => absurd ht (by omega)⟩
  · refine ⟨_, cap, rfl, fun t ht => ?_⟩
    have hc := h1.cellAt t (by omega)
    have hv : vs[t]? = some vs[t] := List.getElem?_eq_getElem (by omega)
    obtain ⟨At, ct, hu, hi⟩ := (h2 t _ hv).ints
    rw [hv, hu, dg_length] at hc
    exact ⟨g, At, ct, rfl, hc, hi⟩
theorem own_grown {w w' : World} {base : Nat} {e : TypeId} {size : Nat} {v : Value} {n : Nat} {xs : List Value} {g : Nat} {x y : Value} (h : w.ownsRow base e size v n xs) (hb : Box w g x y) (hne : e ≠ 25) (hg : w.grownBy w' (some g)) : w'.ownsRow base e size v n xs := by
  have hlt := own_lt h
  refine ⟨h.1, ?_⟩
  rcases h.2 with hn | ⟨g', cap, cur, rfl, hbg, hh, r⟩
  · exact .inl hn
  · refine .inr ⟨g', cap, cur, rfl, hbg, (hg.block g' (hlt g' rfl) (fun e1 => ?_)).trans hh, r⟩
    injection e1 with e1
    subst e1
    unfold Box at hb
    rw [hh] at hb
    injection hb with hb
    injection hb with _ ht
    exact hne ht
theorem Outs.grown {d : List Int} {w w' : World} {base : Nat} {v : Value} {n g : Nat} {x y : Value} (h : Outs d w base v n) (hb : Box w g x y) (hg : w.grownBy w' (some g)) : Outs d w' base v n := by
  obtain ⟨vs, h1, h2⟩ := h
  exact ⟨vs, own_grown h1 hb (by decide) hg, fun t u hu => own_grown (h2 t u hu) hb (by decide) hg⟩
/-- Only block g, and what is new, has turned. -/
theorem turned_drew {a w : World} {row : Option Nat} (h : a.grownBy w row) : a.grownBy w.drew row := ⟨h.os, h.tape, h.output, h.size, h.block⟩
theorem turned_drewN {a w : World} {row : Option Nat} (h : a.grownBy w row) (n : Nat) : a.grownBy (w.drewN n) row := ⟨h.os, h.tape, h.output, h.size, h.block⟩
theorem turned_alloc {a w : World} {row : Option Nat} (h : a.grownBy w row) (o : Obj) : a.grownBy (w.alloc o) row :=
  ⟨h.os, h.tape, h.output, Nat.le_trans h.size (by simp), fun i hi hne => (Below.heap_alloc w o i (Nat.lt_of_lt_of_le hi h.size)).trans (h.block i hi hne)⟩
theorem turned_set {a w : World} {g : Nat} (h : a.grownBy w (some g)) (j : Nat) (u : Value) : a.grownBy (w.setCell ⟨g, j, none⟩ u) (some g) :=
  ⟨h.os, h.tape, h.output, by simpa [World.setCell] using h.size, fun i hi hne => (Below.heap_setCell w ⟨g, j, none⟩ u i (fun e => hne (by rw [e]))).trans (h.block i hi hne)⟩
theorem turned_grown {a w w' : World} {row r2 : Option Nat} (h : a.grownBy w row) (k : w.grownBy w' r2) (hr : ∀ g, r2 = some g → a.heap.size ≤ g) : a.grownBy w' row :=
  ⟨k.os.trans h.os, k.tape.trans h.tape, k.output.trans h.output, Nat.le_trans h.size k.size, fun i hi hne => (k.block i (Nat.lt_of_lt_of_le hi h.size) (fun e => by have := hr i e.symm; omega)).trans (h.block i hi hne)⟩
theorem below_turned {a b c : World} {g : Nat} (h : Below a.heap.size a b) (k : b.grownBy c (some g)) (hg : a.heap.size ≤ g) : Below a.heap.size a c :=
  ⟨k.os.trans h.os, k.tape.trans h.tape, k.output.trans h.output, Nat.le_trans h.size k.size, fun i hi => (k.block i (Nat.lt_of_lt_of_le hi h.size) (fun e => by injection e with e; omega)).trans (h.block i hi)⟩

end Go.Proofs.Ythabimjmdnhomaa.Sh
