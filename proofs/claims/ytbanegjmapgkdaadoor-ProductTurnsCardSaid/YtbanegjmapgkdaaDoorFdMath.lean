/-
  Plain facts on the numbers along an axis: which number stands at a place one of whose numbers is another one. No condition; nothing of the program stands here.
-/
import Derived.Test.YtbanegjmapgkdaaDoorFdRed
import Derived.Test.YtbanegjmapgkdaaDoorFdScan
import Derived.Test.YtbanegjmapgkdaaDoorPkM
set_option maxRecDepth 100000
namespace Go.Proofs.YtbanegjmapgkdaaDoor.Fd
open Go.Proofs.YtbanegjmapgkdaaDoor.Sh
open Go.RowKit
set_option linter.unusedVariables false

theorem atI_hor {D u p : List Int} (h : cellB D u.length = true) (hp : inB D p = true) : atI D u p = u.getD (hor D p 0).toNat 0 := by
  have hi : idxI D p = hor D p 0 := by unfold idxI; rw [if_pos ⟨(cellB_parts h).1, hp⟩]
  have h0 := (hor_bd D p hp).1
  rw [(atB_is h (by rw [hi]; exact h0)).2, hi]
theorem cellB_len {d : List Int} {n : Nat} (h : cellB d n = true) : (n : Int) = prod d ∧ d.all okAx = true ∧ d.length ≤ 3 ∧ n ≤ 64 := by
  obtain ⟨h1, h2⟩ := cellB_parts h
  obtain ⟨h3, h4, h5⟩ := rightB_all h1
  rw [sizeI_mk h3 h4 h5] at h2
  exact ⟨h2, h4, h3, by omega⟩
theorem okAx_bd {d : List Int} (h : d.all okAx = true) (a : Nat) (ha : a < d.length) : 0 ≤ d.getD a 0 ∧ d.getD a 0 ≤ 64 := by
  have hx : d.getD a 0 ∈ d := by simp [List.getD, ha]
  have := List.all_eq_true.1 h _ hx
  simpa [okAx] using this
/-- The axis, its length, its stride, of a cell that may be. -/
theorem ax_of {d : List Int} {n : Nat} (b : Bool) (h : cellB d n = true) (h0 : 0 < d.length) : ∃ a P st : Nat, AxOk d b a P st ∧ (st : Int) = prod (d.drop (a + 1)) := by
  obtain ⟨e1, e2, e3, e4⟩ := cellB_len h
  have key : ∀ a : Nat, a < d.length → (if b = true then 0 else (d.length : Int) - 1) = (a : Int) → ∃ a P st : Nat, AxOk d b a P st ∧ (st : Int) = prod (d.drop (a + 1)) := by
    intro a ha hax
    have hb := okAx_bd e2 a ha
    have hs := prod_bd (d.drop (a + 1)) (List.all_eq_true.2 fun x hx => List.all_eq_true.1 e2 x (List.mem_of_mem_drop hx))
    have hst : (strB d).getD a 0 = prod (d.drop (a + 1)) := by
      unfold strB
      rw [if_pos (cellB_parts h).1]
      have := strL_drop d a ha
      have h2 : ((strL d).drop a).getD 0 0 = prod (d.drop (a + 1)) := by rw [this]; rfl
      simpa [List.getD] using h2
    refine ⟨a, (d.getD a 0).toNat, (prod (d.drop (a + 1))).toNat, ⟨hax, ha, (Int.toNat_of_nonneg hb.1).symm, by rw [hst]; exact (Int.toNat_of_nonneg hs.1).symm, ?_, by omega⟩, Int.toNat_of_nonneg hs.1⟩
    unfold strB
    rw [if_pos (cellB_parts h).1, strL_length]
  cases b
  · exact key (d.length - 1) (by omega) (by simp; omega)
  · exact key 0 h0 (by simp)
/-- The axes of a cell with numbers, split at one: all are positive. -/
theorem pos_of {d : List Int} {n : Nat} (h : cellB d n = true) (hn : 0 < n) : posL d := by
  obtain ⟨e1, e2, -, -⟩ := cellB_len h
  exact posL_of e2 (by omega)
/-- The number at a place of X ++ P :: Y whose number at that axis is j. -/
theorem at_mid {X Y v : List Int} {P S i j : Int} (h : cellB (X ++ P :: Y) v.length = true) (hX : posL X) (hY : posL Y) (hS : 1 ≤ S) (h0 : 0 ≤ i) (h1 : i < prod (X ++ S :: Y)) (hj0 : 0 ≤ j) (hj : j < P) :
    atI (X ++ P :: Y) v (dg X (i / (S * prod Y)) ++ j :: dg Y i) = v.getD (((i / (S * prod Y)) * P + j) * prod Y + i % prod Y).toNat 0 ∧ ((i / (S * prod Y)) * P + j) * prod Y + i % prod Y < (v.length : Int) := by
  have hin : inB (X ++ P :: Y) (dg X (i / (S * prod Y)) ++ j :: dg Y i) = true := by
    rw [inB_append _ _ _ _ (dg_length _ _), dg_in hX]
    simp only [inB, dg_in hY]
    simp [hj0, hj]
  have hh := hor_one (P := P) (j := j) hX hY hS h0 h1
  have hb := hor_bd _ _ hin
  rw [hh] at hb
  rw [atI_hor h hin, hh]
  exact ⟨rfl, by rw [(cellB_len h).1]; exact hb.2⟩
theorem all_take {d : List Int} (h : d.all okAx = true) (a : Nat) : (d.take a).all okAx = true := List.all_eq_true.2 fun x hx => List.all_eq_true.1 h x (List.mem_of_mem_take hx)
theorem all_drop {d : List Int} (h : d.all okAx = true) (a : Nat) : (d.drop a).all okAx = true := List.all_eq_true.2 fun x hx => List.all_eq_true.1 h x (List.mem_of_mem_drop hx)
/-- What a scan reads stands there. -/
theorem scok_of {d v : List Int} {b : Bool} {a P st : Nat} (h : cellB d v.length = true) (ok : AxOk d b a P st) (hst : (st : Int) = prod (d.drop (a + 1))) : ScOk v P st v.length := by
  obtain ⟨e1, e2, e3, e4⟩ := cellB_len h
  have hle : ∀ k, k / st % P * st ≤ k := fun k => Nat.le_trans (Nat.mul_le_mul_right st (Nat.mod_le _ _)) (Nat.div_mul_le_self k st)
  refine ⟨e4, e4, fun hn => ?_, fun k _ => hle k, fun k hk j hj => ?_⟩
  · have hp := pos_of h hn
    have hP := hp (d.getD a 0) (by simp [List.getD, ok.lt])
    rw [ok.hP] at hP
    have hX : posL (d.take a) := fun x hx => hp x (List.mem_of_mem_take hx)
    have hY : posL (d.drop (a + 1)) := fun x hx => hp x (List.mem_of_mem_drop hx)
    have p1 := prod_pos hX
    have p2 := prod_pos hY
    rw [← hst] at p2
    have hs := split_at d a ok.lt
    have he : (v.length : Int) = prod (d.take a) * ((P : Int) * (st : Int)) := by
      rw [e1]; conv => lhs; rw [hs, prod_append, prod_cons, ok.hP, ← hst]
    refine ⟨⟨by omega, by omega⟩, ?_⟩
    have h1 : (1 : Int) * (1 * (st : Int)) ≤ prod (d.take a) * ((P : Int) * (st : Int)) := Int.mul_le_mul p1 (Int.mul_le_mul hP (Int.le_refl _) (by omega) (by omega)) (by omega) (by omega)
    omega
  · have h1 : j * st ≤ k / st % P * st := Nat.mul_le_mul_right st (by omega)
    have := hle k
    omega
/-- The number of a scan's line. -/
theorem sc_at {d v : List Int} {b : Bool} {a P st : Nat} (h : cellB d v.length = true) (ok : AxOk d b a P st) (hst : (st : Int) = prod (d.drop (a + 1))) {k j : Nat} (hk : k < v.length) (hj : j < P) :
    atI d v (withL (dg d (k : Int)) (a : Int) (j : Int)) = v.getD (k - k / st % P * st + j * st) 0 := by
  obtain ⟨e1, e2, e3, e4⟩ := cellB_len h
  obtain ⟨⟨q1, q2⟩, -⟩ := (scok_of h ok hst).pos (by omega)
  have hp := pos_of h (by omega)
  have hX : posL (d.take a) := fun x hx => hp x (List.mem_of_mem_take hx)
  have hY : posL (d.drop (a + 1)) := fun x hx => hp x (List.mem_of_mem_drop hx)
  have hs := split_at d a ok.lt
  rw [ok.hP] at hs
  have hl : (d.take a).length = a := by simp; have := ok.lt; omega
  generalize d.take a = X at *
  generalize d.drop (a + 1) = Y at *
  subst hs
  have hdg := dg_one' (X := X) (Y := Y) (S := (P : Int)) (i := (k : Int)) (by have := prod_pos hY; omega) (by omega)
  have hw : withL (dg (X ++ (P : Int) :: Y) (k : Int)) (a : Int) (j : Int) = dg X ((k : Int) / ((P : Int) * prod Y)) ++ (j : Int) :: dg Y (k : Int) := by
    unfold withL
    rw [if_pos ⟨by omega, by rw [dg_length]; have := ok.lt; omega⟩, Int.toNat_natCast, hdg, set_mid _ _ _ _ (by rw [dg_length]; exact hl)]
  rw [hw, (at_mid h hX hY (show (1 : Int) ≤ P by omega) (by omega) (by rw [← e1]; omega) (by omega) (by omega)).1, ← hst]
  congr 1
  have c1 : ((k : Int) / ((P : Int) * (st : Int)) * (P : Int) + (j : Int)) * (st : Int) + (k : Int) % (st : Int) = (((k / (P * st)) * P + j) * st + k % st : Nat) := by simp
  rw [c1, Int.toNat_natCast]
  have c2 : k / (P * st) = k / st / P := by rw [Nat.mul_comm, Nat.div_div_eq_div_mul]
  have c3 := Nat.div_add_mod (k / st) P
  have c4 := Nat.div_add_mod k st
  rw [c2]
  generalize k / st / P = x at *
  generalize k / st % P = y at *
  generalize k % st = z at *
  rw [← c3] at c4
  have c5 : st * (P * x + y) = x * P * st + y * st := by rw [Nat.mul_add, Nat.mul_comm st y, Nat.mul_comm st (P * x), Nat.mul_comm P x]
  have c6 : (x * P + j) * st = x * P * st + j * st := Nat.add_mul _ _ _
  omega
/-- A place with one number more, 0, at an axis. -/
def putL (p : List Int) (a : Nat) : List Int := p.take a ++ 0 :: p.drop a
/-- What a fold reads stands there, and which number it is. -/
theorem rd_of {d v : List Int} {b : Bool} {a P st n : Nat} (h : cellB d v.length = true) (ok : AxOk d b a P st) (hst : (st : Int) = prod (d.drop (a + 1))) (hR : rightB (withoutL d (a : Int)) = true) (hn : sizeI (withoutL d (a : Int)) = (n : Int)) :
    RdOk v P st n ∧ ∀ k, k < n → ∀ j, j < P → atI d v (withL (putL (dg (withoutL d (a : Int)) (k : Int)) a) (a : Int) (j : Int)) = v.getD (k / st * st * P + k % st + j * st) 0 := by
  obtain ⟨e1, e2, e3, e4⟩ := cellB_len h
  obtain ⟨r1, r2, r3⟩ := rightB_all hR
  rw [sizeI_mk r1 r2 r3] at hn
  have hO : withoutL d (a : Int) = d.take a ++ d.drop (a + 1) := by
    unfold withoutL
    rw [if_pos ⟨by omega, by have := ok.lt; omega⟩, Int.toNat_natCast, List.eraseIdx_eq_take_drop_succ]
  have hs := split_at d a ok.lt
  rw [ok.hP] at hs
  have hl : (d.take a).length = a := by simp; have := ok.lt; omega
  rw [hO] at r2 r3 hn ⊢
  have hlt := ok.lt
  clear ok hO hR r1
  generalize d.take a = X at *
  generalize d.drop (a + 1) = Y at *
  have hpos : 0 < n → posL X ∧ posL Y := fun h0 => posL_append (posL_of r2 (by omega))
  have key : ∀ k, k < n → ∀ j, j < P → atI d v (withL (putL (dg (X ++ Y) (k : Int)) a) (a : Int) (j : Int)) = v.getD (k / st * st * P + k % st + j * st) 0 ∧ k / st * st * P + k % st + j * st < v.length := by
    intro k hk j hj
    obtain ⟨hX, hY⟩ := hpos (by omega)
    have pY := prod_pos hY
    have hw : withL (putL (dg (X ++ Y) (k : Int)) a) (a : Int) (j : Int) = dg X ((k : Int) / (1 * prod Y)) ++ (j : Int) :: dg Y (k : Int) := by
      rw [dg_append X Y (by omega), Int.one_mul]
      have ht : (dg X ((k : Int) / prod Y)).length = a := by rw [dg_length]; exact hl
      unfold putL withL
      rw [List.take_left' ht, List.drop_left' ht, if_pos ⟨by omega, by simp [ht]; omega⟩, Int.toNat_natCast, set_mid _ _ _ _ ht]
    have hm := at_mid (X := X) (Y := Y) (v := v) (P := (P : Int)) (S := 1) (i := (k : Int)) (j := (j : Int)) (by rw [← hs]; exact h) hX hY (by omega) (by omega) (by rw [prod_append, prod_cons, Int.one_mul, ← prod_append, hn]; omega) (by omega) (by omega)
    rw [← hs] at hm
    rw [hw]
    rw [Int.one_mul, ← hst] at hm ⊢
    have c1 : ((k : Int) / (st : Int) * (P : Int) + (j : Int)) * (st : Int) + (k : Int) % (st : Int) = ((k / st * P + j) * st + k % st : Nat) := by simp
    rw [c1, Int.toNat_natCast] at hm
    have c2 : (k / st * P + j) * st + k % st = k / st * st * P + k % st + j * st := by
      rw [Nat.add_mul, Nat.mul_right_comm]; omega
    rw [c2] at hm
    exact ⟨hm.1, by omega⟩
  refine ⟨⟨by omega, e4, fun h0 => ?_, fun k hk j hj => (key k hk j hj).2⟩, fun k hk j hj => (key k hk j hj).1⟩
  obtain ⟨hX, hY⟩ := hpos h0
  have p1 := prod_pos hX
  have p2 := prod_pos hY
  rw [prod_append, ← hst] at hn r3
  rw [← hst] at p2
  have h1 : (1 : Int) * (st : Int) ≤ prod X * (st : Int) := Int.mul_le_mul p1 (Int.le_refl _) (by omega) (by omega)
  omega
end Go.Proofs.YtbanegjmapgkdaaDoor.Fd
