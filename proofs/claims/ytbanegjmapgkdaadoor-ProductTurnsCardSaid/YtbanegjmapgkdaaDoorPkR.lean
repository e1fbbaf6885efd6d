/-
  What a join of two cells has, as plain lists: lines of the one and of the other, one behind the other. No condition; nothing of the program is walked here. What the program's Join answers for any two cells; nothing that was there is written. Condition: at most 100 axes and 1000 numbers, and the rooms of the axes are ones that can be.
-/
import Derived.Test.YtbanegjmapgkdaaDoorPkO
import Derived.Test.YtbanegjmapgkdaaDoorPkM
import Derived.Test.YtbanegjmapgkdaaDoorPkC
import Derived.Deep.RegionHeld3
import Derived.Deep.DeepCutAuto
set_option maxRecDepth 100000
-- MoJn
namespace Go.Proofs.YtbanegjmapgkdaaDoor.Sh
open Go.RowKit
set_option linter.unusedVariables false

/-- Lines of two lists, one behind the other. -/
def joinL (L R : List Int) (x y : Nat) : Nat → List Int
  | 0 => []
  | n + 1 => joinL L R x y n ++ (piece L n x ++ piece R n y)
theorem joinL_len {L R : List Int} {x y n : Nat} (h1 : n * x ≤ L.length) (h2 : n * y ≤ R.length) : (joinL L R x y n).length = n * (x + y) := by
  induction n with
  | zero => simp [joinL]
  | succ n ih =>
    have a1 : n * x ≤ L.length := by rw [Nat.add_mul] at h1; omega
    have a2 : n * y ≤ R.length := by rw [Nat.add_mul] at h2; omega
    rw [joinL, List.length_append, List.length_append, ih a1 a2, piece_length h1, piece_length h2, Nat.add_mul, Nat.one_mul]
/-- The numbers of a cell of these axes, filled over and over. -/
def fillL (d v : List Int) : List Int := (List.range (sizeI d).toNat).map (cyc v)
theorem fillL_len (d v : List Int) : (fillL d v).length = (sizeI d).toNat := by simp [fillL]
theorem fillL_self {d v : List Int} (h : cellB d v.length = true) : fillL d v = v := by
  have := (cellB_parts h).2
  unfold fillL
  rw [← this, Int.toNat_natCast]
  refine (eq_map_of' rfl fun i hi => ?_).symm
  unfold cyc
  rw [Nat.mod_eq_of_lt hi]
where
  eq_map_of' {l : List Int} {N : Nat} {f : Nat → Int} (h : l.length = N) (hf : ∀ i, i < N → l.getD i 0 = f i) : l = (List.range N).map f := by
    apply List.ext_getElem (by simp [h])
    intro i h1 h2
    have := hf i (by omega)
    simp only [List.getD] at this
    rw [List.getElem?_eq_getElem h1] at this
    simpa using this
theorem all_set {d : List Int} (h : d.all okAx = true) (k : Nat) {x : Int} (hx : okAx x = true) : (d.set k x).all okAx = true := by
  rw [List.all_eq_true] at h ⊢
  intro y hy
  rcases List.mem_or_eq_of_mem_set hy with h1 | h1
  · exact h y h1
  · rw [h1]; exact hx
theorem beside_ok {d e : List Int} (h1 : rightB d = true) (h2 : rightB e = true) : 0 < (besideL d e).length ∧ (besideL d e).length ≤ 3 ∧ (besideL d e).all okAx = true := by
  unfold besideL
  split
  · rename_i h
    rw [withL_len]
    refine ⟨h.2, (rightB_all h2).1, ?_⟩
    unfold withL
    split
    · exact all_set (rightB_all h2).2.1 _ rfl
    · exact (rightB_all h2).2.1
  · have := listed_right h1
    exact ⟨listed_len d, (rightB_all this).1, (rightB_all this).2.1⟩
theorem beside_self {d e : List Int} (h : ¬ d.length = 0) : besideL d e = d := by
  unfold besideL
  rw [if_neg (fun h' => h h'.1)]
  unfold listedL
  rw [if_neg h]
theorem snoc_of {a : List Int} {L : Nat} (h : a.length = L + 1) : a = a.take L ++ [a.getD L 0] := by
  rw [← take_snoc a L (by omega), ← h, List.take_length]
/-- What is known of a join that goes well. -/
structure JoinOk (a b X : List Int) (x y n N La Lb : Nat) : Prop where
  ha : a = X ++ [(x : Int)]
  hb : b = X ++ [(y : Int)]
  ra : rightB a = true
  rb : rightB b = true
  rj : rightB (X ++ [((x + y : Nat) : Int)]) = true
  hn : sizeI X = n
  hN : sizeI (X ++ [((x + y : Nat) : Int)]) = N
  la : sizeI a = La
  lb : sizeI b = Lb
  nN : n * (x + y) = N
  nx : n * x ≤ La
  ny : n * y ≤ Lb
  sum : N = La + Lb
theorem joinOk_of {a b : List Int} {L : Nat} (hL : a.length = L + 1) (h3 : a.length ≤ 3) (oa : a.all okAx = true) (ob : b.all okAx = true) (h : jnE a b L = 0) :
    jn0 a b L = a.take L ++ [(((a.getD L 0).toNat + (b.getD L 0).toNat : Nat) : Int)] ∧
    ∃ n N La Lb, JoinOk a b (a.take L) (a.getD L 0).toNat (b.getD L 0).toNat n N La Lb := by
  unfold jnE at h
  split at h
  · rename_i hab
    split at h
    · rename_i htk
      split at h
      · rename_i hr
        have xa := okAx_at oa L (by omega)
        have xb := okAx_at ob L (by omega)
        obtain ⟨x, hx⟩ : ∃ x : Nat, a.getD L 0 = x := ⟨(a.getD L 0).toNat, by omega⟩
        obtain ⟨y, hy⟩ : ∃ y : Nat, b.getD L 0 = y := ⟨(b.getD L 0).toNat, by omega⟩
        have ea := snoc_of hL
        have eb := snoc_of (a := b) (L := L) (by omega)
        rw [← htk] at eb
        rw [hx] at ea
        rw [hy] at eb
        have ej : jn0 a b L = a.take L ++ [((x + y : Nat) : Int)] := by
          unfold jn0
          rw [hx, hy, withL_at a L (by omega)]
          rw [List.drop_eq_nil_of_le (by omega)]
          push_cast; rfl
        rw [hx, hy, Int.toNat_natCast, Int.toNat_natCast]
        refine ⟨ej, ?_⟩
        rw [ej] at hr
        generalize hX : a.take L = X at *
        have hXl : X.length = L := by rw [← hX, List.length_take]; omega
        have oX : X.all okAx = true := by rw [← hX, List.all_eq_true]; intro z hz; exact List.all_eq_true.1 oa z (List.mem_of_mem_take hz)
        have pX := (prod_bd X oX).1
        obtain ⟨p, hp⟩ : ∃ p : Nat, prod X = p := ⟨(prod X).toNat, by omega⟩
        have hr3 := rightB_all hr
        have pj : prod (X ++ [((x + y : Nat) : Int)]) = ((p * (x + y) : Nat) : Int) := by rw [prod_snoc, hp]; push_cast; rfl
        have pa : prod a = ((p * x : Nat) : Int) := by rw [ea, prod_snoc, hp]; push_cast; rfl
        have pb : prod b = ((p * y : Nat) : Int) := by rw [eb, prod_snoc, hp]; push_cast; rfl
        have hm : p * (x + y) = p * x + p * y := Nat.mul_add p x y
        have h64 : p * (x + y) ≤ 64 := by have := hr3.2.2; rw [pj] at this; omega
        have ra : rightB a = true := rightB_mk h3 oa (by rw [pa]; omega)
        have rb : rightB b = true := rightB_mk (by omega) ob (by rw [pb]; omega)
        have sa : sizeI a = ((p * x : Nat) : Int) := by rw [sizeI, if_pos ra, pa]
        have sb : sizeI b = ((p * y : Nat) : Int) := by rw [sizeI, if_pos rb, pb]
        have sj : sizeI (X ++ [((x + y : Nat) : Int)]) = ((p * (x + y) : Nat) : Int) := by rw [sizeI, if_pos hr, pj]
        by_cases rX : rightB X = true
        · have sX : sizeI X = (p : Int) := by rw [sizeI, if_pos rX, hp]
          exact ⟨p, _, _, _, ea, eb, ra, rb, hr, sX, sj, sa, sb, rfl, Nat.le_refl _, Nat.le_refl _, hm⟩
        · have hp64 : 64 < p := by
            rcases Nat.lt_or_ge 64 p with h1 | h1
            · exact h1
            · exact absurd (rightB_mk (by omega) oX (by omega)) rX
          have sX : sizeI X = ((0 : Nat) : Int) := by rw [sizeI, if_neg rX]; rfl
          have hxy : x + y = 0 := by
            rcases Nat.eq_zero_or_pos (x + y) with h1 | h1
            · exact h1
            · have : p * 1 ≤ p * (x + y) := Nat.mul_le_mul_left p h1
              omega
          refine ⟨0, _, _, _, ea, eb, ra, rb, hr, sX, sj, sa, sb, ?_, by simp, by simp, hm⟩
          rw [hxy]; simp
      · omega
    · omega
  · omega
def joE (d v e u : List Int) : Int := if cellB d v.length = true ∧ cellB e u.length = true then jnE (besideL d e) (besideL e d) ((besideL d e).length - 1) else 1
def joD (d v e u : List Int) : List Int := if joE d v e u = 0 then jn0 (besideL d e) (besideL e d) ((besideL d e).length - 1) else []
def joV (d v e u : List Int) : List Int := if joE d v e u = 0 then joinL (fillL (besideL d e) v) (fillL (besideL e d) u) ((besideL d e).getD ((besideL d e).length - 1) 0).toNat ((besideL e d).getD ((besideL d e).length - 1) 0).toNat (sizeI ((besideL d e).take ((besideL d e).length - 1))).toNat else []
section
variable {d v e u : List Int}
theorem jo_1 (h : cellB d v.length = false) : joE d v e u = 1 ∧ joD d v e u = [] ∧ joV d v e u = [] := by
  have : joE d v e u = 1 := by simp [joE, h]
  simp [joD, joV, this]
theorem jo_1' (h : cellB e u.length = false) : joE d v e u = 1 ∧ joD d v e u = [] ∧ joV d v e u = [] := by
  have : joE d v e u = 1 := by simp [joE, h]
  simp [joD, joV, this]
theorem jo_e (h1 : cellB d v.length = true) (h2 : cellB e u.length = true) : joE d v e u = jnE (besideL d e) (besideL e d) ((besideL d e).length - 1) := by unfold joE; rw [if_pos ⟨h1, h2⟩]
theorem jo_n (h : ¬ joE d v e u = 0) : joD d v e u = [] ∧ joV d v e u = [] := by simp [joD, joV, h]
theorem jo_0 (h1 : cellB d v.length = true) (h2 : cellB e u.length = true) (h : joE d v e u = 0) :
    ∃ X x y n N La Lb, JoinOk (besideL d e) (besideL e d) X x y n N La Lb ∧ (besideL d e).length = X.length + 1 ∧ joD d v e u = X ++ [((x + y : Nat) : Int)] ∧ joV d v e u = joinL (fillL (besideL d e) v) (fillL (besideL e d) u) x y n ∧ (joV d v e u).length = N := by
  have b1 := beside_ok (cellB_parts h1).1 (cellB_parts h2).1
  have b2 := beside_ok (cellB_parts h2).1 (cellB_parts h1).1
  have hE := jo_e h1 h2
  rw [h] at hE
  obtain ⟨hj, n, N, La, Lb, ok⟩ := joinOk_of (a := besideL d e) (b := besideL e d) (L := (besideL d e).length - 1) (by omega) b1.2.1 b1.2.2 b2.2.2 hE.symm
  have hV : joV d v e u = joinL (fillL (besideL d e) v) (fillL (besideL e d) u) ((besideL d e).getD ((besideL d e).length - 1) 0).toNat ((besideL e d).getD ((besideL d e).length - 1) 0).toNat n := by
    unfold joV; rw [if_pos h, ok.hn, Int.toNat_natCast]
  refine ⟨_, _, _, n, N, La, Lb, ok, ?_, ?_, hV, ?_⟩
  · rw [List.length_take]; omega
  · unfold joD; rw [if_pos h, hj]
  · rw [hV, joinL_len, ok.nN]
    · rw [fillL_len, ok.la]; simpa using ok.nx
    · rw [fillL_len, ok.lb]; simpa using ok.ny
theorem joD_len : (joD d v e u).length ≤ 3 ∧ (joV d v e u).length ≤ 64 := by
  by_cases h : joE d v e u = 0
  · by_cases h1 : cellB d v.length = true
    · by_cases h2 : cellB e u.length = true
      · obtain ⟨X, x, y, n, N, La, Lb, ok, hl, e1, e2, e3⟩ := jo_0 h1 h2 h
        rw [e1, e3]
        have := sizeI_bd (X ++ [((x + y : Nat) : Int)])
        rw [ok.hN] at this
        exact ⟨(rightB_all ok.rj).1, by omega⟩
      · rw [(jo_1' (d := d) (v := v) (by simpa using h2)).2.1, (jo_1' (d := d) (v := v) (by simpa using h2)).2.2]; simp
    · rw [(jo_1 (e := e) (u := u) (by simpa using h1)).2.1, (jo_1 (e := e) (u := u) (by simpa using h1)).2.2]; simp
  · rw [(jo_n h).1, (jo_n h).2]; simp
end
end Go.Proofs.YtbanegjmapgkdaaDoor.Sh
-- MoJoin
namespace Go.Proofs.YtbanegjmapgkdaaDoor.Sh
open Go.RowKit
set_option linter.unusedVariables false

theorem piece_z (u : List Int) (i : Nat) : piece u i 0 = [] := by simp [piece]
theorem box_s (W : World) : Box ((W.alloc (.cells #[.slice none 0 0, .slice none 0 0] 29)).alloc (.cells #[.slice none 0 0, .slice none 0 0] 29)) (W.heap.size + 1) (.slice none 0 0) (.slice none 0 0) := by
  have := Box.new (W.alloc (.cells #[.slice none 0 0, .slice none 0 0] 29)) (.slice none 0 0) (.slice none 0 0)
  rw [show (W.alloc (.cells #[.slice none 0 0, .slice none 0 0] 29)).heap.size = W.heap.size + 1 from by simp] at this
  exact this
theorem Row64.fr {w : World} {g base : Nat} {xs : List Int} (h : Row64 w g xs) (hb : base ≤ g) : Fr w base (some ⟨g, 0, none⟩) xs := fun _ => ⟨g, 0, rfl, hb, h.lt, fun i hi => by rw [Nat.zero_add]; exact h.cell hi⟩
theorem keepGG {W w' : World} {gV : Nat} {p q : Addr} {x y : Value} (h : W.grownBy w' (some gV)) (h1 : p.block ≠ gV) (h2 : q.block ≠ gV) (hc : W.cell? p = some x ∧ W.cell? q = some y) : w'.cell? p = some x ∧ w'.cell? q = some y :=
  ⟨(World.cell?_of_block (h.block p.block (World.block_lt_of_cell? W p hc.1) (fun e => by injection e with e; exact h1 e))).trans hc.1, (World.cell?_of_block (h.block q.block (World.block_lt_of_cell? W q hc.2) (fun e => by injection e with e; exact h2 e))).trans hc.2⟩
/-- Behind the axes that count. -/
def CutJ1 (w : World) (a b : List Int) (s6 s7 : Value) (wx : World) : Prop := ∃ A6 c6 A7 c7, s6 = .slice A6 a.length c6 ∧ s7 = .slice A7 b.length c7 ∧ Ints wx A6 a ∧ Ints wx A7 b ∧ a.length ≤ c6 ∧ c6 ≤ maxLen ∧ b.length ≤ c7 ∧ c7 ≤ maxLen ∧ Below w.heap.size w wx
/-- Behind the two filled cells. -/
def CutJ2 (w : World) (a L b R : List Int) (s10 s11 : Value) (wx : World) : Prop := ∃ g10 g11 A10 c10 B10 e10 A11 c11 B11 e11, s10 = .pointer (some ⟨g10, 0, none⟩) ∧ s11 = .pointer (some ⟨g11, 0, none⟩) ∧ Box wx g10 (.slice A10 a.length c10) (.slice B10 L.length e10) ∧ Box wx g11 (.slice A11 b.length c11) (.slice B11 R.length e11) ∧
  Ints wx B10 L ∧ Ints wx B11 R ∧ L.length ≤ e10 ∧ e10 ≤ maxLen ∧ R.length ≤ e11 ∧ e11 ≤ maxLen ∧ Below w.heap.size w wx
section
variable {w W : World} {a LL b RR : List Int} {A10 B10 A11 B11 : Option Addr} {c10 e10 c11 e11 : Nat} (hL : Below w.heap.size w W) (j10 : Ints W B10 LL) (j11 : Ints W B11 RR) (h1 : LL.length ≤ e10) (h2 : e10 ≤ maxLen) (h3 : RR.length ≤ e11) (h4 : e11 ≤ maxLen)
include hL j10 j11 h1 h2 h3 h4
theorem jc1 : CutJ2 w a LL b RR (.pointer (some ⟨W.heap.size, 0, none⟩)) (.pointer (some ⟨W.heap.size + 1, 0, none⟩)) ((W.alloc (.cells #[.slice A10 a.length c10, .slice B10 LL.length e10] 29)).alloc (.cells #[.slice A11 b.length c11, .slice B11 RR.length e11] 29)) := by
  have b1 := below_new W (.cells #[.slice A10 a.length c10, .slice B10 LL.length e10] 29)
  have b2 := below_next b1 (below_new _ (.cells #[.slice A11 b.length c11, .slice B11 RR.length e11] 29))
  have x2 := Box.new (W.alloc (.cells #[.slice A10 a.length c10, .slice B10 LL.length e10] 29)) (.slice A11 b.length c11) (.slice B11 RR.length e11)
  rw [show (W.alloc (.cells #[.slice A10 a.length c10, .slice B10 LL.length e10] 29)).heap.size = W.heap.size + 1 from by simp] at x2
  exact ⟨_, _, A10, c10, B10, e10, A11, c11, B11, e11, rfl, rfl, (Box.new W _ _).alloc _, x2, j10.below b2, j11.below b2, h1, h2, h3, h4, below_next hL b2⟩
theorem jc2 : CutJ2 w a LL b RR (.pointer (some ⟨W.heap.size + 1, 0, none⟩)) (.pointer (some ⟨W.heap.size, 0, none⟩)) ((W.alloc (.cells #[.slice A11 b.length c11, .slice B11 RR.length e11] 29)).alloc (.cells #[.slice A10 a.length c10, .slice B10 LL.length e10] 29)) := by
  have b1 := below_new W (.cells #[.slice A11 b.length c11, .slice B11 RR.length e11] 29)
  have b2 := below_next b1 (below_new _ (.cells #[.slice A10 a.length c10, .slice B10 LL.length e10] 29))
  have x2 := Box.new (W.alloc (.cells #[.slice A11 b.length c11, .slice B11 RR.length e11] 29)) (.slice A10 a.length c10) (.slice B10 LL.length e10)
  rw [show (W.alloc (.cells #[.slice A11 b.length c11, .slice B11 RR.length e11] 29)).heap.size = W.heap.size + 1 from by simp] at x2
  exact ⟨_, _, A10, c10, B10, e10, A11, c11, B11, e11, rfl, rfl, x2, (Box.new W _ _).alloc _, j10.below b2, j11.below b2, h1, h2, h3, h4, below_next hL b2⟩
variable {g : Nat} (bx : Box W g (.slice none 0 0) (.slice none 0 0)) (hg : w.heap.size ≤ g)
include bx hg
theorem jc3 : CutJ2 w a LL b RR (.pointer (some ⟨g, 0, none⟩)) (.pointer (some ⟨W.heap.size, 0, none⟩)) (((W.setCell ⟨g, 0, none⟩ (.slice A10 a.length c10)).setCell ⟨g, 1, none⟩ (.slice B10 LL.length e10)).alloc (.cells #[.slice A11 b.length c11, .slice B11 RR.length e11] 29)) := by
  have s1 := (bx.set0 (.slice A10 a.length c10)).set1 (.slice B10 LL.length e10)
  have i1 := j10.set_box bx (.slice A10 a.length c10) (.slice B10 LL.length e10)
  have i2 := j11.set_box bx (.slice A10 a.length c10) (.slice B10 LL.length e10)
  have l1 := (hL.setCell (p := ⟨g, 0, none⟩) hg (.slice A10 a.length c10)).setCell (p := ⟨g, 1, none⟩) hg (.slice B10 LL.length e10)
  have hs : ((W.setCell ⟨g, 0, none⟩ (.slice A10 a.length c10)).setCell ⟨g, 1, none⟩ (.slice B10 LL.length e10)).heap.size = W.heap.size := by simp [World.setCell]
  generalize (W.setCell ⟨g, 0, none⟩ (.slice A10 a.length c10)).setCell ⟨g, 1, none⟩ (.slice B10 LL.length e10) = V at *
  have b1 := below_new V (.cells #[.slice A11 b.length c11, .slice B11 RR.length e11] 29)
  have x2 := Box.new V (.slice A11 b.length c11) (.slice B11 RR.length e11)
  rw [hs] at x2
  exact ⟨_, _, A10, c10, B10, e10, A11, c11, B11, e11, rfl, rfl, s1.alloc _, x2, i1.below b1, i2.below b1, h1, h2, h3, h4, below_next l1 b1⟩
theorem jc4 : CutJ2 w a LL b RR (.pointer (some ⟨W.heap.size, 0, none⟩)) (.pointer (some ⟨g, 0, none⟩)) (((W.setCell ⟨g, 0, none⟩ (.slice A11 b.length c11)).setCell ⟨g, 1, none⟩ (.slice B11 RR.length e11)).alloc (.cells #[.slice A10 a.length c10, .slice B10 LL.length e10] 29)) := by
  have s1 := (bx.set0 (.slice A11 b.length c11)).set1 (.slice B11 RR.length e11)
  have i1 := j10.set_box bx (.slice A11 b.length c11) (.slice B11 RR.length e11)
  have i2 := j11.set_box bx (.slice A11 b.length c11) (.slice B11 RR.length e11)
  have l1 := (hL.setCell (p := ⟨g, 0, none⟩) hg (.slice A11 b.length c11)).setCell (p := ⟨g, 1, none⟩) hg (.slice B11 RR.length e11)
  have hs : ((W.setCell ⟨g, 0, none⟩ (.slice A11 b.length c11)).setCell ⟨g, 1, none⟩ (.slice B11 RR.length e11)).heap.size = W.heap.size := by simp [World.setCell]
  generalize (W.setCell ⟨g, 0, none⟩ (.slice A11 b.length c11)).setCell ⟨g, 1, none⟩ (.slice B11 RR.length e11) = V at *
  have b1 := below_new V (.cells #[.slice A10 a.length c10, .slice B10 LL.length e10] 29)
  have x2 := Box.new V (.slice A10 a.length c10) (.slice B10 LL.length e10)
  rw [hs] at x2
  exact ⟨_, _, A10, c10, B10, e10, A11, c11, B11, e11, rfl, rfl, x2, s1.alloc _, i1.below b1, i2.below b1, h1, h2, h3, h4, below_next l1 b1⟩
variable {g' : Nat} (bx' : Box W g' (.slice none 0 0) (.slice none 0 0)) (hg' : w.heap.size ≤ g') (hne : g ≠ g')
include bx' hg' hne
theorem jc5 : CutJ2 w a LL b RR (.pointer (some ⟨g, 0, none⟩)) (.pointer (some ⟨g', 0, none⟩)) ((((W.setCell ⟨g, 0, none⟩ (.slice A10 a.length c10)).setCell ⟨g, 1, none⟩ (.slice B10 LL.length e10)).setCell ⟨g', 0, none⟩ (.slice A11 b.length c11)).setCell ⟨g', 1, none⟩ (.slice B11 RR.length e11)) := by
  have s1 := (bx.set0 (.slice A10 a.length c10)).set1 (.slice B10 LL.length e10)
  have s2 := (bx'.far (p := ⟨g, 0, none⟩) (Ne.symm hne) (.slice A10 a.length c10)).far (p := ⟨g, 1, none⟩) (Ne.symm hne) (.slice B10 LL.length e10)
  have i1 := j10.set_box bx (.slice A10 a.length c10) (.slice B10 LL.length e10)
  have i2 := j11.set_box bx (.slice A10 a.length c10) (.slice B10 LL.length e10)
  have l1 := (hL.setCell (p := ⟨g, 0, none⟩) hg (.slice A10 a.length c10)).setCell (p := ⟨g, 1, none⟩) hg (.slice B10 LL.length e10)
  generalize (W.setCell ⟨g, 0, none⟩ (.slice A10 a.length c10)).setCell ⟨g, 1, none⟩ (.slice B10 LL.length e10) = V at *
  exact ⟨_, _, A10, c10, B10, e10, A11, c11, B11, e11, rfl, rfl, (s1.far (p := ⟨g', 0, none⟩) hne (.slice A11 b.length c11)).far (p := ⟨g', 1, none⟩) hne (.slice B11 RR.length e11), (s2.set0 (.slice A11 b.length c11)).set1 (.slice B11 RR.length e11), i1.set_box s2 (.slice A11 b.length c11) (.slice B11 RR.length e11), i2.set_box s2 (.slice A11 b.length c11) (.slice B11 RR.length e11), h1, h2, h3, h4, (l1.setCell (p := ⟨g', 0, none⟩) hg' (.slice A11 b.length c11)).setCell (p := ⟨g', 1, none⟩) hg' (.slice B11 RR.length e11)⟩
end

end Go.Proofs.YtbanegjmapgkdaaDoor.Sh
