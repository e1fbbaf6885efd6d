/-
  What a join of two cells has, as plain lists: lines of the one and of the other, one behind the other. No condition; nothing of the program is walked here. What the program's Join answers for any two cells; nothing that was there is written. Condition: at most 100 axes and 1000 numbers, and the rooms of the axes are ones that can be.
-/
import Derived.Test.YtfnpdflapmbnjaaPkO
import Derived.Test.YtfnpdflapmbnjaaPkM
import Derived.Test.YtfnpdflapmbnjaaPkC
import Derived.Deep.RegionHeld3
import Derived.Deep.DeepCutAuto
-- MoJn
namespace Go.Proofs.Ytfnpdflapmbnjaa.Sh
open Go.RowKit
set_option linter.unusedVariables false

/-- Lines of two lists, one behind the other. -/
def joinL (L R : List Int) (x y : Nat) : Nat → List Int
  | 0 => []
  | n + 1 => joinL L R x y n ++ (piece L n x ++ piece R n y)
theorem joinL_len {L R : List Int} {x y n : Nat} (h1 : n * x ≤ L.length) (h2 : n * y ≤ R.length) : (joinL L R x y n).length = n * (x + y) := by
  induction n with
  | zero => simp [joinL]
  | succ n ih =>
    have a1 : n * x ≤ L.length := by rw [Nat.add_mul] at h1; omega
    have a2 : n * y ≤ R.length := by rw [Nat.add_mul] at h2; omega
    rw [joinL, List.length_append, List.length_append, ih a1 a2, piece_length h1, piece_length h2, Nat.add_mul, Nat.one_mul]
/-- The numbers of a cell of these axes, filled over and over. -/
def fillL (d v : List Int) : List Int := (List.range (sizeI d).toNat).map (cyc v)
theorem fillL_len (d v : List Int) : (fillL d v).length = (sizeI d).toNat := by simp [fillL]
theorem fillL_self {d v : List Int} (h : cellB d v.length = true) : fillL d v = v := by
  have := (cellB_parts h).2
  unfold fillL
  rw [← this, Int.toNat_natCast]
  refine (eq_map_of' rfl fun i hi => ?_).symm
  unfold cyc
  rw [Nat.mod_eq_of_lt hi]
where
  eq_map_of' {l : List Int} {N : Nat} {f : Nat → Int} (h : l.length = N) (hf : ∀ i, i < N → l.getD i 0 = f i) : l = (List.range N).map f := by
    apply List.ext_getElem (by simp [h])
    intro i h1 h2
    have := hf i (by omega)
    simp only [List.getD] at this
    rw [List.getElem?_eq_getElem h1] at this
    simpa using this
theorem all_set {d : List Int} (h : d.all okAx = true) (k : Nat) {x : Int} (hx : okAx x = true) : (d.set k x).all okAx = true := by
  rw [List.all_eq_true] at h ⊢
  intro y hy
  rcases List.mem_or_eq_of_mem_set hy with h1 | h1
  · exact h y h1
  · rw [h1]; exact hx
theorem beside_ok {d e : List Int} (h1 : rightB d = true) (h2 : rightB e = true) : 0 < (besideL d e).length ∧ (besideL d e).length ≤ 3 ∧ (besideL d e).all okAx = true := by
  unfold besideL
  split
  · rename_i h
    rw [withL_len]
    refine ⟨h.2, (rightB_all h2).1, ?_⟩
    unfold withL
    split
    · exact all_set (rightB_all h2).2.1 _ rfl
    · exact (rightB_all h2).2.1
  · have := listed_right h1
    exact ⟨listed_len d, (rightB_all this).1, (rightB_all this).2.1⟩
theorem beside_self {d e : List Int} (h : ¬ d.length = 0) : besideL d e = d := by
  unfold besideL
  rw [if_neg (fun h' => h h'.1)]
  unfold listedL
  rw [if_neg h]
theorem snoc_of {a : List Int} {L : Nat} (h : a.length = L + 1) : a = a.take L ++ [a.getD L 0] := by
  rw [← take_snoc a L (by omega), ← h, List.take_length]
/-- What is known of a join that goes well. -/
structure JoinOk (a b X : List Int) (x y n N La Lb : Nat) : Prop where
  ha : a = X ++ [(x : Int)]
  hb : b = X ++ [(y : Int)]
  ra : rightB a = true
  rb : rightB b = true
  rj : rightB (X ++ [((x + y : Nat) : Int)]) = true
  hn : sizeI X = n
  hN : sizeI (X ++ [((x + y : Nat) : Int)]) = N
  la : sizeI a = La
  lb : sizeI b = Lb
  nN : n * (x + y) = N
  nx : n * x ≤ La
  ny : n * y ≤ Lb
  sum : N = La + Lb
theorem joinOk_of {a b : List Int} {L : Nat} (hL : a.length = L + 1) (h3 : a.length ≤ 3) (oa : a.all okAx = true) (ob : b.all okAx = true) (h : jnE a b L = 0) :
    jn0 a b L = a.take L ++ [(((a.getD L 0).toNat + (b.getD L 0).toNat : Nat) : Int)] ∧
    ∃ n N La Lb, JoinOk a b (a.take L) (a.getD L 0).toNat (b.getD L 0).toNat n N La Lb := by
  unfold jnE at h
  split at h
  · rename_i hab
    split at h
    · rename_i htk
      split at h
      · rename_i hr
        have xa := okAx_at oa L (by omega)
        have xb := okAx_at ob L (by omega)
        obtain ⟨x, hx⟩ : ∃ x : Nat, a.getD L 0 = x := ⟨(a.getD L 0).toNat, by omega⟩
        obtain ⟨y, hy⟩ : ∃ y : Nat, b.getD L 0 = y := ⟨(b.getD L 0).toNat, by omega⟩
        have ea := snoc_of hL
        have eb := snoc_of (a := b) (L := L) (by omega)
        rw [← htk] at eb
        rw [hx] at ea
        rw [hy] at eb
        have ej : jn0 a b L = a.take L ++ [((x + y : Nat) : Int)] := by
          unfold jn0
          rw [hx, hy, withL_at a L (by omega)]
          rw [List.drop_eq_nil_of_le (by omega)]
          push_cast; rfl
        rw [hx, hy, Int.toNat_natCast, Int.toNat_natCast]
        refine ⟨ej, ?_⟩
        rw [ej] at hr
        generalize hX : a.take L = X at *
        have hXl : X.length = L := by rw [← hX, List.length_take]; omega
        have oX : X.all okAx = true := by rw [← hX, List.all_eq_true]; intro z hz; exact List.all_eq_true.1 oa z (List.mem_of_mem_take hz)
        have pX := (prod_bd X oX).1
        obtain ⟨p, hp⟩ : ∃ p : Nat, prod X = p := ⟨(prod X).toNat, by omega⟩
        have hr3 := rightB_all hr
        have pj : prod (X ++ [((x + y : Nat) : Int)]) = ((p * (x + y) : Nat) : Int) := by rw [prod_snoc, hp]; push_cast; rfl
        have pa : prod a = ((p * x : Nat) : Int) := by rw [ea, prod_snoc, hp]; push_cast; rfl
        have pb : prod b = ((p * y : Nat) : Int) := by rw [eb, prod_snoc, hp]; push_cast; rfl
        have hm : p * (x + y) = p * x + p * y := Nat.mul_add p x y
        have h64 : p * (x + y) ≤ 64 := by have := hr3.2.2; rw [pj] at this; omega
        have ra : rightB a = true := rightB_mk h3 oa (by rw [pa]; omega)
        have rb : rightB b = true := rightB_mk (by omega) ob (by rw [pb]; omega)
        have sa : sizeI a = ((p * x : Nat) : Int) := by rw [sizeI, if_pos ra, pa]
        have sb : sizeI b = ((p * y : Nat) : Int) := by rw [sizeI, if_pos rb, pb]
        have sj : sizeI (X ++ [((x + y : Nat) : Int)]) = ((p * (x + y) : Nat) : Int) := by rw [sizeI, if_pos hr, pj]
        by_cases rX : rightB X = true
        · have sX : sizeI X = (p : Int) := by rw [sizeI, if_pos rX, hp]
          exact ⟨p, _, _, _, ea, eb, ra, rb, hr, sX, sj, sa, sb, rfl, Nat.le_refl _, Nat.le_refl _, hm⟩
        · have hp64 : 64 < p := by
            rcases Nat.lt_or_ge 64 p with h1 | h1
            · exact h1
            · exact absurd (rightB_mk (by omega) oX (by omega)) rX
          have sX : sizeI X = ((0 : Nat) : Int) := by rw [sizeI, if_neg rX]; rfl
          have hxy : x + y = 0 := by
            rcases Nat.eq_zero_or_pos (x + y) with h1 | h1
            · exact h1
            · have : p * 1 ≤ p * (x + y) := Nat.mul_le_mul_left p h1
              omega
          refine ⟨0, _, _, _, ea, eb, ra, rb, hr, sX, sj, sa, sb, ?_, by simp, by simp, hm⟩
          rw [hxy]; simp
      · omega
    · omega
  · omega
def joE (d v e u : List Int) : Int := if cellB d v.length = true ∧ cellB e u.length = true then jnE (besideL d e) (besideL e d) ((besideL d e).length - 1) else 1
def joD (d v e u : List Int) : List Int := if joE d v e u = 0 then jn0 (besideL d e) (besideL e d) ((besideL d e).length - 1) else []
def joV (d v e u : List Int) : List Int := if joE d v e u = 0 then joinL (fillL (besideL d e) v) (fillL (besideL e d) u) ((besideL d e).getD ((besideL d e).length - 1) 0).toNat ((besideL e d).getD ((besideL d e).length - 1) 0).toNat (sizeI ((besideL d e).take ((besideL d e).length - 1))).toNat else []
section
variable {d v e u : List Int}
theorem jo_1 (h : cellB d v.length = false) : joE d v e u = 1 ∧ joD d v e u = [] ∧ joV d v e u = [] := by
  have : joE d v e u = 1 := by simp [joE, h]
  simp [joD, joV, this]
theorem jo_1' (h : cellB e u.length = false) : joE d v e u = 1 ∧ joD d v e u = [] ∧ joV d v e u = [] := by
  have : joE d v e u = 1 := by simp [joE, h]
  simp [joD, joV, this]
theorem jo_e (h1 : cellB d v.length = true) (h2 : cellB e u.length = true) : joE d v e u = jnE (besideL d e) (besideL e d) ((besideL d e).length - 1) := by unfold joE; rw [if_pos ⟨h1, h2⟩]
theorem jo_n (h : ¬ joE d v e u = 0) : joD d v e u = [] ∧ joV d v e u = [] := by simp [joD, joV, h]
theorem jo_0 (h1 : cellB d v.length = true) (h2 : cellB e u.length = true) (h : joE d v e u = 0) :
    ∃ X x y n N La Lb, JoinOk (besideL d e) (besideL e d) X x y n N La Lb ∧ (besideL d e).length = X.length + 1 ∧ joD d v e u = X ++ [((x + y : Nat) : Int)] ∧ joV d v e u = joinL (fillL (besideL d e) v) (fillL (besideL e d) u) x y n ∧ (joV d v e u).length = N := by
  have b1 := beside_ok (cellB_parts h1).1 (cellB_parts h2).1
  have b2 := beside_ok (cellB_parts h2).1 (cellB_parts h1).1
  have hE := jo_e h1 h2
  rw [h] at hE
  obtain ⟨hj, n, N, La, Lb, ok⟩ := joinOk_of (a := besideL d e) (b := besideL e d) (L := (besideL d e).length - 1) (by omega) b1.2.1 b1.2.2 b2.2.2 hE.symm
  have hV : joV d v e u = joinL (fillL (besideL d e) v) (fillL (besideL e d) u) ((besideL d e).getD ((besideL d e).length - 1) 0).toNat ((besideL e d).getD ((besideL d e).length - 1) 0).toNat n := by
    unfold joV; rw [if_pos h, ok.hn, Int.toNat_natCast]
  refine ⟨_, _, _, n, N, La, Lb, ok, ?_, ?_, hV, ?_⟩
  · rw [List.length_take]; omega
  · unfold joD; rw [if_pos h, hj]
  · rw [hV, joinL_len, ok.nN]
    · rw [fillL_len, ok.la]; simpa using ok.nx
    · rw [fillL_len, ok.lb]; simpa using ok.ny
theorem joD_len : (joD d v e u).length ≤ 3 ∧ (joV d v e u).length ≤ 64 := by
  by_cases h : joE d v e u = 0
  · by_cases h1 : cellB d v.length = true
    · by_cases h2 : cellB e u.length = true
      · obtain ⟨X, x, y, n, N, La, Lb, ok, hl, e1, e2, e3⟩ := jo_0 h1 h2 h
        rw [e1, e3]
        have := sizeI_bd (X ++ [((x + y : Nat) : Int)])
        rw [ok.hN] at this
        exact ⟨(rightB_all ok.rj).1, by omega⟩
      · rw [(jo_1' (d := d) (v := v) (by simpa using h2)).2.1, (jo_1' (d := d) (v := v) (by simpa using h2)).2.2]; simp
    · rw [(jo_1 (e := e) (u := u) (by simpa using h1)).2.1, (jo_1 (e := e) (u := u) (by simpa using h1)).2.2]; simp
  · rw [(jo_n h).1, (jo_n h).2]; simp
end
end Go.Proofs.Ytfnpdflapmbnjaa.Sh
-- MoJoin
namespace Go.Proofs.Ytfnpdflapmbnjaa.Sh
open Go.RowKit
set_option linter.unusedVariables false

set_option maxHeartbeats 1000000 in
theorem mcut_z (B : Option Addr) (u : List Int) (c i : Nat) (w : World) (hi : i ≤ 1000) :
    Calls Try.prog 60 #[.slice B u.length c, .int .i64 (i : Int), .int .i64 0] w (RetPc B u [] 0 w) := by
  go_enter Try.func60, Try.ntmps60
  go_wp2
  go_ret
  exact ⟨_, rfl, fun W _ => Ints.nil _ _, rfl⟩
theorem piece_z (u : List Int) (i : Nat) : piece u i 0 = [] := by simp [piece]
theorem mcut_all (B : Option Addr) (u : List Int) (c i s : Nat) (w : World) (hc : u.length ≤ c) (hcm : c ≤ 9223372036854775807) (hu : u.length ≤ 1000) (hi : i ≤ 1000) (iu : Ints w B u) (h : (i + 1) * s ≤ u.length) :
    Calls Try.prog 60 #[.slice B u.length c, .int .i64 (i : Int), .int .i64 (s : Int)] w (RetPc B u (piece u i s) s w) := by
  rcases Nat.eq_zero_or_pos s with rfl | hs
  · rw [piece_z]; exact mcut_z B u c i w hi
  · exact mcut_any B u c i s w hc hcm hu iu h hs
theorem box_s (W : World) : Box ((W.alloc (.cells #[.slice none 0 0, .slice none 0 0] 25)).alloc (.cells #[.slice none 0 0, .slice none 0 0] 25)) (W.heap.size + 1) (.slice none 0 0) (.slice none 0 0) := by
  have := Box.new (W.alloc (.cells #[.slice none 0 0, .slice none 0 0] 25)) (.slice none 0 0) (.slice none 0 0)
  rw [show (W.alloc (.cells #[.slice none 0 0, .slice none 0 0] 25)).heap.size = W.heap.size + 1 from by simp] at this
  exact this
theorem lay_n (g p m n : Nat) (A : Option Addr) (cur : List Int) (B : Option Addr) (c2 : Nat) (ys : List Int) (w : World) (hn : ys.length = n) (hnm : n ≤ m) (hp : cur.length = p) (hR : Row64 w g (cur ++ List.replicate m 0)) (hA : 0 < m → A = some ⟨g, p, none⟩) (iy : Ints w B ys) (hm : m ≤ 1000) :
    Calls Try.prog 59 #[.slice A m m, .slice B n c2] w (RetLay g p m n ((cur ++ ys) ++ List.replicate (m - n) 0) w) := by
  subst hp
  have hq : n = Nat.min ys.length m := by rw [hn]; exact (Nat.min_eq_left hnm).symm
  have h := lay_any g cur.length m n A (cur ++ List.replicate m 0) B c2 ys w hR hq hA iy (by simp) hm (by omega)
  rw [splice_tail hn hnm hq, hn] at h
  exact h
theorem Row64.fr {w : World} {g base : Nat} {xs : List Int} (h : Row64 w g xs) (hb : base ≤ g) : Fr w base (some ⟨g, 0, none⟩) xs := fun _ => ⟨g, 0, rfl, hb, h.lt, fun i hi => by rw [Nat.zero_add]; exact h.cell hi⟩
theorem keepGG {W w' : World} {gV : Nat} {p q : Addr} {x y : Value} (h : W.grownBy w' (some gV)) (h1 : p.block ≠ gV) (h2 : q.block ≠ gV) (hc : W.cell? p = some x ∧ W.cell? q = some y) : w'.cell? p = some x ∧ w'.cell? q = some y :=
  ⟨(World.cell?_of_block (h.block p.block (World.block_lt_of_cell? W p hc.1) (fun e => by injection e with e; exact h1 e))).trans hc.1, (World.cell?_of_block (h.block q.block (World.block_lt_of_cell? W q hc.2) (fun e => by injection e with e; exact h2 e))).trans hc.2⟩
/-- Behind the axes that count. -/
def CutJ1 (w : World) (a b : List Int) (s6 s7 : Value) (wx : World) : Prop := ∃ A6 c6 A7 c7, s6 = .slice A6 a.length c6 ∧ s7 = .slice A7 b.length c7 ∧ Ints wx A6 a ∧ Ints wx A7 b ∧ a.length ≤ c6 ∧ c6 ≤ maxLen ∧ b.length ≤ c7 ∧ c7 ≤ maxLen ∧ Below w.heap.size w wx
/-- Behind the two filled cells. -/
def CutJ2 (w : World) (a L b R : List Int) (s10 s11 : Value) (wx : World) : Prop := ∃ g10 g11 A10 c10 B10 e10 A11 c11 B11 e11, s10 = .pointer (some ⟨g10, 0, none⟩) ∧ s11 = .pointer (some ⟨g11, 0, none⟩) ∧ Box wx g10 (.slice A10 a.length c10) (.slice B10 L.length e10) ∧ Box wx g11 (.slice A11 b.length c11) (.slice B11 R.length e11) ∧
  Ints wx B10 L ∧ Ints wx B11 R ∧ L.length ≤ e10 ∧ e10 ≤ maxLen ∧ R.length ≤ e11 ∧ e11 ≤ maxLen ∧ Below w.heap.size w wx
section
variable {w W : World} {a LL b RR : List Int} {A10 B10 A11 B11 : Option Addr} {c10 e10 c11 e11 : Nat} (hL : Below w.heap.size w W) (j10 : Ints W B10 LL) (j11 : Ints W B11 RR) (h1 : LL.length ≤ e10) (h2 : e10 ≤ maxLen) (h3 : RR.length ≤ e11) (h4 : e11 ≤ maxLen)
include hL j10 j11 h1 h2 h3 h4
theorem jc1 : CutJ2 w a LL b RR (.pointer (some ⟨W.heap.size, 0, none⟩)) (.pointer (some ⟨W.heap.size + 1, 0, none⟩)) ((W.alloc (.cells #[.slice A10 a.length c10, .slice B10 LL.length e10] 25)).alloc (.cells #[.slice A11 b.length c11, .slice B11 RR.length e11] 25)) := by
  have b1 := below_new W (.cells #[.slice A10 a.length c10, .slice B10 LL.length e10] 25)
  have b2 := below_next b1 (below_new _ (.cells #[.slice A11 b.length c11, .slice B11 RR.length e11] 25))
  have x2 := Box.new (W.alloc (.cells #[.slice A10 a.length c10, .slice B10 LL.length e10] 25)) (.slice A11 b.length c11) (.slice B11 RR.length e11)
  rw [show (W.alloc (.cells #[.slice A10 a.length c10, .slice B10 LL.length e10] 25)).heap.size = W.heap.size + 1 from by simp] at x2
  exact ⟨_, _, A10, c10, B10, e10, A11, c11, B11, e11, rfl, rfl, (Box.new W _ _).alloc _, x2, j10.below b2, j11.below b2, h1, h2, h3, h4, below_next hL b2⟩
theorem jc2 : CutJ2 w a LL b RR (.pointer (some ⟨W.heap.size + 1, 0, none⟩)) (.pointer (some ⟨W.heap.size, 0, none⟩)) ((W.alloc (.cells #[.slice A11 b.length c11, .slice B11 RR.length e11] 25)).alloc (.cells #[.slice A10 a.length c10, .slice B10 LL.length e10] 25)) := by
  have b1 := below_new W (.cells #[.slice A11 b.length c11, .slice B11 RR.length e11] 25)
  have b2 := below_next b1 (below_new _ (.cells #[.slice A10 a.length c10, .slice B10 LL.length e10] 25))
  have x2 := Box.new (W.alloc (.cells #[.slice A11 b.length c11, .slice B11 RR.length e11] 25)) (.slice A10 a.length c10) (.slice B10 LL.length e10)
  rw [show (W.alloc (.cells #[.slice A11 b.length c11, .slice B11 RR.length e11] 25)).heap.size = W.heap.size + 1 from by simp] at x2
  exact ⟨_, _, A10, c10, B10, e10, A11, c11, B11, e11, rfl, rfl, x2, (Box.new W _ _).alloc _, j10.below b2, j11.below b2, h1, h2, h3, h4, below_next hL b2⟩
variable {g : Nat} (bx : Box W g (.slice none 0 0) (.slice none 0 0)) (hg : w.heap.size ≤ g)
include bx hg
theorem jc3 : CutJ2 w a LL b RR (.pointer (some ⟨g, 0, none⟩)) (.pointer (some ⟨W.heap.size, 0, none⟩)) (((W.setCell ⟨g, 0, none⟩ (.slice A10 a.length c10)).setCell ⟨g, 1, none⟩ (.slice B10 LL.length e10)).alloc (.cells #[.slice A11 b.length c11, .slice B11 RR.length e11] 25)) := by
  have s1 := (bx.set0 (.slice A10 a.length c10)).set1 (.slice B10 LL.length e10)
  have i1 := j10.set_box bx (.slice A10 a.length c10) (.slice B10 LL.length e10)
  have i2 := j11.set_box bx (.slice A10 a.length c10) (.slice B10 LL.length e10)
  have l1 := (hL.setCell (p := ⟨g, 0, none⟩) hg (.slice A10 a.length c10)).setCell (p := ⟨g, 1, none⟩) hg (.slice B10 LL.length e10)
  have hs : ((W.setCell ⟨g, 0, none⟩ (.slice A10 a.length c10)).setCell ⟨g, 1, none⟩ (.slice B10 LL.length e10)).heap.size = W.heap.size := by simp [World.setCell]
  generalize (W.setCell ⟨g, 0, none⟩ (.slice A10 a.length c10)).setCell ⟨g, 1, none⟩ (.slice B10 LL.length e10) = V at *
  have b1 := below_new V (.cells #[.slice A11 b.length c11, .slice B11 RR.length e11] 25)
  have x2 := Box.new V (.slice A11 b.length c11) (.slice B11 RR.length e11)
  rw [hs] at x2
  exact ⟨_, _, A10, c10, B10, e10, A11, c11, B11, e11, rfl, rfl, s1.alloc _, x2, i1.below b1, i2.below b1, h1, h2, h3, h4, below_next l1 b1⟩
theorem jc4 : CutJ2 w a LL b RR (.pointer (some ⟨W.heap.size, 0, none⟩)) (.pointer (some ⟨g, 0, none⟩)) (((W.setCell ⟨g, 0, none⟩ (.slice A11 b.length c11)).setCell ⟨g, 1, none⟩ (.slice B11 RR.length e11)).alloc (.cells #[.slice A10 a.length c10, .slice B10 LL.length e10] 25)) := by
  have s1 := (bx.set0 (.slice A11 b.length c11)).set1 (.slice B11 RR.length e11)
  have i1 := j10.set_box bx (.slice A11 b.length c11) (.slice B11 RR.length e11)
  have i2 := j11.set_box bx (.slice A11 b.length c11) (.slice B11 RR.length e11)
  have l1 := (hL.setCell (p := ⟨g, 0, none⟩) hg (.slice A11 b.length c11)).setCell (p := ⟨g, 1, none⟩) hg (.slice B11 RR.length e11)
  have hs : ((W.setCell ⟨g, 0, none⟩ (.slice A11 b.length c11)).setCell ⟨g, 1, none⟩ (.slice B11 RR.length e11)).heap.size = W.heap.size := by simp [World.setCell]
  generalize (W.setCell ⟨g, 0, none⟩ (.slice A11 b.length c11)).setCell ⟨g, 1, none⟩ (.slice B11 RR.length e11) = V at *
  have b1 := below_new V (.cells #[.slice A10 a.length c10, .slice B10 LL.length e10] 25)
  have x2 := Box.new V (.slice A10 a.length c10) (.slice B10 LL.length e10)
  rw [hs] at x2
  exact ⟨_, _, A10, c10, B10, e10, A11, c11, B11, e11, rfl, rfl, x2, s1.alloc _, i1.below b1, i2.below b1, h1, h2, h3, h4, below_next l1 b1⟩
variable {g' : Nat} (bx' : Box W g' (.slice none 0 0) (.slice none 0 0)) (hg' : w.heap.size ≤ g') (hne : g ≠ g')
include bx' hg' hne
theorem jc5 : CutJ2 w a LL b RR (.pointer (some ⟨g, 0, none⟩)) (.pointer (some ⟨g', 0, none⟩)) ((((W.setCell ⟨g, 0, none⟩ (.slice A10 a.length c10)).setCell ⟨g, 1, none⟩ (.slice B10 LL.length e10)).setCell ⟨g', 0, none⟩ (.slice A11 b.length c11)).setCell ⟨g', 1, none⟩ (.slice B11 RR.length e11)) := by
  have s1 := (bx.set0 (.slice A10 a.length c10)).set1 (.slice B10 LL.length e10)
  have s2 := (bx'.far (p := ⟨g, 0, none⟩) (Ne.symm hne) (.slice A10 a.length c10)).far (p := ⟨g, 1, none⟩) (Ne.symm hne) (.slice B10 LL.length e10)
  have i1 := j10.set_box bx (.slice A10 a.length c10) (.slice B10 LL.length e10)
  have i2 := j11.set_box bx (.slice A10 a.length c10) (.slice B10 LL.length e10)
  have l1 := (hL.setCell (p := ⟨g, 0, none⟩) hg (.slice A10 a.length c10)).setCell (p := ⟨g, 1, none⟩) hg (.slice B10 LL.length e10)
  generalize (W.setCell ⟨g, 0, none⟩ (.slice A10 a.length c10)).setCell ⟨g, 1, none⟩ (.slice B10 LL.length e10) = V at *
  exact ⟨_, _, A10, c10, B10, e10, A11, c11, B11, e11, rfl, rfl, (s1.far (p := ⟨g', 0, none⟩) hne (.slice A11 b.length c11)).far (p := ⟨g', 1, none⟩) hne (.slice B11 RR.length e11), (s2.set0 (.slice A11 b.length c11)).set1 (.slice B11 RR.length e11), i1.set_box s2 (.slice A11 b.length c11) (.slice B11 RR.length e11), i2.set_box s2 (.slice A11 b.length c11) (.slice B11 RR.length e11), h1, h2, h3, h4, (l1.setCell (p := ⟨g', 0, none⟩) hg' (.slice A11 b.length c11)).setCell (p := ⟨g', 1, none⟩) hg' (.slice B11 RR.length e11)⟩
end

set_option maxHeartbeats 8000000 in
set_option maxRecDepth 100000 in
theorem join_any (A : Option Addr) (c : Nat) (d : List Int) (B : Option Addr) (c2 : Nat) (v : List Int) (A' : Option Addr) (c' : Nat) (e : List Int) (B' : Option Addr) (c2' : Nat) (u : List Int) (w : World) (id : Ints w A d) (iv : Ints w B v) (ie : Ints w A' e) (iu : Ints w B' u) (hd : d.length ≤ 100) (hv : v.length ≤ 1000) (he : e.length ≤ 100) (hu : u.length ≤ 1000)
    (hcd : d.length ≤ c) (hcm : c ≤ maxLen) (hce : e.length ≤ c') (hcm' : c' ≤ maxLen) :
    Calls Try.prog 20 #[.agg #[.slice A d.length c, .slice B v.length c2], .agg #[.slice A' e.length c', .slice B' u.length c2']] w (RetC w (joD d v e u) (joV d v e u) (.int .i64 (joE d v e u))) := by
  obtain ⟨ba0, bb0, br0, hb0⟩ := w2_all w (.slice A d.length c) (.slice B v.length c2) (.slice A' e.length c') (.slice B' u.length c2')
  have BA := Lib.hid (ba0)
  have BB := Lib.hid (bb0)
  have BR := Lib.hid (br0)
  have L := Lib.hid (hb0)
  have ID := Lib.hid (id.below hb0)
  have IV := Lib.hid (iv.below hb0)
  have IE := Lib.hid (ie.below hb0)
  have IU := Lib.hid (iu.below hb0)
  clear ba0 bb0 br0 hb0 id iv ie iu
  obtain ⟨E, hE⟩ : ∃ E, joE d v e u = E := ⟨_, rfl⟩
  obtain ⟨DD, hDD⟩ : ∃ D, joD d v e u = D := ⟨_, rfl⟩
  obtain ⟨VV, hVV⟩ : ∃ V, joV d v e u = V := ⟨_, rfl⟩
  rw [hE, hDD, hVV]
  have HE := Lib.hid hE
  have HD := Lib.hid hDD
  have HV := Lib.hid hVV
  clear hE hDD hVV
  have HCM := Lib.hid hcm
  have HCM' := Lib.hid hcm'
  clear hcm hcm'
  go_enter Try.func20, Try.ntmps20
  by_cases h : cellB d v.length = true
  rotate_left
  · have HN := Lib.hid (show cellB d v.length = false by simpa using h)
    obtain ⟨e1, e2, e3⟩ := jo_1 (e := e) (u := u) HN.out
    obtain rfl : E = 1 := HE.out.symm.trans e1
    obtain rfl : DD = [] := HD.out.symm.trans e2
    obtain rfl : VV = [] := HV.out.symm.trans e3
    clear HE HD HV e1 e2 e3
    clear h
    go_wp2_with fail
    refine (cright_no _ _ d _ _ _ _ (by unfold maxLen; omega) ID.out HN.out).mono ?_
    rintro r w1 ⟨rfl, hb⟩
    replace BA := Lib.hid (BA.out.next hb)
    replace BB := Lib.hid (BB.out.next hb)
    replace BR := Lib.hid (BR.out.next hb)
    replace L := Lib.hid (below_next L.out hb)
    replace ID := Lib.hid (ID.out.below hb)
    replace IV := Lib.hid (IV.out.below hb)
    replace IE := Lib.hid (IE.out.below hb)
    replace IU := Lib.hid (IU.out.below hb)
    clear hb
    obtain ⟨r0, r1, r2, r3⟩ := BR.out.all
    go_wp2
    have T9 := (BR.out.set0 (.slice none 0 0)).set1 (.slice none 0 0)
    obtain ⟨t0, t1, _, _⟩ := T9.all
    refine bodyPost_ret (v := .tuple #[.agg #[.slice none 0 0, .slice none 0 0], .int .i64 1]) (by simp [results, Try.results20, go_sem, t0, t1]) rfl ?_
    exact ⟨_, rfl, IsCell.none _ _, (L.out.setCell (by simp; omega) _).setCell (by simp; omega) _⟩
  have H1 := Lib.hid h
  clear h
  go_wp2_with fail
  refine (cright_yes _ _ d _ _ _ _ (by unfold maxLen; omega) ID.out H1.out).mono ?_
  rintro r w1 ⟨rfl, hb⟩
  replace BA := Lib.hid (BA.out.next hb)
  replace BB := Lib.hid (BB.out.next hb)
  replace BR := Lib.hid (BR.out.next hb)
  replace L := Lib.hid (below_next L.out hb)
  replace ID := Lib.hid (ID.out.below hb)
  replace IV := Lib.hid (IV.out.below hb)
  replace IE := Lib.hid (IE.out.below hb)
  replace IU := Lib.hid (IU.out.below hb)
  clear hb
  obtain ⟨qBB0, qBB1, -, -⟩ := BB.out.all
  by_cases h : cellB e u.length = true
  rotate_left
  · have HN := Lib.hid (show cellB e u.length = false by simpa using h)
    obtain ⟨e1, e2, e3⟩ := jo_1' (d := d) (v := v) HN.out
    obtain rfl : E = 1 := HE.out.symm.trans e1
    obtain rfl : DD = [] := HD.out.symm.trans e2
    obtain rfl : VV = [] := HV.out.symm.trans e3
    clear HE HD HV e1 e2 e3
    clear h
    go_wp2_with fail
    refine (cright_no _ _ e _ _ _ _ (by unfold maxLen; omega) IE.out HN.out).mono ?_
    rintro r w2 ⟨rfl, hb⟩
    clear qBB0 qBB1
    replace BA := Lib.hid (BA.out.next hb)
    replace BB := Lib.hid (BB.out.next hb)
    replace BR := Lib.hid (BR.out.next hb)
    replace L := Lib.hid (below_next L.out hb)
    replace ID := Lib.hid (ID.out.below hb)
    replace IV := Lib.hid (IV.out.below hb)
    replace IE := Lib.hid (IE.out.below hb)
    replace IU := Lib.hid (IU.out.below hb)
    clear hb
    obtain ⟨r0, r1, r2, r3⟩ := BR.out.all
    go_wp2
    have T9 := (BR.out.set0 (.slice none 0 0)).set1 (.slice none 0 0)
    obtain ⟨t0, t1, _, _⟩ := T9.all
    refine bodyPost_ret (v := .tuple #[.agg #[.slice none 0 0, .slice none 0 0], .int .i64 1]) (by simp [results, Try.results20, go_sem, t0, t1]) rfl ?_
    exact ⟨_, rfl, IsCell.none _ _, (L.out.setCell (by simp; omega) _).setCell (by simp; omega) _⟩
  have H2 := Lib.hid h
  clear h
  go_wp2_with fail
  refine (cright_yes _ _ e _ _ _ _ (by unfold maxLen; omega) IE.out H2.out).mono ?_
  rintro r w2 ⟨rfl, hb⟩
  clear qBB0 qBB1
  replace BA := Lib.hid (BA.out.next hb)
  replace BB := Lib.hid (BB.out.next hb)
  replace BR := Lib.hid (BR.out.next hb)
  replace L := Lib.hid (below_next L.out hb)
  replace ID := Lib.hid (ID.out.below hb)
  replace IV := Lib.hid (IV.out.below hb)
  replace IE := Lib.hid (IE.out.below hb)
  replace IU := Lib.hid (IU.out.below hb)
  clear hb
  obtain ⟨qBA0, qBA1, -, -⟩ := BA.out.all
  obtain ⟨qBB0, qBB1, -, -⟩ := BB.out.all
  have HBO := Lib.hid (beside_ok (cellB_parts H1.out).1 (cellB_parts H2.out).1)
  have HBO2 := Lib.hid (beside_ok (cellB_parts H2.out).1 (cellB_parts H1.out).1)
  have HJE := Lib.hid (jo_e H1.out H2.out)
  have WD := Lib.hid ((Below.refl w2.heap.size w2).drew)
  have C1 := Lib.hid (beside_c A c d A' c' e w2.drew (by omega) (by omega) (ID.out.below WD.out) (IE.out.below WD.out) hcd HCM.out)
  go_upto_region 3 with (fail)
  go_cut [6, 7] (fun s6 s7 wx => CutJ1 w2 (besideL d e) (besideL e d) s6 s7 wx)
  case first =>
    go_region_held3 (fun w' => w'.cell? ⟨w.heap.size, 0, none⟩ = some (.slice A d.length c) ∧ w'.cell? ⟨w.heap.size + 1, 0, none⟩ = some (.slice A' e.length c'))
      (first
        | go_keep
        | with_reducible exact KK.out
        | with_reducible exact KK2.out)
      (first
        | (go_at_call 57; (with_reducible refine (C1.out).mono ?_); rintro r wA ⟨A6, c6, rfl, hi, hc1, hc2, hb⟩; have LA := Lib.hid (below_next WD.out hb); have I6 := Lib.hid hi; have HC6 := Lib.hid hc1; have HC6m := Lib.hid hc2; clear hi hb hc1 hc2; have KK := Lib.hid (show wA.cell? ⟨w.heap.size, 0, none⟩ = some (.slice A d.length c) ∧ wA.cell? ⟨w.heap.size + 1, 0, none⟩ = some (.slice A' e.length c') from ⟨(BA.out.next LA.out).c0, (BB.out.next LA.out).c0⟩))
        | (go_at_call 57; (with_reducible refine (beside_c A' c' e A c d wA (by omega) (by omega) (IE.out.below LA.out) (ID.out.below LA.out) hce HCM'.out).mono ?_); rintro r wB ⟨A7, c7, rfl, hi, hc1, hc2, hb⟩; have LB := Lib.hid (below_next LA.out hb); have I62 := Lib.hid (I6.out.below hb); have I7 := Lib.hid hi; have HC7 := Lib.hid hc1; have HC7m := Lib.hid hc2; clear hi hb hc1 hc2; have KK2 := Lib.hid (show wB.cell? ⟨w.heap.size, 0, none⟩ = some (.slice A d.length c) ∧ wB.cell? ⟨w.heap.size + 1, 0, none⟩ = some (.slice A' e.length c') from ⟨(BA.out.next LB.out).c0, (BB.out.next LB.out).c0⟩)))
    all_goals (go_wp2_with fail; go_meet; exact ⟨A6, c6, A7, c7, rfl, rfl, I62.out, I7.out, HC6.out, HC6m.out, HC7.out, HC7m.out, LB.out⟩)
  case rest =>
    obtain ⟨A6, c6, A7, c7, rfl, rfl, hi6, hi7, hc6, hc6m, hc7, hc7m, hb⟩ := hcut
    clear qBA0 qBA1 qBB0 qBB1
    replace BA := Lib.hid (BA.out.next hb)
    replace BB := Lib.hid (BB.out.next hb)
    replace BR := Lib.hid (BR.out.next hb)
    replace L := Lib.hid (below_next L.out hb)
    replace ID := Lib.hid (ID.out.below hb)
    replace IV := Lib.hid (IV.out.below hb)
    replace IE := Lib.hid (IE.out.below hb)
    replace IU := Lib.hid (IU.out.below hb)
    have I6 := Lib.hid hi6
    have I7 := Lib.hid hi7
    have HC6m := Lib.hid hc6m
    have HC7m := Lib.hid hc7m
    clear hb hi6 hi7 hc6m hc7m WD C1
    obtain ⟨w3, hw3⟩ : ∃ W, W = wc := ⟨_, rfl⟩
    subst hw3
    have HOK := Lib.hid (fun h => jo_0 H1.out H2.out h)
    generalize besideL d e = a at *
    generalize besideL e d = b at *
    obtain ⟨Ln, hLn⟩ : ∃ Ln, a.length = Ln + 1 := ⟨a.length - 1, by have := HBO.out.1; omega⟩
    rw [show a.length - 1 = Ln by omega, HE.out] at HJE
    have HLn := Lib.hid hLn
    clear hLn
    have HXA := Lib.hid (show 0 ≤ a.getD Ln 0 ∧ a.getD Ln 0 ≤ 64 from okAx_at HBO.out.2.2 Ln (by have := HLn.out; omega))
    have HXB := Lib.hid (show 0 ≤ b.getD Ln 0 ∧ b.getD Ln 0 ≤ 64 by
      by_cases hb : Ln < b.length
      · exact okAx_at HBO2.out.2.2 Ln hb
      · have : b.getD Ln 0 = 0 := by simp [List.getD, List.getElem?_eq_none (Nat.le_of_not_lt hb)]
        omega)
    have ha3 : a.length ≤ 3 := HBO.out.2.1
    have hb3 : b.length ≤ 3 := HBO2.out.2.1
    have hb1 : 0 < b.length := HBO2.out.1
    have HLle := Lib.hid (show Ln ≤ 10 by have := HLn.out; omega)
    by_cases hz : E = 0
    rotate_left
    · have hz1 : (E != 0) = true := by simpa using hz
      obtain ⟨e2, e3⟩ := jo_n (d := d) (v := v) (e := e) (u := u) (by rw [HE.out]; exact hz)
      obtain rfl : DD = [] := HD.out.symm.trans e2
      obtain rfl : VV = [] := HV.out.symm.trans e3
      clear HD HV e2 e3
      have HJD := Lib.hid (show jnD a b Ln = [] by unfold jnD; rw [← HJE.out, if_neg hz])
      clear hz
      have HCJ := Lib.hid (joined_any A6 c6 a A7 c7 b Ln w3 HLn.out HLle.out hb1 (by omega) hc6 hc7 HC6m.out HC7m.out I6.out I7.out HXA.out HXB.out)
      rw [HJD.out, ← HJE.out] at HCJ
      go_wp2_with fail
      refine (HCJ.out).mono ?_
      rintro r w4 ⟨A8, c8, rfl, -, -, -, hb⟩
      replace BA := Lib.hid (BA.out.next hb)
      replace BB := Lib.hid (BB.out.next hb)
      replace BR := Lib.hid (BR.out.next hb)
      replace L := Lib.hid (below_next L.out hb)
      replace ID := Lib.hid (ID.out.below hb)
      replace IV := Lib.hid (IV.out.below hb)
      replace IE := Lib.hid (IE.out.below hb)
      replace IU := Lib.hid (IU.out.below hb)
      replace I6 := Lib.hid (I6.out.below hb)
      replace I7 := Lib.hid (I7.out.below hb)
      clear hb
      obtain ⟨r0, r1, r2, r3⟩ := BR.out.all
      go_wp2
      have T9 := (BR.out.set0 (.slice none 0 0)).set1 (.slice none 0 0)
      obtain ⟨t0, t1, _, _⟩ := T9.all
      refine bodyPost_ret (v := .tuple #[.agg #[.slice none 0 0, .slice none 0 0], .int .i64 E]) (by simp [results, Try.results20, go_sem, t0, t1]) rfl ?_
      exact ⟨_, rfl, IsCell.none _ _, (L.out.setCell (by simp; omega) _).setCell (by simp; omega) _⟩
    subst hz
    obtain ⟨X, x, y, n, N, La, Lb, ok, hXl, e1, e2, e3⟩ := HOK.out HE.out
    have OK := Lib.hid ok
    rw [HD.out] at e1
    rw [HV.out] at e2 e3
    subst e1
    have HVV := Lib.hid e2
    have HVL := Lib.hid e3
    have HXl := Lib.hid (show X.length = Ln by have := HLn.out; omega)
    clear ok e2 e3 hXl HOK HD HV
    have HJD := Lib.hid (show jnD a b Ln = X ++ [((x + y : Nat) : Int)] by
      unfold jnD
      rw [← HJE.out, if_pos rfl]
      unfold jn0
      rw [OK.out.ha, OK.out.hb, get_mid _ _ _ HXl.out, get_mid _ _ _ HXl.out, withL_at _ _ (by simp; have := HXl.out; omega), List.take_left' HXl.out, List.drop_eq_nil_of_le (by simp; have := HXl.out; omega)]
      push_cast; rfl)
    have HCJ := Lib.hid (joined_any A6 c6 a A7 c7 b Ln w3 HLn.out HLle.out hb1 (by omega) hc6 hc7 HC6m.out HC7m.out I6.out I7.out HXA.out HXB.out)
    rw [HJD.out, ← HJE.out] at HCJ
    obtain ⟨dm, hdm⟩ : ∃ dm, X ++ [((x + y : Nat) : Int)] = dm := ⟨_, rfl⟩
    rw [hdm] at HCJ HJD
    have HDM := Lib.hid hdm
    clear hdm
    go_wp2_with fail
    refine (HCJ.out).mono ?_
    rintro r w4 ⟨A8, c8, rfl, hi8, hc8, hc8m, hb⟩
    replace BA := Lib.hid (BA.out.next hb)
    replace BB := Lib.hid (BB.out.next hb)
    replace BR := Lib.hid (BR.out.next hb)
    replace L := Lib.hid (below_next L.out hb)
    replace ID := Lib.hid (ID.out.below hb)
    replace IV := Lib.hid (IV.out.below hb)
    replace IE := Lib.hid (IE.out.below hb)
    replace IU := Lib.hid (IU.out.below hb)
    replace I6 := Lib.hid (I6.out.below hb)
    replace I7 := Lib.hid (I7.out.below hb)
    clear hb
    have I8 := Lib.hid hi8
    have HC8m := Lib.hid hc8m
    clear hi8 hc8m HCJ
    obtain ⟨qBA0, qBA1, -, -⟩ := BA.out.all
    obtain ⟨qBB0, qBB1, -, -⟩ := BB.out.all
    have hdl : dm.length ≤ 3 := by rw [← HDM.out]; exact (rightB_all OK.out.rj).1
    have WD := Lib.hid ((Below.refl w4.heap.size w4).drew)
    have LV := Lib.hid (fillL_len a v)
    have RV := Lib.hid (fillL_len b u)
    rw [OK.out.la, Int.toNat_natCast] at LV
    rw [OK.out.lb, Int.toNat_natCast] at RV
    have HFa := Lib.hid (show fillL a v = (List.range La).map (cyc v) by unfold fillL; rw [OK.out.la, Int.toNat_natCast])
    have HFb := Lib.hid (show fillL b u = (List.range Lb).map (cyc u) by unfold fillL; rw [OK.out.lb, Int.toNat_natCast])
    have CA := Lib.hid (fun W iA iV => filled_any A6 c6 a B c2 v La W (by omega) hv iA iV OK.out.ra OK.out.la)
    have CB := Lib.hid (fun W iA iV => filled_any A7 c7 b B' c2' u Lb W (by omega) hu iA iV OK.out.rb OK.out.lb)
    rw [← HFa.out] at CA
    rw [← HFb.out] at CB
    generalize fillL a v = LL at *
    generalize fillL b u = RR at *
    have hw4 : w.heap.size + 1 < w4.heap.size := BB.out.lt
    have qw41 : ¬ w.heap.size = w4.heap.size := by omega
    have rqw41 : ¬ w4.heap.size = w.heap.size := by omega
    have qw42 : ¬ w.heap.size + 1 = w4.heap.size := by omega
    have rqw42 : ¬ w4.heap.size = w.heap.size + 1 := by omega
    have qw43 : ¬ w.heap.size = w4.heap.size + 1 := by omega
    have rqw43 : ¬ w4.heap.size + 1 = w.heap.size := by omega
    have qw44 : ¬ w.heap.size + 1 = w4.heap.size + 1 := by omega
    have rqw44 : ¬ w4.heap.size + 1 = w.heap.size + 1 := by omega
    have LA1 := Lib.hid (show Below w4.heap.size w4 (w4.alloc (.cells #[.slice none 0 0, .slice none 0 0] 25)).drew from (below_new w4 (.cells #[.slice none 0 0, .slice none 0 0] 25)).drew)
    have LA2 := Lib.hid (show Below w4.heap.size w4 ((w4.alloc (.cells #[.slice none 0 0, .slice none 0 0] 25)).alloc (.cells #[.slice none 0 0, .slice none 0 0] 25)).drew from (below_next (below_new w4 (.cells #[.slice none 0 0, .slice none 0 0] 25)) (below_new _ (.cells #[.slice none 0 0, .slice none 0 0] 25))).drew)
    go_upto_region 7 with (fail)
    go_cut [10, 11] (fun s10 s11 wx => CutJ2 w4 a LL b RR s10 s11 wx)
    case first =>
      go_region_held3 (fun w' => w'.cell? ⟨w.heap.size, 1, none⟩ = some (.slice B v.length c2) ∧ w'.cell? ⟨w.heap.size + 1, 1, none⟩ = some (.slice B' u.length c2'))
        (first
          | with_reducible exact KK2.out
          | with_reducible exact KK.out
          | go_keep)
        (first
          | (go_at_call 56; (with_reducible refine (CA.out _ (I6.out.below WD.out) (IV.out.below WD.out)).mono ?_); rintro r wA ⟨xA, rfl, ⟨A10, c10, B10, e10, rfl, f10, h10, hc10, hc10m, -, -⟩, hb⟩; have LA := Lib.hid (below_next WD.out hb); have J10 := Lib.hid h10; have HC10 := Lib.hid hc10; have HC10m := Lib.hid hc10m; clear hb f10 h10 hc10 hc10m; have NA1 := Lib.hid (below_new wA (.cells #[.slice none 0 0, .slice none 0 0] 25)); have NA2 := Lib.hid (below_next NA1.out (below_new _ (.cells #[.slice none 0 0, .slice none 0 0] 25))); have LB1 := Lib.hid (below_next LA.out NA1.out); have LB2 := Lib.hid (below_next LA.out NA2.out); have NA0 := Lib.hid (Below.refl wA.heap.size wA); have hwA : w.heap.size + 1 < wA.heap.size := Nat.lt_of_lt_of_le hw4 LA.out.size; have qwA1 : ¬ w.heap.size = wA.heap.size := (by omega); have rqwA1 : ¬ wA.heap.size = w.heap.size := (by omega); have qwA2 : ¬ w.heap.size + 1 = wA.heap.size := (by omega); have rqwA2 : ¬ wA.heap.size = w.heap.size + 1 := (by omega); have qwA3 : ¬ w.heap.size = wA.heap.size + 1 := (by omega); have rqwA3 : ¬ wA.heap.size + 1 = w.heap.size := (by omega); have qwA4 : ¬ w.heap.size + 1 = wA.heap.size + 1 := (by omega); have rqwA4 : ¬ wA.heap.size + 1 = w.heap.size + 1 := (by omega); have KK := Lib.hid (show wA.cell? ⟨w.heap.size, 1, none⟩ = some (.slice B v.length c2) ∧ wA.cell? ⟨w.heap.size + 1, 1, none⟩ = some (.slice B' u.length c2') from ⟨(BA.out.next LA.out).c1, (BB.out.next LA.out).c1⟩))
          | (go_at_call 56; (with_reducible refine (CA.out _ (I6.out.below LA1.out) (IV.out.below LA1.out)).mono ?_); rintro r wA ⟨xA, rfl, ⟨A10, c10, B10, e10, rfl, f10, h10, hc10, hc10m, -, -⟩, hb⟩; have BX1 := Lib.hid ((Box.new w4 (.slice none 0 0) (.slice none 0 0)).drew.next hb); have LA := Lib.hid (below_next LA1.out hb); have J10 := Lib.hid h10; have HC10 := Lib.hid hc10; have HC10m := Lib.hid hc10m; clear hb f10 h10 hc10 hc10m; have NA1 := Lib.hid (below_new wA (.cells #[.slice none 0 0, .slice none 0 0] 25)); have NA2 := Lib.hid (below_next NA1.out (below_new _ (.cells #[.slice none 0 0, .slice none 0 0] 25))); have LB1 := Lib.hid (below_next LA.out NA1.out); have LB2 := Lib.hid (below_next LA.out NA2.out); have NA0 := Lib.hid (Below.refl wA.heap.size wA); have hwA : w.heap.size + 1 < wA.heap.size := Nat.lt_of_lt_of_le hw4 LA.out.size; have qwA1 : ¬ w.heap.size = wA.heap.size := (by omega); have rqwA1 : ¬ wA.heap.size = w.heap.size := (by omega); have qwA2 : ¬ w.heap.size + 1 = wA.heap.size := (by omega); have rqwA2 : ¬ wA.heap.size = w.heap.size + 1 := (by omega); have qwA3 : ¬ w.heap.size = wA.heap.size + 1 := (by omega); have rqwA3 : ¬ wA.heap.size + 1 = w.heap.size := (by omega); have qwA4 : ¬ w.heap.size + 1 = wA.heap.size + 1 := (by omega); have rqwA4 : ¬ wA.heap.size + 1 = w.heap.size + 1 := (by omega); obtain ⟨x10, x11, x12, x13⟩ := BX1.out.all; have lx1 := BX1.out.lt; have za : ¬ w4.heap.size = wA.heap.size := (by omega); have za' : ¬ wA.heap.size = w4.heap.size := (by omega); have KK := Lib.hid (show wA.cell? ⟨w.heap.size, 1, none⟩ = some (.slice B v.length c2) ∧ wA.cell? ⟨w.heap.size + 1, 1, none⟩ = some (.slice B' u.length c2') from ⟨(BA.out.next LA.out).c1, (BB.out.next LA.out).c1⟩))
          | (go_at_call 56; (with_reducible refine (CA.out _ (I6.out.below LA2.out) (IV.out.below LA2.out)).mono ?_); rintro r wA ⟨xA, rfl, ⟨A10, c10, B10, e10, rfl, f10, h10, hc10, hc10m, -, -⟩, hb⟩; have BX1 := Lib.hid (((Box.new w4 (.slice none 0 0) (.slice none 0 0)).alloc (.cells #[.slice none 0 0, .slice none 0 0] 25)).drew.next hb); have BX2 := Lib.hid ((box_s w4).drew.next hb); have LA := Lib.hid (below_next LA2.out hb); have J10 := Lib.hid h10; have HC10 := Lib.hid hc10; have HC10m := Lib.hid hc10m; clear hb f10 h10 hc10 hc10m; have NA1 := Lib.hid (below_new wA (.cells #[.slice none 0 0, .slice none 0 0] 25)); have NA2 := Lib.hid (below_next NA1.out (below_new _ (.cells #[.slice none 0 0, .slice none 0 0] 25))); have LB1 := Lib.hid (below_next LA.out NA1.out); have LB2 := Lib.hid (below_next LA.out NA2.out); have NA0 := Lib.hid (Below.refl wA.heap.size wA); have hwA : w.heap.size + 1 < wA.heap.size := Nat.lt_of_lt_of_le hw4 LA.out.size; have qwA1 : ¬ w.heap.size = wA.heap.size := (by omega); have rqwA1 : ¬ wA.heap.size = w.heap.size := (by omega); have qwA2 : ¬ w.heap.size + 1 = wA.heap.size := (by omega); have rqwA2 : ¬ wA.heap.size = w.heap.size + 1 := (by omega); have qwA3 : ¬ w.heap.size = wA.heap.size + 1 := (by omega); have rqwA3 : ¬ wA.heap.size + 1 = w.heap.size := (by omega); have qwA4 : ¬ w.heap.size + 1 = wA.heap.size + 1 := (by omega); have rqwA4 : ¬ wA.heap.size + 1 = w.heap.size + 1 := (by omega); obtain ⟨x10, x11, x12, x13⟩ := BX1.out.all; have lx1 := BX1.out.lt; have za : ¬ w4.heap.size = wA.heap.size := (by omega); have za' : ¬ wA.heap.size = w4.heap.size := (by omega); obtain ⟨x20, x21, x22, x23⟩ := BX2.out.all; have lx2 := BX2.out.lt; have KK := Lib.hid (show wA.cell? ⟨w.heap.size, 1, none⟩ = some (.slice B v.length c2) ∧ wA.cell? ⟨w.heap.size + 1, 1, none⟩ = some (.slice B' u.length c2') from ⟨(BA.out.next LA.out).c1, (BB.out.next LA.out).c1⟩))
          | (go_at_call 56; (with_reducible refine (CB.out _ (I7.out.below LA.out) (IU.out.below LA.out)).mono ?_); rintro r wB ⟨xB, rfl, ⟨A11, c11, B11, e11, rfl, f11, h11, hc11, hc11m, -, -⟩, hb⟩; (try clear x10 x11 x12 x13 lx1); (try clear x20 x21 x22 x23 lx2); (try (replace BX1 := Lib.hid ((BX1.out.next NA0.out).next hb); obtain ⟨x10, x11, x12, x13⟩ := BX1.out.all; have lx1 := BX1.out.lt; have zb : ¬ w4.heap.size = wB.heap.size := (by omega); have zb' : ¬ wB.heap.size = w4.heap.size := (by omega))); (try (replace BX2 := Lib.hid ((BX2.out.next NA0.out).next hb); obtain ⟨x20, x21, x22, x23⟩ := BX2.out.all; have lx2 := BX2.out.lt)); have LB := Lib.hid (below_next LA.out hb); have J11 := Lib.hid h11.ints; have HC11 := Lib.hid hc11; have HC11m := Lib.hid hc11m; have J10b := Lib.hid (J10.out.ints.below (below_next NA0.out hb)); clear hb f11 h11 hc11 hc11m; have hwB : w.heap.size + 1 < wB.heap.size := Nat.lt_of_lt_of_le hw4 LB.out.size; have qwB1 : ¬ w.heap.size = wB.heap.size := (by omega); have rqwB1 : ¬ wB.heap.size = w.heap.size := (by omega); have qwB2 : ¬ w.heap.size + 1 = wB.heap.size := (by omega); have rqwB2 : ¬ wB.heap.size = w.heap.size + 1 := (by omega); have qwB3 : ¬ w.heap.size = wB.heap.size + 1 := (by omega); have rqwB3 : ¬ wB.heap.size + 1 = w.heap.size := (by omega); have qwB4 : ¬ w.heap.size + 1 = wB.heap.size + 1 := (by omega); have rqwB4 : ¬ wB.heap.size + 1 = w.heap.size + 1 := (by omega); have kB1 := (BA.out.next LB.out).c1; have kB2 := (BB.out.next LB.out).c1; have KK2 := Lib.hid (show wB.cell? ⟨w.heap.size, 1, none⟩ = some (.slice B v.length c2) ∧ wB.cell? ⟨w.heap.size + 1, 1, none⟩ = some (.slice B' u.length c2') from ⟨(BA.out.next LB.out).c1, (BB.out.next LB.out).c1⟩))
          | (go_at_call 56; (with_reducible refine (CB.out _ (I7.out.below LB1.out) (IU.out.below LB1.out)).mono ?_); rintro r wB ⟨xB, rfl, ⟨A11, c11, B11, e11, rfl, f11, h11, hc11, hc11m, -, -⟩, hb⟩; (try clear x10 x11 x12 x13 lx1); (try clear x20 x21 x22 x23 lx2); (try (replace BX1 := Lib.hid ((BX1.out.next NA1.out).next hb); obtain ⟨x10, x11, x12, x13⟩ := BX1.out.all; have lx1 := BX1.out.lt; have zb : ¬ w4.heap.size = wB.heap.size := (by omega); have zb' : ¬ wB.heap.size = w4.heap.size := (by omega))); (try (replace BX2 := Lib.hid ((BX2.out.next NA1.out).next hb); obtain ⟨x20, x21, x22, x23⟩ := BX2.out.all; have lx2 := BX2.out.lt)); have BY1 := Lib.hid ((Box.new wA (.slice none 0 0) (.slice none 0 0)).next hb); obtain ⟨y10, y11, y12, y13⟩ := BY1.out.all; have ly1 := BY1.out.lt; have zc : ¬ wA.heap.size = wB.heap.size := (by omega); have zc' : ¬ wB.heap.size = wA.heap.size := (by omega); have LB := Lib.hid (below_next LB1.out hb); have J11 := Lib.hid h11.ints; have HC11 := Lib.hid hc11; have HC11m := Lib.hid hc11m; have J10b := Lib.hid (J10.out.ints.below (below_next NA1.out hb)); clear hb f11 h11 hc11 hc11m; have hwB : w.heap.size + 1 < wB.heap.size := Nat.lt_of_lt_of_le hw4 LB.out.size; have qwB1 : ¬ w.heap.size = wB.heap.size := (by omega); have rqwB1 : ¬ wB.heap.size = w.heap.size := (by omega); have qwB2 : ¬ w.heap.size + 1 = wB.heap.size := (by omega); have rqwB2 : ¬ wB.heap.size = w.heap.size + 1 := (by omega); have qwB3 : ¬ w.heap.size = wB.heap.size + 1 := (by omega); have rqwB3 : ¬ wB.heap.size + 1 = w.heap.size := (by omega); have qwB4 : ¬ w.heap.size + 1 = wB.heap.size + 1 := (by omega); have rqwB4 : ¬ wB.heap.size + 1 = w.heap.size + 1 := (by omega); have kB1 := (BA.out.next LB.out).c1; have kB2 := (BB.out.next LB.out).c1; have KK2 := Lib.hid (show wB.cell? ⟨w.heap.size, 1, none⟩ = some (.slice B v.length c2) ∧ wB.cell? ⟨w.heap.size + 1, 1, none⟩ = some (.slice B' u.length c2') from ⟨(BA.out.next LB.out).c1, (BB.out.next LB.out).c1⟩))
          | (go_at_call 56; (with_reducible refine (CB.out _ (I7.out.below LB2.out) (IU.out.below LB2.out)).mono ?_); rintro r wB ⟨xB, rfl, ⟨A11, c11, B11, e11, rfl, f11, h11, hc11, hc11m, -, -⟩, hb⟩; (try clear x10 x11 x12 x13 lx1); (try clear x20 x21 x22 x23 lx2); (try (replace BX1 := Lib.hid ((BX1.out.next NA2.out).next hb); obtain ⟨x10, x11, x12, x13⟩ := BX1.out.all; have lx1 := BX1.out.lt; have zb : ¬ w4.heap.size = wB.heap.size := (by omega); have zb' : ¬ wB.heap.size = w4.heap.size := (by omega))); (try (replace BX2 := Lib.hid ((BX2.out.next NA2.out).next hb); obtain ⟨x20, x21, x22, x23⟩ := BX2.out.all; have lx2 := BX2.out.lt)); have BY1 := Lib.hid (((Box.new wA (.slice none 0 0) (.slice none 0 0)).alloc (.cells #[.slice none 0 0, .slice none 0 0] 25)).next hb); have BY2 := Lib.hid ((box_s wA).next hb); obtain ⟨y10, y11, y12, y13⟩ := BY1.out.all; have ly1 := BY1.out.lt; have zc : ¬ wA.heap.size = wB.heap.size := (by omega); have zc' : ¬ wB.heap.size = wA.heap.size := (by omega); obtain ⟨y20, y21, y22, y23⟩ := BY2.out.all; have ly2 := BY2.out.lt; have LB := Lib.hid (below_next LB2.out hb); have J11 := Lib.hid h11.ints; have HC11 := Lib.hid hc11; have HC11m := Lib.hid hc11m; have J10b := Lib.hid (J10.out.ints.below (below_next NA2.out hb)); clear hb f11 h11 hc11 hc11m; have hwB : w.heap.size + 1 < wB.heap.size := Nat.lt_of_lt_of_le hw4 LB.out.size; have qwB1 : ¬ w.heap.size = wB.heap.size := (by omega); have rqwB1 : ¬ wB.heap.size = w.heap.size := (by omega); have qwB2 : ¬ w.heap.size + 1 = wB.heap.size := (by omega); have rqwB2 : ¬ wB.heap.size = w.heap.size + 1 := (by omega); have qwB3 : ¬ w.heap.size = wB.heap.size + 1 := (by omega); have rqwB3 : ¬ wB.heap.size + 1 = w.heap.size := (by omega); have qwB4 : ¬ w.heap.size + 1 = wB.heap.size + 1 := (by omega); have rqwB4 : ¬ wB.heap.size + 1 = w.heap.size + 1 := (by omega); have kB1 := (BA.out.next LB.out).c1; have kB2 := (BB.out.next LB.out).c1; have KK2 := Lib.hid (show wB.cell? ⟨w.heap.size, 1, none⟩ = some (.slice B v.length c2) ∧ wB.cell? ⟨w.heap.size + 1, 1, none⟩ = some (.slice B' u.length c2') from ⟨(BA.out.next LB.out).c1, (BB.out.next LB.out).c1⟩)))
      all_goals (go_wp2_with fail; go_meet; (first | with_reducible exact jc1 LB.out J10b.out J11.out HC10.out HC10m.out HC11.out HC11m.out | with_reducible exact jc2 LB.out J10b.out J11.out HC10.out HC10m.out HC11.out HC11m.out | with_reducible exact jc3 LB.out J10b.out J11.out HC10.out HC10m.out HC11.out HC11m.out BX1.out (by have := LA.out.size; omega) | with_reducible exact jc4 LB.out J10b.out J11.out HC10.out HC10m.out HC11.out HC11m.out BX1.out (by have := LA.out.size; omega) | with_reducible exact jc3 LB.out J10b.out J11.out HC10.out HC10m.out HC11.out HC11m.out BY1.out (by have := LA.out.size; omega) | with_reducible exact jc4 LB.out J10b.out J11.out HC10.out HC10m.out HC11.out HC11m.out BY1.out (by have := LA.out.size; omega) | with_reducible exact jc5 LB.out J10b.out J11.out HC10.out HC10m.out HC11.out HC11m.out BX1.out (by have := LA.out.size; omega) BX2.out (by have := LA.out.size; omega) (by omega) | with_reducible exact jc5 LB.out J10b.out J11.out HC10.out HC10m.out HC11.out HC11m.out BX2.out (by have := LA.out.size; omega) BX1.out (by have := LA.out.size; omega) (by omega) | with_reducible exact jc5 LB.out J10b.out J11.out HC10.out HC10m.out HC11.out HC11m.out BX1.out (by have := LA.out.size; omega) BY1.out (by have := LA.out.size; omega) (by omega) | with_reducible exact jc5 LB.out J10b.out J11.out HC10.out HC10m.out HC11.out HC11m.out BY1.out (by have := LA.out.size; omega) BX1.out (by have := LA.out.size; omega) (by omega) | with_reducible exact jc5 LB.out J10b.out J11.out HC10.out HC10m.out HC11.out HC11m.out BY1.out (by have := LA.out.size; omega) BY2.out (by have := LA.out.size; omega) (by omega) | with_reducible exact jc5 LB.out J10b.out J11.out HC10.out HC10m.out HC11.out HC11m.out BY2.out (by have := LA.out.size; omega) BY1.out (by have := LA.out.size; omega) (by omega)))
    
    case rest =>
      obtain ⟨g10, g11, A10, c10, B10, e10, A11, c11, B11, e11, rfl, rfl, b10, b11, j10, j11, hc10, hc10m, hc11, hc11m, hb⟩ := hcut
      clear qBA0 qBA1 qBB0 qBB1
      replace BA := Lib.hid (BA.out.next hb)
      replace BB := Lib.hid (BB.out.next hb)
      replace BR := Lib.hid (BR.out.next hb)
      replace L := Lib.hid (below_next L.out hb)
      replace IV := Lib.hid (IV.out.below hb)
      replace IE := Lib.hid (IE.out.below hb)
      replace IU := Lib.hid (IU.out.below hb)
      replace I6 := Lib.hid (I6.out.below hb)
      replace I7 := Lib.hid (I7.out.below hb)
      replace I8 := Lib.hid (I8.out.below hb)
      have B10x := Lib.hid b10
      have B11x := Lib.hid b11
      have J10 := Lib.hid j10
      have J11 := Lib.hid j11
      have HC10m := Lib.hid hc10m
      have HC11m := Lib.hid hc11m
      clear b10 b11 j10 j11 hc10m hc11m hb WD CA CB LA1 LA2 hw4 qw41 qw42 qw43 qw44 rqw41 rqw42 rqw43 rqw44
      obtain ⟨w5, hw5⟩ : ∃ W, W = wc := ⟨_, rfl⟩
      subst hw5
      have hz := fun W iW => zero_m A8 c8 dm W (by omega) iW (by rw [← HDM.out]; exact OK.out.rj)
      rw [show (sizeI dm).toNat = N by rw [← HDM.out, OK.out.hN, Int.toNat_natCast]] at hz
      have HZ := Lib.hid hz
      clear hz
      have LW5 := Lib.hid L.out
      have BR5 := Lib.hid BR.out
      have B105 := Lib.hid B10x.out
      have B115 := Lib.hid B11x.out
      have J105 := Lib.hid J10.out
      have J115 := Lib.hid J11.out
      have I65 := Lib.hid I6.out
      have I75 := Lib.hid I7.out
      have L5 := Lib.hid (Below.refl w5.heap.size w5)
      clear BA BB BR L IV IE IU I6 I7 B10x B11x J10 J11
      go_wp2_with fail
      refine (HZ.out _ I8.out).mono ?_
      rintro r w6 ⟨A12, c12, g, rfl, hm12, hr12, hg12, hb⟩
      replace I8 := Lib.hid (I8.out.below hb)
      replace L5 := Lib.hid (below_next L5.out hb)
      clear hb
      have M12 := Lib.hid hm12
      have R12 := Lib.hid (show Row64 w6 g (List.replicate N 0) from hr12)
      have hgl : g < w6.heap.size := R12.out.lt
      have hl10 := B105.out.lt
      have hl11 := B115.out.lt
      have hlR := BR5.out.lt
      have hlW := LW5.out.size
      clear hm12 hr12 HZ
      have KB := Lib.hid (below_new w6 (.cells #[.slice A12 dm.length c12, .slice (some ⟨g, 0, none⟩) N N] 25))
      have B13 := Lib.hid (Box.new w6 (.slice A12 dm.length c12) (.slice (some ⟨g, 0, none⟩) N N))
      replace I8 := Lib.hid (I8.out.below KB.out)
      replace L5 := Lib.hid (below_next L5.out KB.out)
      replace M12 := Lib.hid (M12.out.below KB.out (Nat.le_refl _))
      replace R12 := Lib.hid (R12.out.next KB.out)
      clear KB
      have HDL := Lib.hid (show dm.length = Ln + 1 by rw [← HDM.out]; simp; exact HXl.out)
      have hdI : (dm.length : Int) - 1 = (Ln : Int) := by have := HDL.out; omega
      have HTX := Lib.hid (show dm.take Ln = X by rw [← HDM.out, List.take_left' HXl.out])
      have IX := Lib.hid (I8.out.take Ln (by have := HDL.out; omega))
      rw [HTX.out] at IX
      have l0 : (0 : Int) ≤ (Ln : Int) := by omega
      have l1 : (Ln : Int) ≤ (c8 : Int) := by have := HDL.out; omega
      have l2 : Ln ≤ c8 := by have := HDL.out; omega
      have hc8u : c8 ≤ 9223372036854775807 := by have := HC8m.out; unfold maxLen at this; omega
      have SZ := Lib.hid (fun W iW => size_n A8 c8 X Ln W HXl.out (by omega) iW)
      rw [OK.out.hn] at SZ
      go_wp2_with fail
      refine (SZ.out _ IX.out).mono ?_
      rintro r w8 ⟨rfl, hb⟩
      replace L5 := Lib.hid (below_next L5.out hb)
      replace M12 := Lib.hid (M12.out.below hb (Nat.le_refl _))
      replace R12 := Lib.hid (R12.out.next hb)
      replace B13 := Lib.hid (B13.out.next hb)
      clear hb SZ IX I8 l1 l2 hc8u
      have hn64 : n ≤ 64 := by have := sizeI_bd X; rw [OK.out.hn] at this; omega
      have hx64 : x ≤ 64 := by have := HXA.out; rw [OK.out.ha, get_mid _ _ _ HXl.out] at this; omega
      have hy64 : y ≤ 64 := by have := HXB.out; rw [OK.out.hb, get_mid _ _ _ HXl.out] at this; omega
      have hN64 : N ≤ 64 := by have := sizeI_bd (X ++ [((x + y : Nat) : Int)]); rw [OK.out.hN] at this; omega
      have hLL64 : LL.length ≤ 64 := by rw [LV.out]; have := sizeI_bd a; rw [OK.out.la] at this; omega
      have hRR64 : RR.length ≤ 64 := by rw [RV.out]; have := sizeI_bd b; rw [OK.out.lb] at this; omega
      generalize w6.heap.size = g13 at *
      go_wp2
      go_loopw [14, 64] (fun s j wr => ∃ k : Nat, k ≤ n ∧ j = .int .i64 (k : Int) ∧ LaySt w8 wr g N s (joinL LL RR x y k)) (fun _ j _ => n - (intOf j).toNat)
      case atStart => exact ⟨0, Nat.zero_le _, rfl, N, _, rfl, by simp [joinL], fun _ => rfl, by simpa [joinL] using R12.out, turned_refl _ _⟩
      case round =>
        obtain ⟨k, hk, rfl, m, Ar, rfl, hm, hA, hrw, hgr⟩ := hrel
        have HM := Lib.hid hm
        have HA := Lib.hid hA
        have RW := Lib.hid hrw
        have GR := Lib.hid hgr
        have Lr := Lib.hid (below_turned L5.out hgr hg12)
        clear hm hA hrw hgr
        by_cases hlt : k < n
        · have hkx : (k + 1) * x ≤ LL.length := by rw [LV.out]; exact Nat.le_trans (Nat.mul_le_mul_right x hlt) OK.out.nx
          have hky : (k + 1) * y ≤ RR.length := by rw [RV.out]; exact Nat.le_trans (Nat.mul_le_mul_right y hlt) OK.out.ny
          have hkN : (k + 1) * (x + y) ≤ N := by rw [← OK.out.nN]; exact Nat.mul_le_mul_right _ hlt
          have HJL := Lib.hid (joinL_len (L := LL) (R := RR) (x := x) (y := y) (n := k) (by rw [Nat.add_mul] at hkx; omega) (by rw [Nat.add_mul] at hky; omega))
          have HPX := Lib.hid (piece_length hkx)
          have HPY := Lib.hid (piece_length hky)
          have HSUM := Lib.hid (show k * (x + y) + (x + y) ≤ N by rw [Nat.add_mul, Nat.one_mul] at hkN; exact hkN)
          have hxm : x ≤ m := by have := HM.out; have := HSUM.out; rw [HJL.out] at *; omega
          have hym : y ≤ m - x := by have := HM.out; have := HSUM.out; rw [HJL.out] at *; omega
          have HJS := Lib.hid (show joinL LL RR x y (k + 1) = (joinL LL RR x y k ++ piece LL k x) ++ piece RR k y by rw [joinL, List.append_assoc])
          have WD := Lib.hid ((Below.refl wr.heap.size wr).drew)
          obtain ⟨ba, oa, rfl, hba, hca⟩ := I65.out (by have := HLn.out; omega)
          obtain ⟨bb, ob, rfl, hbb, hcb⟩ := I75.out (by omega)
          have xa := (Lr.out.cell (p := ⟨ba, oa + Ln, none⟩) hba).trans (hca Ln (by have := HLn.out; omega))
          have xb := (Lr.out.cell (p := ⟨bb, ob + Ln, none⟩) hbb).trans (hcb Ln (by rw [OK.out.hb]; simp; have := HXl.out; omega))
          rw [show a.getD Ln 0 = (x : Int) by rw [OK.out.ha, get_mid _ _ _ HXl.out]] at xa
          rw [show b.getD Ln 0 = (y : Int) by rw [OK.out.hb, get_mid _ _ _ HXl.out]] at xb
          have p1 := (B105.out.next Lr.out).c1
          have p2 := (B115.out.next Lr.out).c1
          have la1 : (Ln : Int) < (a.length : Int) := by have := HLn.out; omega
          have lb1 : (Ln : Int) < (b.length : Int) := by rw [OK.out.hb]; simp; have := HXl.out; omega
          have hm64 : m ≤ 64 := by have := HM.out; omega
          clear hca hcb hkx hky hkN
          have CU1 := Lib.hid (mcut_all B10 LL e10 k x wr.drew hc10 (by have := HC10m.out; unfold maxLen at this; omega) (by omega) (by omega) ((J105.out.below Lr.out).below WD.out) (by rw [LV.out]; exact Nat.le_trans (Nat.mul_le_mul_right x hlt) OK.out.nx))
          generalize piece LL k x = px at *
          generalize hpy : piece RR k y = py at *
          have HPY2 := Lib.hid hpy
          clear hpy
          generalize joinL LL RR x y k = C at *
          have N1 := Lib.hid (show g10 ≠ g by omega)
          have N2 := Lib.hid (show g11 ≠ g by omega)
          have N3 := Lib.hid (show ba ≠ g by omega)
          have N4 := Lib.hid (show bb ≠ g by omega)
          go_upto_region 14 with (fail)
          go_region_held3 (fun w' => w'.cell? ⟨g10, 1, none⟩ = some (.slice B10 LL.length e10) ∧ w'.cell? ⟨ba, oa + Ln, none⟩ = some (.int .i64 (x : Int)))
            (first
              | with_reducible exact KK.out
              | go_keep)
            (first
              | (go_at_call 60; (with_reducible refine (CU1.out).mono ?_); rintro r wq ⟨Ap, rfl, hip, rfl⟩; have IP := Lib.hid (hip _ ((J105.out.below Lr.out).below WD.out)); clear hip)
              | (go_at_call 59; (with_reducible refine (lay_n g C.length m x Ar C Ap x px wr.drew HPX.out hxm rfl RW.out.drew HA.out IP.out (by omega)).mono ?_); rintro r wl ⟨A3, rfl, hA3, hr3, hg3⟩; have HA3 := Lib.hid hA3; have R3 := Lib.hid hr3; have G3 := Lib.hid (World.grownBy.trans (turned_drew GR.out) hg3); have KK := Lib.hid (keepGG (p := ⟨g10, 1, none⟩) (q := ⟨ba, oa + Ln, none⟩) hg3 N1.out N3.out (show wr.drew.cell? ⟨g10, 1, none⟩ = some (.slice B10 LL.length e10) ∧ wr.drew.cell? ⟨ba, oa + Ln, none⟩ = some (.int .i64 (x : Int)) from ⟨p1, xa⟩)); have p3 := (keepGG (p := ⟨g11, 1, none⟩) (q := ⟨bb, ob + Ln, none⟩) hg3 N2.out N4.out (show wr.drew.cell? ⟨g11, 1, none⟩ = some (.slice B11 RR.length e11) ∧ wr.drew.cell? ⟨bb, ob + Ln, none⟩ = some (.int .i64 (y : Int)) from ⟨p2, xb⟩)); clear hA3 hr3 hg3))
          obtain ⟨p4, xb2⟩ := p3
          clear p1 p2 xa xb
          have Lr2 := Lib.hid (below_turned L5.out G3.out hg12)
          have WD2 := Lib.hid ((Below.refl wl.heap.size wl).drew)
          have CU2 := Lib.hid (mcut_all B11 RR e11 k y wl.drew hc11 (by have := HC11m.out; unfold maxLen at this; omega) (by omega) (by omega) ((J115.out.below Lr2.out).below WD2.out) (by rw [RV.out]; exact Nat.le_trans (Nat.mul_le_mul_right y hlt) OK.out.ny))
          rw [HPY2.out] at CU2
          have HCL := Lib.hid (show (C ++ px).length = C.length + x by rw [List.length_append, HPX.out])
          go_upto_region 15 with (fail)
          go_region_held3 (fun w' => w'.cell? ⟨g11, 1, none⟩ = some (.slice B11 RR.length e11) ∧ w'.cell? ⟨bb, ob + Ln, none⟩ = some (.int .i64 (y : Int)))
            (first
              | with_reducible exact KK2.out
              | go_keep)
            (first
              | (go_at_call 60; (with_reducible refine (CU2.out).mono ?_); rintro r wq ⟨Aq, rfl, hip, rfl⟩; have IP2 := Lib.hid (hip _ ((J115.out.below Lr2.out).below WD2.out)); clear hip)
              | (go_at_call 59; (with_reducible refine (lay_n g (C.length + x) (m - x) y A3 (C ++ px) Aq y py wl.drew HPY.out hym HCL.out R3.out.drew HA3.out IP2.out (by omega)).mono ?_); rintro r wz ⟨A4, rfl, hA4, hr4, hg4⟩; have HA4 := Lib.hid hA4; have R4 := Lib.hid hr4; have G4 := Lib.hid (World.grownBy.trans (turned_drew G3.out) hg4); have KK2 := Lib.hid (keepGG (p := ⟨g11, 1, none⟩) (q := ⟨bb, ob + Ln, none⟩) hg4 N2.out N4.out (show wl.drew.cell? ⟨g11, 1, none⟩ = some (.slice B11 RR.length e11) ∧ wl.drew.cell? ⟨bb, ob + Ln, none⟩ = some (.int .i64 (y : Int)) from ⟨p4, xb2⟩)); clear hA4 hr4 hg4))
          go_wp2
          go_roundw
          case rel => exact ⟨k + 1, by omega, by go_num, m - x - y, A4, rfl, by rw [HJS.out, List.length_append, HCL.out, HPY.out]; have := HM.out; omega, fun h => by rw [HJS.out, List.length_append, HCL.out, HPY.out]; exact HA4.out h, by rw [HJS.out]; exact R4.out, G4.out⟩
          case measure => simp [intOf]; omega
        · obtain rfl : k = n := by omega
          have HJL := Lib.hid (joinL_len (L := LL) (R := RR) (x := x) (y := y) (n := k) (by rw [LV.out]; exact OK.out.nx) (by rw [RV.out]; exact OK.out.ny))
          have hm0 : m = 0 := by have := HM.out; rw [HJL.out, OK.out.nN] at this; omega
          have hr := RW.out
          rw [hm0, ← HVV.out] at hr
          have HRN := Lib.hid (show Row64 wr g VV by simpa using hr)
          clear hr hm0
          have B13r := Lib.hid (B13.out.grown GR.out (fun e => by injection e with e; omega))
          have BRr := Lib.hid (BR5.out.next Lr.out)
          have LWr := Lib.hid (below_next LW5.out Lr.out)
          have M12r := Lib.hid (mine_turned M12.out R12.out (by decide) GR.out)
          obtain ⟨q0, q1, -, -⟩ := B13r.out.all
          obtain ⟨r0, r1, r2, r3⟩ := BRr.out.all
          go_wp2
          have T9 := (BRr.out.set0 (.slice A12 dm.length c12)).set1 (.slice (some ⟨g, 0, none⟩) N N)
          obtain ⟨t0, t1, _, _⟩ := T9.all
          refine bodyPost_ret (v := .tuple #[.agg #[.slice A12 dm.length c12, .slice (some ⟨g, 0, none⟩) N N], .int .i64 0]) (by simp [results, Try.results20, go_sem, t0, t1]) rfl ?_
          have m1 := ((M12r.out.box (g := w.heap.size + 1 + 1) (by omega) (.slice A12 dm.length c12) (.slice (some ⟨g, 0, none⟩) N N)).fr).mono (b' := w.heap.size) (by omega)
          have hne : g ≠ w.heap.size + 1 + 1 := by omega
          have m2 := ((HRN.out.far (p := ⟨w.heap.size + 1 + 1, 0, none⟩) hne (.slice A12 dm.length c12)).far (p := ⟨w.heap.size + 1 + 1, 1, none⟩) hne (.slice (some ⟨g, 0, none⟩) N N)).fr (base := w.heap.size) (by omega)
          try rw [HDM.out]
          refine ⟨_, rfl, ⟨A12, c12, some ⟨g, 0, none⟩, N, by rw [HVL.out], m1, m2, by rw [HVL.out]; exact Nat.le_refl _, by unfold maxLen; omega, M12r.out.cap.1, M12r.out.cap.2⟩, (LWr.out.setCell (by simp; omega) _).setCell (by simp; omega) _⟩
end Go.Proofs.Ytfnpdflapmbnjaa.Sh
