/-
  Layer 17, token: riffleref17.numbers: what it answers, as steps of the relation. Conditions: as told in each.
-/
import Derived.Test.YtdhpplbopciijaaDoorTkRefL
import Derived.Test.YtdhpplbopciijaaDoorTkLex
import Derived.Test.YtdhpplbopciijaaDoorDgRefR
set_option maxRecDepth 100000
namespace Go.Proofs.YtdhpplbopciijaaDoor.Tk
open Go.Proofs.YtdhpplbopciijaaDoor.Sh Go.Proofs.YtdhpplbopciijaaDoor.St
open Go.RowKit
set_option linter.unusedVariables false

/-- A token was read at a place, and the next one may begin at p. -/
def NxOk (l : List UInt8) (at_ : Nat) (ts : List Tk) (t : Tk) (p : Nat) : Prop :=
  (∀ R, Lexes l p (ts ++ [t]) R → Lexes l at_ ts R) ∧ at_ < p ∧ p ≤ l.length ∧ (t.kind = 1 → cntB (l.drop p) = false ∧ blanksN (l.drop p) = 0) ∧ t.nums.length ≤ 64 ∧ ts.length ≠ 400
/-- What next answers: a token, or what is wrong. -/
def RetNx (l : List UInt8) (at_ : Nat) (ts : List Tk) (w : World) (e : Ending) (w' : World) : Prop :=
  ∃ (q : Qt) (p E P : Nat), e = .returned (.tuple #[.agg #[.int .i64 (q.1.kind : Int), .int .i64 (q.1.pos : Int), .int .i64 (q.1.code : Int), .slice q.2.1 (List.length q.1.nums) q.2.2, .string (nm q.1.name)], .int .i64 (p : Int), .agg #[.int .i64 (E : Int), .int .i64 (P : Int)]]) ∧ Below w.heap.size w w' ∧
    ((E = 0 ∧ P = 0 ∧ MineT 2 w' w.heap.size (vq q) q.1.nums ∧ NxOk l at_ ts q.1 p) ∨ (E ≠ 0 ∧ Lexes l at_ ts (.inr (E, P))))
/-- The state of numbers' loop: three boxes, and the numbers so far. -/
structure NumS (l : List UInt8) (a : Nat) (ts : List Tk) (w wr : World) (p : Nat) (A : Option Addr) (c : Nat) (N : List Int) : Prop where
  b6 : Bk 37 wr w.heap.size [.int .i64 0, .int .i64 0, .int .i64 0, .slice none 0 0, .string ⟨#[]⟩]
  b8 : Bk 25 wr (w.heap.size + 1) [.int .i64 0, .int .i64 0]
  b9 : Bk 37 wr (w.heap.size + 1 + 1) [.int .i64 1, .int .i64 (a : Int), .int .i64 0, .slice A N.length c, .string ⟨#[]⟩]
  own : MineT 2 wr (w.heap.size + 1 + 1 + 1) (.slice A N.length c) N
  bel : Below w.heap.size w wr
  n64 : N.length ≤ 64
  nil : N = [] → a = p
  some_ : N ≠ [] → a < p ∧ blanksN (l.drop p) = 0
  few : N ≠ [] → ts.length ≠ 400
  lex : ∀ R, Lexes l p (tsN ts a N) R → Lexes l a ts R
theorem tsN_some {ts : List Tk} {a : Nat} {N : List Int} (h : N ≠ []) : tsN ts a N = ts ++ [⟨1, a, 0, N, []⟩] := by unfold tsN; rw [if_neg h]
section
variable {l : List UInt8} {a p c : Nat} {ts : List Tk} {w wr : World} {A : Option Addr} {N : List Int}
theorem NumS.start (l : List UInt8) (a : Nat) (ts : List Tk) (w : World) : NumS l a ts w (((w.alloc (.cells #[.int .i64 0, .int .i64 0, .int .i64 0, .slice none 0 0, .string ⟨#[]⟩] 37)).alloc (.cells #[.int .i64 0, .int .i64 0] 25)).alloc
    (.cells #[.int .i64 1, .int .i64 (a : Int), .int .i64 0, .slice none 0 0, .string ⟨#[]⟩] 37)) a none 0 [] := by
  have e1 : (w.alloc (.cells #[.int .i64 0, .int .i64 0, .int .i64 0, .slice none 0 0, .string ⟨#[]⟩] 37)).heap.size = w.heap.size + 1 := by simp
  have e2 : ((w.alloc (.cells #[.int .i64 0, .int .i64 0, .int .i64 0, .slice none 0 0, .string ⟨#[]⟩] 37)).alloc (.cells #[.int .i64 0, .int .i64 0] 25)).heap.size = w.heap.size + 1 + 1 := by simp
  refine ⟨?_, ?_, ?_, World.ownsRow_nil _ _ _ _, ?_, by simp, fun _ => rfl, fun h => absurd rfl h, fun h => absurd rfl h, fun R h => h⟩
  · exact ((Bk.new 37 w [.int .i64 0, .int .i64 0, .int .i64 0, .slice none 0 0, .string ⟨#[]⟩]).alloc _).alloc _
  · rw [← e1]; exact (Bk.new 25 _ [.int .i64 0, .int .i64 0]).alloc _
  · rw [← e2]; exact Bk.new 37 _ [.int .i64 1, .int .i64 (a : Int), .int .i64 0, .slice none 0 0, .string ⟨#[]⟩]
  · exact (((Below.refl _ w).alloc (Nat.le_refl _) _).alloc (by simp) _).alloc (by simp; omega) _
theorem NumS.cells (h : NumS l a ts w wr p A c N) : (wr.cell? ⟨w.heap.size + 1 + 1, 0, none⟩ = some (.int .i64 1) ∧ wr.cell? ⟨w.heap.size + 1 + 1, 1, none⟩ = some (.int .i64 (a : Int)) ∧ wr.cell? ⟨w.heap.size + 1 + 1, 2, none⟩ = some (.int .i64 0) ∧ wr.cell? ⟨w.heap.size + 1 + 1, 3, none⟩ = some (.slice A N.length c) ∧ wr.cell? ⟨w.heap.size + 1 + 1, 4, none⟩ = some (.string ⟨#[]⟩) ∧ wr.frozen? ⟨w.heap.size + 1 + 1, 3, none⟩ = false) :=
  ⟨h.b9.c 0, h.b9.c 1, h.b9.c 2, h.b9.c 3, h.b9.c 4, h.b9.f 3⟩
theorem NumS.boxes (h : NumS l a ts w wr p A c N) : (wr.cell? ⟨w.heap.size, 0, none⟩ = some (.int .i64 0) ∧ wr.cell? ⟨w.heap.size, 1, none⟩ = some (.int .i64 0) ∧ wr.cell? ⟨w.heap.size, 2, none⟩ = some (.int .i64 0) ∧ wr.cell? ⟨w.heap.size, 3, none⟩ = some (.slice none 0 0) ∧ wr.cell? ⟨w.heap.size, 4, none⟩ = some (.string ⟨#[]⟩) ∧
    wr.cell? ⟨w.heap.size + 1, 0, none⟩ = some (.int .i64 0) ∧ wr.cell? ⟨w.heap.size + 1, 1, none⟩ = some (.int .i64 0)) ∧
    (wr.frozen? ⟨w.heap.size, 0, none⟩ = false ∧ wr.frozen? ⟨w.heap.size, 1, none⟩ = false ∧ wr.frozen? ⟨w.heap.size, 2, none⟩ = false ∧ wr.frozen? ⟨w.heap.size, 3, none⟩ = false ∧ wr.frozen? ⟨w.heap.size, 4, none⟩ = false ∧ wr.frozen? ⟨w.heap.size + 1, 0, none⟩ = false ∧ wr.frozen? ⟨w.heap.size + 1, 1, none⟩ = false) :=
  ⟨⟨h.b6.c 0, h.b6.c 1, h.b6.c 2, h.b6.c 3, h.b6.c 4, h.b8.c 0, h.b8.c 1⟩, h.b6.f 0, h.b6.f 1, h.b6.f 2, h.b6.f 3, h.b6.f 4, h.b8.f 0, h.b8.f 1⟩
theorem NumS.next (h : NumS l a ts w wr p A c N) {w' : World} (hb : Below wr.heap.size wr w') : NumS l a ts w w' p A c N :=
  ⟨h.b6.next hb, h.b8.next hb, h.b9.next hb, own_below h.own hb, Gl.below_next h.bel hb, h.n64, h.nil, h.some_, h.few, h.lex⟩
/-- One number more. -/
theorem NumS.step (h : NumS l a ts w wr p A c N) {x : Int} {A8 : Option Addr} {c8 : Nat} {w8 : World} (hv8 : w8.ownsRow (w.heap.size + 1 + 1 + 1) 2 1 (.slice A8 (N.length + 1) c8) (N.length + 1) (N.map (Value.int .i64) ++ [.int .i64 x]))
    (hg8 : (wr.alloc (.cells #[.int .i64 x] 2)).grownBy w8 (Value.slice A N.length c).ownBlock) (hp : p < l.length) (hn : NoNum ts) (hf : ts.length ≠ 400) (h6 : N.length ≠ 64) (hc : cntB (l.drop p) = true) (hv : Dg.valB (Dg.readD (l.drop p)) (Dg.readS (l.drop p)) = true) (hx : Dg.valI (Dg.readD (l.drop p)) (Dg.readS (l.drop p)) = x)
    {p' : Nat} (hp' : p + Dg.readN (l.drop p) + blanksN (l.drop (p + Dg.readN (l.drop p))) = p') (hbl : blanksN (l.drop p') = 0) : NumS l a ts w (w8.setCell ⟨w.heap.size + 1 + 1, 3, none⟩ (.slice A8 (N.length + 1) c8)) p' A8 c8 (N ++ [x]) := by
  have hrp := readN_pos hv
  have hne := own_bk_ne (World.ownsRow.alloc h.own (.cells #[.int .i64 x] 2)) (h.b6.alloc (.cells #[.int .i64 x] 2)) (by decide)
  have hne8 := own_bk_ne (World.ownsRow.alloc h.own (.cells #[.int .i64 x] 2)) (h.b8.alloc (.cells #[.int .i64 x] 2)) (by decide)
  have hne9 := own_bk_ne (World.ownsRow.alloc h.own (.cells #[.int .i64 x] 2)) (h.b9.alloc (.cells #[.int .i64 x] 2)) (by decide)
  have eN : (N ++ [x]).length = N.length + 1 := by simp
  refine ⟨?_, ?_, ?_, ?_, ?_, ?_, fun e => by simp at e, fun _ => ⟨?_, hbl⟩, fun _ => hf, fun R hR => h.lex R (lexes_num hp hn hf h6 h.nil hc hv (by rw [hp', hx]; exact hR))⟩
  · exact ((h.b6.alloc _).grown hg8 hne).far (p := ⟨w.heap.size + 1 + 1, 3, none⟩) (show w.heap.size ≠ w.heap.size + 1 + 1 by omega) _
  · exact ((h.b8.alloc _).grown hg8 hne8).far (p := ⟨w.heap.size + 1 + 1, 3, none⟩) (show w.heap.size + 1 ≠ w.heap.size + 1 + 1 by omega) _
  · rw [eN]; exact ((h.b9.alloc _).grown hg8 hne9).set_ 3 _
  · unfold MineT
    rw [eN, List.map_append]
    exact ownsRow_setCell_below (a := ⟨w.heap.size + 1 + 1, 3, none⟩) hv8 (Nat.lt_succ_self _) _
  · have hs1 := h.b9.lt
    have hs2 := h.bel.size
    refine ((h.bel.alloc hs2 _).grown hg8 (by simp; omega) (fun k hk => ?_)).setCell (p := ⟨w.heap.size + 1 + 1, 3, none⟩) (by show w.heap.size ≤ w.heap.size + 1 + 1; omega) _
    have := own_base h.own k hk
    omega
  · have := h.n64; rw [eN]; omega
  · rcases Nat.eq_zero_or_pos N.length with h0 | h0
    · have := h.nil (List.eq_nil_of_length_eq_zero h0); omega
    · have := (h.some_ (List.ne_nil_of_length_pos h0)).1; omega
end
theorem blanks_twice : ∀ r : List UInt8, blanksN (r.drop (blanksN r)) = 0
  | [] => rfl
  | c :: t => by
    cases h : blB c with
    | true =>
      have e : blanksN (c :: t) = blanksN t + 1 := by unfold blanksN; rw [List.takeWhile_cons, if_pos h]; rfl
      rw [e, List.drop_succ_cons]
      exact blanks_twice t
    | false =>
      have e : blanksN (c :: t) = 0 := by unfold blanksN; rw [List.takeWhile_cons, if_neg (by rw [h]; simp)]; rfl
      rw [e, List.drop_zero, e]
/-- Both result boxes laid anew. -/
def wSet (wr : World) (g6 g8 : Nat) (v0 v1 v2 v3 v4 e0 e1 : Value) : World :=
  ((((((wr.setCell ⟨g6, 0, none⟩ v0).setCell ⟨g6, 1, none⟩ v1).setCell ⟨g6, 2, none⟩ v2).setCell ⟨g6, 3, none⟩ v3).setCell ⟨g6, 4, none⟩ v4).setCell ⟨g8, 0, none⟩ e0).setCell ⟨g8, 1, none⟩ e1
section
variable {wr : World} {g6 g8 : Nat} {v0 v1 v2 v3 v4 e0 e1 u0 u1 u2 u3 u4 f0 f1 : Value}
theorem wSet_6 (h : Bk 37 wr g6 [u0, u1, u2, u3, u4]) (hne : g6 ≠ g8) : Bk 37 (wSet wr g6 g8 v0 v1 v2 v3 v4 e0 e1) g6 [v0, v1, v2, v3, v4] := by
  have h1 := ((((h.set_ 0 v0).set_ 1 v1).set_ 2 v2).set_ 3 v3).set_ 4 v4
  exact (h1.far (p := ⟨g8, 0, none⟩) hne e0).far (p := ⟨g8, 1, none⟩) hne e1
theorem wSet_8 (h : Bk 25 wr g8 [f0, f1]) (hne : g6 ≠ g8) : Bk 25 (wSet wr g6 g8 v0 v1 v2 v3 v4 e0 e1) g8 [e0, e1] := by
  have h1 := ((((h.far (p := ⟨g6, 0, none⟩) hne.symm v0).far (p := ⟨g6, 1, none⟩) hne.symm v1).far (p := ⟨g6, 2, none⟩) hne.symm v2).far (p := ⟨g6, 3, none⟩) hne.symm v3).far (p := ⟨g6, 4, none⟩) hne.symm v4
  exact (h1.set_ 0 e0).set_ 1 e1
theorem wSet_below {b : Nat} {w : World} (h : Below b w wr) (h6 : b ≤ g6) (h8 : b ≤ g8) : Below b w (wSet wr g6 g8 v0 v1 v2 v3 v4 e0 e1) :=
  ((((((h.setCell (p := ⟨g6, 0, none⟩) h6 v0).setCell (p := ⟨g6, 1, none⟩) h6 v1).setCell (p := ⟨g6, 2, none⟩) h6 v2).setCell (p := ⟨g6, 3, none⟩) h6 v3).setCell (p := ⟨g6, 4, none⟩) h6 v4).setCell (p := ⟨g8, 0, none⟩) h8 e0).setCell (p := ⟨g8, 1, none⟩) h8 e1
theorem own_weak {w : World} {b b' : Nat} {e : TypeId} {size n : Nat} {v : Value} {xs : List Value} (h : w.ownsRow b e size v n xs) (hb : b' ≤ b) : w.ownsRow b' e size v n xs := by
  refine ⟨h.1, ?_⟩
  rcases h.2 with h | ⟨g, cap, cur, e1, h1, h2⟩
  · exact .inl h
  · exact .inr ⟨g, cap, cur, e1, Nat.le_trans hb h1, h2⟩
theorem wSet_own {b : Nat} {e : TypeId} {size n : Nat} {v : Value} {xs : List Value} (h : wr.ownsRow b e size v n xs) (h6 : g6 < b) (h8 : g8 < b) : (wSet wr g6 g8 v0 v1 v2 v3 v4 e0 e1).ownsRow b e size v n xs := by
  have h1 := ownsRow_setCell_below (a := ⟨g6, 4, none⟩) (ownsRow_setCell_below (a := ⟨g6, 3, none⟩) (ownsRow_setCell_below (a := ⟨g6, 2, none⟩) (ownsRow_setCell_below (a := ⟨g6, 1, none⟩) (ownsRow_setCell_below (a := ⟨g6, 0, none⟩) h h6 v0) h6 v1) h6 v2) h6 v3) h6 v4
  exact ownsRow_setCell_below (a := ⟨g8, 1, none⟩) (ownsRow_setCell_below (a := ⟨g8, 0, none⟩) h1 h8 e0) h8 e1
/-- The results of a function that has a token, a place and a fault. -/
theorem res_ctc {fn : Func} (h : fn.results = #[.cell 6 37, .tmp 7, .cell 8 25]) (tmps : Array Value) (h6 : tmps.getD 6 undef = .pointer (some ⟨g6, 0, none⟩)) (h8 : tmps.getD 8 undef = .pointer (some ⟨g8, 0, none⟩))
    (b6 : Bk 37 wr g6 [v0, v1, v2, v3, v4]) (b8 : Bk 25 wr g8 [e0, e1]) :
    (results fn tmps).run Tryd.prog wr = .ok (.tuple #[.agg #[v0, v1, v2, v3, v4], tmps.getD 7 undef, .agg #[e0, e1]]) wr := by
  have a0 : wr.cell? ⟨g6, 0, none⟩ = some v0 := b6.c 0
  have a1 : wr.cell? ⟨g6, 1, none⟩ = some v1 := b6.c 1
  have a2 : wr.cell? ⟨g6, 2, none⟩ = some v2 := b6.c 2
  have a3 : wr.cell? ⟨g6, 3, none⟩ = some v3 := b6.c 3
  have a4 : wr.cell? ⟨g6, 4, none⟩ = some v4 := b6.c 4
  have a5 : wr.cell? ⟨g8, 0, none⟩ = some e0 := b8.c 0
  have a6 : wr.cell? ⟨g8, 1, none⟩ = some e1 := b8.c 1
  rw [Array.getD_eq_getD_getElem?] at h6 h8
  simp [results, h, h6, h8, go_sem, a0, a1, a2, a3, a4, a5, a6]
end
theorem cnt_lt {l : List UInt8} {p : Nat} (h : cntB (l.drop p) = true) : p < l.length := by
  rcases Nat.lt_or_ge p l.length with h1 | h1
  · exact h1
  · rw [List.drop_eq_nil_of_le h1] at h
    simp [cntB, has_iff] at h
set_option maxHeartbeats 4000000 in
theorem rnumbers_any (s : ByteArray) (a : Nat) (full : Bool) (ts : List Tk) (w : World) (hs : s.size ≤ maxLen) (ha : a < s.size) (hc : cntB (s.data.toList.drop a) = true) (hn : NoNum ts) (hf : full = decide (ts.length = 400)) :
    Calls Tryd.prog 23 #[.string s, .int .i64 (a : Int), .bool full] w (RetNx s.data.toList a ts w) := by
  have HCN := Lib.hid (fun p W (hp : p ≤ s.size) (b : Bool) (hb : cntB (s.data.toList.drop p) = b) => rcounts_any (restB s p) b W (by rw [rest_size]; omega) (by rw [rest_list]; exact hb))
  have HRD := Lib.hid (fun p W (hp : p ≤ s.size) => Dg.rread_any (restB s p) W (by rw [rest_size]; omega))
  have HBL := Lib.hid (fun p W (hp : p ≤ s.size) => rblanks_any (restB s p) W (by rw [rest_size]; omega))
  simp only [rest_list] at HRD HBL
  have HSL := Lib.hid (show s.data.toList.length = s.size by simp)
  have HA := Lib.hid ha
  have HC := Lib.hid hc
  have HN := Lib.hid hn
  have HF := Lib.hid hf
  unfold maxLen at hs
  have HSS := Lib.hid hs
  generalize hl : s.data.toList = l at *
  clear hl hc hn hf
  have hat : (a : Int) ≤ (s.size : Int) := by omega
  go_enter Tryd.func23, Tryd.ntmps23
  go_wp2_with fail
  go_loopw [1] (fun i wr => ∃ (p : Nat) (A : Option Addr) (c : Nat) (N : List Int), p ≤ s.size ∧ i = .int .i64 (p : Int) ∧ Hid (NumS l a ts w wr p A c N)) (fun i _ => s.size - (intOf i).toNat)
  case atStart => exact ⟨a, none, 0, [], by omega, rfl, Lib.hid (NumS.start l a ts w)⟩
  case round =>
    obtain ⟨p, A, c, N, hp, rfl, HS⟩ := hrel
    have hpi : (p : Int) ≤ (s.size : Int) := by omega
    obtain ⟨x0, x1, x2, x3, x4, xf⟩ := HS.out.cells
    obtain ⟨⟨y0, y1, y2, y3, y4, z0, z1⟩, yf0, yf1, yf2, yf3, yf4, zf0, zf1⟩ := HS.out.boxes
    cases hcb : cntB (l.drop p) with
    | false =>
      have H1 := Lib.hid (fun W => HCN.out p W hp false hcb)
      have HCB := Lib.hid hcb
      have HNE : Hid (N ≠ []) := Lib.hid (fun e => by
        have := HS.out.nil e
        subst this
        have h1 := HC.out
        rw [hcb] at h1
        cases h1)
      clear hcb
      generalize hk : N.length = k at *
      go_wp2_with fail
      refine (H1.out _).mono ?_
      rintro e w1 ⟨rfl, rfl⟩
      go_wp2
      refine bodyPost_ret (res_ctc Tryd.results23 _ rfl rfl (wSet_6 HS.out.b6 (by omega)) (wSet_8 HS.out.b8 (by omega))) rfl ?_
      have HSN := HS.out.some_ HNE.out
      refine ⟨(⟨1, a, 0, N, []⟩, (A, c)), p, 0, 0, by rw [← hk]; rfl, wSet_below HS.out.bel (Nat.le_refl _) (by omega), .inl ⟨rfl, rfl, own_weak (b := w.heap.size + 1 + 1 + 1) (wSet_own HS.out.own (by omega) (by omega)) (by omega), ?_⟩⟩
      refine ⟨fun R hR => HS.out.lex R (by rw [tsN_some HNE.out]; exact hR), HSN.1, by rw [HSL.out]; exact hp, fun _ => ⟨HCB.out, HSN.2⟩, HS.out.n64, HS.out.few HNE.out⟩
    | true =>
      have H1 := Lib.hid (fun W => HCN.out p W hp true hcb)
      have H2 := Lib.hid (fun W => HRD.out p W hp)
      have HCB := Lib.hid hcb
      have hpl : p < s.size := by rw [← HSL.out]; exact cnt_lt hcb
      obtain ⟨vb, hvb⟩ : ∃ vb, Dg.valB (Dg.readD (l.drop p)) (Dg.readS (l.drop p)) = vb := ⟨_, rfl⟩
      obtain ⟨v, hv⟩ : ∃ v, Dg.valI (Dg.readD (l.drop p)) (Dg.readS (l.drop p)) = v := ⟨_, rfl⟩
      obtain ⟨n, hn⟩ : ∃ n, Dg.readN (l.drop p) = n := ⟨_, rfl⟩
      rw [hvb, hv, hn] at H2
      have HVB := Lib.hid hvb
      have HV := Lib.hid hv
      have HNN := Lib.hid hn
      have hpn : vb = true → p + n ≤ s.size := fun h => by
        have := (readN_pos (hvb.trans h)).2
        rw [hn, List.length_drop, HSL.out] at this
        omega
      clear hcb hvb hv hn
      clear x0 x1 x2 x3 x4 xf y0 y1 y2 y3 y4 z0 z1 yf0 yf1 yf2 yf3 yf4 zf0 zf1
      go_wp2_with fail
      refine (H1.out _).mono ?_
      rintro e w1 ⟨rfl, rfl⟩
      go_wp2_with fail
      refine (H2.out _).mono ?_
      rintro e w2 ⟨rfl, hb2⟩
      have S2 := Lib.hid (HS.out.next hb2)
      clear hb2 HS
      obtain ⟨x0, x1, x2, x3, x4, xf⟩ := S2.out.cells
      obtain ⟨⟨y0, y1, y2, y3, y4, z0, z1⟩, yf0, yf1, yf2, yf3, yf4, zf0, zf1⟩ := S2.out.boxes
      generalize hk : N.length = k at *
      have HK := Lib.hid hk
      cases vb with
      | false =>
        clear hk hpn
        go_wp2
        refine bodyPost_ret (res_ctc Tryd.results23 _ rfl rfl (wSet_6 S2.out.b6 (by omega)) (wSet_8 S2.out.b8 (by omega))) rfl ?_
        exact ⟨(⟨1, a, 0, N, []⟩, (A, c)), p, 7, p, by rw [← HK.out]; rfl, wSet_below S2.out.bel (Nat.le_refl _) (by omega), .inr ⟨by omega, S2.out.lex _ (.bad (by rw [HSL.out]; exact hpl) (run_bad7 HCB.out HVB.out))⟩⟩
      | true =>
        have hpn := hpn rfl
        by_cases h64 : k = 64
        · have b64 : ((k : Int) == 64) = true := by rw [h64]; rfl
          have H64 := Lib.hid h64
          clear hk h64
          go_wp2
          refine bodyPost_ret (res_ctc Tryd.results23 _ rfl rfl (wSet_6 S2.out.b6 (by omega)) (wSet_8 S2.out.b8 (by omega))) rfl ?_
          exact ⟨(⟨1, a, 0, N, []⟩, (A, c)), p, 8, p, by rw [← HK.out]; rfl, wSet_below S2.out.bel (Nat.le_refl _) (by omega), .inr ⟨by omega, S2.out.lex _ (.bad (by rw [HSL.out]; exact hpl) (run_64 (HK.out.trans H64.out) HCB.out HVB.out))⟩⟩
        · have b64 : ((k : Int) == 64) = false := by simp; omega
          cases full with
          | true =>
            clear hk h64
            go_wp2
            refine bodyPost_ret (res_ctc Tryd.results23 _ rfl rfl (wSet_6 S2.out.b6 (by omega)) (wSet_8 S2.out.b8 (by omega))) rfl ?_
            have hts : ts.length = 400 := by have := HF.out; simpa using this
            have hNil : N = [] := by
              rcases Nat.eq_zero_or_pos N.length with h0 | h0
              · exact List.eq_nil_of_length_eq_zero h0
              · exact absurd hts (S2.out.few (List.ne_nil_of_length_pos h0))
            exact ⟨(⟨1, a, 0, N, []⟩, (A, c)), p, 8, p, by rw [← HK.out]; rfl, wSet_below S2.out.bel (Nat.le_refl _) (by omega), .inr ⟨by omega, S2.out.lex _ (by rw [hNil]; exact .bad (by rw [HSL.out]; exact hpl) (run_full HN.out hts HCB.out HVB.out))⟩⟩
          | false =>
            have hts : Hid (ts.length ≠ 400) := Lib.hid (by have := HF.out; simpa using this)
            obtain ⟨m, hm⟩ : ∃ m, blanksN (l.drop (p + n)) = m := ⟨_, rfl⟩
            have hml : m ≤ s.size - (p + n) := by
              have := blanks_le (l.drop (p + n))
              rw [hm, List.length_drop, HSL.out] at this
              exact this
            have H3 := Lib.hid (fun W => HBL.out (p + n) W hpn)
            rw [hm] at H3
            have HM := Lib.hid hm
            have H64 := Lib.hid h64
            have hk64 : k ≤ 64 := by rw [← hk]; exact S2.out.n64
            have ON : Hid ((w2.alloc (.cells #[.int .i64 v] 2)).ownsRow (w.heap.size + 1 + 1 + 1) 2 1 (.slice A k c) k (N.map (Value.int .i64))) := Lib.hid (by
              have h := World.ownsRow.alloc S2.out.own (.cells #[.int .i64 v] 2)
              rw [hk] at h
              exact h)
            have SQ := Lib.hid (seq_new 2 w2 [.int .i64 v])
            have TL : Hid (k + 1 ≤ 100000) := Lib.hid (by omega)
            have LB : Hid (w.heap.size + 1 + 1 + 1 ≤ (w2.alloc (.cells #[.int .i64 v] 2)).heap.size) := Lib.hid (by have := S2.out.b9.lt; simp; omega)
            have hsum : IntKind.i64.wrap ((p : Int) + (n : Int)) = (p : Int) + (n : Int) := IntWalk.i64_in _ (by omega)
            have hsum2 : IntKind.i64.wrap ((p : Int) + (n : Int) + (m : Int)) = (p : Int) + (n : Int) + (m : Int) := IntWalk.i64_in _ (by omega)
            have hpni : (p : Int) + (n : Int) ≤ (s.size : Int) := by omega
            clear hm h64 hk
            go_wp2_with (at_builtin; refine wpList_appS infoI rfl (by decide) (by decide) Tryd.underlying35 rfl (.tmp 45) (.tmp 47) rfl (w.heap.size + 1 + 1 + 1) (.slice A k c) k (N.map (Value.int .i64)) rfl ON.out (fun _ => True) _ 1 1 [Value.int .i64 v] rfl rfl SQ.out (one_i v) TL.out LB.out ?_; intro v8 w8 hv8 hg8 ha8; obtain ⟨A8, c8, rfl, -⟩ := own_seq hv8 (by decide); have HV8 := Lib.hid hv8; have HG8 := Lib.hid hg8; have B9 := Lib.hid ((S2.out.b9.alloc (.cells #[.int .i64 v] 2)).grown hg8 (own_bk_ne ON.out (S2.out.b9.alloc _) (by decide))); have xf8 := B9.out.f 3; have xc8 : w8.cell? ⟨w.heap.size + 1 + 1, 3, none⟩ = some (.slice A k c) := (by rw [← HK.out]; exact B9.out.c 3); clear x0 x1 x2 x3 x4 xf y0 y1 y2 y3 y4 z0 z1 yf0 yf1 yf2 yf3 yf4 zf0 zf1 hv8 hg8 ha8)
            go_wp2_with fail
            refine (H3.out _).mono ?_
            rintro e w5 ⟨rfl, rfl⟩
            go_wp2
            go_round
            case rel =>
              have hKK := HK.out
              subst hKK
              exact ⟨p + n + m, A8, c8, N ++ [v], by omega, by go_num, Lib.hid (S2.out.step HV8.out HG8.out (by rw [HSL.out]; exact hpl) HN.out hts.out H64.out HCB.out HVB.out HV.out (by rw [HNN.out, HM.out]) (by rw [← HM.out, ← List.drop_drop]; exact blanks_twice _))⟩
            case measure => simp [intOf]; have := (readN_pos HVB.out).1; rw [HNN.out] at this; omega
end Go.Proofs.YtdhpplbopciijaaDoor.Tk
