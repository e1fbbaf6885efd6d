/-
  What the calls of package ring do to a ring, and what they answer: New, piece, Push, Len, Words, At, Pop, for rooms up to 64 and widths up to 64. Conditions: as told in each.
-/
import Derived.Test.YtocdejjkmfnnnaaStBase
import Derived.Test.YtocdejjkmfnnnaaRgMath
import Derived.Laws.EntriesVeiled
import Derived.IntWalk
import Derived.Deep.QuietTactic
import Derived.BigQuiet
set_option maxRecDepth 100000
namespace Go.Proofs.Ytocdejjkmfnnnaa.Rg
open Go.Proofs.Ytocdejjkmfnnnaa.Sh Go.Proofs.Ytocdejjkmfnnnaa.St
open Go.RowKit
set_option linter.unusedVariables false

/-- The first N cells are numbers. -/
def AllI (cs : List Value) (N : Nat) : Prop := ∀ i, i < N → ∃ x, cs[i]? = some (.int .i64 x)
theorem AllI.splice_ {cs : List Value} {N off : Nat} (h : AllI cs N) (y : List Int) (hf : off + y.length ≤ cs.length) : AllI (splice cs off (vals y)) N := fun i hi => by
  rw [splice_at _ _ _ _ (by rw [vals_length]; exact hf)]
  split
  · next hr =>
    rw [vals_length] at hr
    exact ⟨_, by unfold vals; rw [List.getElem?_map, List.getElem?_eq_getElem (by omega)]; rfl⟩
  · exact h i hi
/-- Behind the pointer to block g is a ring of room n and width s, with these rows; its numbers are in block h. -/
def Ring (w : World) (g h n s : Nat) (rs : List (List Int)) : Prop :=
  ∃ f c cs, Bk 77 w g [.slice (some ⟨h, 0, none⟩) (n * s) c, .int .i64 n, .int .i64 s, .int .i64 (f : Nat), .int .i64 (rs.length : Nat)] ∧ Bk 2 w h cs ∧ cs.length = c ∧ c ≤ maxLen ∧ Rd n s f cs (rs.map vals) ∧ n ≤ 64 ∧ s ≤ 64 ∧ AllI cs (n * s)
/-- The ring's parts told. -/
def RingF (w : World) (g h n s k f c : Nat) : Prop := Bk 77 w g [.slice (some ⟨h, 0, none⟩) (n * s) c, .int .i64 n, .int .i64 s, .int .i64 f, .int .i64 k]
section
variable {w w' : World} {g h n s k f c : Nat} {T : Nat → Prop}
theorem RingF.all (r : RingF w g h n s k f c) : w.cell? ⟨g, 0, none⟩ = some (.slice (some ⟨h, 0, none⟩) (n * s) c) ∧ w.cell? ⟨g, 1, none⟩ = some (.int .i64 n) ∧ w.cell? ⟨g, 2, none⟩ = some (.int .i64 s) ∧ w.cell? ⟨g, 3, none⟩ = some (.int .i64 f) ∧ w.cell? ⟨g, 4, none⟩ = some (.int .i64 k) :=
  ⟨Bk.c r 0, Bk.c r 1, Bk.c r 2, Bk.c r 3, Bk.c r 4⟩
theorem RingF.lt (r : RingF w g h n s k f c) : g < w.heap.size := Bk.lt r
theorem RingF.drewN (r : RingF w g h n s k f c) (m : Nat) : RingF (w.drewN m) g h n s k f c := r
end
theorem Ring.ne_ {w : World} {g h n s : Nat} {rs : List (List Int)} (r : Ring w g h n s rs) : g ≠ h := by
  obtain ⟨f, c, cs, h1, h2, _⟩ := r
  exact h1.ne_ h2 (by decide)
theorem Ring.turn {w w' : World} {g h n s : Nat} {rs : List (List Int)} {T : Nat → Prop} (r : Ring w g h n s rs) (hb : Turn T w w') (hg : ¬ T g) (hh : ¬ T h) : Ring w' g h n s rs := by
  obtain ⟨f, c, cs, h1, h2, r⟩ := r
  exact ⟨f, c, cs, h1.turn hb hg, h2.turn hb hh, r⟩
theorem Ring.next {w w' : World} {g h n s : Nat} {rs : List (List Int)} (r : Ring w g h n s rs) (hb : Below w.heap.size w w') : Ring w' g h n s rs := r.turn (Turn.of_below (fun _ => False) hb) id id
theorem Ring.room {w : World} {g h n s : Nat} {rs : List (List Int)} (r : Ring w g h n s rs) : rs.length ≤ n ∧ n ≤ 64 ∧ s ≤ 64 ∧ 0 < n := by
  obtain ⟨f, c, cs, _, _, _, _, hr, h1, h2, _⟩ := r
  have := hr.2.2.1
  have := hr.2.1
  simp at *
  omega
theorem Ring.row_len {w : World} {g h n s : Nat} {rs : List (List Int)} (r : Ring w g h n s rs) {y : List Int} (hy : y ∈ rs) : y.length = s := by
  obtain ⟨f, c, cs, _, _, _, _, hr, _⟩ := r
  obtain ⟨i, hi⟩ := List.getElem?_of_mem hy
  have := hr.row_len (i := i) (r := vals y) (by rw [List.getElem?_map, hi]; rfl)
  simpa [vals] using this

/-- A piece of the ring's numbers. -/
def RetPc (h p s : Nat) (w : World) (e : Ending) (w' : World) : Prop := ∃ A n, e = .returned (.slice A s s) ∧ (0 < s → A = some ⟨h, p * s, none⟩) ∧ w' = w.drewN n
theorem ret_sl {A : Option Addr} {m n s : Nat} (h : m = s) (hn : n = s) : Ending.returned (.slice A m n) = .returned (.slice A s s) := by rw [h, hn]
set_option maxHeartbeats 1000000 in
theorem piece_any (g h n s k f c i : Nat) (w : World) (r : RingF w g h n s k f c) (hf : f < n) (hi : i ≤ 64) (hn : n ≤ 64) (hs : s ≤ 64) (hc : n * s ≤ c) (hcm : c ≤ maxLen) :
    Calls Try.prog 45 #[.pointer (some ⟨g, 0, none⟩), .int .i64 i] w (RetPc h ((f + i) % n) s w) := by
  unfold maxLen at hcm
  obtain ⟨c0, c1, c2, c3, c4⟩ := r.all
  have hp : (f + i) % n < n := Nat.mod_lt _ (by omega)
  have hps : (f + i) % n * s + s ≤ n * s := cut_end hp
  obtain ⟨p, hpe⟩ : ∃ p, (f + i) % n = p := ⟨_, rfl⟩
  rw [hpe] at hp hps ⊢
  have w1 : IntKind.i64.wrap ((f : Int) + (i : Int)) = (f : Int) + (i : Int) := IntWalk.i64_in _ (by omega)
  have w2 : ((f : Int) + (i : Int)).tmod (n : Int) = (p : Int) := by
    rw [← hpe, Int.tmod_eq_emod_of_nonneg (by omega), Int.natCast_emod, Int.natCast_add]
  have g0 : (0 : Int) ≤ (p : Int) * (s : Int) := Int.mul_nonneg (by omega) (by omega)
  have g1 : (p : Int) * (s : Int) + (s : Int) ≤ (c : Int) := by
    have : ((p * s + s : Nat) : Int) ≤ (c : Int) := by omega
    simpa using this
  have w3 : IntKind.i64.wrap ((p : Int) * (s : Int)) = (p : Int) * (s : Int) := IntWalk.i64_in _ (by omega)
  have nz : ((n : Int) == 0) = false := by simp; omega
  clear hp hps hpe
  rcases Nat.eq_zero_or_pos s with h0 | h0
  · subst h0
    go_enter Try.func45, Try.ntmps45
    go_wp2_with fail
    go_quiet (fail)
    go_wp2
    go_ret
    exact ⟨_, nq, by first | rfl | simp, fun h => absurd h (by omega), rfl⟩
  · have hq : Hid (p * s + s - p * s = s) := Lib.hid (by omega)
    have hne : ¬ p * s + s = p * s := by omega
    go_enter Try.func45, Try.ntmps45
    go_wp2_with fail
    go_quiet (fail)
    go_wp2
    go_ret
    exact ⟨some ⟨h, p * s, none⟩, nq, ret_sl hq.out hq.out, fun _ => rfl, rfl⟩
theorem RingF.froz {w : World} {g h n s k f c : Nat} (r : RingF w g h n s k f c) : w.frozen? ⟨g, 3, none⟩ = false ∧ w.frozen? ⟨g, 4, none⟩ = false := ⟨Bk.f r 3, Bk.f r 4⟩
theorem len_any (g h n s k f c : Nat) (w : World) (r : RingF w g h n s k f c) :
    Calls Try.prog 18 #[.pointer (some ⟨g, 0, none⟩)] w fun e w' => e = .returned (.int .i64 k) ∧ w = w' := by
  obtain ⟨-, -, -, -, c4⟩ := r.all
  clear r
  go_enter Try.func18, Try.ntmps18
  go_wp2
  go_ret
  exact ⟨rfl, rfl⟩
theorem len_nil (w : World) : Calls Try.prog 18 #[.pointer none] w fun e w' => e = .returned (.int .i64 0) ∧ w = w' := by
  go_enter Try.func18, Try.ntmps18
  go_wp2
  go_ret
  exact ⟨rfl, rfl⟩
theorem words_nil (w : World) : Calls Try.prog 19 #[.pointer none] w fun e w' => e = .returned (.int .i64 0) ∧ Below w.heap.size w w' := by
  go_enter Try.func19, Try.ntmps19
  go_wp2
  go_ret
  exact ⟨rfl, Below.refl _ _⟩
set_option maxHeartbeats 1000000 in
theorem words_any (g h n s k f c : Nat) (w : World) (r : RingF w g h n s k f c) (hk : k ≤ 64) (hs : s ≤ 64) :
    Calls Try.prog 19 #[.pointer (some ⟨g, 0, none⟩)] w fun e w' => e = .returned (.int .i64 ((k : Int) * (s : Int))) ∧ Below w.heap.size w w' := by
  obtain ⟨-, -, c2, -, c4⟩ := r.all
  have g0 : (0 : Int) ≤ (k : Int) * (s : Int) := Int.mul_nonneg (by omega) (by omega)
  have g1 : (k : Int) * (s : Int) ≤ 64 * 64 := Int.mul_le_mul (by omega) (by omega) (by omega) (by omega)
  have w3 : IntKind.i64.wrap ((k : Int) * (s : Int)) = (k : Int) * (s : Int) := IntWalk.i64_in _ (by omega)
  clear r
  go_enter Try.func19, Try.ntmps19
  go_wp2_with fail
  go_quiet (fail)
  go_wp2
  go_ret
  exact ⟨rfl, below_drewN (Below.refl _ _) _⟩

/-- The blocks of a ring. -/
def Two (g h : Nat) (b : Nat) : Prop := b = g ∨ b = h
/-- What a push tells, and what rows there are behind it. -/
def pushE (n s : Nat) (rs : List (List Int)) (y : List Int) : Int := if y.length ≠ s then 3 else if rs.length = n then 19 else 0
def pushL (n s : Nat) (rs : List (List Int)) (y : List Int) : List (List Int) := if y.length ≠ s then rs else if rs.length = n then rs else rs ++ [y]
def RetPush (g h n s : Nat) (rs : List (List Int)) (y : List Int) (w : World) (e : Ending) (w' : World) : Prop := e = .returned (.int .i64 (pushE n s rs y)) ∧ Ring w' g h n s (pushL n s rs y) ∧ Turn (Two g h) w w'

set_option maxHeartbeats 1000000 in
theorem push_any (S : Nat → Prop) (g h n s : Nat) (rs : List (List Int)) (A : Option Addr) (c : Nat) (y : List Int) (w : World) (r : Ring w g h n s rs) (hi : SInts S w A y) (hy : y.length ≤ 1000) :
    Calls Try.prog 20 #[.pointer (some ⟨g, 0, none⟩), .slice A y.length c] w (RetPush g h n s rs y w) := by
  have RR := Lib.hid r
  have HR := r.room
  obtain ⟨f, c1, cs, h1, h2, hc, hcm, hrd, hn, hs, hall⟩ := r
  have AL := Lib.hid hall
  clear hall
  have F1 : RingF w g h n s rs.length f c1 := h1
  have FF := Lib.hid F1
  have FC := Lib.hid h2
  have RD := Lib.hid hrd
  have HC := Lib.hid hc
  have IY := Lib.hid hi
  obtain ⟨c0, q1, q2, q3, q4⟩ := F1.all
  obtain ⟨z3, z4⟩ := F1.froz
  have hrl : rs.length ≤ n := HR.1
  clear F1 h1 h2 hrd hc hi HR
  by_cases hl : y.length = s
  · have hev : ((y.length : Int) != (s : Int)) = false := by simp [hl]
    have HL := Lib.hid hl
    clear hl
    by_cases hf : rs.length = n
    · have hef : ((rs.length : Int) == (n : Int)) = true := by simp [hf]
      have HF := Lib.hid hf
      clear hf
      have e1 : pushE n s rs y = 19 := by unfold pushE; rw [if_neg (by simp [HL.out]), if_pos HF.out]
      have e2 : pushL n s rs y = rs := by unfold pushL; rw [if_neg (by simp [HL.out]), if_pos HF.out]
      unfold RetPush
      rw [e1, e2]
      clear e1 e2
      go_enter Try.func20, Try.ntmps20
      go_wp2_with fail
      go_quiet (fail)
      go_wp2
      go_ret
      exact ⟨rfl, RR.out.next (below_drewN (Below.refl _ _) _), (Turn.refl _ _).drewN _⟩
    · have hef : ((rs.length : Int) == (n : Int)) = false := by simp; omega
      have hlt : rs.length < n := by omega
      have HF := Lib.hid hf
      clear hf
      have e1 : pushE n s rs y = 0 := by unfold pushE; rw [if_neg (by simp [HL.out]), if_neg HF.out]
      have e2 : pushL n s rs y = rs ++ [y] := by unfold pushL; rw [if_neg (by simp [HL.out]), if_neg HF.out]
      have hfit := RD.out.fits (rs.map vals).length
      rw [List.length_map] at hfit
      unfold RetPush
      rw [e1, e2]
      have HFIT := Lib.hid hfit
      have hfn : f < n := RD.out.2.1
      have hcn : n * s ≤ c1 := by rw [← HC.out]; exact RD.out.1
      clear e1 e2 hfit
      go_enter Try.func20, Try.ntmps20
      go_wp2_with fail
      go_quiet (fail)
      go_wp2_with fail
      refine (piece_any g h n s rs.length f c1 rs.length _ (FF.out.drewN nq) hfn (by omega) hn hs hcn hcm).mono ?_
      rintro r w1 ⟨A1, n1, rfl, hA1, hw1⟩
      have KB : Below w.heap.size w w1 := by rw [hw1]; exact below_drewN (below_drewN (Below.refl _ _) _) _
      have K1 := Lib.hid KB
      have HA := Lib.hid hA1
      have HI1 := Lib.hid (Seq.next IY.out KB)
      have FC1 := Lib.hid (FC.out.next KB)
      have FF1 := Lib.hid (Bk.next FF.out KB)
      clear hA1 hw1 KB
      have NE := Lib.hid RR.out.ne_
      clear q1 q2 q3 q4 z3 z4 c0
      go_wp2_with ((with_reducible refine wpList_copyB sizeL Try.underlying33 rfl (.tmp 31) (.tmp 32) rfl h ((f + rs.length) % n * s) cs (vals y) A1 A s y.length s c rfl rfl HL.out FC1.out HA.out HI1.out ((vals_length y).trans HL.out) (vals_one y) HFIT.out ?_); intro w2 hb2 hg2; have B2 := Lib.hid hb2; have G2 := Lib.hid hg2; have F2 : Hid (RingF w2 g h n s rs.length f c1) := (hg2.block g (Bk.lt FF1.out) (fun e => NE.out (by injection e))).trans FF1.out; clear hb2 hg2; obtain ⟨d0, d1, d2, d3, d4⟩ := RingF.all F2.out; obtain ⟨y3, y4⟩ := RingF.froz F2.out)
      go_ret
      refine ⟨rfl, ⟨f, c1, _, by simpa using Bk.set_ F2.out 4 (.int .i64 ((rs.length : Int) + 1)), B2.out.far (p := ⟨g, 4, none⟩) (fun e => NE.out e.symm) _, ?_, hcm, by simpa using RD.out.push (y := vals y) ((vals_length y).trans HL.out) (by simpa using hlt), hn, hs, AL.out.splice_ y (by rw [HL.out]; exact HFIT.out)⟩, ?_⟩
      · rw [length_splice _ _ _ (by rw [vals_length, HL.out]; exact HFIT.out)]; exact HC.out
      · exact ((Turn.of_below _ K1.out).trans (Turn.of_grown G2.out (fun b hb => .inr (by injection hb with hb; exact hb.symm)))).setCell (.inl (.inl rfl)) _
  · have hev : ((y.length : Int) != (s : Int)) = true := by simp; omega
    have e1 : pushE n s rs y = 3 := by unfold pushE; rw [if_pos hl]
    have e2 : pushL n s rs y = rs := by unfold pushL; rw [if_pos hl]
    unfold RetPush
    rw [e1, e2]
    clear e1 e2 hl
    go_enter Try.func20, Try.ntmps20
    go_wp2
    go_ret
    exact ⟨rfl, RR.out, Turn.refl _ _⟩
theorem push_nil (A : Option Addr) (n c : Nat) (w : World) : Calls Try.prog 20 #[.pointer none, .slice A n c] w fun e w' => e = .returned (.int .i64 1) ∧ Below w.heap.size w w' := by
  go_enter Try.func20, Try.ntmps20
  go_wp2
  go_ret
  exact ⟨rfl, Below.refl _ _⟩

/-- What At tells. -/
def atB (rs : List (List Int)) (i : Int) : Bool := decide (0 ≤ i ∧ i < rs.length)
def atL (rs : List (List Int)) (i : Int) : List Int := if atB rs i = true then rs.getD i.toNat [] else []
def RetRow (l : List Int) (b : Bool) (w : World) (e : Ending) (w' : World) : Prop := ∃ A c, e = .returned (.tuple #[.slice A l.length c, .bool b]) ∧ SInts (w.heap.size ≤ ·) w' A l ∧ l.length ≤ c ∧ c ≤ maxLen ∧ Below w.heap.size w w'
def RetCl (s : Nat) (d : List Int) (w : World) (e : Ending) (w' : World) : Prop := ∃ B c, e = .returned (.slice B s c) ∧ MineT 2 w' w.heap.size (.slice B s c) d ∧ Below w.heap.size w w'
theorem clone_s (A : Option Addr) (c s : Nat) (d : List Int) (w : World) (hs : d.length = s) (hl : s ≤ 1000) (hi : Ints w A d) : Calls Try.prog 44 #[.slice A s c] w (RetCl s d w) := by
  subst hs
  exact clone64_any A c d w hl hi
theorem mine_sints {w : World} {base : Nat} {A : Option Addr} {n c : Nat} {d : List Int} (h : MineT 2 w base (.slice A n c) d) : SInts (base ≤ ·) w A d ∧ n ≤ c ∧ c ≤ maxLen := by
  obtain ⟨A', c', e, h1, h2, h3⟩ := own_seq h (by decide)
  injection e with e1 e2 e3
  subst e1 e2 e3
  exact ⟨h3, h1, h2⟩
/-- A piece of the ring holds its row. -/
theorem piece_ints {w : World} {h n s f i : Nat} {cs : List Value} {rs : List (List Int)} {y : List Int} {A : Option Addr} (hb : Bk 2 w h cs) (hrd : Rd n s f cs (rs.map vals)) (hi : rs[i]? = some y) (hA : 0 < s → A = some ⟨h, (f + i) % n * s, none⟩) : SInts (· = h) w A y := fun hp => by
  have hr := hrd.2.2.2 i (vals y) (by rw [List.getElem?_map, hi]; rfl)
  have hl := hrd.row_len (i := i) (r := vals y) (by rw [List.getElem?_map, hi]; rfl)
  have hfit := hrd.fits i
  change 0 < (vals y).length at hp
  refine ⟨h, (f + i) % n * s, hA (by omega), rfl, hb.lt, fun j u hu => ?_⟩
  change (vals y)[j]? = some u at hu
  have hj : j < s := by have := (List.getElem?_eq_some_iff.1 hu).1; omega
  rw [← hr] at hu
  unfold cutL at hu
  rw [List.getElem?_take_of_lt hj, List.getElem?_drop] at hu
  rw [hb.c, hu]

set_option maxHeartbeats 1000000 in
theorem at_any (g h n s : Nat) (rs : List (List Int)) (i : Int) (w : World) (r : Ring w g h n s rs) :
    Calls Try.prog 16 #[.pointer (some ⟨g, 0, none⟩), .int .i64 i] w (RetRow (atL rs i) (atB rs i) w) := by
  have RR := Lib.hid r
  have HR := r.room
  obtain ⟨f, c1, cs, h1, h2, hc, hcm, hrd, hn, hs, hall⟩ := r
  have AL := Lib.hid hall
  clear hall
  have FF : Hid (RingF w g h n s rs.length f c1) := h1
  have FC := Lib.hid h2
  have RD := Lib.hid hrd
  have hcn : n * s ≤ c1 := by rw [← hc]; exact hrd.1
  have hfn : f < n := hrd.2.1
  have hrl : rs.length ≤ n := HR.1
  clear h1 h2 hrd hc HR
  by_cases hi : 0 ≤ i ∧ i < rs.length
  · obtain ⟨k, rfl⟩ : ∃ k : Nat, i = k := ⟨i.toNat, by omega⟩
    have hk : k < rs.length := by omega
    have hb : atB rs (k : Int) = true := by unfold atB; simpa using hk
    obtain ⟨y, hy⟩ : ∃ y, rs[k]? = some y := ⟨_, List.getElem?_eq_getElem hk⟩
    have hl : atL rs (k : Int) = y := by unfold atL; rw [if_pos hb]; simp [List.getD, hy]
    have hys : y.length = s := RR.out.row_len (List.mem_of_getElem? hy)
    rw [hb, hl]
    have HY := Lib.hid hy
    have HS := Lib.hid hys
    have t1 : decide ((k : Int) < 0) = false := decide_eq_false (by omega)
    have t2 : decide ((k : Int) ≥ (rs.length : Int)) = false := decide_eq_false (by omega)
    clear hb hl hi hy hys
    go_enter Try.func16, Try.ntmps16
    go_wp2_with fail
    refine (len_any g h n s rs.length f c1 w FF.out).mono ?_
    rintro r w1 ⟨rfl, rfl⟩
    go_wp2_with fail
    refine (piece_any g h n s rs.length f c1 k _ FF.out hfn (by omega) hn hs hcn hcm).mono ?_
    rintro r w2 ⟨A1, n1, rfl, hA1, hw1⟩
    have KB : Below w.heap.size w w2 := by rw [hw1]; exact below_drewN (Below.refl _ _) _
    have K1 := Lib.hid KB
    have IP := Lib.hid (piece_ints (FC.out.next KB) RD.out HY.out hA1).ints
    clear hA1 hw1 KB
    go_wp2_with fail
    refine (clone_s A1 _ s y _ HS.out (by omega) IP.out).mono ?_
    rintro r w3 ⟨B, c3, rfl, hm, hb3⟩
    have K3 := Lib.hid (below_next K1.out hb3)
    have M3 := Lib.hid (MineT.mono hm K1.out.size)
    clear hm hb3
    go_wp2
    refine bodyPost_ret (v := .tuple #[.slice B s c3, .bool true]) (by simp [results, Try.results16, go_sem]) rfl ?_
    obtain ⟨m1, m2, m3⟩ := mine_sints M3.out
    exact ⟨B, c3, by rw [HS.out], m1, by rw [HS.out]; exact m2, m3, K3.out⟩
  · have hb : atB rs i = false := by unfold atB; simpa using hi
    have hl : atL rs i = [] := by unfold atL; rw [if_neg (by simp [hb])]
    rw [hb, hl]
    clear hb hl
    by_cases h0 : i < 0
    · have t1 : decide (i < 0) = true := by simpa using h0
      go_enter Try.func16, Try.ntmps16
      go_wp2
      refine bodyPost_ret (v := .tuple #[.slice none 0 0, .bool false]) (by simp [results, Try.results16, go_sem]) rfl ?_
      exact ⟨none, 0, rfl, Seq.nil _ _ _, by simp, by simp [maxLen], Below.refl _ _⟩
    · have t1 : decide (i < 0) = false := by simpa using h0
      have t2 : decide (i ≥ (rs.length : Int)) = true := decide_eq_true (by omega)
      have t3 : (rs.length : Int) ≤ i := by omega
      clear hi
      go_enter Try.func16, Try.ntmps16
      go_wp2_with fail
      refine (len_any g h n s rs.length f c1 w FF.out).mono ?_
      rintro r w1 ⟨rfl, rfl⟩
      go_wp2
      refine bodyPost_ret (v := .tuple #[.slice none 0 0, .bool false]) (by simp [results, Try.results16, go_sem]) rfl ?_
      exact ⟨none, 0, rfl, Seq.nil _ _ _, by simp, by simp [maxLen], Below.refl _ _⟩
theorem at_nil (i : Int) (w : World) : Calls Try.prog 16 #[.pointer none, .int .i64 i] w fun e w' => e = .returned (.tuple #[.slice none 0 0, .bool false]) ∧ Below w.heap.size w w' := by
  by_cases h0 : i < 0
  · have t1 : decide (i < 0) = true := by simpa using h0
    go_enter Try.func16, Try.ntmps16
    go_wp2
    exact bodyPost_ret (v := .tuple #[.slice none 0 0, .bool false]) (by simp [results, Try.results16, go_sem]) rfl ⟨rfl, Below.refl _ _⟩
  · have t1 : decide (i < 0) = false := by simpa using h0
    have t3 : 0 ≤ i := by omega
    go_enter Try.func16, Try.ntmps16
    go_wp2_with fail
    refine (len_nil w).mono ?_
    rintro r w1 ⟨rfl, rfl⟩
    go_wp2
    exact bodyPost_ret (v := .tuple #[.slice none 0 0, .bool false]) (by simp [results, Try.results16, go_sem]) rfl ⟨rfl, Below.refl _ _⟩
end Go.Proofs.Ytocdejjkmfnnnaa.Rg
