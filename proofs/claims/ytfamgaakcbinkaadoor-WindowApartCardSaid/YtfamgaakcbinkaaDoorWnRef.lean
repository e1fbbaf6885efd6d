/-
  riffleref15.Line and Answer: the numbers at a place of rows from one on up to another one; place by place what they come tt. Conditions: at most 100 rows, all of one width of at most 100; the numbers have 64 bits.
-/
import Derived.Test.YtfamgaakcbinkaaDoorWnMake
set_option maxRecDepth 100000
namespace Go.Proofs.YtfamgaakcbinkaaDoor.Wn
open Go.Proofs.YtfamgaakcbinkaaDoor.Sh Go.Proofs.YtfamgaakcbinkaaDoor.St Go.Proofs.YtfamgaakcbinkaaDoor.Fd
open Go.RowKit
set_option linter.unusedVariables false

/-- The numbers at place i of all rows. -/
def colL (i : Nat) (rs : List (List Int)) : List Int := rs.map fun r => r.getD i 0
theorem colL_len (i : Nat) (rs : List (List Int)) : (colL i rs).length = rs.length := by simp [colL]
theorem colL_R {rs : List (List Int)} (h : ∀ r ∈ rs, AllR r) (i : Nat) : AllR (colL i rs) := by
  intro x hx
  simp only [colL, List.mem_map] at hx
  obtain ⟨r, hr, rfl⟩ := hx
  exact (h r hr).at i
theorem colL_app (i : Nat) (a b : List (List Int)) : colL i (a ++ b) = colL i a ++ colL i b := by simp [colL]
theorem mine_C {w : World} {base : Nat} {v : Value} {xs : List Int} (h : MineT 2 w base v xs) : ∃ A c, v = .slice A xs.length c ∧ xs.length ≤ c ∧ c ≤ maxLen ∧ Ints w A xs := by
  obtain ⟨A, c, e, h1, h2, h3⟩ := own_seq h (by decide)
  exact ⟨A, c, e, h1, h2, SInts.ints h3⟩
/-- A row of one's own with these numbers. -/
def RetL (xs : List Int) (w : World) (e : Ending) (w' : World) : Prop := ∃ A cap, e = .returned (.slice A xs.length cap) ∧ MineT 2 w' w.heap.size (.slice A xs.length cap) xs ∧ Below w.heap.size w w'
theorem rows_at {S : Nat → Prop} {w : World} {A : Option Addr} {c m : Nat} {rs : List (List Int)} (h : RwsIn S w (.slice A m c) rs) {k : Nat} {r : List Int} (hk : rs[k]? = some r) {i : Nat} (hi : i < r.length) :
    ∃ b off b2 o2 d, A = some ⟨b, off, none⟩ ∧ w.cell? ⟨b, off + k, none⟩ = some (.slice (some ⟨b2, o2, none⟩) r.length d) ∧ w.cell? ⟨b2, o2 + i, none⟩ = some (.int .i64 (r.getD i 0)) := by
  obtain ⟨A', c', vs, e, h1, h2, h3, h4, h5⟩ := h
  injection e with e1 e2 e3
  subst e1
  obtain ⟨B, d, k1, k2, k3, k4⟩ := h5 k r hk
  obtain ⟨b, off, rfl, _, _, hc⟩ := h4.one k1
  obtain ⟨b2, o2, rfl, _, hc2⟩ := k4.ints (by omega)
  exact ⟨b, off, b2, o2, d, rfl, hc, hc2 i hi⟩
/-- The rows from one on up to another one. -/
def cut (rs : List (List Int)) (f t : Nat) : List (List Int) := (rs.take (t + 1)).drop f
theorem cut_in {rs : List (List Int)} {k f t : Nat} {r : List Int} (hk : rs[k]? = some r) (h1 : f ≤ k) (h2 : k ≤ t) : cut (rs.take (k + 1)) f t = cut (rs.take k) f t ++ [r] := by
  have hl : k < rs.length := (List.getElem?_eq_some_iff.1 hk).1
  have e : rs.take (k + 1) = rs.take k ++ [r] := by
    rw [List.take_add_one, hk]; rfl
  unfold cut
  rw [List.take_take, List.take_take, Nat.min_eq_right (by omega), Nat.min_eq_right (by omega), e, List.drop_append_of_le_length (by simp; omega)]
theorem cut_out {rs : List (List Int)} {k f t : Nat} (h : k < f ∨ t < k) : cut (rs.take (k + 1)) f t = cut (rs.take k) f t := by
  unfold cut
  rw [List.take_take, List.take_take]
  rcases h with h | h
  · rw [List.drop_eq_nil_of_le (by simp; omega), List.drop_eq_nil_of_le (by simp; omega)]
  · rw [Nat.min_eq_left (by omega), Nat.min_eq_left (by omega)]
theorem cut_len (rs : List (List Int)) (f t : Nat) : (cut rs f t).length ≤ rs.length := by simp [cut]; omega
theorem cut_mem {rs : List (List Int)} {f t : Nat} {r : List Int} (h : r ∈ cut rs f t) : r ∈ rs := List.mem_of_mem_take (List.mem_of_mem_drop h)
set_option maxHeartbeats 4000000 in
theorem line_any (S : Nat → Prop) (A : Option Addr) (cA : Nat) (rs : List (List Int)) (i n : Nat) (fr : Int) (tt f : Nat) (w : World) (hV : RwsIn S w (.slice A rs.length cA) rs) (hL : ∀ r ∈ rs, r.length = n) (hi : i < n) (hr : rs.length ≤ 100) (hf : fr.toNat = f) :
    Calls Tryd.prog 75 #[.slice A rs.length cA, .int .i64 (i : Nat), .int .i64 fr, .int .i64 (tt : Nat)] w (RetL (colL i (cut rs f tt)) w) := by
  have HV := Lib.hid hV
  have HL := Lib.hid hL
  clear hV hL
  have CZ : colL i (cut (rs.take 0) f tt) = [] := by simp [cut, colL]
  have PA : Hid (MineT 2 w w.heap.size (.slice none 0 0) (colL i (cut (rs.take 0) f tt))) := Lib.hid (by rw [CZ]; exact MineT.nil _ _ _)
  clear CZ
  go_enter Tryd.func75, Tryd.ntmps75
  go_wp2
  go_loopw [9, 10] (fun V9 i9 wq => ∃ k : Nat, k ≤ rs.length ∧ i9 = .int .i64 k ∧ Hid (MineT 2 wq w.heap.size V9 (colL i (cut (rs.take k) f tt))) ∧ Hid (Below w.heap.size w wq)) (fun _ i9 _ => rs.length - (intOf i9).toNat)
  case atStart => exact ⟨0, Nat.zero_le _, rfl, PA, Lib.hid (Below.refl _ _)⟩
  case round =>
    obtain ⟨k, hk, rfl, HN, HQ⟩ := hrel
    by_cases hlk : k < rs.length
    · have t0 : decide ((k : Int) < (rs.length : Int)) = true := decide_eq_true (by omega)
      obtain ⟨r, hrk⟩ : ∃ r, rs[k]? = some r := ⟨_, List.getElem?_eq_getElem hlk⟩
      by_cases g1 : fr ≤ (k : Int)
      · have t1 : decide (fr ≤ (k : Int)) = true := decide_eq_true g1
        by_cases g2 : k ≤ tt
        · have t2 : decide (k ≤ tt) = true := decide_eq_true g2
          have hmem : r ∈ rs := List.mem_of_getElem? hrk
          have hrl := HL.out r hmem
          have VQ := Lib.hid (HV.out.next HQ.out)
          obtain ⟨b, off, b2, o2, d, rfl, q1, q2⟩ := rows_at VQ.out hrk (i := i) (by omega)
          have CS := Lib.hid (cut_in hrk (f := f) (t := tt) (by omega) (by omega))
          have CL := Lib.hid (show (colL i (cut (rs.take k) f tt)).length ≤ 100 by rw [colL_len]; have := cut_len (rs.take k) f tt; simp at this; omega)
          rw [hrl] at q1
          obtain ⟨x, hx⟩ : ∃ x, r.getD i 0 = x := ⟨_, rfl⟩
          have HX := Lib.hid hx
          rw [hx] at q2
          have i1 : (k : Int) < (rs.length : Int) := by omega
          have i0 : (0 : Int) ≤ (k : Int) := by omega
          have j1 : (i : Int) < (n : Int) := by omega
          have j0 : (0 : Int) ≤ (i : Int) := by omega
          have M1 := Lib.hid (MineT.alloc HN.out (.cells #[.int .i64 x] 2))
          have Y1 := Lib.hid (MineT.new 2 wr [x] 0 (Nat.zero_le _) (by unfold maxLen; simp)).ints'
          have K1 := Lib.hid (below_next HQ.out (below_new wr (.cells #[.int .i64 x] 2)))
          have TL : Hid ((colL i (cut (rs.take k) f tt)).length + [x].length ≤ 100000) := Lib.hid (by have := CL.out; simp; omega)
          clear hx hrl hmem hrk g1 g2
          go_wp2_with (at_builtin; refine wpList_appI numL Tryd.underlying27 rfl (.tmp 25) (.tmp 33) rfl _ _ _ rfl M1.out _ 1 [x] rfl Y1.out TL.out K1.out.size ?_; intro v3 w3 hm3 hg3 ha3; have M3 := Lib.hid hm3; have G3 := Lib.hid hg3; clear hm3 hg3 ha3)
          refine ⟨⟨k + 1, by omega, by go_num, Lib.hid (by rw [CS.out, colL_app]; show MineT _ _ _ _ (_ ++ [r.getD i 0]); rw [HX.out]; exact M3.out), Lib.hid (K1.out.grown G3.out K1.out.size (fun kk hkk => own_base M1.out kk hkk))⟩, by simp [intOf]; omega⟩
        · have t2 : decide (k ≤ tt) = false := decide_eq_false g2
          have CS := Lib.hid (cut_out (rs := rs) (k := k) (f := f) (t := tt) (.inr (by omega)))
          rw [← CS.out] at HN
          clear g1 g2 hrk
          go_wp2
          refine ⟨⟨k + 1, by omega, by go_num, HN, HQ⟩, by simp [intOf]; omega⟩
      · have t1 : decide (fr ≤ (k : Int)) = false := decide_eq_false g1
        have CS := Lib.hid (cut_out (rs := rs) (k := k) (f := f) (t := tt) (.inl (by omega)))
        rw [← CS.out] at HN
        clear g1 hrk
        go_wp2
        refine ⟨⟨k + 1, by omega, by go_num, HN, HQ⟩, by simp [intOf]; omega⟩
    · obtain rfl : k = rs.length := by omega
      rw [List.take_length] at HN
      obtain ⟨A9, c9, rfl, p1, p2, p3⟩ := mine_C HN.out
      go_wp2
      go_ret
      exact ⟨A9, c9, rfl, HN.out, HQ.out⟩
/-- What the rows come tt, place by place. -/
def ansI (c : Int) (s : Bool) (n : Nat) (rs : List (List Int)) : List Int := (List.range n).map fun i => rowV c s (colL i rs)
theorem ansI_len (c : Int) (s : Bool) (n : Nat) (rs : List (List Int)) : (ansI c s n rs).length = n := by simp [ansI]
theorem ansI_succ (c : Int) (s : Bool) (n : Nat) (rs : List (List Int)) : ansI c s (n + 1) rs = ansI c s n rs ++ [rowV c s (colL n rs)] := by unfold ansI; rw [List.range_succ, List.map_append]; rfl
set_option maxHeartbeats 4000000 in
theorem ranswer_any (c : Int) (s : Bool) (S : Nat → Prop) (A : Option Addr) (cA : Nat) (rs : List (List Int)) (n e back look : Nat) (w : World) (hV : RwsIn S w (.slice A rs.length cA) rs) (hL : ∀ r ∈ rs, r.length = n) (hR : ∀ r ∈ rs, AllR r) (hn : n ≤ 64) (hr : rs.length ≤ 100) (he : e ≤ 100) (hb : back ≤ 31) (hk : look ≤ 31) :
    Calls Tryd.prog 30 #[.agg #[.int .i64 c, .bool s], .slice A rs.length cA, .int .i64 (n : Nat), .int .i64 (e : Nat), .int .i64 (back : Nat), .int .i64 (look : Nat)] w (RetL (ansI c s n (cut rs (e - back) (e + look))) w) := by
  have b0 := below_new w (.cells #[.int .i64 c, .bool s] 23)
  have L0 := Lib.hid b0
  have BN := Lib.hid (Bk.new 23 w [.int .i64 c, .bool s])
  have HV := Lib.hid (hV.next b0)
  have HL := Lib.hid hL
  have HR := Lib.hid hR
  have e1 : IntKind.i64.wrap ((e : Int) - (back : Int)) = (e : Int) - (back : Int) := IntWalk.i64_in _ (by omega)
  have e2 : IntKind.i64.wrap ((e : Int) + (look : Int)) = (e : Int) + (look : Int) := IntWalk.i64_in _ (by omega)
  clear b0 hV hL hR
  go_enter Tryd.func30, Tryd.ntmps30
  go_wp2
  generalize hW0 : w.alloc (.cells #[.int .i64 c, .bool s] 23) = W0 at *
  clear hW0
  go_loopw [13, 14] (fun V i wr => ∃ j : Nat, j ≤ n ∧ i = .int .i64 j ∧ Hid (MineT 2 wr W0.heap.size V (ansI c s j (cut rs (e - back) (e + look)))) ∧ Hid (Below W0.heap.size W0 wr)) (fun _ i _ => n - (intOf i).toNat)
  case atStart => exact ⟨0, Nat.zero_le _, rfl, Lib.hid (MineT.nil _ _ _), Lib.hid (Below.refl _ _)⟩
  case round =>
    obtain ⟨j, hj, rfl, HM, HB⟩ := hrel
    by_cases hlt : j < n
    · have t1 : decide ((j : Int) < (n : Int)) = true := decide_eq_true (by omega)
      have LN := line_any S A cA rs j n ((e : Int) - (back : Int)) (e + look) (e - back) wr.drew ((HV.out.next HB.out).next (Below.refl _ wr).drew) HL.out hlt hr (by omega)
      rw [show ((e + look : Nat) : Int) = (e : Int) + (look : Int) by omega] at LN
      unfold RetL at LN
      have LN := Lib.hid LN
      have BW := Lib.hid (BN.out.next HB.out)
      have x0 := BW.out.c 0
      have x1 := BW.out.c 1
      simp only [List.getElem?_cons_zero, List.getElem?_cons_succ] at x0 x1
      have AS := Lib.hid (ansI_succ c s j (cut rs (e - back) (e + look)))
      have AL := Lib.hid (ansI_len c s j (cut rs (e - back) (e + look)))
      have LR := Lib.hid (colL_R (rs := cut rs (e - back) (e + look)) (fun r h => HR.out r (cut_mem h)) j)
      have LL := Lib.hid (show (colL j (cut rs (e - back) (e + look))).length ≤ 1000 by rw [colL_len]; have := cut_len rs (e - back) (e + look); omega)
      obtain ⟨x, hx⟩ : ∃ x, rowV c s (colL j (cut rs (e - back) (e + look))) = x := ⟨_, rfl⟩
      have HX := Lib.hid hx
      obtain ⟨z, hz⟩ : ∃ z, rowB c (colL j (cut rs (e - back) (e + look))) = z := ⟨_, rfl⟩
      have HZ := Lib.hid hz
      rw [hx] at AS
      obtain ⟨l, hll⟩ : ∃ l, colL j (cut rs (e - back) (e + look)) = l := ⟨_, rfl⟩
      rw [hll] at LN LR LL HX HZ
      obtain ⟨H, hH⟩ : ∃ H, cut rs (e - back) (e + look) = H := ⟨_, rfl⟩
      rw [hH] at AS AL HM
      have HHH := Lib.hid hH
      clear hx hz hll hH
      go_wp2_with fail
      go_region_law (first
        | (refine step_call rfl (by kernel_rfl) LN.out (by rintro e' w' ⟨A5, c5, rfl, -, -⟩; exact ⟨_, rfl⟩) ?_; rintro v5 w5 ⟨A5, c5, e5, m5, hb5'⟩; injection e5 with e5; subst e5; have hb5 := below_next (Below.refl wr.heap.size wr).drew hb5'; have B5 := Lib.hid hb5; obtain ⟨A6, c6, e6, k1, k2, k3⟩ := mine_C m5; injection e6 with e6 e7 e8; subst e6 e8; have RR := RRow_any c s l A5 c5 w5 LL.out k1 k2 LR.out k3; rw [HX.out, HZ.out] at RR; have RR := Lib.hid RR; obtain ⟨y0, y1⟩ : w5.cell? ⟨w.heap.size, 0, none⟩ = some (.int .i64 c) ∧ w5.cell? ⟨w.heap.size, 1, none⟩ = some (.bool s) := ⟨(BW.out.next hb5).c 0, (BW.out.next hb5).c 1⟩; clear m5 k1 k2 k3 hb5 hb5')
        | (refine step_call rfl (by kernel_rfl) RR.out (by rintro e' w' ⟨rfl, -⟩; exact ⟨_, rfl⟩) ?_; rintro v6 w6 ⟨e6, hb6⟩; injection e6 with e6; subst e6; have B6 := Lib.hid (below_next B5.out hb6); clear hb6))
      all_goals
        have M1 := Lib.hid (MineT.alloc (own_below HM.out B6.out) (.cells #[.int .i64 x] 2))
        have Y1 := Lib.hid (MineT.new 2 w6 [x] 0 (Nat.zero_le _) (by unfold maxLen; simp)).ints'
        have K1 := Lib.hid (below_next (below_next HB.out B6.out) (below_new w6 (.cells #[.int .i64 x] 2)))
        have TL : Hid ((ansI c s j H).length + [x].length ≤ 100000) := Lib.hid (by rw [AL.out]; simp; omega)
        go_wp2_with (at_builtin; refine wpList_appI numL Tryd.underlying27 rfl (.tmp 36) (.tmp 38) rfl _ _ _ rfl M1.out _ 1 [x] rfl Y1.out TL.out K1.out.size ?_; intro v3 w3 hm3 hg3 ha3; have M3 := Lib.hid hm3; have G3 := Lib.hid hg3; clear hm3 hg3 ha3)
        refine ⟨⟨j + 1, by omega, by go_num, Lib.hid (by rw [HHH.out, AS.out]; exact M3.out), Lib.hid (K1.out.grown G3.out K1.out.size (fun kk hkk => own_base M1.out kk hkk))⟩, by simp [intOf]; omega⟩
    · obtain rfl : j = n := by omega
      have t1 : decide ((j : Int) < (j : Int)) = false := decide_eq_false (by omega)
      obtain ⟨A9, c9, e9, -, -, -⟩ := mine_C HM.out
      rw [ansI_len] at e9
      subst e9
      go_wp2
      go_ret
      refine ⟨A9, c9, by rw [ansI_len]; rfl, ?_, below_next L0.out HB.out⟩
      rw [ansI_len]
      exact HM.out.mono L0.out.size
/-- The words that columns of these rows hold. -/
def totN (c : Int) (n : Nat) (rs : List (List Int)) : Nat := sumN (fun i => wordsN c (colL i rs)) n
theorem sumN_const (a : Nat) : ∀ n, sumN (fun _ => a) n = a * n
  | 0 => rfl
  | n + 1 => by rw [sumN, sumN_const a n, Nat.mul_succ]
theorem sumN_congr {f g : Nat → Nat} {n : Nat} (h : ∀ i, i < n → f i = g i) : ∀ k, k ≤ n → sumN f k = sumN g k
  | 0, _ => rfl
  | k + 1, hk => by rw [sumN, sumN, sumN_congr h k (by omega), h k (by omega)]
theorem tot_1 {c : Int} (h : wayN c = 1) (n : Nat) (rs : List (List Int)) : totN c n rs = rs.length * n := by
  unfold totN
  rw [show (fun i => wordsN c (colL i rs)) = fun _ => rs.length from funext fun i => by unfold wordsN; rw [if_pos h, colL_len], sumN_const]
theorem tot_2 {c : Int} (h : wayN c = 2) (n : Nat) (rs : List (List Int)) : totN c n rs = 2 * rs.length * n := by
  unfold totN
  rw [show (fun i => wordsN c (colL i rs)) = fun _ => 2 * rs.length from funext fun i => by unfold wordsN; rw [if_neg (by omega), if_pos h, colL_len], sumN_const]
theorem words_3 {c : Int} (h : wayN c = 3) (l : List Int) : wordsN c l = 2 * (Dq.keptV (decide (c = 8)) l).length := by unfold wordsN; rw [if_neg (by omega), if_neg (by omega)]
theorem cut_all (rs : List (List Int)) (f : Nat) : cut rs f rs.length = rs.drop f := by unfold cut; rw [List.take_of_length_le (by omega)]
set_option maxHeartbeats 8000000 in
theorem rwords_any (c : Int) (s : Bool) (S : Nat → Prop) (A : Option Addr) (cA : Nat) (rs : List (List Int)) (n told back f : Nat) (w : World) (hV : RwsIn S w (.slice A rs.length cA) rs) (hL : ∀ r ∈ rs, r.length = n) (hn : n ≤ 64) (hr : rs.length ≤ 100) (ht : told ≤ 100) (hb : back ≤ 31) (hf : f = told - 1 - back) (hfl : f ≤ rs.length) :
    Calls Tryd.prog 76 #[.agg #[.int .i64 c, .bool s], .slice A rs.length cA, .int .i64 (n : Nat), .int .i64 (told : Nat), .int .i64 (back : Nat)] w fun e w' => e = .returned (.int .i64 (totN c n (rs.drop f) : Nat)) ∧ Below w.heap.size w w' := by
  have b0 := below_new w (.cells #[.int .i64 c, .bool s] 23)
  have L0 := Lib.hid b0
  have BN := Lib.hid (Bk.new 23 w [.int .i64 c, .bool s])
  have HV := Lib.hid (hV.next b0)
  have HL := Lib.hid hL
  have RW := Lib.hid (fun W => rway_any c s W)
  have DL := Lib.hid (show (rs.drop f).length = rs.length - f by simp)
  clear b0 hV hL
  by_cases h0 : told = 0
  · obtain rfl : f = 0 := by omega
    subst h0
    have e0 : IntKind.i64.wrap (-1 - (back : Int)) = -1 - (back : Int) := IntWalk.i64_in _ (by omega)
    clear hf hfl
    rcases way_123 c with hy | hy | hy
    · have TT := Lib.hid (show totN c n (rs.drop 0) = rs.length * n by rw [tot_1 hy, DL.out]; simp)
      have bm : rs.length * n ≤ 6400 := Nat.mul_le_mul (show rs.length ≤ 100 by omega) hn
      rw [hy] at RW
      
      have e3 : IntKind.i64.wrap ((rs.length : Int) * (n : Int)) = ((rs.length * n : Nat) : Int) := IntWalk.i64_in _ (by rw [← Int.natCast_mul]; omega)
      clear hy
      go_enter Tryd.func76, Tryd.ntmps76
      go_wp2_with fail
      refine (RW.out _).mono ?_
      rintro r w2 ⟨rfl, hb2⟩
      replace L0 := Lib.hid (below_next L0.out hb2)
      replace BN := Lib.hid (BN.out.next hb2)
      replace HV := Lib.hid (HV.out.next hb2)
      have x0 := BN.out.c 0
      have x1 := BN.out.c 1
      simp only [List.getElem?_cons_zero, List.getElem?_cons_succ] at x0 x1
      clear hb2
      go_wp2
      go_ret
      exact ⟨by rw [TT.out]; simp, L0.out⟩
    · have TT := Lib.hid (show totN c n (rs.drop 0) = 2 * rs.length * n by rw [tot_2 hy, DL.out]; simp)
      have bm : 2 * rs.length * n ≤ 12800 := Nat.mul_le_mul (show 2 * rs.length ≤ 200 by omega) hn
      rw [hy] at RW
      
      have e4 : IntKind.i64.wrap (2 * (rs.length : Int)) = 2 * (rs.length : Int) := IntWalk.i64_in _ (by omega)
      have e3 : IntKind.i64.wrap (2 * (rs.length : Int) * (n : Int)) = ((2 * rs.length * n : Nat) : Int) := IntWalk.i64_in _ (by rw [show 2 * (rs.length : Int) * (n : Int) = ((2 * rs.length * n : Nat) : Int) by simp]; omega)
      clear hy
      go_enter Tryd.func76, Tryd.ntmps76
      go_wp2_with fail
      refine (RW.out _).mono ?_
      rintro r w2 ⟨rfl, hb2⟩
      replace L0 := Lib.hid (below_next L0.out hb2)
      replace BN := Lib.hid (BN.out.next hb2)
      replace HV := Lib.hid (HV.out.next hb2)
      have x0 := BN.out.c 0
      have x1 := BN.out.c 1
      simp only [List.getElem?_cons_zero, List.getElem?_cons_succ] at x0 x1
      clear hb2
      go_wp2_with fail
      refine (RW.out _).mono ?_
      rintro r w3 ⟨rfl, hb3⟩
      replace L0 := Lib.hid (below_next L0.out hb3)
      replace BN := Lib.hid (BN.out.next hb3)
      replace HV := Lib.hid (HV.out.next hb3)
      have x0 := BN.out.c 0
      have x1 := BN.out.c 1
      simp only [List.getElem?_cons_zero, List.getElem?_cons_succ] at x0 x1
      clear hb3
      go_wp2
      go_ret
      exact ⟨by rw [TT.out]; simp, L0.out⟩
    · have HW := Lib.hid (fun l => words_3 hy l)
      rw [hy] at RW
      have HR : ∀ i, i < n → wordsN c (colL i (rs.drop 0)) ≤ 200 := fun i hi => by
        have h1 := wordsN_le c (colL i (rs.drop 0))
        rw [colL_len, DL.out] at h1
        omega
      have HS := Lib.hid (sumN_le HR)
      have HR := Lib.hid HR
      clear hy
      go_enter Tryd.func76, Tryd.ntmps76
      go_wp2_with fail
      refine (RW.out _).mono ?_
      rintro r w2 ⟨rfl, hb2⟩
      replace L0 := Lib.hid (below_next L0.out hb2)
      replace BN := Lib.hid (BN.out.next hb2)
      replace HV := Lib.hid (HV.out.next hb2)
      have x0 := BN.out.c 0
      have x1 := BN.out.c 1
      simp only [List.getElem?_cons_zero, List.getElem?_cons_succ] at x0 x1
      clear hb2
      go_wp2_with fail
      refine (RW.out _).mono ?_
      rintro r w3 ⟨rfl, hb3⟩
      replace L0 := Lib.hid (below_next L0.out hb3)
      replace BN := Lib.hid (BN.out.next hb3)
      replace HV := Lib.hid (HV.out.next hb3)
      have x0 := BN.out.c 0
      have x1 := BN.out.c 1
      simp only [List.getElem?_cons_zero, List.getElem?_cons_succ] at x0 x1
      clear hb3
      go_wp2
      go_loopw [13, 14] (fun R i wr => ∃ k : Nat, k ≤ n ∧ i = .int .i64 k ∧ R = .int .i64 (sumN (fun i => wordsN c (colL i (rs.drop 0))) k : Nat) ∧ Hid (Below w3.heap.size w3 wr)) (fun _ i _ => n - (intOf i).toNat)
      case atStart => exact ⟨0, Nat.zero_le _, rfl, rfl, Lib.hid (Below.refl _ _)⟩
      case round =>
        obtain ⟨k, hk, rfl, rfl, HB⟩ := hrel
        by_cases hlt : k < n
        · have i1 : decide ((k : Int) < (n : Int)) = true := decide_eq_true (by omega)
          have LN := line_any S A cA rs k n 0 rs.length 0 wr.drew ((HV.out.next HB.out).next (Below.refl _ wr).drew) HL.out hlt hr (by omega)
          rw [cut_all] at LN
          unfold RetL at LN
          have LN := Lib.hid LN
          have BW := Lib.hid (BN.out.next HB.out)
          have z0 := BW.out.c 0
          have z1 := BW.out.c 1
          simp only [List.getElem?_cons_zero, List.getElem?_cons_succ] at z0 z1
          have h1 := HR.out k hlt
          have h2 := HS.out k hk
          have ES : Hid (sumN (fun i => wordsN c (colL i (rs.drop 0))) (k + 1) = sumN (fun i => wordsN c (colL i (rs.drop 0))) k + wordsN c (colL k (rs.drop 0))) := Lib.hid rfl
          rw [HW.out] at ES h1
          have LL := Lib.hid (show (colL k (rs.drop 0)).length ≤ 1000 by rw [colL_len, DL.out]; omega)
          generalize colL k (rs.drop 0) = l at *
          obtain ⟨N, hN⟩ : ∃ N, (Dq.keptV (decide (c = 8)) l).length = N := ⟨_, rfl⟩
          have HN := Lib.hid hN
          rw [hN] at ES h1
          generalize sumN (fun i => wordsN c (colL i (rs.drop 0))) k = z at *
          have e4 : IntKind.i64.wrap (2 * (N : Int)) = 2 * (N : Int) := IntWalk.i64_in _ (by omega)
          have e3 : IntKind.i64.wrap ((z : Int) + 2 * (N : Int)) = (z : Int) + 2 * (N : Int) := IntWalk.i64_in _ (by omega)
          clear hN
          go_wp2_with fail
          go_region_law (first
            | (refine step_call rfl (by kernel_rfl) LN.out (by rintro e' w' ⟨A5, c5, rfl, -, -⟩; exact ⟨_, rfl⟩) ?_; rintro v5 w5 ⟨A5, c5, e5, m5, hb5'⟩; injection e5 with e5; subst e5; have hb5 := below_next (Below.refl wr.heap.size wr).drew hb5'; have B5 := Lib.hid hb5; obtain ⟨A6, c6, e6, k1, k2, k3⟩ := mine_C m5; injection e6 with e6 e7 e8; subst e6 e8; have KP := Dq.rkept_any (decide (c = 8)) A5 c5 l w5 k3 LL.out; unfold Dq.RetVals at KP; rw [HN.out] at KP; have KP := Lib.hid KP; have y0 := (BW.out.next hb5).c 0; simp only [List.getElem?_cons_zero] at y0; clear m5 k1 k2 k3 hb5 hb5')
            | (refine step_call rfl (by kernel_rfl) KP.out (by rintro e' w' ⟨A7, c7, rfl, -, -, -, -⟩; exact ⟨_, rfl⟩) ?_; rintro v6 w6 ⟨A7, c7, e6, -, -, -, hb6⟩; injection e6 with e6; subst e6; have B6 := Lib.hid (below_next B5.out hb6); have y0 := (BW.out.next B6.out).c 0; simp only [List.getElem?_cons_zero] at y0; clear hb6))
          all_goals
            have B7 := Lib.hid (below_next HB.out B6.out)
            go_wp2
            refine ⟨⟨k + 1, by omega, by go_num, by rw [ES.out]; simp, B7⟩, by simp [intOf]; omega⟩
        · obtain rfl : k = n := by omega
          have i1 : decide ((k : Int) < (k : Int)) = false := decide_eq_false (by omega)
          go_wp2
          go_ret
          exact ⟨rfl, below_next L0.out HB.out⟩
  · have t0 : ((told : Int) == 0) = false := by simp; omega
    have e0 : IntKind.i64.wrap ((told : Int) - 1) = (told : Int) - 1 := IntWalk.i64_in _ (by omega)
    by_cases h1 : (told : Int) - 1 < (back : Int)
    · obtain rfl : f = 0 := by omega
      have e1 : IntKind.i64.wrap ((told : Int) - 1 - (back : Int)) = (told : Int) - 1 - (back : Int) := IntWalk.i64_in _ (by omega)
      have t1 : decide ((told : Int) - 1 - (back : Int) < 0) = true := decide_eq_true (by omega)
      have t2 : ¬ told = 0 := h0
      clear hf hfl
      rcases way_123 c with hy | hy | hy
      · have TT := Lib.hid (show totN c n (rs.drop 0) = rs.length * n by rw [tot_1 hy, DL.out]; simp)
        have bm : rs.length * n ≤ 6400 := Nat.mul_le_mul (show rs.length ≤ 100 by omega) hn
        rw [hy] at RW
        
        have e3 : IntKind.i64.wrap ((rs.length : Int) * (n : Int)) = ((rs.length * n : Nat) : Int) := IntWalk.i64_in _ (by rw [← Int.natCast_mul]; omega)
        clear hy
        go_enter Tryd.func76, Tryd.ntmps76
        go_wp2_with fail
        refine (RW.out _).mono ?_
        rintro r w2 ⟨rfl, hb2⟩
        replace L0 := Lib.hid (below_next L0.out hb2)
        replace BN := Lib.hid (BN.out.next hb2)
        replace HV := Lib.hid (HV.out.next hb2)
        have x0 := BN.out.c 0
        have x1 := BN.out.c 1
        simp only [List.getElem?_cons_zero, List.getElem?_cons_succ] at x0 x1
        clear hb2
        go_wp2
        go_ret
        exact ⟨by rw [TT.out]; simp, L0.out⟩
      · have TT := Lib.hid (show totN c n (rs.drop 0) = 2 * rs.length * n by rw [tot_2 hy, DL.out]; simp)
        have bm : 2 * rs.length * n ≤ 12800 := Nat.mul_le_mul (show 2 * rs.length ≤ 200 by omega) hn
        rw [hy] at RW
        
        have e4 : IntKind.i64.wrap (2 * (rs.length : Int)) = 2 * (rs.length : Int) := IntWalk.i64_in _ (by omega)
        have e3 : IntKind.i64.wrap (2 * (rs.length : Int) * (n : Int)) = ((2 * rs.length * n : Nat) : Int) := IntWalk.i64_in _ (by rw [show 2 * (rs.length : Int) * (n : Int) = ((2 * rs.length * n : Nat) : Int) by simp]; omega)
        clear hy
        go_enter Tryd.func76, Tryd.ntmps76
        go_wp2_with fail
        refine (RW.out _).mono ?_
        rintro r w2 ⟨rfl, hb2⟩
        replace L0 := Lib.hid (below_next L0.out hb2)
        replace BN := Lib.hid (BN.out.next hb2)
        replace HV := Lib.hid (HV.out.next hb2)
        have x0 := BN.out.c 0
        have x1 := BN.out.c 1
        simp only [List.getElem?_cons_zero, List.getElem?_cons_succ] at x0 x1
        clear hb2
        go_wp2_with fail
        refine (RW.out _).mono ?_
        rintro r w3 ⟨rfl, hb3⟩
        replace L0 := Lib.hid (below_next L0.out hb3)
        replace BN := Lib.hid (BN.out.next hb3)
        replace HV := Lib.hid (HV.out.next hb3)
        have x0 := BN.out.c 0
        have x1 := BN.out.c 1
        simp only [List.getElem?_cons_zero, List.getElem?_cons_succ] at x0 x1
        clear hb3
        go_wp2
        go_ret
        exact ⟨by rw [TT.out]; simp, L0.out⟩
      · have HW := Lib.hid (fun l => words_3 hy l)
        rw [hy] at RW
        have HR : ∀ i, i < n → wordsN c (colL i (rs.drop 0)) ≤ 200 := fun i hi => by
          have h1 := wordsN_le c (colL i (rs.drop 0))
          rw [colL_len, DL.out] at h1
          omega
        have HS := Lib.hid (sumN_le HR)
        have HR := Lib.hid HR
        clear hy
        go_enter Tryd.func76, Tryd.ntmps76
        go_wp2_with fail
        refine (RW.out _).mono ?_
        rintro r w2 ⟨rfl, hb2⟩
        replace L0 := Lib.hid (below_next L0.out hb2)
        replace BN := Lib.hid (BN.out.next hb2)
        replace HV := Lib.hid (HV.out.next hb2)
        have x0 := BN.out.c 0
        have x1 := BN.out.c 1
        simp only [List.getElem?_cons_zero, List.getElem?_cons_succ] at x0 x1
        clear hb2
        go_wp2_with fail
        refine (RW.out _).mono ?_
        rintro r w3 ⟨rfl, hb3⟩
        replace L0 := Lib.hid (below_next L0.out hb3)
        replace BN := Lib.hid (BN.out.next hb3)
        replace HV := Lib.hid (HV.out.next hb3)
        have x0 := BN.out.c 0
        have x1 := BN.out.c 1
        simp only [List.getElem?_cons_zero, List.getElem?_cons_succ] at x0 x1
        clear hb3
        go_wp2
        go_loopw [13, 14] (fun R i wr => ∃ k : Nat, k ≤ n ∧ i = .int .i64 k ∧ R = .int .i64 (sumN (fun i => wordsN c (colL i (rs.drop 0))) k : Nat) ∧ Hid (Below w3.heap.size w3 wr)) (fun _ i _ => n - (intOf i).toNat)
        case atStart => exact ⟨0, Nat.zero_le _, rfl, rfl, Lib.hid (Below.refl _ _)⟩
        case round =>
          obtain ⟨k, hk, rfl, rfl, HB⟩ := hrel
          by_cases hlt : k < n
          · have i1 : decide ((k : Int) < (n : Int)) = true := decide_eq_true (by omega)
            have LN := line_any S A cA rs k n 0 rs.length 0 wr.drew ((HV.out.next HB.out).next (Below.refl _ wr).drew) HL.out hlt hr (by omega)
            rw [cut_all] at LN
            unfold RetL at LN
            have LN := Lib.hid LN
            have BW := Lib.hid (BN.out.next HB.out)
            have z0 := BW.out.c 0
            have z1 := BW.out.c 1
            simp only [List.getElem?_cons_zero, List.getElem?_cons_succ] at z0 z1
            have h1 := HR.out k hlt
            have h2 := HS.out k hk
            have ES : Hid (sumN (fun i => wordsN c (colL i (rs.drop 0))) (k + 1) = sumN (fun i => wordsN c (colL i (rs.drop 0))) k + wordsN c (colL k (rs.drop 0))) := Lib.hid rfl
            rw [HW.out] at ES h1
            have LL := Lib.hid (show (colL k (rs.drop 0)).length ≤ 1000 by rw [colL_len, DL.out]; omega)
            generalize colL k (rs.drop 0) = l at *
            obtain ⟨N, hN⟩ : ∃ N, (Dq.keptV (decide (c = 8)) l).length = N := ⟨_, rfl⟩
            have HN := Lib.hid hN
            rw [hN] at ES h1
            generalize sumN (fun i => wordsN c (colL i (rs.drop 0))) k = z at *
            have e4 : IntKind.i64.wrap (2 * (N : Int)) = 2 * (N : Int) := IntWalk.i64_in _ (by omega)
            have e3 : IntKind.i64.wrap ((z : Int) + 2 * (N : Int)) = (z : Int) + 2 * (N : Int) := IntWalk.i64_in _ (by omega)
            clear hN
            go_wp2_with fail
            go_region_law (first
              | (refine step_call rfl (by kernel_rfl) LN.out (by rintro e' w' ⟨A5, c5, rfl, -, -⟩; exact ⟨_, rfl⟩) ?_; rintro v5 w5 ⟨A5, c5, e5, m5, hb5'⟩; injection e5 with e5; subst e5; have hb5 := below_next (Below.refl wr.heap.size wr).drew hb5'; have B5 := Lib.hid hb5; obtain ⟨A6, c6, e6, k1, k2, k3⟩ := mine_C m5; injection e6 with e6 e7 e8; subst e6 e8; have KP := Dq.rkept_any (decide (c = 8)) A5 c5 l w5 k3 LL.out; unfold Dq.RetVals at KP; rw [HN.out] at KP; have KP := Lib.hid KP; have y0 := (BW.out.next hb5).c 0; simp only [List.getElem?_cons_zero] at y0; clear m5 k1 k2 k3 hb5 hb5')
              | (refine step_call rfl (by kernel_rfl) KP.out (by rintro e' w' ⟨A7, c7, rfl, -, -, -, -⟩; exact ⟨_, rfl⟩) ?_; rintro v6 w6 ⟨A7, c7, e6, -, -, -, hb6⟩; injection e6 with e6; subst e6; have B6 := Lib.hid (below_next B5.out hb6); have y0 := (BW.out.next B6.out).c 0; simp only [List.getElem?_cons_zero] at y0; clear hb6))
            all_goals
              have B7 := Lib.hid (below_next HB.out B6.out)
              go_wp2
              refine ⟨⟨k + 1, by omega, by go_num, by rw [ES.out]; simp, B7⟩, by simp [intOf]; omega⟩
          · obtain rfl : k = n := by omega
            have i1 : decide ((k : Int) < (k : Int)) = false := decide_eq_false (by omega)
            go_wp2
            go_ret
            exact ⟨rfl, below_next L0.out HB.out⟩
    · have e1 : IntKind.i64.wrap ((told : Int) - 1 - (back : Int)) = (f : Int) := (IntWalk.i64_in ((told : Int) - 1 - (back : Int)) (by omega)).trans (by omega)
      have t1 : decide ((f : Int) < 0) = false := decide_eq_false (by omega)
      have t2 : ¬ told = 0 := h0
      clear hf
      have e2 : IntKind.i64.wrap ((rs.length : Int) - (f : Int)) = ((rs.length - f : Nat) : Int) := (IntWalk.i64_in ((rs.length : Int) - (f : Int)) (by omega)).trans (by omega)
      rcases way_123 c with hy | hy | hy
      · have TT := Lib.hid (show totN c n (rs.drop f) = (rs.length - f) * n by rw [tot_1 hy, DL.out])
        have bm : (rs.length - f) * n ≤ 6400 := Nat.mul_le_mul (show (rs.length - f) ≤ 100 by omega) hn
        rw [hy] at RW
        obtain ⟨h, hh⟩ : ∃ h, rs.length - f = h := ⟨_, rfl⟩
        rw [hh] at TT bm e2
        have bh : h ≤ 100 := by omega
        clear hh
        have e3 : IntKind.i64.wrap ((h : Int) * (n : Int)) = ((h * n : Nat) : Int) := IntWalk.i64_in _ (by rw [← Int.natCast_mul]; omega)
        clear hy
        go_enter Tryd.func76, Tryd.ntmps76
        go_wp2_with fail
        refine (RW.out _).mono ?_
        rintro r w2 ⟨rfl, hb2⟩
        replace L0 := Lib.hid (below_next L0.out hb2)
        replace BN := Lib.hid (BN.out.next hb2)
        replace HV := Lib.hid (HV.out.next hb2)
        have x0 := BN.out.c 0
        have x1 := BN.out.c 1
        simp only [List.getElem?_cons_zero, List.getElem?_cons_succ] at x0 x1
        clear hb2
        go_wp2
        go_ret
        exact ⟨by rw [TT.out]; simp, L0.out⟩
      · have TT := Lib.hid (show totN c n (rs.drop f) = 2 * (rs.length - f) * n by rw [tot_2 hy, DL.out])
        have bm : 2 * (rs.length - f) * n ≤ 12800 := Nat.mul_le_mul (show 2 * (rs.length - f) ≤ 200 by omega) hn
        rw [hy] at RW
        obtain ⟨h, hh⟩ : ∃ h, rs.length - f = h := ⟨_, rfl⟩
        rw [hh] at TT bm e2
        have bh : h ≤ 100 := by omega
        clear hh
        have e4 : IntKind.i64.wrap (2 * (h : Int)) = 2 * (h : Int) := IntWalk.i64_in _ (by omega)
        have e3 : IntKind.i64.wrap (2 * (h : Int) * (n : Int)) = ((2 * h * n : Nat) : Int) := IntWalk.i64_in _ (by rw [show 2 * (h : Int) * (n : Int) = ((2 * h * n : Nat) : Int) by simp]; omega)
        clear hy
        go_enter Tryd.func76, Tryd.ntmps76
        go_wp2_with fail
        refine (RW.out _).mono ?_
        rintro r w2 ⟨rfl, hb2⟩
        replace L0 := Lib.hid (below_next L0.out hb2)
        replace BN := Lib.hid (BN.out.next hb2)
        replace HV := Lib.hid (HV.out.next hb2)
        have x0 := BN.out.c 0
        have x1 := BN.out.c 1
        simp only [List.getElem?_cons_zero, List.getElem?_cons_succ] at x0 x1
        clear hb2
        go_wp2_with fail
        refine (RW.out _).mono ?_
        rintro r w3 ⟨rfl, hb3⟩
        replace L0 := Lib.hid (below_next L0.out hb3)
        replace BN := Lib.hid (BN.out.next hb3)
        replace HV := Lib.hid (HV.out.next hb3)
        have x0 := BN.out.c 0
        have x1 := BN.out.c 1
        simp only [List.getElem?_cons_zero, List.getElem?_cons_succ] at x0 x1
        clear hb3
        go_wp2
        go_ret
        exact ⟨by rw [TT.out]; simp, L0.out⟩
      · have HW := Lib.hid (fun l => words_3 hy l)
        rw [hy] at RW
        have HR : ∀ i, i < n → wordsN c (colL i (rs.drop f)) ≤ 200 := fun i hi => by
          have h1 := wordsN_le c (colL i (rs.drop f))
          rw [colL_len, DL.out] at h1
          omega
        have HS := Lib.hid (sumN_le HR)
        have HR := Lib.hid HR
        clear hy
        go_enter Tryd.func76, Tryd.ntmps76
        go_wp2_with fail
        refine (RW.out _).mono ?_
        rintro r w2 ⟨rfl, hb2⟩
        replace L0 := Lib.hid (below_next L0.out hb2)
        replace BN := Lib.hid (BN.out.next hb2)
        replace HV := Lib.hid (HV.out.next hb2)
        have x0 := BN.out.c 0
        have x1 := BN.out.c 1
        simp only [List.getElem?_cons_zero, List.getElem?_cons_succ] at x0 x1
        clear hb2
        go_wp2_with fail
        refine (RW.out _).mono ?_
        rintro r w3 ⟨rfl, hb3⟩
        replace L0 := Lib.hid (below_next L0.out hb3)
        replace BN := Lib.hid (BN.out.next hb3)
        replace HV := Lib.hid (HV.out.next hb3)
        have x0 := BN.out.c 0
        have x1 := BN.out.c 1
        simp only [List.getElem?_cons_zero, List.getElem?_cons_succ] at x0 x1
        clear hb3
        go_wp2
        go_loopw [13, 14] (fun R i wr => ∃ k : Nat, k ≤ n ∧ i = .int .i64 k ∧ R = .int .i64 (sumN (fun i => wordsN c (colL i (rs.drop f))) k : Nat) ∧ Hid (Below w3.heap.size w3 wr)) (fun _ i _ => n - (intOf i).toNat)
        case atStart => exact ⟨0, Nat.zero_le _, rfl, rfl, Lib.hid (Below.refl _ _)⟩
        case round =>
          obtain ⟨k, hk, rfl, rfl, HB⟩ := hrel
          by_cases hlt : k < n
          · have i1 : decide ((k : Int) < (n : Int)) = true := decide_eq_true (by omega)
            have LN := line_any S A cA rs k n (f : Int) rs.length f wr.drew ((HV.out.next HB.out).next (Below.refl _ wr).drew) HL.out hlt hr (by omega)
            rw [cut_all] at LN
            unfold RetL at LN
            have LN := Lib.hid LN
            have BW := Lib.hid (BN.out.next HB.out)
            have z0 := BW.out.c 0
            have z1 := BW.out.c 1
            simp only [List.getElem?_cons_zero, List.getElem?_cons_succ] at z0 z1
            have h1 := HR.out k hlt
            have h2 := HS.out k hk
            have ES : Hid (sumN (fun i => wordsN c (colL i (rs.drop f))) (k + 1) = sumN (fun i => wordsN c (colL i (rs.drop f))) k + wordsN c (colL k (rs.drop f))) := Lib.hid rfl
            rw [HW.out] at ES h1
            have LL := Lib.hid (show (colL k (rs.drop f)).length ≤ 1000 by rw [colL_len, DL.out]; omega)
            generalize colL k (rs.drop f) = l at *
            obtain ⟨N, hN⟩ : ∃ N, (Dq.keptV (decide (c = 8)) l).length = N := ⟨_, rfl⟩
            have HN := Lib.hid hN
            rw [hN] at ES h1
            generalize sumN (fun i => wordsN c (colL i (rs.drop f))) k = z at *
            have e4 : IntKind.i64.wrap (2 * (N : Int)) = 2 * (N : Int) := IntWalk.i64_in _ (by omega)
            have e3 : IntKind.i64.wrap ((z : Int) + 2 * (N : Int)) = (z : Int) + 2 * (N : Int) := IntWalk.i64_in _ (by omega)
            clear hN
            go_wp2_with fail
            go_region_law (first
              | (refine step_call rfl (by kernel_rfl) LN.out (by rintro e' w' ⟨A5, c5, rfl, -, -⟩; exact ⟨_, rfl⟩) ?_; rintro v5 w5 ⟨A5, c5, e5, m5, hb5'⟩; injection e5 with e5; subst e5; have hb5 := below_next (Below.refl wr.heap.size wr).drew hb5'; have B5 := Lib.hid hb5; obtain ⟨A6, c6, e6, k1, k2, k3⟩ := mine_C m5; injection e6 with e6 e7 e8; subst e6 e8; have KP := Dq.rkept_any (decide (c = 8)) A5 c5 l w5 k3 LL.out; unfold Dq.RetVals at KP; rw [HN.out] at KP; have KP := Lib.hid KP; have y0 := (BW.out.next hb5).c 0; simp only [List.getElem?_cons_zero] at y0; clear m5 k1 k2 k3 hb5 hb5')
              | (refine step_call rfl (by kernel_rfl) KP.out (by rintro e' w' ⟨A7, c7, rfl, -, -, -, -⟩; exact ⟨_, rfl⟩) ?_; rintro v6 w6 ⟨A7, c7, e6, -, -, -, hb6⟩; injection e6 with e6; subst e6; have B6 := Lib.hid (below_next B5.out hb6); have y0 := (BW.out.next B6.out).c 0; simp only [List.getElem?_cons_zero] at y0; clear hb6))
            all_goals
              have B7 := Lib.hid (below_next HB.out B6.out)
              go_wp2
              refine ⟨⟨k + 1, by omega, by go_num, by rw [ES.out]; simp, B7⟩, by simp [intOf]; omega⟩
          · obtain rfl : k = n := by omega
            have i1 : decide ((k : Int) < (k : Int)) = false := decide_eq_false (by omega)
            go_wp2
            go_ret
            exact ⟨rfl, below_next L0.out HB.out⟩
end Go.Proofs.YtfamgaakcbinkaaDoor.Wn
