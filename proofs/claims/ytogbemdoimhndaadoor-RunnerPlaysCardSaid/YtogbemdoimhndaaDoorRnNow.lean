/-
  What riffleref14.Now answers: place by place, what the numbers of all rows come to. Conditions: the function joins; at most 100 rows, all of one width of at most 64; the numbers have 64 bits.
-/
import Derived.Test.YtogbemdoimhndaaDoorRnNew
set_option maxRecDepth 100000
namespace Go.Proofs.YtogbemdoimhndaaDoor.Rn
open Go.Proofs.YtogbemdoimhndaaDoor.Sh Go.Proofs.YtogbemdoimhndaaDoor.St Go.Proofs.YtogbemdoimhndaaDoor.Fd
open Go.RowKit
set_option linter.unusedVariables false

/-- The numbers at place i of all rows. -/
def colL (i : Nat) (rs : List (List Int)) : List Int := rs.map fun r => r.getD i 0
theorem colL_len (i : Nat) (rs : List (List Int)) : (colL i rs).length = rs.length := by simp [colL]
theorem colL_succ {i : Nat} {rs : List (List Int)} {k : Nat} {r : List Int} (h : rs[k]? = some r) : (colL i rs).take (k + 1) = (colL i rs).take k ++ [r.getD i 0] := by
  have hk : k < rs.length := (List.getElem?_eq_some_iff.1 h).1
  rw [Sh.take_snoc _ k (by rw [colL_len]; exact hk)]
  congr 2
  simp [colL, List.getD, List.getElem?_map, h]
/-- What all rows come to, at the first n places. -/
def colsI (c : Int) (s : Bool) (n : Nat) (rs : List (List Int)) : List Int := (List.range n).map fun i => foldI c s (colL i rs)
theorem colsI_len (c : Int) (s : Bool) (n : Nat) (rs : List (List Int)) : (colsI c s n rs).length = n := by simp [colsI]
theorem colsI_succ (c : Int) (s : Bool) (n : Nat) (rs : List (List Int)) : colsI c s (n + 1) rs = colsI c s n rs ++ [foldI c s (colL n rs)] := by unfold colsI; rw [List.range_succ, List.map_append]; rfl
theorem colsI_one (c : Int) (s : Bool) (y : List Int) : colsI c s y.length [y] = y := by
  apply List.ext_getElem
  · rw [colsI_len]
  · intro i h1 h2
    simp [colsI, colL, foldI, List.getD, h2]
theorem colsI_snoc {c : Int} (hj : (Sc.trOf c).joins = true) (s : Bool) {n : Nat} {rs : List (List Int)} (hr : 0 < rs.length) {y : List Int} (hy : y.length = n) : List.zipWith (Sc.doI c s) (colsI c s n rs) y = colsI c s n (rs ++ [y]) := by
  apply List.ext_getElem
  · simp [colsI_len, hy]
  · intro i h1 h2
    rw [colsI_len] at h2
    have hs := foldI_snoc hj s (y.getD i 0) (colL i rs) (by rw [colL_len]; exact hr)
    have e : colL i (rs ++ [y]) = colL i rs ++ [y.getD i 0] := by simp [colL]
    simp only [List.getElem_zipWith]
    simp only [colsI, List.getElem_map, List.getElem_range]
    rw [e, hs]
    simp [List.getD, show i < y.length by omega]
theorem colL_R {rs : List (List Int)} (h : ∀ r ∈ rs, AllR r) (i : Nat) : AllR (colL i rs) := by
  intro x hx
  simp only [colL, List.mem_map] at hx
  obtain ⟨r, hr, rfl⟩ := hx
  exact (h r hr).at i
theorem colsI_R {rs : List (List Int)} (h : ∀ r ∈ rs, AllR r) (c : Int) (s : Bool) (n : Nat) : AllR (colsI c s n rs) := by
  intro x hx
  simp only [colsI, List.mem_map] at hx
  obtain ⟨i, _, rfl⟩ := hx
  exact foldI_R c s _ (colL_R h i)
def nowI (c : Int) (s : Bool) (n : Nat) (rs : List (List Int)) : List Int := if rs.length = 0 then [] else colsI c s n rs
theorem rowV_joins {c : Int} (hj : (Sc.trOf c).joins = true) (s : Bool) {l : List Int} (hl : 0 < l.length) : rowV c s l = foldI c s l := by
  unfold rowV rowI
  rw [if_pos (joins_has hj), if_neg (by omega)]
theorem rows_at {S : Nat → Prop} {w : World} {A : Option Addr} {c m : Nat} {rs : List (List Int)} (h : RwsIn S w (.slice A m c) rs) {k : Nat} {r : List Int} (hk : rs[k]? = some r) {i : Nat} (hi : i < r.length) :
    ∃ b off b2 o2 d, A = some ⟨b, off, none⟩ ∧ w.cell? ⟨b, off + k, none⟩ = some (.slice (some ⟨b2, o2, none⟩) r.length d) ∧ w.cell? ⟨b2, o2 + i, none⟩ = some (.int .i64 (r.getD i 0)) := by
  obtain ⟨A', c', vs, e, h1, h2, h3, h4, h5⟩ := h
  injection e with e1 e2 e3
  subst e1
  obtain ⟨B, d, k1, k2, k3, k4⟩ := h5 k r hk
  obtain ⟨b, off, rfl, _, _, hc⟩ := h4.one k1
  obtain ⟨b2, o2, rfl, _, hc2⟩ := k4.ints (by omega)
  exact ⟨b, off, b2, o2, d, rfl, hc, hc2 i hi⟩
theorem mine_C {w : World} {base : Nat} {v : Value} {xs : List Int} (h : MineT 2 w base v xs) : ∃ A c, v = .slice A xs.length c ∧ xs.length ≤ c ∧ c ≤ maxLen ∧ Ints w A xs := by
  obtain ⟨A, c, e, h1, h2, h3⟩ := own_seq h (by decide)
  exact ⟨A, c, e, h1, h2, SInts.ints h3⟩
/-- A row of one's own with these numbers. -/
def RetL (xs : List Int) (w : World) (e : Ending) (w' : World) : Prop := ∃ A cap, e = .returned (.slice A xs.length cap) ∧ MineT 2 w' w.heap.size (.slice A xs.length cap) xs ∧ Below w.heap.size w w'
set_option maxHeartbeats 2000000 in
theorem rnow_nil (c : Int) (s : Bool) (A : Option Addr) (cA : Nat) (n : Nat) (w : World) (hn : n ≤ 64) :
    Calls Tryd.prog 44 #[.agg #[.int .i64 c, .bool s], .slice A 0 cA, .int .i64 (n : Int)] w (RetL [] w) := by
  have L := Lib.hid (below_new w (.cells #[.int .i64 c, .bool s] 23))
  go_enter Tryd.func44, Tryd.ntmps44
  go_wp2
  go_loopw [7, 8] (fun V i wr => V = .slice none 0 0 ∧ i = .int .i64 0 ∧ Hid (Below w.heap.size w wr)) (fun _ _ _ => 0)
  case atStart => exact ⟨rfl, rfl, L⟩
  case round =>
    obtain ⟨rfl, rfl, HB⟩ := hrel
    by_cases h : (0 : Int) < (n : Int)
    · have t1 : decide ((0 : Int) < (n : Int)) = true := decide_eq_true h
      go_wp2
      go_ret
      exact ⟨none, 0, rfl, MineT.nil _ _ _, HB.out⟩
    · have t1 : decide ((0 : Int) < (n : Int)) = false := decide_eq_false h
      go_wp2
      go_ret
      exact ⟨none, 0, rfl, MineT.nil _ _ _, HB.out⟩
set_option maxHeartbeats 4000000 in
theorem rnow_cons (c : Int) (s : Bool) (S : Nat → Prop) (A : Option Addr) (cA : Nat) (rs : List (List Int)) (n : Nat) (w : World) (hV : RwsIn S w (.slice A rs.length cA) rs) (hn : n ≤ 64) (h0 : 0 < rs.length) (hr : rs.length ≤ 100) (hL : ∀ r ∈ rs, r.length = n) (hR : ∀ r ∈ rs, AllR r) (hj : (Sc.trOf c).joins = true) :
    Calls Tryd.prog 44 #[.agg #[.int .i64 c, .bool s], .slice A rs.length cA, .int .i64 (n : Int)] w (RetL (colsI c s n rs) w) := by
  have L := Lib.hid (below_new w (.cells #[.int .i64 c, .bool s] 23))
  have BN := Lib.hid (Bx.new 23 w #[.int .i64 c, .bool s])
  have HV := Lib.hid (hV.next L.out)
  have HR := Lib.hid hR
  have HL := Lib.hid hL
  have HJ := Lib.hid hj
  clear hV hR hL hj
  go_enter Tryd.func44, Tryd.ntmps44
  go_wp2
  generalize hW0 : w.alloc (.cells #[.int .i64 c, .bool s] 23) = W0 at *
  clear hW0
  go_loopw [7, 8] (fun V i wr => ∃ j : Nat, j ≤ n ∧ i = .int .i64 j ∧ Hid (MineT 2 wr W0.heap.size V (colsI c s j rs)) ∧ Hid (Below W0.heap.size W0 wr)) (fun _ i _ => n - (intOf i).toNat)
  case atStart => exact ⟨0, Nat.zero_le _, rfl, Lib.hid (MineT.nil _ _ _), Lib.hid (Below.refl _ _)⟩
  case round =>
    obtain ⟨j, hj, rfl, HM, HB⟩ := hrel
    have t2 : decide ((rs.length : Int) > 0) = true := decide_eq_true (by omega)
    by_cases hlt : j < n
    · have t1 : decide ((j : Int) < (n : Int)) = true := decide_eq_true (by omega)
      go_wp2
      clear t1 t2
      go_loopw [9, 10] (fun V9 i wq => ∃ k : Nat, k ≤ rs.length ∧ i = .int .i64 k ∧ Hid (MineT 2 wq wr.heap.size V9 ((colL j rs).take k)) ∧ Hid (Below wr.heap.size wr wq)) (fun _ i _ => rs.length - (intOf i).toNat)
      case atStart => exact ⟨0, Nat.zero_le _, rfl, Lib.hid (MineT.nil _ _ _), Lib.hid (Below.refl _ _)⟩
      case round =>
        obtain ⟨k, hk, rfl, HN, HQ⟩ := hrel
        by_cases hlk : k < rs.length
        · obtain ⟨r, hrk⟩ : ∃ r, rs[k]? = some r := ⟨_, List.getElem?_eq_getElem hlk⟩
          have hmem : r ∈ rs := List.mem_of_getElem? hrk
          have hrl := HL.out r hmem
          have VQ := Lib.hid ((HV.out.next HB.out).next HQ.out)
          obtain ⟨b, off, b2, o2, d, rfl, q1, q2⟩ := rows_at VQ.out hrk (i := j) (by omega)
          have CS := Lib.hid (colL_succ (i := j) hrk)
          rw [hrl] at q1
          obtain ⟨x, hx⟩ : ∃ x, r.getD j 0 = x := ⟨_, rfl⟩
          rw [hx] at q2 CS
          have i1 : (k : Int) < (rs.length : Int) := by omega
          have i0 : (0 : Int) ≤ (k : Int) := by omega
          have j1 : (j : Int) < (n : Int) := by omega
          have j0 : (0 : Int) ≤ (j : Int) := by omega
          have M1 := Lib.hid (MineT.alloc HN.out (.cells #[.int .i64 x] 2))
          have Y1 := Lib.hid (MineT.new 2 wr [x] 0 (Nat.zero_le _) (by unfold maxLen; simp)).ints'
          have K1 := Lib.hid (below_next HQ.out (below_new wr (.cells #[.int .i64 x] 2)))
          have TL : Hid (((colL j rs).take k).length + [x].length ≤ 100000) := Lib.hid (by simp [colL_len]; omega)
          clear hx hrl hmem hrk
          go_wp2_with (at_builtin; refine wpList_appI numL Tryd.underlying27 rfl (.tmp 29) (.tmp 37) rfl _ _ _ rfl M1.out _ 1 [x] rfl Y1.out TL.out K1.out.size ?_; intro v3 w3 hm3 hg3 ha3; have M3 := Lib.hid hm3; have G3 := Lib.hid hg3; clear hm3 hg3 ha3)
          refine ⟨⟨k + 1, by omega, by go_num, Lib.hid (by rw [CS.out]; exact M3.out), Lib.hid (K1.out.grown G3.out K1.out.size (fun kk hkk => own_base M1.out kk hkk))⟩, by simp [intOf]; omega⟩
        · obtain rfl : k = rs.length := by omega
          rw [show (colL j rs).take rs.length = colL j rs from List.take_of_length_le (by rw [colL_len]; omega)] at HN
          have CLN := Lib.hid (colL_len j rs)
          obtain ⟨A9, c9, e9, p1, p2, p3⟩ := mine_C HN.out
          rw [CLN.out] at e9
          subst e9
          have RR := Lib.hid (RRow_any c s (colL j rs) A9 c9 wr (by rw [CLN.out]; omega) p1 p2 (colL_R HR.out j) p3)
          rw [CLN.out, rowV_joins HJ.out s (by rw [CLN.out]; exact h0)] at RR
          have SU := Lib.hid (colsI_succ c s j rs)
          have SL := Lib.hid (colsI_len c s j rs)
          obtain ⟨x, hx⟩ : ∃ x, foldI c s (colL j rs) = x := ⟨_, rfl⟩
          rw [hx] at RR SU
          obtain ⟨q0, q1⟩ := bx2 ((BN.out.next HB.out).next HQ.out)
          have M7 := Lib.hid (HM.out.below HQ.out (Nat.le_refl _))
          have B7 := Lib.hid (below_next HB.out HQ.out)
          clear p1 p2 p3 hx HN HM
          go_wp2_with fail
          refine RR.out.mono ?_
          rintro r w5 ⟨rfl, hb5⟩
          have M8 := Lib.hid (MineT.alloc (M7.out.below hb5 (Nat.le_refl _)) (.cells #[.int .i64 x] 2))
          have Y8 := Lib.hid (MineT.new 2 w5 [x] 0 (Nat.zero_le _) (by unfold maxLen; simp)).ints'
          have K8 := Lib.hid (below_next (below_next B7.out hb5) (below_new w5 (.cells #[.int .i64 x] 2)))
          have TL : Hid ((colsI c s j rs).length + [x].length ≤ 100000) := Lib.hid (by rw [SL.out]; simp; omega)
          clear hb5 q0 q1
          go_wp2_with (at_builtin; refine wpList_appI numL Tryd.underlying27 rfl (.tmp 45) (.tmp 47) rfl W0.heap.size _ _ rfl M8.out _ 1 [x] rfl Y8.out TL.out K8.out.size ?_; intro v3 w3 hm3 hg3 ha3; have M3 := Lib.hid hm3; have G3 := Lib.hid hg3; clear hm3 hg3 ha3)
          refine ⟨⟨j + 1, by omega, by go_num, Lib.hid (by rw [SU.out]; exact M3.out), Lib.hid (K8.out.grown G3.out K8.out.size (fun kk hkk => own_base M8.out kk hkk))⟩, by simp [intOf]; omega⟩
    · have t1 : decide ((j : Int) < (n : Int)) = false := decide_eq_false (by omega)
      obtain rfl : j = n := by omega
      have SL := Lib.hid (colsI_len c s j rs)
      obtain ⟨A7, c7, e7, p1, p2, p3⟩ := mine_C HM.out
      subst e7
      clear p1 p2 p3
      go_wp2
      go_ret
      exact ⟨A7, c7, rfl, HM.out.mono L.out.size, below_next L.out HB.out⟩
end Go.Proofs.YtogbemdoimhndaaDoor.Rn
