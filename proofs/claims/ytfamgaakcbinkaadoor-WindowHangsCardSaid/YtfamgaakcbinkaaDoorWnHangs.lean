/-
  What rifflelaw15.WindowHangs answers: true, whatever the window, the numbers and the place. Conditions: the table of traits holds what its text lays; the numbers have 64 bits; no more numbers than fit into a machine.
-/
import Derived.Test.YtfamgaakcbinkaaDoorWnAnsw
import Derived.Test.YtfamgaakcbinkaaDoorWnArg
set_option maxRecDepth 100000
namespace Go.Proofs.YtfamgaakcbinkaaDoor.Wn
open Go.Proofs.YtfamgaakcbinkaaDoor.Sh Go.Proofs.YtfamgaakcbinkaaDoor.St Go.Proofs.YtfamgaakcbinkaaDoor.Fd
open Go.RowKit
set_option linter.unusedVariables false

set_option maxHeartbeats 4000000 in
theorem answers_no (c : Int) (s : Bool) (bk lk wd : Int) (V : Value) (w : World) (hT : Sc.Tab w) (hbR : Sc.InR bk) (hw : whyW c bk lk 1 ≠ 0) :
    Calls Tryd.prog 37 #[.agg #[.int .i64 c, .bool s, .int .i64 bk, .int .i64 lk, .int .i64 wd], V] w fun e w' => e = .returned (.tuple #[.slice none 0 0, .int .i64 0, .bool false]) ∧ Below w.heap.size w w' := by
  have b0 := below_new w (.cells #[.int .i64 c, .bool s, .int .i64 bk, .int .i64 lk, .int .i64 wd] 45)
  have BN := Lib.hid (Bk.new 45 w [.int .i64 c, .bool s, .int .i64 bk, .int .i64 lk, .int .i64 wd])
  have T1 := Lib.hid (hT.below b0)
  have L0 := Lib.hid b0
  have NN := Lib.hid (fun W (h : Sc.Tab W) => new_no c s bk lk 1 W h hbR hw)
  obtain ⟨y, hy⟩ : ∃ y, whyW c bk lk 1 = y := ⟨_, rfl⟩
  rw [hy] at NN hw
  have e1 : (y != 0) = true := by simpa using hw
  clear b0 hT hw hy hbR
  obtain ⟨x0, x1, x2, x3, x4⟩ := of_cells BN.out
  go_enter Tryd.func37, Tryd.ntmps37
  go_wp2_with fail
  refine (NN.out _ T1.out).mono ?_
  rintro r w2 ⟨rfl, hb2⟩
  have L2 := Lib.hid (below_next L0.out hb2)
  clear hb2
  go_wp2
  go_ret3
  exact ⟨rfl, L2.out⟩
theorem own_put {w : World} {base : Nat} {e : TypeId} {V : Value} {n i : Nat} {xs : List Value} (h : w.ownsRow base e 1 V n xs) (hi : i < n) : ∃ b c, V = .slice (some ⟨b, 0, none⟩) n c ∧ base ≤ b ∧ w.cell? ⟨b, i, none⟩ = xs[i]? ∧ w.frozen? ⟨b, i, none⟩ = false ∧ b < w.heap.size ∧ ∀ u, (w.setCell ⟨b, i, none⟩ u).ownsRow base e 1 V n (xs.set i u) := by
  rcases h.2 with ⟨_, h0⟩ | ⟨b, c, cur, rfl, hb, hg, hn, hm, hs, ht⟩
  · omega
  have hB : Bk e w b cur.toList := by unfold Bk; simpa using hg
  refine ⟨b, c, rfl, hb, ?_, hB.f i, hB.lt, fun u => ?_⟩
  · rw [hB.c, ← ht, List.getElem?_take_of_lt (by omega)]
  · refine ⟨by rw [List.length_set]; exact h.1, .inr ⟨b, c, (cur.toList.set i u).toArray, rfl, hb, hB.set_ i u, hn, hm, by simp; simpa using hs, ?_⟩⟩
    rw [List.toList_toArray, ← ht, List.take_set]
theorem seq_lt {S : Nat → Prop} {w : World} {A : Option Addr} {vs : List Value} (h : Seq S w A vs) : Seq (fun b => b < w.heap.size) w A vs := fun hp => by
  obtain ⟨b, off, h1, h2, h3, h4⟩ := h hp
  exact ⟨b, off, h1, h3, h3, h4⟩
theorem mine_lt {w : World} {base n c : Nat} {A : Option Addr} {r : List Int} (h : MineT 2 w base (.slice A n c) r) : SInts (fun b => b < w.heap.size) w A r := seq_lt (mine_S h)
/-- The numbers with the one at k made greater by one. -/
def inc (l : List Int) (k : Nat) : List Int := l.set k (wrap64 (l.getD k 0 + 1))
theorem inc_len (l : List Int) (k : Nat) : (inc l k).length = l.length := by simp [inc]
theorem inc_R {l : List Int} (h : AllR l) (k : Nat) : AllR (inc l k) := fun x hx => by
  rcases List.mem_or_eq_of_mem_set hx with h1 | h1
  · exact h x h1
  · subst h1
    rw [Sc.wrap_def]
    unfold Sc.InR
    omega
theorem ans_far {c : Int} {s : Bool} {back look : Nat} {l : List Int} {k e : Nat} (h : e + look < k ∨ k + back < e) : ansN c s back look (inc l k) e = ansN c s back look l e := by
  unfold ansN inc
  rcases h with h | h
  · rw [List.take_set_of_le (by omega)]
  · rw [List.take_set, List.drop_set_of_lt (by omega)]
theorem lit_grown {w w' : World} {o : Obj} {n c : Nat} (h : (w.alloc o).grownBy w' (Value.slice (some ⟨w.heap.size, 0, none⟩) n c).ownBlock) : Below w.heap.size w w' :=
  ((Turn.of_below (fun b => b = w.heap.size) (below_new w o)).trans (Turn.of_grown h fun g e => by simp [Value.ownBlock] at e; exact e.symm)).below (Nat.le_refl _) fun i hi => Nat.le_of_eq hi.symm
theorem inc_map {l : List Int} {k : Nat} {x : Int} (h : l.getD k 0 = x) : (l.map (Value.int .i64)).set k (.int .i64 (wrap64 (x + 1))) = (inc l k).map (Value.int .i64) := by
  unfold inc
  rw [h, List.map_set]
/-- The number at a place of a row of one's own. -/
theorem mine_at {w : World} {base n c : Nat} {A : Option Addr} {r : List Int} (h : MineT 2 w base (.slice A n c) r) {j : Nat} {x : Int} (hj : r[j]? = some x) : ∃ b off, A = some ⟨b, off, none⟩ ∧ w.cell? ⟨b, off + j, none⟩ = some (.int .i64 x) := by
  obtain ⟨b, off, h1, h2, h3, h4⟩ := (mine_S h).one (j := j) (u := .int .i64 x) (by rw [List.getElem?_map, hj]; rfl)
  exact ⟨b, off, h1, h4⟩
theorem allN_at {c : Int} {s : Bool} {back look : Nat} {l : List Int} {n j : Nat} (h : j < n) : (allN c s back look l n)[j]? = some (ansN c s back look l j) := by simp [allN, h]
set_option maxHeartbeats 8000000 in
theorem hangs_yes (c : Int) (s : Bool) (back look : Nat) (wd : Int) (A : Option Addr) (cA : Nat) (l : List Int) (u : Int) (w : World) (h0 : 0 < w.heap.size) (hT : Sc.Tab w) (hV : SInts (fun b => b < w.heap.size) w A l) (hR : AllR l) (hl : l.length ≤ 60) (hl0 : 0 < l.length) (hu0 : 0 ≤ u) (hu1 : u < 18446744073709551616) (h2 : Sc.hasB c 2 = true) (hbl : back + look ≤ 31) :
    Calls Tryd.prog 9 #[.agg #[.int .i64 c, .bool s, .int .i64 (back : Nat), .int .i64 (look : Nat), .int .i64 wd], .slice A l.length cA, .int .u64 u] w fun e w' => e = .returned (.bool true) ∧ Below w.heap.size w w' := by
  have b0 := below_new w (.cells #[.int .i64 c, .bool s, .int .i64 (back : Nat), .int .i64 (look : Nat), .int .i64 wd] 45)
  have BN := Lib.hid (Bk.new 45 w [.int .i64 c, .bool s, .int .i64 (back : Nat), .int .i64 (look : Nat), .int .i64 wd])
  have T1 := Lib.hid (hT.below b0)
  have V1 := Lib.hid (seq_lt (hV.next b0))
  have L0 := Lib.hid b0
  have H0 := Lib.hid (Nat.lt_of_lt_of_le h0 b0.size)
  have HR := Lib.hid hR
  have H2 := Lib.hid h2
  have t1 : decide ((l.length : Int) > 60) = false := decide_eq_false (by omega)
  have e0 : ((l.length : Int) == 0) = false := by simp; intro h; simp [h] at hl0
  obtain ⟨k, hk⟩ : ∃ k : Nat, u.tmod (l.length : Int) = k := ⟨(u.tmod l.length).toNat, by rw [Int.tmod_eq_emod_of_nonneg hu0]; have := Int.emod_nonneg u (show (l.length : Int) ≠ 0 by omega); omega⟩
  have hkl : k < l.length := by rw [Int.tmod_eq_emod_of_nonneg hu0] at hk; have := Int.emod_lt_of_pos u (show (0 : Int) < l.length by omega); omega
  have HK := Lib.hid hk
  clear b0 h0 hT hV hR h2
  obtain ⟨x0, x1, x2, x3, x4⟩ := of_cells BN.out
  go_enter Tryd.func9, Tryd.ntmps9
  go_wp2_with fail
  generalize hW1 : w.alloc (.cells #[.int .i64 c, .bool s, .int .i64 (back : Nat), .int .i64 (look : Nat), .int .i64 wd] 45) = w1 at *
  clear hW1
  refine (answers_yes c s back look wd A cA l w1 H0.out T1.out V1.out HR.out hl H2.out hbl).mono ?_
  rintro r w2 ⟨A2, c2, mo, rfl, m2, hmo, hb2⟩
  have M2 := Lib.hid m2
  have L2 := Lib.hid hb2
  have J2 := Lib.hid (own_empty w2 2 1 w2.heap.size w2.heap.size rfl (Nat.le_refl _))
  have V2 := Lib.hid ((Seq.next V1.out hb2).next (below_new w2 (.cells #[] 2)))
  have TN : Hid (0 + l.length ≤ 100000) := Lib.hid (by omega)
  have LB : Hid (w2.heap.size ≤ (w2.alloc (.cells #[] 2)).heap.size) := Lib.hid (by simp)
  obtain ⟨x, hx⟩ : ∃ x, l.getD k 0 = x := ⟨_, rfl⟩
  have HX : Hid ((l.map (Value.int .i64))[k]? = some (.int .i64 x)) := Lib.hid (by rw [List.getElem?_map, ← hx, List.getD_eq_getElem?_getD, List.getElem?_eq_getElem hkl]; rfl)
  have HXE := Lib.hid hx
  have k0 : (0 : Int) ≤ (k : Int) := by omega
  have k1 : (k : Int) < (l.length : Int) := by omega
  clear m2 hb2 x0 x1 x2 x3 x4 t1 e0 hx
  go_wp2_with (at_builtin; refine wpList_appS infoN rfl (by decide) (by decide) Tryd.underlying27 rfl (.tmp 57) (.tmp 58) rfl w2.heap.size _ 0 [] rfl J2.out _ A l.length cA (l.map (Value.int .i64)) rfl (by simp) V2.out (ints_one l) TN.out LB.out ?_; intro v4 w4 hv4 hg4 ha4; rw [Nat.zero_add, List.nil_append] at hv4; obtain ⟨b4, d4, rfl, hb4, hc4, hf4, hlt4, hs4⟩ := own_put hv4 (i := k) hkl; rw [HX.out] at hc4; have S4 := Lib.hid hs4; have G4 := Lib.hid (lit_grown hg4); have B4 := Lib.hid hb4; have q1 : ¬ w.heap.size = b4 := (by have h1 := BN.out.lt; have h2 := L2.out.size; omega); have q2 : ¬ b4 = w.heap.size := (fun e => q1 e.symm); obtain ⟨x0, x1, x2, x3, x4⟩ := of_cells (BN.out.next (below_next L2.out G4.out)); clear hv4 hg4 ha4 hs4 hb4)
  have hg : Below w2.heap.size w2 (w4.setCell ⟨b4, k, none⟩ (.int .i64 (wrap64 (x + 1)))) := G4.out.setCell (p := ⟨b4, k, none⟩) B4.out _
  have MI := Lib.hid (show MineT 2 (w4.setCell ⟨b4, k, none⟩ (.int .i64 (wrap64 (x + 1)))) w2.heap.size (.slice (some ⟨b4, 0, none⟩) l.length d4) (inc l k) by
    have h := S4.out (.int .i64 (wrap64 (x + 1)))
    rw [inc_map HXE.out] at h
    show World.ownsRow _ _ _ _ _ (inc l k).length _
    rw [inc_len]
    exact h)
  have L6 := Lib.hid (below_next L2.out hg)
  have M6 := Lib.hid (own_below M2.out hg)
  generalize w4.setCell ⟨b4, k, none⟩ (.int .i64 (wrap64 (x + 1))) = w6 at *
  have AN := answers_yes c s back look wd (some ⟨b4, 0, none⟩) d4 (inc l k) w6 (Nat.lt_of_lt_of_le H0.out L6.out.size) (T1.out.below L6.out) (mine_lt MI.out) (inc_R HR.out k) (by rw [inc_len]; exact hl) H2.out hbl
  unfold RetAw at AN
  rw [inc_len] at AN
  have ANH := Lib.hid AN
  clear AN S4 G4 x0 x1 x2 x3 x4 q1 q2 hg
  go_wp2_with fail
  refine ANH.out.mono ?_
  rintro r w7 ⟨A7, c7, mo7, rfl, m7, -, hb7⟩
  have M7 := Lib.hid m7
  have M67 := Lib.hid (own_below M6.out hb7)
  have L7 := Lib.hid (below_next L6.out hb7)
  obtain ⟨x0, x1, x2, x3, x4⟩ := of_cells (BN.out.next L7.out)
  have tm : decide ((mo : Int) > 2 * ((back : Int) + (look : Int) + 1)) = false := decide_eq_false (by omega)
  have tm2 : decide (2 * ((back : Int) + (look : Int) + 1) < (mo : Int)) = false := decide_eq_false (by omega)
  have tm3 : decide (2 * (back + look + 1) < mo) = false := decide_eq_false (by omega)
  have PA : Hid (Below w7.heap.size w7 w7) := Lib.hid (Below.refl _ _)
  have e5 : IntKind.i64.wrap ((k : Int) - (look : Int)) = (k : Int) - (look : Int) := IntWalk.i64_in _ (by omega)
  have e6 : IntKind.i64.wrap ((k : Int) + (back : Int)) = (k : Int) + (back : Int) := IntWalk.i64_in _ (by omega)
  clear m7 hb7 ANH MI M6
  go_wp2
  clear tm tm2 tm3
  go_loopw [17] (fun i wr => ∃ j : Nat, j ≤ l.length ∧ i = .int .i64 j ∧ Hid (Below w7.heap.size w7 wr)) (fun i _ => l.length - (intOf i).toNat)
  case atStart => exact ⟨0, Nat.zero_le _, rfl, PA⟩
  case round =>
    obtain ⟨j, hj, rfl, HB⟩ := hrel
    clear PA
    by_cases hlt : j < l.length
    · have i1 : (j : Int) < (l.length : Int) := by omega
      have i0 : (0 : Int) ≤ (j : Int) := by omega
      obtain ⟨p, hp⟩ : ∃ p, ansN c s back look l j = p := ⟨_, rfl⟩
      obtain ⟨q, hq⟩ : ∃ q, ansN c s back look (inc l k) j = q := ⟨_, rfl⟩
      obtain ⟨ba, oa, rfl, ca⟩ := mine_at (own_below M67.out HB.out) (j := j) (x := p) (by rw [allN_at hlt, hp])
      obtain ⟨bb, ob, rfl, cb⟩ := mine_at (own_below M7.out HB.out) (j := j) (x := q) (by rw [allN_at hlt, hq])
      obtain ⟨y0, y1, y2, y3, y4⟩ := of_cells (BN.out.next (below_next L7.out HB.out))
      clear x0 x1 x2 x3 x4
      by_cases hne : p = q
      · have e1 : (p != q) = false := by simp [hne]
        clear hp hq hne
        go_wp2_with fail
        go_region
        all_goals
          have PA := Lib.hid HB.out.drew
          go_wp2
          exact ⟨⟨j + 1, by omega, by go_num, PA⟩, by simp [intOf]; omega⟩
      · have e1 : (p != q) = true := by simp [hne]
        have hf : ¬ (j + look < k ∨ k + back < j) := fun h => hne (by rw [← hp, ← hq]; exact (ans_far h).symm)
        have t2 : decide ((j : Int) < (k : Int) - (look : Int)) = false := decide_eq_false (by omega)
        have t3 : decide ((j : Int) > (k : Int) + (back : Int)) = false := decide_eq_false (by omega)
        clear hp hq hne hf
        go_wp2_with fail
        go_region
        all_goals
          have PA := Lib.hid HB.out.drew
          go_wp2
          exact ⟨⟨j + 1, by omega, by go_num, PA⟩, by simp [intOf]; omega⟩
    · obtain rfl : j = l.length := by omega
      have L8 := Lib.hid (below_next L7.out HB.out)
      clear HB
      go_wp2_with fail
      refine (lives_any _ (T1.out.below L8.out) (Nat.lt_of_lt_of_le H0.out L8.out.size)).mono ?_
      rintro r w9 ⟨rfl, hb9⟩
      have L9 := Lib.hid (below_next (below_next L0.out L8.out) hb9)
      clear hb9
      go_wp2
      go_ret
      exact ⟨rfl, L9.out⟩
set_option maxHeartbeats 2000000 in
theorem hangs_small (c : Int) (s : Bool) (bk lk wd : Int) (A : Option Addr) (cA : Nat) (l : List Int) (u : Int) (w : World) (h0 : 0 < w.heap.size) (hT : Sc.Tab w) (h : decide ((l.length : Int) > 60) = true ∨ (decide ((l.length : Int) > 60) = false ∧ ((l.length : Int) == 0) = true)) :
    Calls Tryd.prog 9 #[.agg #[.int .i64 c, .bool s, .int .i64 bk, .int .i64 lk, .int .i64 wd], .slice A l.length cA, .int .u64 u] w fun e w' => e = .returned (.bool true) ∧ Below w.heap.size w w' := by
  have b0 := below_new w (.cells #[.int .i64 c, .bool s, .int .i64 bk, .int .i64 lk, .int .i64 wd] 45)
  have T1 := Lib.hid (hT.below b0)
  have L0 := Lib.hid b0
  have H0 := Lib.hid (Nat.lt_of_lt_of_le h0 b0.size)
  clear b0 h0 hT
  rcases h with t1 | ⟨t1, t2⟩
  all_goals
    go_enter Tryd.func9, Tryd.ntmps9
    go_wp2_with fail
    refine (lives_any _ T1.out H0.out).mono ?_
    rintro r w5 ⟨rfl, hb5⟩
    have L5 := Lib.hid (below_next L0.out hb5)
    clear hb5
    go_wp2
    go_ret
    exact ⟨rfl, L5.out⟩
set_option maxHeartbeats 2000000 in
theorem hangs_none (c : Int) (s : Bool) (bk lk wd : Int) (A : Option Addr) (cA : Nat) (l : List Int) (u : Int) (w : World) (h0 : 0 < w.heap.size) (hT : Sc.Tab w) (hbR : Sc.InR bk) (hw : whyW c bk lk 1 ≠ 0) (t1 : decide ((l.length : Int) > 60) = false) (t2 : ((l.length : Int) == 0) = false) :
    Calls Tryd.prog 9 #[.agg #[.int .i64 c, .bool s, .int .i64 bk, .int .i64 lk, .int .i64 wd], .slice A l.length cA, .int .u64 u] w fun e w' => e = .returned (.bool true) ∧ Below w.heap.size w w' := by
  have b0 := below_new w (.cells #[.int .i64 c, .bool s, .int .i64 bk, .int .i64 lk, .int .i64 wd] 45)
  have BN := Lib.hid (Bk.new 45 w [.int .i64 c, .bool s, .int .i64 bk, .int .i64 lk, .int .i64 wd])
  have T1 := Lib.hid (hT.below b0)
  have L0 := Lib.hid b0
  have H0 := Lib.hid (Nat.lt_of_lt_of_le h0 b0.size)
  have AN := Lib.hid (fun V W (h : Sc.Tab W) => answers_no c s bk lk wd V W h hbR hw)
  have NN := Lib.hid (fun W (h : Sc.Tab W) => new_no c s bk lk 1 W h hbR hw)
  obtain ⟨y, hy⟩ : ∃ y, whyW c bk lk 1 = y := ⟨_, rfl⟩
  rw [hy] at NN hw
  have e1 : (y != 0) = true := by simpa using hw
  clear b0 h0 hT hw hy hbR
  obtain ⟨x0, x1, x2, x3, x4⟩ := of_cells BN.out
  go_enter Tryd.func9, Tryd.ntmps9
  go_wp2_with fail
  refine (AN.out _ _ T1.out).mono ?_
  rintro r w2 ⟨rfl, hb2⟩
  have L2 := Lib.hid (below_next L0.out hb2)
  have T2 := Lib.hid (T1.out.below hb2)
  have H2 := Lib.hid (Nat.lt_of_lt_of_le H0.out hb2.size)
  obtain ⟨y0, y1, y2, y3, y4⟩ := of_cells (BN.out.next hb2)
  clear hb2 x0 x1 x2 x3 x4
  go_wp2_with fail
  refine (NN.out _ T2.out).mono ?_
  rintro r w3 ⟨rfl, hb3⟩
  have L3 := Lib.hid (below_next L2.out hb3)
  have LV := Lib.hid (lives_any _ (T2.out.below hb3) (Nat.lt_of_lt_of_le H2.out hb3.size))
  clear hb3 y0 y1 y2 y3 y4
  go_wp2_with fail
  refine LV.out.mono ?_
  rintro r w5 ⟨rfl, hb5⟩
  have L5 := Lib.hid (below_next L3.out hb5)
  clear hb5
  go_wp2
  go_ret
  exact ⟨rfl, L5.out⟩
theorem hangs_any (c : Int) (s : Bool) (bk lk wd : Int) (A : Option Addr) (cA : Nat) (l : List Int) (u : Int) (w : World) (h0 : 0 < w.heap.size) (hT : Sc.Tab w) (hbR : Sc.InR bk) (hV : SInts (fun b => b < w.heap.size) w A l) (hR : AllR l) (hm : l.length ≤ maxLen) (hu0 : 0 ≤ u) (hu1 : u < 18446744073709551616) :
    Calls Tryd.prog 9 #[.agg #[.int .i64 c, .bool s, .int .i64 bk, .int .i64 lk, .int .i64 wd], .slice A l.length cA, .int .u64 u] w fun e w' => e = .returned (.bool true) ∧ Below w.heap.size w w' := by
  by_cases h1 : l.length > 60
  · exact hangs_small c s bk lk wd A cA l u w h0 hT (.inl (decide_eq_true (by omega)))
  · have t1 : decide ((l.length : Int) > 60) = false := decide_eq_false (by omega)
    by_cases h2 : l.length = 0
    · exact hangs_small c s bk lk wd A cA l u w h0 hT (.inr ⟨t1, by simp [h2]⟩)
    · have t2 : ((l.length : Int) == 0) = false := by simp; intro h; exact h2 (by simp [h])
      by_cases hw : whyW c bk lk 1 = 0
      · obtain ⟨_, _, h3, h4, h5, h6⟩ := why_yes hw
        obtain ⟨back, rfl⟩ : ∃ k : Nat, bk = k := ⟨bk.toNat, by omega⟩
        obtain ⟨look, rfl⟩ : ∃ k : Nat, lk = k := ⟨lk.toNat, by omega⟩
        exact hangs_yes c s back look wd A cA l u w h0 hT hV hR (by omega) (by omega) hu0 hu1 h3 (by omega)
      · exact hangs_none c s bk lk wd A cA l u w h0 hT hbR hw t1 t2
theorem ints_lt {w : World} {A : Option Addr} {l : List Int} (h : Ints w A l) : SInts (fun b => b < w.heap.size) w A l := Ints.sints h fun b off _ hb => hb
theorem uint_bd {n : Int} (h : (Lit.int .u64 n).wf = true) : 0 ≤ n ∧ n < 18446744073709551616 := by
  simp [Lit.wf, IntKind.min, IntKind.max, IntKind.signed, IntKind.bits, Bool.and_eq_true, decide_eq_true_eq] at h
  omega
end Go.Proofs.YtfamgaakcbinkaaDoor.Wn
