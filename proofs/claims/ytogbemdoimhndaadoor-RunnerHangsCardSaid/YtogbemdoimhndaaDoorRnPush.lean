/-
  What Push of package runner does to a runner, and what it answers. Conditions: the table of traits holds what its text lays; the numbers have 64 bits; the row lies apart from the runner.
-/
import Derived.Test.YtogbemdoimhndaaDoorRnOps
namespace Go.Proofs.YtogbemdoimhndaaDoor.Rn
open Go.Proofs.YtogbemdoimhndaaDoor.Sh Go.Proofs.YtogbemdoimhndaaDoor.St Go.Proofs.YtogbemdoimhndaaDoor.Fd
open Go.RowKit
set_option linter.unusedVariables false

/-- What a push tells, and what the runner is behind it. -/
def RetPush (base g : Nat) (V : Value) (c : Int) (s : Bool) (k : Nat) (xs : List Int) (w : World) (e : Ending) (w' : World) : Prop :=
  ∃ A cap, e = .returned (.tuple #[.slice A xs.length cap, .int .i64 0]) ∧ MineT 2 w' w.heap.size (.slice A xs.length cap) xs ∧ Rn base w' g V c s k xs ∧ Turn (Tr g V) w w'
set_option maxHeartbeats 1000000 in
theorem push_len (base g : Nat) (V : Value) (c : Int) (s : Bool) (k : Nat) (xs : List Int) (A : Option Addr) (n cap : Nat) (w : World) (r : Rn base w g V c s k xs) (hn : ¬ n = xs.length) :
    Calls Tryd.prog 43 #[.pointer (some ⟨g, 0, none⟩), .slice A n cap] w fun e w' => e = .returned (.tuple #[.slice none 0 0, .int .i64 3]) ∧ w = w' := by
  obtain ⟨-, -, -, c3⟩ := r.all
  obtain ⟨A1, cap1, rfl, -⟩ := r.2.1.ints
  have e1 : ((n : Int) != (xs.length : Int)) = true := by simp; omega
  clear r hn
  go_enter Tryd.func43, Tryd.ntmps43
  go_wp2
  go_ret2
  exact ⟨rfl, rfl⟩
/-- The first j places are told, the others are as they were. -/
def mid (t xs : List Int) (j : Nat) : List Int := t.take j ++ xs.drop j
theorem mid_len {t xs : List Int} (h : t.length = xs.length) {j : Nat} (hj : j ≤ xs.length) : (mid t xs j).length = xs.length := by simp [mid]; omega
theorem mid_zero (t xs : List Int) : mid t xs 0 = xs := by simp [mid]
theorem mid_all {t xs : List Int} (h : t.length = xs.length) : mid t xs xs.length = t := by simp [mid, ← h]
theorem mid_at {t xs : List Int} (h : t.length = xs.length) {j : Nat} (hj : j < xs.length) : (mid t xs j).getD j 0 = xs.getD j 0 := by
  unfold mid
  simp only [List.getD]
  rw [List.getElem?_append_right (by simp; omega), List.getElem?_drop]
  congr 2
  simp; omega
theorem mid_set {t xs : List Int} (h : t.length = xs.length) {j : Nat} (hj : j < xs.length) : (mid t xs j).set j (t.getD j 0) = mid t xs (j + 1) := by
  unfold mid
  have hl : (t.take j).length = j := by simp; omega
  rw [List.set_append_right _ _ (by omega), hl, Nat.sub_self, List.drop_eq_getElem_cons hj, List.set_cons_zero, Sh.take_snoc t j (by omega), List.append_assoc]
  rfl
theorem zip_at (f : Int → Int → Int) {xs y : List Int} {j : Nat} (h1 : j < xs.length) (h2 : j < y.length) : (List.zipWith f xs y).getD j 0 = f (xs.getD j 0) (y.getD j 0) := by
  have h3 : j < (List.zipWith f xs y).length := by simp; omega
  simp only [List.getD, List.getElem?_eq_getElem h1, List.getElem?_eq_getElem h2, List.getElem?_eq_getElem h3, Option.getD_some, List.getElem_zipWith]
theorem step_rn {base g : Nat} {V : Value} {c : Int} {s : Bool} {k : Nat} {xs : List Int} {w : World} {b cap n j : Nat} {y : Int} (r : Rn base w g V c s k xs) (hV : V = .slice (some ⟨b, 0, none⟩) n cap) (ho : V.ownBlock = some b) (hj : j < xs.length) : Rn base (w.setCell ⟨b, j, none⟩ (.int .i64 y)) g V c s k (xs.set j y) :=
  ⟨r.1.far (p := ⟨b, j, none⟩) (fun e => r.ne (by rw [ho, e])) _, mine_set r.2.1 hV hj y, r.2.2⟩
/-- At the head of the loop. -/
def PushAt (base : Nat) (w wr : World) (g : Nat) (V : Value) (c : Int) (s : Bool) (k : Nat) (xs : List Int) : Prop := Rn base wr g V c s k xs ∧ Turn (Tr g V) w wr
set_option maxHeartbeats 4000000 in
theorem push_first (base g : Nat) (V : Value) (c : Int) (s : Bool) (xs : List Int) (S : Nat → Prop) (A : Option Addr) (cap : Nat) (y : List Int) (w : World) (r : Rn base w g V c s 0 xs) (hi : SInts S w A y) (hS : ∀ b, S b → ¬ Tr g V b) (hl : y.length = xs.length) (hx : xs.length ≤ 1000) (hk : 0 ≤ 100000) (t : List Int) (ht : y = t) :
    Calls Tryd.prog 43 #[.pointer (some ⟨g, 0, none⟩), .slice A y.length cap] w (RetPush base g V c s (0 + 1) t w) := by
  have htl : t.length = xs.length := by rw [← ht]; exact hl
  have hta : ∀ j, j < xs.length → t.getD j 0 = y.getD j 0 := fun j hj => by rw [← ht]; skip
  have HTL := Lib.hid htl
  have HTA := Lib.hid hta
  have IY := Lib.hid hi
  have HSS := Lib.hid hS
  obtain ⟨-, -, c2, c3⟩ := r.all
  obtain ⟨A1, cap1, hV, -⟩ := r.2.1.ints
  have HV := Lib.hid hV
  have e1 : (((y.length : Nat) : Int) != (xs.length : Int)) = false := by simp [hl]
  have c2' : w.cell? ⟨g, 2, none⟩ = some (.int .i64 0) := c2
  clear c2
  have c2 := c2'
  clear c2'
  have PA : Hid (PushAt base w w g V c s 0 (mid t xs 0)) := Lib.hid ⟨by rw [mid_zero]; exact r, Turn.refl _ _⟩
  have HYL := Lib.hid hl
  rw [hV] at c3
  clear r hi hS ht htl hta hV hl
  go_enter Tryd.func43, Tryd.ntmps43
  go_wp2
  clear c2 c3
  go_loopw [32] (fun i wr => ∃ j : Nat, j ≤ y.length ∧ i = .int .i64 j ∧ Hid (PushAt base w wr g V c s 0 (mid t xs j))) (fun i _ => y.length - (intOf i).toNat)
  case atStart => exact ⟨0, Nat.zero_le _, rfl, PA⟩
  case round =>
    obtain ⟨j, hj, rfl, HP⟩ := hrel
    by_cases hlt : j < y.length
    · obtain ⟨p1, p2⟩ := HP.out
      have hjx : j < xs.length := by have := HYL.out; omega
      obtain ⟨-, -, -, c3⟩ := p1.all
      have hml := mid_len (t := t) (xs := xs) HTL.out (j := j) (by omega)
      obtain ⟨b, cap2, hV2, ho, hbl, hcell, hfr⟩ := mine_at p1.2.1 (j := j) (by omega)
      obtain ⟨by', oy, rfl, hSy, hyl, hyc⟩ := (IY.out.turn p2 (fun b hb => HSS.out b hb)) (by simpa using (show 0 < y.length by omega))
      have hy : wr.cell? ⟨by', oy + j, none⟩ = some (.int .i64 (y.getD j 0)) := hyc j _ (by simp [List.getD, hlt])
      have i1 : (j : Int) < (y.length : Int) := by omega
      have j0 : (0 : Int) ≤ (j : Int) := by omega
      have j1 : (j : Int) < (xs.length : Int) := by omega
      rw [hml] at hV2
      rw [hV2] at c3
      have HV2 := Lib.hid hV2
      have HO := Lib.hid ho
      have P1 := Lib.hid p1
      have P2 := Lib.hid p2
      have HML := Lib.hid hml
      have HT := Lib.hid (HTA.out j hjx)
      have MA := Lib.hid (mid_at (t := t) (xs := xs) HTL.out hjx)
      have MS := Lib.hid (mid_set (t := t) (xs := xs) HTL.out hjx)
      obtain ⟨z, hz⟩ : ∃ z, y.getD j 0 = z := ⟨_, rfl⟩
      rw [hz] at hy HT 
      clear hz hV2 ho hml p1 p2 hyc HP
      go_wp2_with fail
      go_region_with (go_at_call 90; (with_reducible refine (start_any g _ _ _).mono ?_); rintro r w5 ⟨rfl, rfl⟩)
      all_goals
        go_wp2
        refine ⟨⟨j + 1, by omega, by go_num, Lib.hid ?_⟩, by simp [intOf]; omega⟩
        rw [← MS.out, HT.out]
        exact ⟨step_rn P1.out HV2.out HO.out (by rw [HML.out]; exact hjx), Turn.setCell (p := ⟨b, j, none⟩) P2.out (.inl (.inr HO.out)) _⟩
    · obtain rfl : j = y.length := by omega
      obtain ⟨p1, p2⟩ := HP.out
      rw [show y.length = xs.length from HYL.out, mid_all HTL.out] at p1
      obtain ⟨-, -, c2, c3⟩ := p1.all
      have hfz := p1.froz
      have T1 := Turn.setCell (p := ⟨g, 2, none⟩) (Turn.refl (fun i => i = g) wr) (.inl rfl) (.int .i64 (((0 : Nat) : Int) + 1))
      have R1 : Rn base (wr.setCell ⟨g, 2, none⟩ (.int .i64 (((0 : Nat) : Int) + 1))) g V c s (0 + 1) t := ⟨by
        have h := Bk.set_ p1.1 2 (.int .i64 (((0 : Nat) : Int) + 1))
        have e : (((0 + 1 : Nat)) : Int) = ((0 : Nat) : Int) + 1 := by simp
        rw [e]; exact h, own_turn p1.2.1 T1 (fun b hb e => p1.ne (by rw [hb, e])), p1.2.2⟩
      obtain ⟨A3, cap3, hV3, hi3⟩ := R1.2.1.ints
      have CL := Lib.hid (clone64_any A3 cap3 t _ (by rw [HTL.out]; exact hx) hi3)
      have RR := Lib.hid R1
      have TT := Lib.hid (Turn.setCell (p := ⟨g, 2, none⟩) p2 (.inl (.inl rfl)) (.int .i64 (((0 : Nat) : Int) + 1)))
      rw [hV3] at c3
      have HV3 := Lib.hid hV3
      have kb : ((0 : Nat) : Int) ≤ 100000 := by omega
      clear p1 p2 hi3 HP T1 R1 hV3
      go_wp2_with fail
      refine CL.out.mono ?_
      rintro r w2 ⟨B, c', rfl, hm, hb⟩
      have M := Lib.hid hm
      have K := Lib.hid hb
      clear hm hb
      go_wp2
      go_ret2
      exact ⟨B, c', rfl, M.out.mono TT.out.size, RR.out.next K.out, TT.out.next K.out⟩
set_option maxHeartbeats 4000000 in
theorem push_more (base g : Nat) (V : Value) (c : Int) (s : Bool) (k : Nat) (xs : List Int) (S : Nat → Prop) (A : Option Addr) (cap : Nat) (y : List Int) (w : World) (r : Rn base w g V c s k xs) (hi : SInts S w A y) (hS : ∀ b, S b → ¬ Tr g V b) (hl : y.length = xs.length) (hx : xs.length ≤ 1000) (hk : k ≤ 100000) (t : List Int) (ht : (List.zipWith (Sc.doI c s) xs y) = t) (hk0 : 0 < k) (hT : ∀ W, Below base w W → Sc.Tab W) (hyR : AllR y) (hxR : AllR xs) :
    Calls Tryd.prog 43 #[.pointer (some ⟨g, 0, none⟩), .slice A y.length cap] w (RetPush base g V c s (k + 1) t w) := by
  have htl : t.length = xs.length := by rw [← ht]; simp; omega
  have hta : ∀ j, j < xs.length → t.getD j 0 = Sc.doI c s (xs.getD j 0) (y.getD j 0) := fun j hj => by rw [← ht]; exact zip_at _ hj (by omega)
  have HTL := Lib.hid htl
  have HTA := Lib.hid hta
  have IY := Lib.hid hi
  have HLT := Lib.hid r.lt
  have hbase := Nat.le_trans r.2.2 (Nat.le_of_lt r.1.lt)
  have HSS := Lib.hid hS
  obtain ⟨-, -, c2, c3⟩ := r.all
  obtain ⟨A1, cap1, hV, -⟩ := r.2.1.ints
  have HV := Lib.hid hV
  have e1 : (((y.length : Nat) : Int) != (xs.length : Int)) = false := by simp [hl]
  have e2 : ((k : Int) == 0) = false := by simp; omega
  have PA : Hid (PushAt base w w g V c s k (mid t xs 0)) := Lib.hid ⟨by rw [mid_zero]; exact r, Turn.refl _ _⟩
  have HYL := Lib.hid hl
  rw [hV] at c3
  clear r hi hS ht htl hta hV hl
  go_enter Tryd.func43, Tryd.ntmps43
  go_wp2
  clear c2 c3
  go_loopw [32] (fun i wr => ∃ j : Nat, j ≤ y.length ∧ i = .int .i64 j ∧ Hid (PushAt base w wr g V c s k (mid t xs j))) (fun i _ => y.length - (intOf i).toNat)
  case atStart => exact ⟨0, Nat.zero_le _, rfl, PA⟩
  case round =>
    obtain ⟨j, hj, rfl, HP⟩ := hrel
    by_cases hlt : j < y.length
    · obtain ⟨p1, p2⟩ := HP.out
      have hjx : j < xs.length := by have := HYL.out; omega
      obtain ⟨-, -, -, c3⟩ := p1.all
      have hml := mid_len (t := t) (xs := xs) HTL.out (j := j) (by omega)
      obtain ⟨b, cap2, hV2, ho, hbl, hcell, hfr⟩ := mine_at p1.2.1 (j := j) (by omega)
      obtain ⟨by', oy, rfl, hSy, hyl, hyc⟩ := (IY.out.turn p2 (fun b hb => HSS.out b hb)) (by simpa using (show 0 < y.length by omega))
      have hy : wr.cell? ⟨by', oy + j, none⟩ = some (.int .i64 (y.getD j 0)) := hyc j _ (by simp [List.getD, hlt])
      have i1 : (j : Int) < (y.length : Int) := by omega
      have j0 : (0 : Int) ≤ (j : Int) := by omega
      have j1 : (j : Int) < (xs.length : Int) := by omega
      rw [hml] at hV2
      rw [hV2] at c3
      have HV2 := Lib.hid hV2
      have HO := Lib.hid ho
      have P1 := Lib.hid p1
      have P2 := Lib.hid p2
      have HML := Lib.hid hml
      have HT := Lib.hid (HTA.out j hjx)
      have MA := Lib.hid (mid_at (t := t) (xs := xs) HTL.out hjx)
      have MS := Lib.hid (mid_set (t := t) (xs := xs) HTL.out hjx)
      have JN := Lib.hid (fun W (hb : Below wr.heap.size wr W) => join_any base g V c s k (mid t xs j) j (y.getD j 0) W (hT W ((P2.out.below hbase (fun i hi => (HLT.out i hi).2)).trans (hb.mono (Nat.le_trans hbase P2.out.size)))) (P1.out.next hb) (by rw [hml]; exact hjx) (by rw [MA.out]; exact hxR.at j) (hyR.at j))
      rw [MA.out] at JN
      obtain ⟨z, hz⟩ : ∃ z, y.getD j 0 = z := ⟨_, rfl⟩
      rw [hz] at hy HT JN
      obtain ⟨u, hu⟩ : ∃ u, Sc.doI c s (xs.getD j 0) z = u := ⟨_, rfl⟩
      rw [hu] at HT JN
      clear hu
      clear hz hV2 ho hml p1 p2 hyc HP
      go_wp2_with fail
      go_region_with (go_at_call 89; (with_reducible refine (JN.out _ (Below.refl _ _).drew).mono ?_); rintro r w5 ⟨rfl, hb5⟩; have K5 := Lib.hid (below_next (Below.refl wr.heap.size wr).drew hb5); have q3 := (hb5.cell (p := ⟨g, 3, none⟩) (World.block_lt_of_cell? _ _ c3)).trans c3; have qc := (hb5.cell (p := ⟨b, j, none⟩) (World.block_lt_of_cell? _ _ hcell)).trans hcell; have qf := (hb5.frozen (p := ⟨b, j, none⟩) (World.block_lt_of_cell? _ _ hcell)).trans hfr; clear hb5)
      all_goals
        go_wp2
        refine ⟨⟨j + 1, by omega, by go_num, Lib.hid ?_⟩, by simp [intOf]; omega⟩
        rw [← MS.out, HT.out]
        exact ⟨step_rn (P1.out.next K5.out) HV2.out HO.out (by rw [HML.out]; exact hjx), Turn.setCell (p := ⟨b, j, none⟩) (P2.out.next K5.out) (.inl (.inr HO.out)) _⟩
    · obtain rfl : j = y.length := by omega
      obtain ⟨p1, p2⟩ := HP.out
      rw [show y.length = xs.length from HYL.out, mid_all HTL.out] at p1
      obtain ⟨-, -, c2, c3⟩ := p1.all
      have hfz := p1.froz
      have T1 := Turn.setCell (p := ⟨g, 2, none⟩) (Turn.refl (fun i => i = g) wr) (.inl rfl) (.int .i64 ((k : Int) + 1))
      have R1 : Rn base (wr.setCell ⟨g, 2, none⟩ (.int .i64 ((k : Int) + 1))) g V c s (k + 1) t := ⟨by
        have h := Bk.set_ p1.1 2 (.int .i64 ((k : Int) + 1))
        have e : (((k + 1 : Nat)) : Int) = (k : Int) + 1 := by simp
        rw [e]; exact h, own_turn p1.2.1 T1 (fun b hb e => p1.ne (by rw [hb, e])), p1.2.2⟩
      obtain ⟨A3, cap3, hV3, hi3⟩ := R1.2.1.ints
      have CL := Lib.hid (clone64_any A3 cap3 t _ (by rw [HTL.out]; exact hx) hi3)
      have RR := Lib.hid R1
      have TT := Lib.hid (Turn.setCell (p := ⟨g, 2, none⟩) p2 (.inl (.inl rfl)) (.int .i64 ((k : Int) + 1)))
      rw [hV3] at c3
      have HV3 := Lib.hid hV3
      have kb : (k : Int) ≤ 100000 := by omega
      clear p1 p2 hi3 HP T1 R1 hV3
      go_wp2_with fail
      refine CL.out.mono ?_
      rintro r w2 ⟨B, c', rfl, hm, hb⟩
      have M := Lib.hid hm
      have K := Lib.hid hb
      clear hm hb
      go_wp2
      go_ret2
      exact ⟨B, c', rfl, M.out.mono TT.out.size, RR.out.next K.out, TT.out.next K.out⟩
end Go.Proofs.YtogbemdoimhndaaDoor.Rn
