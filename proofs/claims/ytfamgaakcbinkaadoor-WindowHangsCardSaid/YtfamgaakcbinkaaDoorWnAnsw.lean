/-
  What rifflelaw15.answers tells: all answers of a window of one number a row. Conditions: the table of traits holds what its text lays; at most 60 numbers of 64 bits.
-/
import Derived.Test.YtfamgaakcbinkaaDoorWnFree
import Derived.Test.YtfamgaakcbinkaaDoorWnPlays
set_option maxRecDepth 100000
namespace Go.Proofs.YtfamgaakcbinkaaDoor.Wn
open Go.Proofs.YtfamgaakcbinkaaDoor.Sh Go.Proofs.YtfamgaakcbinkaaDoor.St Go.Proofs.YtfamgaakcbinkaaDoor.Fd
open Go.RowKit
set_option linter.unusedVariables false

theorem mine_S {w : World} {base n c : Nat} {A : Option Addr} {r : List Int} (h : MineT 2 w base (.slice A n c) r) : SInts (fun b => base ≤ b) w A r := by
  obtain ⟨B, d, e, h1, h2, h3⟩ := mine_row h
  injection e with e1 e2 e3
  subst e1
  exact h3
theorem own_more {w : World} {base k m : Nat} {v : Value} {xs ys : List Int} (h : w.ownsRow base 2 1 v (k + m) (xs.map (Value.int .i64) ++ ys.map (Value.int .i64))) (hk : xs.length = k) (hm : ys.length = m) : MineT 2 w base v (xs ++ ys) := by
  subst hk hm
  show w.ownsRow base 2 1 v (xs ++ ys).length ((xs ++ ys).map (Value.int .i64))
  rw [List.length_append, List.map_append]
  exact h
/-- The answer to the row e of numbers l. -/
def ansN (c : Int) (s : Bool) (back look : Nat) (l : List Int) (e : Nat) : Int := rowV c s ((l.take (e + look + 1)).drop (e - back))
def allN (c : Int) (s : Bool) (back look : Nat) (l : List Int) (k : Nat) : List Int := (List.range k).map (ansN c s back look l)
theorem allN_len (c : Int) (s : Bool) (back look : Nat) (l : List Int) (k : Nat) : (allN c s back look l k).length = k := by simp [allN]
theorem allN_succ (c : Int) (s : Bool) (back look : Nat) (l : List Int) (k : Nat) : allN c s back look l (k + 1) = allN c s back look l k ++ [ansN c s back look l k] := by simp [allN, List.range_succ]
def one (l : List Int) : List (List Int) := l.map fun x => [x]
theorem one_len (l : List Int) : (one l).length = l.length := by simp [one]
theorem one_ans (c : Int) (s : Bool) (l : List Int) (k : Nat) : ansI c s 1 ((one l).drop k) = [rowV c s (l.drop k)] := by
  have h : colL 0 ((one l).drop k) = l.drop k := by
    unfold colL one
    rw [← List.map_drop, List.map_map]
    exact (List.map_congr_left fun x _ => rfl).trans (List.map_id _)
  show [rowV c s (colL 0 ((one l).drop k))] = _
  rw [h]
theorem one_snoc {l : List Int} {k : Nat} {x : Int} (h : l[k]? = some x) : one (l.take k) ++ [[x]] = one (l.take (k + 1)) := by
  have hk := (List.getElem?_eq_some_iff.1 h).1
  rw [List.take_add_one, h]
  simp [one]
theorem tot_one (c : Int) (l : List Int) (f m : Nat) (h : l.length ≤ f + m) : totN c 1 ((one l).drop f) ≤ 2 * m := by
  have h1 := wordsN_le c (colL 0 ((one l).drop f))
  have h2 : (colL 0 ((one l).drop f)).length ≤ m := by rw [colL_len, List.length_drop, one_len]; omega
  show (0 + wordsN c (colL 0 ((one l).drop f))) ≤ _ 
  omega
/-- What answers tells. -/
def RetAw (c : Int) (s : Bool) (back look : Nat) (l : List Int) (w : World) (e : Ending) (w' : World) : Prop :=
  ∃ A' cap mo, e = .returned (.tuple #[.slice A' l.length cap, .int .i64 (mo : Nat), .bool true]) ∧ MineT 2 w' w.heap.size (.slice A' l.length cap) (allN c s back look l l.length) ∧ mo ≤ 2 * (back + look + 1) ∧ Below w.heap.size w w'
/-- At the head of the loop over numbers. -/
def AnsAt (w1 wr : World) (g : Nat) (V : Value) (c : Int) (s : Bool) (Y : Nat → Value) (back look : Nat) (l : List Int) (k : Nat) (O : Value) : Prop :=
  Kf w1 wr w1.heap.size g V c s 1 Y back look (one (l.take k)) (k - look) false (fun b => O.ownBlock = some b) ∧ MineT 2 wr w1.heap.size O (allN c s back look l (k - look))
/-- At the head of the loop over answers. -/
def EndAt (w1 wr : World) (g : Nat) (V : Value) (c : Int) (s : Bool) (Y : Nat → Value) (back look : Nat) (l : List Int) (told : Nat) (O : Value) : Prop :=
  (∃ over, Kf w1 wr w1.heap.size g V c s 1 Y back look (one l) told over (fun b => O.ownBlock = some b)) ∧ MineT 2 wr w1.heap.size O (allN c s back look l told)
theorem infoN : (Tryd.prog.info? 2).map (fun i => (i.zero, i.size, i.bytes)) = some (some (.int .i64 0), 1, 8) := by kernel_rfl
theorem ints_one (l : List Int) : ∀ u ∈ l.map (Value.int .i64), u.oneCell' = true := by
  intro u hu
  obtain ⟨x, -, rfl⟩ := List.mem_map.1 hu
  rfl
set_option maxHeartbeats 8000000 in
theorem answers_yes (c : Int) (s : Bool) (back look : Nat) (wd : Int) (A : Option Addr) (cA : Nat) (l : List Int) (w : World) (h0 : 0 < w.heap.size) (hT : Sc.Tab w) (hV : SInts (fun b => b < w.heap.size) w A l) (hR : AllR l) (hl : l.length ≤ 60) (h2 : Sc.hasB c 2 = true) (hbl : back + look ≤ 31) :
    Calls Tryd.prog 37 #[.agg #[.int .i64 c, .bool s, .int .i64 (back : Nat), .int .i64 (look : Nat), .int .i64 wd], .slice A l.length cA] w (RetAw c s back look l w) := by
  have b0 := below_new w (.cells #[.int .i64 c, .bool s, .int .i64 (back : Nat), .int .i64 (look : Nat), .int .i64 wd] 45)
  have BN := Lib.hid (Bk.new 45 w [.int .i64 c, .bool s, .int .i64 (back : Nat), .int .i64 (look : Nat), .int .i64 wd])
  have T1 := Lib.hid (hT.below b0)
  have V1 := Lib.hid (hV.next b0)
  have L0 := Lib.hid b0
  have H0 := Lib.hid (Nat.lt_of_lt_of_le h0 b0.size)
  have HR := Lib.hid hR
  have H2 := Lib.hid h2
  clear b0 h0 hT hV hR h2
  obtain ⟨x0, x1, x2, x3, x4⟩ := of_cells BN.out
  go_enter Tryd.func37, Tryd.ntmps37
  go_wp2_with fail
  generalize hW1 : w.alloc (.cells #[.int .i64 c, .bool s, .int .i64 (back : Nat), .int .i64 (look : Nat), .int .i64 wd] 45) = w1 at *
  clear hW1
  have NW := Lib.hid (show Calls Tryd.prog 22 #[.agg #[.int .i64 c, .bool s], .int .i64 (back : Nat), .int .i64 (look : Nat), .int .i64 1] w1 (RetNew c s 1 back look w1) from new_yes c s 1 back look w1 H0.out T1.out (by omega) H2.out hbl)
  refine NW.out.mono ?_
  rintro r w2 ⟨g, V, Y, T, rfl, d2, hb2⟩
  have PA : Hid (AnsAt w1 w2 g V c s Y back look l 0 (.slice none 0 0)) := Lib.hid ⟨by rw [Nat.zero_sub]; exact Kf.of d2 hb2 (fun b h => by simp [Value.ownBlock] at h), by rw [Nat.zero_sub]; exact MineT.nil _ _ _⟩
  have HG := Lib.hid hb2
  clear d2 hb2 x0 x1 x2 x3 x4 NW
  go_wp2
  go_loopw [9, 10, 36] (fun s9 s10 i wr => ∃ (k mo : Nat) (O : Value), O = s9 ∧ s10 = .int .i64 (mo : Nat) ∧ k ≤ l.length ∧ i = .int .i64 k ∧ mo ≤ 2 * (back + look + 1) ∧ Hid (AnsAt w1 wr g V c s Y back look l k O)) (fun _ _ i _ => l.length - (intOf i).toNat)
  case atStart => exact ⟨0, 0, _, rfl, rfl, Nat.zero_le _, rfl, Nat.zero_le _, PA⟩
  case round =>
    obtain ⟨k, mo, O, rfl, rfl, hk, rfl, hmo, HP⟩ := hrel
    by_cases hlt : k < l.length
    · obtain ⟨p1, p2⟩ := HP.out
      obtain ⟨x, hx⟩ : ∃ x, l[k]? = some x := ⟨_, List.getElem?_eq_getElem hlt⟩
      have i1 : (k : Int) < (l.length : Int) := by omega
      have i0 : (0 : Int) ≤ (k : Int) := by omega
      obtain ⟨b, off, rfl, -, -, hc⟩ := (Seq.next V1.out p1.b).one (j := k) (u := .int .i64 x) (by rw [List.getElem?_map, hx]; rfl)
      have P1 := Lib.hid p1
      have P2 := Lib.hid p2
      have HX := Lib.hid hx
      have XR : Hid (AllR [x]) := Lib.hid fun y hy => by simp at hy; subst hy; exact HR.out _ (List.mem_of_getElem? hx)
      have SN := Lib.hid (one_snoc hx)
      have HLN := Lib.hid (show (one (l.take k)).length = k by rw [one_len, List.length_take]; omega)
      have SQ := Lib.hid (lit_seq wr [x] (by unfold maxLen; simp))
      have ap : ∀ b, b = wr.heap.size → b < (wr.alloc (.cells #[.int .i64 x] 2)).heap.size ∧ (b < w1.heap.size ∨ wr.heap.size ≤ b ∨ O.ownBlock = some b) := fun b hb => ⟨by subst hb; simp, .inr (.inl (by omega))⟩
      have AP := Lib.hid ap
      clear p1 p2 HP PA hx ap
      by_cases hd : k < look
      · have PU := push_f_wait w1 wr (wr.alloc (.cells #[.int .i64 x] 2)) w1.heap.size g V c s 1 Y back look (one (l.take k)) (k - look) (fun b => O.ownBlock = some b) (fun b => b = wr.heap.size) (some ⟨wr.heap.size, 0, none⟩) 1 [x] P1.out (below_new _ _) SQ.out AP.out rfl XR.out (by omega) (by rw [HLN.out]; omega) (by rw [HLN.out]; omega)
        rw [SN.out] at PU
        have PUH := Lib.hid PU
        have TD := Lib.hid (show k + 1 - look = k - look by omega)
        have HD := Lib.hid hd
        clear PU hd
        go_wp2_with fail
        refine PUH.out.mono ?_
        rintro r w5 ⟨rfl, k5, t5⟩
        have K5 := Lib.hid k5
        have M5 := Lib.hid (own_turn P2.out ((Turn.of_below (Fr w1.heap.size fun b => O.ownBlock = some b) (below_new _ _)).trans t5) (fun b hb hf => hf.2 hb))
        have WF := words_f w1 w5 w1.heap.size g V c s 1 Y back look (one (l.take (k + 1))) (k - look) (fun b => O.ownBlock = some b) false k5 (by omega)
        obtain ⟨q, hq⟩ : ∃ q, totN c 1 ((one (l.take (k + 1))).drop (gone (k - look) back)) = q := ⟨_, rfl⟩
        have hqm : q ≤ 2 * (back + look + 1) := by rw [← hq]; exact tot_one c _ _ _ (by rw [List.length_take]; have := HD.out; unfold gone; omega)
        rw [hq] at WF
        have WFH := Lib.hid WF
        clear k5 t5 WF hq PUH
        go_wp2_with fail
        refine WFH.out.mono ?_
        rintro r w6 ⟨rfl, hb6⟩
        have PA : Hid (AnsAt w1 w6 g V c s Y back look l (k + 1) O) := Lib.hid ⟨by rw [TD.out]; exact K5.out.next hb6, by rw [TD.out]; exact own_below M5.out hb6⟩
        clear hb6
        go_wp2
        exact ⟨⟨k + 1, max mo q, O, rfl, congrArg _ (by omega), by omega, by go_num, by omega, PA⟩, by simp [intOf]; omega⟩
      · obtain ⟨told, htd⟩ : ∃ told, k - look = told := ⟨_, rfl⟩
        obtain ⟨v, hv⟩ : ∃ v, [ansN c s back look l told] = v := ⟨_, rfl⟩
        have HVL := Lib.hid (show v.length = 1 by rw [← hv]; rfl)
        have HV := Lib.hid hv
        have hv2 : ansI c s 1 ((one (l.take k) ++ [[x]]).drop (told - back)) = v := by
          rw [SN.out, one_ans, ← hv]
          unfold ansN
          rw [show k + 1 = told + look + 1 by omega]
        have PU := push_f_due w1 wr (wr.alloc (.cells #[.int .i64 x] 2)) w1.heap.size g V c s 1 Y back look (one (l.take k)) told (fun b => O.ownBlock = some b) (fun b => b = wr.heap.size) (some ⟨wr.heap.size, 0, none⟩) 1 [x] (by rw [← htd]; exact P1.out) (below_new _ _) SQ.out AP.out rfl XR.out (by omega) (by rw [HLN.out]; omega) (by rw [HLN.out]; omega) H2.out v hv2
        rw [SN.out] at PU
        have PUH := Lib.hid PU
        have TD := Lib.hid (show k + 1 - look = told + 1 by omega)
        have P2 : Hid (MineT 2 wr w1.heap.size O (allN c s back look l told)) := Lib.hid (by rw [← htd]; exact P2.out)
        have HD := Lib.hid (show k = told + look by omega)
        have TN : Hid (told + v.length ≤ 100000) := Lib.hid (by have := HVL.out; omega)
        clear PU hd hv hv2 htd
        go_wp2_with fail
        refine PUH.out.mono ?_
        rintro r w5 ⟨A5, c5, rfl, m5, k5, t5⟩
        have K5 := Lib.hid k5
        have M5 := Lib.hid (own_turn P2.out ((Turn.of_below (Fr w1.heap.size fun b => O.ownBlock = some b) (below_new _ _)).trans t5) (fun b hb hf => hf.2 hb))
        have O5 := Lib.hid (show w5.ownsRow w1.heap.size 2 1 O told ((allN c s back look l told).map (Value.int .i64)) by have h := M5.out; rw [allN_len] at h; exact h)
        have S5 := Lib.hid (mine_S m5)
        have Z5 := Lib.hid k5.size
        clear k5 m5 t5 PUH P1 P2
        go_wp2_with (at_builtin; refine wpList_appS infoN rfl (by decide) (by decide) Tryd.underlying27 rfl (.tmp 49) (.tmp 50) rfl w1.heap.size _ told _ rfl O5.out _ _ v.length c5 (v.map (Value.int .i64)) rfl (by simp) S5.out (ints_one v) TN.out Z5.out ?_; intro v7 w7 hv7 hg7 ha7; have k7 := (Kf.app K5.out (by decide) O5.out (fun b h => h) hv7 hg7 ha7).mono (B' := fun b => v7.ownBlock = some b) (fun b h => .inr h); have K7 := Lib.hid k7; have M7 : Hid (MineT 2 w7 w1.heap.size v7 (allN c s back look l (told + 1))) := Lib.hid (by rw [allN_succ, HV.out]; exact own_more hv7 (allN_len _ _ _ _ _ _) rfl); clear hv7 hg7 ha7 k7)
        have WF := words_f w1 w7 w1.heap.size g V c s 1 Y back look (one (l.take (k + 1))) (told + 1) (fun b => v7.ownBlock = some b) false K7.out (by omega)
        obtain ⟨q, hq⟩ : ∃ q, totN c 1 ((one (l.take (k + 1))).drop (gone (told + 1) back)) = q := ⟨_, rfl⟩
        have hqm : q ≤ 2 * (back + look + 1) := by rw [← hq]; exact tot_one c _ _ _ (by rw [List.length_take]; have := HD.out; unfold gone; omega)
        rw [hq] at WF
        have WFH := Lib.hid WF
        clear WF hq
        go_wp2_with fail
        refine WFH.out.mono ?_
        rintro r w8 ⟨rfl, hb8⟩
        have PA : Hid (AnsAt w1 w8 g V c s Y back look l (k + 1) v7) := Lib.hid ⟨by rw [TD.out]; exact K7.out.next hb8, by rw [TD.out]; exact own_below M7.out hb8⟩
        clear hb8
        go_wp2
        exact ⟨⟨k + 1, max mo q, v7, rfl, congrArg _ (by omega), by omega, by go_num, by omega, PA⟩, by simp [intOf]; omega⟩
    · obtain rfl : k = l.length := by omega
      obtain ⟨p1, p2⟩ := HP.out
      obtain ⟨told, htd⟩ : ∃ told, l.length - look = told := ⟨_, rfl⟩
      rw [List.take_length, htd] at p1
      rw [htd] at p2
      have PB : Hid (EndAt w1 wr g V c s Y back look l told O) := Lib.hid ⟨⟨_, p1⟩, p2⟩
      have HTD := Lib.hid htd
      clear p1 p2 HP PA htd
      go_wp2
      go_loopw [9, 59] (fun s9 i wr' => ∃ (j : Nat) (O : Value), O = s9 ∧ j ≤ l.length ∧ i = .int .i64 j ∧ Hid (EndAt w1 wr' g V c s Y back look l (min (told + j) l.length) O)) (fun _ i _ => l.length - (intOf i).toNat)
      case atStart => exact ⟨0, O, rfl, Nat.zero_le _, rfl, by rw [show min (told + 0) l.length = told by have := HTD.out; omega]; exact PB⟩
      case round =>
        clear PB
        obtain ⟨j, O, rfl, hj, rfl, HE⟩ := hrel
        by_cases hlt : j < l.length
        · have i1 : (j : Int) < (l.length : Int) := by omega
          obtain ⟨⟨over, p1⟩, p2⟩ := HE.out
          have P1 := Lib.hid p1
          have P2 := Lib.hid p2
          clear p1 p2 HE
          by_cases hd : told + j < l.length
          · obtain ⟨e, he⟩ : ∃ e, told + j = e := ⟨_, rfl⟩
            have HE := Lib.hid he
            have hm : min (told + j) l.length = e := by omega
            have hm2 : min (told + (j + 1)) l.length = e + 1 := by omega
            rw [hm] at P1 P2
            have HM2 := Lib.hid hm2
            obtain ⟨v, hv⟩ : ∃ v, [ansN c s back look l e] = v := ⟨_, rfl⟩
            have HVL := Lib.hid (show v.length = 1 by rw [← hv]; rfl)
            have HV := Lib.hid hv
            have hv2 : ansI c s 1 ((one l).drop (e - back)) = v := by
              rw [one_ans, ← hv]
              unfold ansN
              rw [List.take_of_length_le (by have := HTD.out; omega)]
            have PUH := Lib.hid (drain_f_some w1 wr w1.heap.size g V c s 1 Y back look (one l) e (fun b => O.ownBlock = some b) over P1.out H2.out (by omega) (by rw [one_len]; omega) (by rw [one_len]; omega) v hv2)
            have TN : Hid (e + v.length ≤ 100000) := Lib.hid (by have := HVL.out; omega)
            clear hv hv2 hd he hm hm2
            go_wp2_with fail
            refine PUH.out.mono ?_
            rintro r w5 ⟨A5, c5, rfl, m5, k5, t5⟩
            have K5 := Lib.hid k5
            have M5 := Lib.hid (own_turn P2.out t5 (fun b hb hf => hf.2 hb))
            have O5 := Lib.hid (show w5.ownsRow w1.heap.size 2 1 O e ((allN c s back look l e).map (Value.int .i64)) by have h := M5.out; rw [allN_len] at h; exact h)
            have S5 := Lib.hid (mine_S m5)
            have Z5 := Lib.hid k5.size
            clear k5 m5 t5 PUH P1 P2
            go_wp2_with (at_builtin; refine wpList_appS infoN rfl (by decide) (by decide) Tryd.underlying27 rfl (.tmp 67) (.tmp 68) rfl w1.heap.size _ e _ rfl O5.out _ _ v.length c5 (v.map (Value.int .i64)) rfl (by simp) S5.out (ints_one v) TN.out Z5.out ?_; intro v7 w7 hv7 hg7 ha7; have k7 := (Kf.app K5.out (by decide) O5.out (fun b h => h) hv7 hg7 ha7).mono (B' := fun b => v7.ownBlock = some b) (fun b h => .inr h); have PB : Hid (EndAt w1 w7 g V c s Y back look l (min (told + (j + 1)) l.length) v7) := Lib.hid ⟨⟨_, by rw [HM2.out]; exact k7⟩, by rw [HM2.out, allN_succ, HV.out]; exact own_more hv7 (allN_len _ _ _ _ _ _) rfl⟩; clear hv7 hg7 ha7 k7)
            exact ⟨⟨j + 1, v7, rfl, by omega, by go_num, PB⟩, by simp [intOf]; omega⟩
          · have hm : min (told + j) l.length = l.length := by omega
            have hm2 : min (told + (j + 1)) l.length = l.length := by omega
            rw [hm] at P1 P2
            have HM2 := Lib.hid hm2
            have PUH := Lib.hid (drain_f_none w1 wr w1.heap.size g V c s 1 Y back look (one l) l.length (fun b => O.ownBlock = some b) over P1.out (by rw [one_len]))
            clear hd hm hm2
            go_wp2_with fail
            refine PUH.out.mono ?_
            rintro r w5 ⟨rfl, k5, t5⟩
            have PB : Hid (EndAt w1 w5 g V c s Y back look l (min (told + (j + 1)) l.length) O) := Lib.hid ⟨⟨_, by rw [HM2.out]; exact k5⟩, by rw [HM2.out]; exact own_turn P2.out t5 (fun b hb hf => hf.2 hb)⟩
            clear k5 t5
            go_wp2
            exact ⟨⟨j + 1, O, rfl, by omega, by go_num, PB⟩, by simp [intOf]; omega⟩
        · obtain rfl : j = l.length := by omega
          obtain ⟨⟨over, p1⟩, p2⟩ := HE.out
          rw [show min (told + l.length) l.length = l.length by omega] at p1 p2
          obtain ⟨A9, c9, rfl, hc9⟩ : ∃ A9 c9, O = .slice A9 l.length c9 ∧ l.length ≤ c9 := by
            obtain ⟨A9, c9, e9, h1, h2, h3⟩ := own_seq p2 (by decide)
            rw [allN_len] at e9 h1
            exact ⟨A9, c9, e9, h1⟩
          have P2 := Lib.hid p2
          have L9 := Lib.hid (below_next L0.out p1.b)
          have HMO := Lib.hid hmo
          have HZ := Lib.hid (Nat.le_of_lt BN.out.lt)
          clear p1 p2 HE
          go_wp2
          go_ret3
          exact ⟨A9, c9, mo, by simp, own_lo P2.out HZ.out, HMO.out, L9.out⟩
end Go.Proofs.YtfamgaakcbinkaaDoor.Wn
