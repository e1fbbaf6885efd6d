/-
  What riffleref01.Index and riffleref01.Strides answer for any axes and places; nothing that was there is written. Condition: at most 100 numbers each.
-/
import Derived.Test.YtdjckobbemkhbaaShapePls3
namespace Go.Proofs.Ytdjckobbemkhbaa.Sh
open Go.RowKit
set_option linter.unusedVariables false

theorem Outs.view {d : List Int} {w : World} {base : Nat} {v : Value} {n : Nat} (h : Outs d w base v n) :
    ∃ A c, v = .slice A n c ∧ ∀ t, t < n → ∃ b At ct, A = some ⟨b, 0, none⟩ ∧ w.cell? ⟨b, t, none⟩ = some (.slice At d.length ct) ∧ Ints w At (dg d t) := by
  obtain ⟨vs, h1, h2⟩ := h
  have hlen : vs.length = n := by simpa using h1.1
  rcases h1.2 with ⟨rfl, h0⟩ | ⟨g, cap, cur, rfl, _⟩
  · exact ⟨none, 0, by rw [h0], fun t ht => absurd ht (by omega)⟩
  · refine ⟨_, cap, rfl, fun t ht => ?_⟩
    have hc := h1.cellAt t (by omega)
    have hv : vs[t]? = some vs[t] := List.getElem?_eq_getElem (by omega)
    obtain ⟨At, ct, hu, hi⟩ := (h2 t _ hv).ints
    rw [hv, hu, dg_length] at hc
    exact ⟨g, At, ct, rfl, hc, hi⟩
theorem refSame_n (A : Option Addr) (c : Nat) (a : List Int) (B : Option Addr) (c2 : Nat) (b : List Int) (n : Nat) (w : World) (hn : a.length = n) (hl : n ≤ 100) (hl2 : b.length ≤ 100) (ha : Ints w A a) (hb : Ints w B b) :
    Calls Try.prog 13 #[.slice A n c, .slice B b.length c2] w fun e w' => e = .returned (.bool (decide (a = b))) ∧ ∃ n, w' = w.drewN n := by
  subst hn
  exact refSame_any A c a B c2 b w (by unfold maxLen; omega) (by unfold maxLen; omega) ha hb

theorem sizeI_bd (d : List Int) : 0 ≤ sizeI d ∧ sizeI d ≤ 64 := by
  unfold sizeI
  split
  · rename_i h; exact ⟨(prod_bd d (rightB_all h).2.1).1, (rightB_all h).2.2⟩
  · omega

set_option maxHeartbeats 2000000 in
theorem refIndex_any (A : Option Addr) (c : Nat) (d : List Int) (B : Option Addr) (c2 : Nat) (p : List Int) (w : World) (hl : d.length ≤ 100) (hl2 : p.length ≤ 100) (ha : Ints w A d) (hb : Ints w B p) :
    Calls Try.prog 16 #[.slice A d.length c, .slice B p.length c2] w fun e w' => e = .returned (.int .i64 (idxI d p)) ∧ Below w.heap.size w w' := by
  have hs := sizeI_bd d
  obtain ⟨n, hn⟩ : ∃ n, (sizeI d).toNat = n := ⟨_, rfl⟩
  have HN := Lib.hid hn
  have hn64 : n ≤ 64 := by omega
  clear hn hs
  go_enter Try.func16, Try.ntmps16
  go_wp2_with fail
  refine (places_any _ _ d _ hl ha).mono ?_
  rintro e w1 ⟨v, base, rfl, hout, hb1⟩
  rw [HN.out] at hout
  obtain ⟨AO, co, rfl, hat⟩ := hout.view
  have hp1 := hb.below hb1
  clear hout ha hb
  have HAT := Lib.hid hat
  have HB1 := Lib.hid hb1
  clear hat hb1
  go_wp2
  go_loopw [6] (fun j wr => ∃ k m : Nat, k ≤ n ∧ j = .int .i64 k ∧ (∀ t : Nat, t < k → ¬ dg d t = p) ∧ wr = w1.drewN m)
    (fun j _ => n - (intOf j).toNat)
  case atStart => exact ⟨0, 0, Nat.zero_le _, rfl, fun t ht => absurd ht (by omega), rfl⟩
  case round =>
    obtain ⟨k, m, hk, rfl, hno, rfl⟩ := hrel
    have HO := Lib.hid hno
    clear hno
    by_cases hlt : k < n
    · obtain ⟨b, At, ct, rfl, hc, hi⟩ := HAT.out k hlt
      have hc' : (w1.drewN m).cell? ⟨b, k, none⟩ = some (.slice At d.length ct) := hc
      have hi' : Ints (w1.drewN m) At (dg d k) := hi
      have hp' : Ints (w1.drewN m) B p := hp1
      clear hc hi
      generalize hw : w1.drewN m = W at *
      have HW := Lib.hid hw
      clear hw
      go_wp2_with fail
      refine (refSame_n _ _ (dg d k) _ _ p d.length _ (dg_length _ _) hl hl2 hi' hp').mono ?_
      rintro e w2 ⟨rfl, q, rfl⟩
      clear hc' hi' hp'
      by_cases hq : dg d k = p
      · have hqd : decide (dg d k = p) = true := by simpa using hq
        have HI := Lib.hid (idxI_found k (by have := HN.out; omega) hq)
        clear hq
        go_wp2
        go_ret
        exact ⟨ret_int HI.out.symm, by rw [← HW.out]; exact below_drewN (below_drewN HB1.out _) _⟩
      · have hqd : decide (dg d k = p) = false := by simpa using hq
        have HQ := Lib.hid hq
        clear hq
        go_wp2
        go_roundw
        case rel => exact ⟨k + 1, m + q, by omega, by go_num, fun t ht => (by
          rcases Nat.lt_or_ge t k with g | g
          · exact HO.out t g
          · have : t = k := by omega
            subst this; exact HQ.out), by rw [← HW.out, World.drewN_drewN]⟩
        case measure => simp [intOf]; omega
    · obtain rfl : k = n := by omega
      have HI := Lib.hid (idxI_none (d := d) (p := p) (fun j hj => HO.out j (by have := HN.out; omega)))
      go_wp2
      go_ret
      exact ⟨ret_int HI.out.symm, below_drewN HB1.out _⟩

theorem strL_take (d : List Int) (k : Nat) (hk : k < d.length) : (strL d).take (k + 1) = (strL d).take k ++ [prod (d.drop (k + 1))] := by
  have hl : k < (strL d).length := by rw [strL_length]; exact hk
  have h1 := strL_drop d k hk
  have h2 := drop_at (strL d) k hl
  rw [h1] at h2
  injection h2 with h2 _
  rw [take_snoc (strL d) k hl, ← h2]
theorem prod_seg (d : List Int) (k m : Nat) (hm : k + m < d.length) : prod ((d.drop k).take (m + 1)) = prod ((d.drop k).take m) * d.getD (k + m) 0 := by
  rw [prod_take _ _ (by simp; omega)]
  congr 1
  simp [List.getD, List.getElem?_drop]

set_option maxHeartbeats 2000000 in
theorem refStrides_any (A : Option Addr) (c : Nat) (d : List Int) (w : World) (hl : d.length ≤ 100) (hi : Ints w A d) :
    Calls Try.prog 19 #[.slice A d.length c] w (RetInts w (strB d)) := by
  have hRR := fun w' (h : Ints w' A d) => refRight_any A c d w' (by unfold maxLen; omega) h
  by_cases hR : rightB d = true
  · rw [show strB d = strL d from if_pos hR]
    rw [hR] at hRR
    have HRR := Lib.hid hRR
    obtain ⟨h3, hall, h64⟩ := rightB_all hR
    have HA := Lib.hid hall
    clear hRR hR hall
    go_enter Try.func19, Try.ntmps19
    go_wp2_with fail
    go_loopw [3, 4] (fun v j wr => ∃ k : Nat, k ≤ d.length ∧ j = .int .i64 k ∧ Mine wr w.heap.size v ((strL d).take k) ∧ Below w.heap.size w wr)
      (fun _ j _ => d.length - (intOf j).toNat)
    case atStart => exact ⟨0, Nat.zero_le _, rfl, Mine.nil _ _, Below.refl _ _⟩
    case round =>
      obtain ⟨k, hk, rfl, hown, hbel⟩ := hrel
      by_cases hlt : k < d.length
      · have hdr := hi.below hbel
        have HM := Lib.hid hown
        have HB := Lib.hid hbel
        have hsz := hbel.size
        clear hown
        go_wp2_with (go_at_call 9; refine (HRR.out _ hdr).mono ?_; rintro e w' ⟨rfl, rfl⟩)
        go_loop [5, 6] (fun q j => ∃ m : Nat, k + 1 + m ≤ d.length ∧ j = .int .i64 ((k + 1 + m : Nat) : Int) ∧ q = .int .i64 (prod ((d.drop (k + 1)).take m)))
          (fun _ j => d.length - (intOf j).toNat)
        case atStart => exact ⟨0, by omega, by go_num, rfl⟩
        case round =>
          obtain ⟨m, hm, rfl, rfl⟩ := hrel
          by_cases hmt : k + 1 + m < d.length
          · obtain ⟨b, off, rfl, hb, hcs⟩ := hdr (by omega)
            have hck : wr.cell? ⟨b, off + (k + 1 + m), none⟩ = some (.int .i64 (d.getD (k + 1 + m) 0)) := hcs (k + 1 + m) hmt
            have hps := Lib.hid (prod_seg d (k + 1) m hmt)
            have hpb := prod_bd ((d.drop (k + 1)).take m) (by rw [List.all_eq_true]; intro x hx; exact List.all_eq_true.1 HA.out x (List.mem_of_mem_drop (List.mem_of_mem_take hx)))
            have hp0 := hpb.1
            have hp1 := hpb.2.2.1 (by simp; omega)
            have hxb := okAx_at HA.out (k + 1 + m) hmt
            have hmm := mul_bd hp0 hp1 hxb.1 hxb.2
            clear hcs hdr hi hpb hbel
            generalize d.getD (k + 1 + m) 0 = x at *
            generalize prod ((d.drop (k + 1)).take m) = q at *
            generalize hj : k + 1 + m = j at *
            have HJ := Lib.hid hj
            clear hj
            go_wp2
            go_round
            case rel => exact ⟨m + 1, by have := HJ.out; omega, by have := HJ.out; go_num, by rw [hps.out]⟩
            case measure => simp [intOf]; omega
          · have hme : (d.drop (k + 1)).take m = d.drop (k + 1) := List.take_of_length_le (by simp; omega)
            rw [hme]
            have hts := Lib.hid (strL_take d k hlt)
            have hlen : ((strL d).take k).length < 17592186044415 := by simp; omega
            clear hme hdr hbel
            generalize prod (d.drop (k + 1)) = q at *
            go_wp2_with (at_builtin; refine wpList_app rfl _ _ rfl w.heap.size _ _ rfl rfl HM.out hlen hsz ?_; intro v' w' hm' hb'; have HM' := Lib.hid hm'; have HB' := Lib.hid (HB.out.trans hb'); clear hm' hb')
            go_roundw
            case rel => exact ⟨k + 1, by omega, by go_num, by rw [hts.out]; exact HM'.out, HB'.out⟩
            case measure => simp [intOf]; omega
      · obtain rfl : k = d.length := by omega
        rw [List.take_of_length_le (by rw [strL_length]; omega)] at hown
        obtain ⟨A', c', rfl, hi'⟩ := hown.ints
        clear hown
        go_wp2
        go_ret
        exact ⟨A', c', rfl, hi', hbel⟩
  · rw [show strB d = [] from if_neg hR]
    rw [show rightB d = false from by simpa using hR] at hRR
    have HRR := Lib.hid hRR
    clear hRR hR
    go_enter Try.func19, Try.ntmps19
    go_wp2_with fail
    go_loop [3, 4] (fun v j => v = .slice none 0 0 ∧ j = .int .i64 0) (fun _ _ => 0)
    case atStart => exact ⟨rfl, rfl⟩
    case round =>
      obtain ⟨rfl, rfl⟩ := hrel
      by_cases h0 : 0 < d.length
      · go_wp2_with (go_at_call 9; refine (HRR.out _ hi).mono ?_; rintro e w' ⟨rfl, rfl⟩)
        go_ret
        exact ⟨none, 0, rfl, fun h => absurd h (by simp), Below.refl _ _⟩
      · go_wp2
        go_ret
        exact ⟨none, 0, rfl, fun h => absurd h (by simp), Below.refl _ _⟩
end Go.Proofs.Ytdjckobbemkhbaa.Sh
