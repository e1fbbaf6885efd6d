/-
  window.Way and window.newColumn: the way of a function, and a new column of it. Conditions: the table of traits holds what its text lays; the room is from 1 to 64.
-/
import Derived.Test.YtfamgaakcbinkaaDoorWnCol3
namespace Go.Proofs.YtfamgaakcbinkaaDoor.Wn
open Go.Proofs.YtfamgaakcbinkaaDoor.Sh Go.Proofs.YtfamgaakcbinkaaDoor.St
open Go.RowKit
set_option linter.unusedVariables false

theorem way_3 {c : Int} (h : (Sc.trOf c).picks = true) : wayN c = 3 := by unfold wayN; rw [if_pos h]
theorem way_2 {c : Int} (h : (Sc.trOf c).picks = false) (hj : (Sc.trOf c).joins = true) : wayN c = 2 := by unfold wayN; rw [if_neg (by simp [h]), if_pos hj]
theorem way_1 {c : Int} (h : (Sc.trOf c).picks = false) (hj : (Sc.trOf c).joins = false) : wayN c = 1 := by unfold wayN; rw [if_neg (by simp [h]), if_neg (by simp [hj])]
set_option maxHeartbeats 1000000 in
theorem way_any (c : Int) (s : Bool) (w : World) (hT : Sc.Tab w) : Calls Tryd.prog 25 #[.agg #[.int .i64 c, .bool s]] w fun e w' => e = .returned (.int .i64 (wayN c : Nat)) ∧ Below w.heap.size w w' := by
  have b0 := below_new w (.cells #[.int .i64 c, .bool s] 23)
  have L0 := Lib.hid b0
  have T0 := Lib.hid (hT.below b0)
  have BX := Lib.hid (Bk.new 23 w [.int .i64 c, .bool s])
  have HP := Lib.hid (fun W (h : Sc.Tab W) => Sc.picks_any c W h)
  have HJ := Lib.hid (fun W (h : Sc.Tab W) => Sc.joins_any c W h)
  clear b0 hT
  cases hp : (Sc.trOf c).picks with
  | true =>
    rw [hp] at HP
    rw [way_3 hp]
    clear hp
    go_enter Tryd.func25, Tryd.ntmps25
    go_wp2_with fail
    refine (HP.out _ T0.out).mono ?_
    rintro r w1 ⟨rfl, hb⟩
    have L1 := Lib.hid (below_next L0.out hb)
    clear hb
    go_wp2
    go_ret
    exact ⟨rfl, L1.out⟩
  | false =>
    rw [hp] at HP
    cases hj : (Sc.trOf c).joins with
    | true =>
      rw [hj] at HJ
      rw [way_2 hp hj]
      clear hp hj
      go_enter Tryd.func25, Tryd.ntmps25
      go_wp2_with fail
      refine (HP.out _ T0.out).mono ?_
      rintro r w1 ⟨rfl, hb⟩
      have L1 := Lib.hid (below_next L0.out hb)
      replace T0 := Lib.hid (T0.out.below hb)
      replace BX := Lib.hid (BX.out.next hb)
      have x0 := BX.out.c 0
      simp only [List.getElem?_cons_zero] at x0
      clear hb
      go_wp2_with fail
      refine (HJ.out _ T0.out).mono ?_
      rintro r w2 ⟨rfl, hb⟩
      have L2 := Lib.hid (below_next L1.out hb)
      clear hb
      go_wp2
      go_ret
      exact ⟨rfl, L2.out⟩
    | false =>
      rw [hj] at HJ
      rw [way_1 hp hj]
      clear hp hj
      go_enter Tryd.func25, Tryd.ntmps25
      go_wp2_with fail
      refine (HP.out _ T0.out).mono ?_
      rintro r w1 ⟨rfl, hb⟩
      have L1 := Lib.hid (below_next L0.out hb)
      replace T0 := Lib.hid (T0.out.below hb)
      replace BX := Lib.hid (BX.out.next hb)
      have x0 := BX.out.c 0
      simp only [List.getElem?_cons_zero] at x0
      clear hb
      go_wp2_with fail
      refine (HJ.out _ T0.out).mono ?_
      rintro r w2 ⟨rfl, hb⟩
      have L2 := Lib.hid (below_next L1.out hb)
      clear hb
      go_wp2
      go_ret
      exact ⟨rfl, L2.out⟩
/-- A new column. -/
def RetCol (n₀ : Nat) (c : Int) (s : Bool) (m : Nat) (w : World) (e : Ending) (w' : World) : Prop := ∃ x, e = .returned (.iface (colT (wayN c)) x) ∧ Col n₀ c s m 0 w' x [] (w.heap.size ≤ ·) ∧ Below w.heap.size w w'
theorem allR_nil : Fd.AllR [] := fun x h => by simp at h
theorem newcol_3 {n₀ : Nat} {c : Int} {s : Bool} {m : Nat} {w w2 w' : World} {g : Nat} (h0 : 0 < n₀) (hz : n₀ ≤ w.heap.size) (hT : Sc.Tab w) (h2 : m ≤ 64) (hy : wayN c = 3) (hb : Below w.heap.size w w2) (d : Dq.Deq w2.heap.size w' g (.slice none 0 0) (decide (c = 8)) m 0 []) (hb2 : Below w2.heap.size w2 w') : RetCol n₀ c s m w (.returned (.iface 135 (.agg #[.pointer (some ⟨g, 0, none⟩)]))) w' := by
  have hL := below_next hb hb2
  have hs := hb.size
  have d2 := d
  obtain ⟨k1, k2, k3, k4, k5⟩ := d
  refine ⟨.agg #[.pointer (some ⟨g, 0, none⟩)], by rw [hy]; rfl, ⟨h0, hT.below hL, allR_nil, Nat.zero_le _, h2, .inr (.inr ⟨hy, g, _, 0, rfl, ⟨k1, Dq.RowK.mono k2 (by omega), k3, k4, by omega⟩, rfl, fun b kb => ?_⟩)⟩, hL⟩
  have := (d2.lt b kb).2
  omega
theorem newcol_2 {n₀ : Nat} {c : Int} {s : Bool} {m : Nat} {w w2 w' : World} {g : Nat} [J : Twc.Jc] (ec : J.c = c) (es : J.s = s) (h0 : 0 < n₀) (hz : n₀ ≤ w.heap.size) (hT : Sc.Tab w) (h2 : m ≤ 64) (hy : wayN c = 2) (hb : Below w.heap.size w w2) (jb : Twc.JB w2.heap.size w2) (fb : Bk 23 w2 J.g [.int .i64 c, .bool s]) (o : Twc.Ob w2.heap.size w' g m [] (w2.heap.size ≤ ·)) (hb2 : Below w2.heap.size w2 w') : RetCol n₀ c s m w (.returned (.iface 140 (.agg #[.pointer (some ⟨g, 0, none⟩)]))) w' := by
  have hL := below_next hb hb2
  have hs := hb.size
  obtain ⟨FV, BV, fs, bs, tv, tb, r, e, hyv, hT'⟩ := o
  exact ⟨.agg #[.pointer (some ⟨g, 0, none⟩)], by rw [hy]; rfl, ⟨h0, hT.below hL, allR_nil, Nat.zero_le _, h2, .inr (.inl ⟨hy, J, g, w2.heap.size, ec, es, by omega, rfl, ⟨FV, BV, fs, bs, tv, tb, r, e, hyv, fun b kb => Nat.le_trans hs (hT' b kb)⟩, jb.next hb2, fb.next hb2⟩)⟩, hL⟩
theorem newcol_1 {n₀ : Nat} {c : Int} {s : Bool} {m : Nat} {w w2 : World} (h0 : 0 < n₀) (hz : n₀ ≤ w.heap.size) (hT : Sc.Tab w) (h2 : m ≤ 64) (hy : wayN c = 1) (hb : Below w.heap.size w w2) : RetCol n₀ c s m w (.returned (.iface 141 (.pointer (some ⟨w2.heap.size, 0, none⟩)))) (w2.alloc (.cells #[.int .i64 c, .bool s, .slice none 0 0] 143)) := by
  have hL := below_next hb (below_new w2 (.cells #[.int .i64 c, .bool s, .slice none 0 0] 143))
  have hs := hb.size
  refine ⟨.pointer (some ⟨w2.heap.size, 0, none⟩), by rw [hy]; rfl, ⟨h0, hT.below hL, allR_nil, Nat.zero_le _, h2, .inl ⟨hy, w2.heap.size, .slice none 0 0, rfl, ⟨Bk.new 143 w2 [.int .i64 c, .bool s, .slice none 0 0], World.ownsRow_nil _ _ _ _, by omega⟩, fun b kb => ?_⟩⟩, hL⟩
  rcases kb with rfl | kb
  · exact hs
  · cases kb
set_option maxHeartbeats 2000000 in
theorem newcol_any (n₀ : Nat) (c : Int) (s : Bool) (m : Nat) (w : World) (h0 : 0 < n₀) (hz : n₀ ≤ w.heap.size) (hT : Sc.Tab w) (h1 : 1 ≤ m) (h2 : m ≤ 64) : Calls Tryd.prog 69 #[.agg #[.int .i64 c, .bool s], .int .i64 (m : Nat)] w (RetCol n₀ c s m w) := by
  have b0 := below_new w (.cells #[.int .i64 c, .bool s] 23)
  have L0 := Lib.hid b0
  have HT := Lib.hid hT
  have BX := Lib.hid (Bk.new 23 w [.int .i64 c, .bool s])
  have WA := Lib.hid (way_any c s _ (hT.below b0))
  clear b0 hT
  cases hp : (Sc.trOf c).picks with
  | true =>
    have HY := Lib.hid (way_3 hp)
    rw [way_3 hp] at WA
    clear hp
    go_enter Tryd.func69, Tryd.ntmps69
    go_wp2_with fail
    refine WA.out.mono ?_
    rintro r w1 ⟨rfl, hb⟩
    have L1 := Lib.hid (below_next L0.out hb)
    replace BX := Lib.hid (BX.out.next hb)
    have x0 := BX.out.c 0
    simp only [List.getElem?_cons_zero] at x0
    have ND := Dq.new_yes (decide (c = 8)) m w1 h1 h2
    unfold Dq.RetNew at ND
    have ND := Lib.hid ND
    clear hb
    go_wp2_with fail
    refine ND.out.mono ?_
    rintro r w2 ⟨g, rfl, d, hb⟩
    have D := Lib.hid d
    have LB := Lib.hid hb
    clear d hb
    go_wp2
    go_ret
    exact newcol_3 h0 hz HT.out h2 HY.out L1.out D.out LB.out
  | false =>
    cases hj : (Sc.trOf c).joins with
    | true =>
      have HY := Lib.hid (way_2 hp hj)
      rw [way_2 hp hj] at WA
      obtain ⟨J, ec, es, eg⟩ : ∃ J : Twc.Jc, J.c = c ∧ J.s = s ∧ J.g = w.heap.size := ⟨⟨c, s, w.heap.size, hj⟩, rfl, rfl, rfl⟩
      have EC := Lib.hid ec
      have ES := Lib.hid es
      have EG := Lib.hid eg
      clear hp hj ec es eg
      go_enter Tryd.func69, Tryd.ntmps69
      go_wp2_with fail
      refine WA.out.mono ?_
      rintro r w1 ⟨rfl, hb⟩
      have L1 := Lib.hid (below_next L0.out hb)
      replace BX := Lib.hid (BX.out.next hb)
      have ON := Twc.ob_new m w1 h1 h2
      unfold Twc.jv at ON
      rw [EG.out] at ON
      have ON := Lib.hid ON
      clear hb
      go_wp2_with fail
      refine ON.out.mono ?_
      rintro r w2 ⟨g, rfl, o, hb⟩
      have D := Lib.hid o
      have LB := Lib.hid hb
      clear o hb
      go_wp2
      go_ret
      have hlt : w.heap.size < w1.heap.size := BX.out.lt
      exact newcol_2 EC.out ES.out h0 hz HT.out h2 HY.out L1.out ⟨⟨HT.out.below L1.out, by rw [EG.out, EC.out, ES.out]; exact ⟨BX.out.c 0, BX.out.c 1⟩⟩, by rw [EG.out]; exact hlt, by omega, Nat.le_refl _⟩ (by rw [EG.out]; exact BX.out) D.out LB.out
    | false =>
      have HY := Lib.hid (way_1 hp hj)
      rw [way_1 hp hj] at WA
      clear hp hj
      go_enter Tryd.func69, Tryd.ntmps69
      go_wp2_with fail
      refine WA.out.mono ?_
      rintro r w1 ⟨rfl, hb⟩
      have L1 := Lib.hid (below_next L0.out hb)
      replace BX := Lib.hid (BX.out.next hb)
      have x0 := BX.out.c 0
      have x1 := BX.out.c 1
      simp only [List.getElem?_cons_zero, List.getElem?_cons_succ] at x0 x1
      clear hb
      go_wp2
      go_ret
      exact newcol_1 h0 hz HT.out h2 HY.out L1.out
end Go.Proofs.YtfamgaakcbinkaaDoor.Wn
