/-
  What the calls of package deque do to a window, and what they answer: New, Push, Drop, Best, Len, Kept, Clone. Conditions: as told in each.
-/
import Derived.Test.YtfamgaakcbinkaaDoorDqDel
namespace Go.Proofs.YtfamgaakcbinkaaDoor.Dq
open Go.Proofs.YtfamgaakcbinkaaDoor.Sh Go.Proofs.YtfamgaakcbinkaaDoor.St
open Go.RowKit
set_option linter.unusedVariables false

/-- The parts of a window. -/
def DqF (w : World) (g : Nat) (ls : Bool) (V : Value) (came went most : Nat) : Prop := Bk 156 w g [.bool ls, V, .int .i64 came, .int .i64 went, .int .i64 most]
section
variable {w w' : World} {g : Nat} {ls : Bool} {V : Value} {came went most : Nat} {T : Nat → Prop}
theorem DqF.all (d : DqF w g ls V came went most) : w.cell? ⟨g, 0, none⟩ = some (.bool ls) ∧ w.cell? ⟨g, 1, none⟩ = some V ∧ w.cell? ⟨g, 2, none⟩ = some (.int .i64 came) ∧ w.cell? ⟨g, 3, none⟩ = some (.int .i64 went) ∧ w.cell? ⟨g, 4, none⟩ = some (.int .i64 most) :=
  ⟨Bk.c d 0, Bk.c d 1, Bk.c d 2, Bk.c d 3, Bk.c d 4⟩
theorem DqF.froz (d : DqF w g ls V came went most) : w.frozen? ⟨g, 1, none⟩ = false ∧ w.frozen? ⟨g, 2, none⟩ = false ∧ w.frozen? ⟨g, 3, none⟩ = false := ⟨Bk.f d 1, Bk.f d 2, Bk.f d 3⟩
theorem DqF.lt (d : DqF w g ls V came went most) : g < w.heap.size := Bk.lt d
theorem DqF.next (d : DqF w g ls V came went most) (hb : Below w.heap.size w w') : DqF w' g ls V came went most := Bk.next d hb
theorem DqF.drewN (d : DqF w g ls V came went most) (n : Nat) : DqF (w.drewN n) g ls V came went most := d
theorem DqF.turn (d : DqF w g ls V came went most) (hb : Turn T w w') (hg : ¬ T g) : DqF w' g ls V came went most := Bk.turn d hb hg
end
/-- Behind the pointer to block g is a window with these numbers, the first one's place being f; what is kept lies behind V. -/
def Deq (base : Nat) (w : World) (g : Nat) (V : Value) (ls : Bool) (n f : Nat) (l : List Int) : Prop :=
  DqF w g ls V (f + l.length) f n ∧ RowK base w V (keptF ls f l) ∧ l.length ≤ n ∧ n ≤ 64 ∧ base ≤ g
/-- The blocks of a window. -/
def Tq (g : Nat) (V : Value) (b : Nat) : Prop := b = g ∨ V.ownBlock = some b
/-- What V' lies in is what V lay in, or new. -/
def Fresh (w : World) (V V' : Value) : Prop := ∀ k, V'.ownBlock = some k → V.ownBlock = some k ∨ w.heap.size ≤ k
theorem Fresh.refl (w : World) (V : Value) : Fresh w V V := fun k h => .inl h
section
variable {base : Nat} {w w' : World} {g : Nat} {V : Value} {ls : Bool} {n f : Nat} {l : List Int} {T : Nat → Prop}
theorem Deq.turn (d : Deq base w g V ls n f l) (hb : Turn T w w') (hT : ∀ b, Tq g V b → ¬ T b) : Deq base w' g V ls n f l :=
  ⟨d.1.turn hb (hT g (.inl rfl)), d.2.1.turn hb fun k hk => hT k (.inr hk), d.2.2⟩
theorem Deq.next (d : Deq base w g V ls n f l) (hb : Below w.heap.size w w') : Deq base w' g V ls n f l := d.turn (Turn.of_below (fun _ => False) hb) fun _ _ h => h
theorem Deq.ne (d : Deq base w g V ls n f l) : V.ownBlock ≠ some g := fun e => own_bk_ne (t := 156) d.2.1 d.1 (by decide) e.symm
theorem Deq.lt (d : Deq base w g V ls n f l) : ∀ b, Tq g V b → b < w.heap.size ∧ base ≤ b := fun b hb => by
  rcases hb with rfl | hb
  · exact ⟨d.1.lt, d.2.2.2.2⟩
  · exact ⟨d.2.1.lt b hb, own_base d.2.1 b hb⟩
end

theorem len_nil (w : World) : Calls Tryd.prog 135 #[.pointer none] w fun e w' => e = .returned (.int .i64 0) ∧ w = w' := by
  go_enter Tryd.func135, Tryd.ntmps135
  go_wp2
  go_ret
  exact ⟨rfl, rfl⟩
set_option maxHeartbeats 1000000 in
theorem len_any (g : Nat) (V : Value) (ls : Bool) (n f k : Nat) (w : World) (d : DqF w g ls V (f + k) f n) (hs : f + k ≤ 100000) :
    Calls Tryd.prog 135 #[.pointer (some ⟨g, 0, none⟩)] w fun e w' => e = .returned (.int .i64 k) ∧ ∃ m, w' = w.drewN m := by
  obtain ⟨-, -, c2, c3, -⟩ := d.all
  have e : IntKind.i64.wrap (((f + k : Nat) : Int) - (f : Int)) = (k : Int) := by rw [IntWalk.i64_in _ (by omega)]; omega
  obtain ⟨a, ha⟩ : ∃ a, f + k = a := ⟨_, rfl⟩
  rw [ha] at c2 e
  have hk : (a : Int) - (f : Int) = (k : Int) := by omega
  have hkb : (k : Int) ≤ 100000 := by omega
  clear d hs ha e
  go_enter Tryd.func135, Tryd.ntmps135
  go_wp2_with fail
  go_quiet (fail)
  go_wp2
  go_ret
  exact ⟨rfl, _, rfl⟩
theorem beats_any (g : Nat) (ls : Bool) (b a : Int) (w : World) (c0 : w.cell? ⟨g, 0, none⟩ = some (.bool ls)) :
    Calls Tryd.prog 144 #[.pointer (some ⟨g, 0, none⟩), .int .i64 b, .int .i64 a] w fun e w' => e = .returned (.bool (beatB ls b a)) ∧ w = w' := by
  cases ls
  · go_enter Tryd.func144, Tryd.ntmps144
    go_wp2
    go_ret
    exact ⟨rfl, rfl⟩
  · go_enter Tryd.func144, Tryd.ntmps144
    go_wp2
    go_ret
    exact ⟨rfl, rfl⟩
theorem first_any (g b c k : Nat) (x : Int) (A : Option Addr) (w : World) (hA : A = some ⟨b, 0, none⟩) (c1 : w.cell? ⟨g, 1, none⟩ = some (.slice A (k + 1) c)) (c2 : w.cell? ⟨b, 0, none⟩ = some (.int .i64 x)) :
    Calls Tryd.prog 139 #[.pointer (some ⟨g, 0, none⟩)] w fun e w' => e = .returned (.int .i64 x) ∧ w = w' := by
  subst hA
  have i1 : (0 : Int) < (k : Int) + 1 := by omega
  go_enter Tryd.func139, Tryd.ntmps139
  go_wp2
  go_ret
  exact ⟨rfl, rfl⟩
/-- What is kept, as a row of numbers of its own. -/
def RetVals (l : List Int) (w : World) (e : Ending) (w' : World) : Prop := ∃ A c, e = .returned (.slice A l.length c) ∧ SInts (w.heap.size ≤ ·) w' A l ∧ l.length ≤ c ∧ c ≤ maxLen ∧ Below w.heap.size w w'
set_option maxHeartbeats 2000000 in
theorem values_any (base g : Nat) (V : Value) (ks : List (Int × Nat)) (w : World) (c1 : w.cell? ⟨g, 1, none⟩ = some V) (hg : g < w.heap.size) (hr : RowK base w V ks) (hl : ks.length ≤ 1000) :
    Calls Tryd.prog 143 #[.pointer (some ⟨g, 0, none⟩)] w (RetVals (ks.map (·.1)) w) := by
  obtain ⟨A, c, rfl, hc, hm, hv⟩ := hr.view
  have HV := Lib.hid hv
  clear hv hr
  go_enter Tryd.func143, Tryd.ntmps143
  go_wp2
  go_loopw [3, 11] (fun V i wr => ∃ k : Nat, k ≤ ks.length ∧ i = .int .i64 k ∧ Hid (MineT 2 wr w.heap.size V ((ks.take k).map (·.1))) ∧ Hid (Below w.heap.size w wr)) (fun _ i _ => ks.length - (intOf i).toNat)
  case atStart => exact ⟨0, Nat.zero_le _, rfl, Lib.hid (by simpa using MineT.nil _ _ _), Lib.hid (Below.refl _ _)⟩
  case round =>
    obtain ⟨k, hk, rfl, HM, HB⟩ := hrel
    by_cases hlt : k < ks.length
    · obtain ⟨b, rfl, hb, hbl, hob, hcs⟩ := HV.out (by omega)
      obtain ⟨p, hp⟩ : ∃ p, ks[k]? = some p := ⟨_, List.getElem?_eq_getElem hlt⟩
      obtain ⟨q0, q1⟩ := hcs k p hp
      have r0 := (HB.out.cell (p := ⟨b, k * 2, none⟩) hbl).trans q0
      have r1 := (HB.out.cell (p := ⟨b, k * 2 + 1, none⟩) hbl).trans q1
      have i1 : (k : Int) < (ks.length : Int) := by omega
      have HT : Hid ((ks.take (k + 1)).map (·.1) = (ks.take k).map (·.1) ++ [p.1]) := Lib.hid (by
        rw [List.take_succ_eq_append_getElem hlt, List.map_append]
        rw [List.getElem?_eq_getElem hlt] at hp
        injection hp with hp
        rw [hp]; rfl)
      have b1 := below_new wr (.cells #[.int .i64 p.1, .int .i64 (p.2 : Nat)] 184)
      have HB1 := Lib.hid (below_next HB.out b1)
      have M1 := Lib.hid (MineT.alloc (MineT.alloc HM.out (.cells #[.int .i64 p.1, .int .i64 (p.2 : Nat)] 184)) (.cells #[.int .i64 p.1] 2))
      have HB2 := Lib.hid (below_next HB1.out (below_new _ (.cells #[.int .i64 p.1] 2)))
      have y1 := (MineT.new 2 (wr.alloc (.cells #[.int .i64 p.1, .int .i64 (p.2 : Nat)] 184)) [p.1] 0 (Nat.zero_le _) (by unfold maxLen; simp)).ints'
      rw [show (wr.alloc (.cells #[.int .i64 p.1, .int .i64 (p.2 : Nat)] 184)).heap.size = wr.heap.size + 1 from by simp] at y1
      have Y1 := Lib.hid y1
      have TL : Hid (((ks.take k).map (·.1)).length + [p.1].length ≤ 100000) := Lib.hid (by simp; omega)
      have ZA : Hid (w.heap.size ≤ ((wr.alloc (.cells #[.int .i64 p.1, .int .i64 (p.2 : Nat)] 184)).alloc (.cells #[.int .i64 p.1] 2)).heap.size) := Lib.hid HB2.out.size
      clear q0 q1 hcs hp HM HB b1 y1
      go_wp2_with (at_builtin; refine wpList_appI numL Tryd.underlying27 rfl (.tmp 15) (.tmp 18) rfl w.heap.size u3 ((ks.take k).map (·.1)) rfl M1.out _ 1 [p.1] rfl Y1.out TL.out ZA.out ?_; intro v3 w3 hm3 hg3 ha3; have M3 := Lib.hid hm3; have G3 := Lib.hid hg3; clear hm3 hg3 ha3)
      refine ⟨⟨k + 1, by omega, by go_num, Lib.hid ?_, Lib.hid ?_⟩, by simp [intOf]; omega⟩
      · rw [HT.out]; exact M3.out
      · exact HB2.out.grown G3.out HB2.out.size (fun kk hkk => own_base M1.out kk hkk)
    · obtain rfl : k = ks.length := by omega
      rw [List.take_length] at HM
      go_wp2
      go_ret
      obtain ⟨B, d, rfl, h1, h2, h3⟩ := mine_row HM.out
      exact ⟨B, d, rfl, h3, h1, h2, HB.out⟩
end Go.Proofs.YtfamgaakcbinkaaDoor.Dq
