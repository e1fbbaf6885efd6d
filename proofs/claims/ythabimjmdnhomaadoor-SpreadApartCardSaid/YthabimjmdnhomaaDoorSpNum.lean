/-
  What spread.number and the functions that spread.Two and spread.One hand on answer at a place; nothing that was there is written. Conditions: the table of traits holds what its text lays; the place is one of the cells'.
-/
import Derived.Test.YthabimjmdnhomaaDoorSpFit
import Derived.Test.YthabimjmdnhomaaDoorCellCopy
import Derived.Test.YthabimjmdnhomaaDoorScTwo
import Derived.Test.YthabimjmdnhomaaDoorScOne
namespace Go.Proofs.YthabimjmdnhomaaDoor.Sp
open Go.Proofs.YthabimjmdnhomaaDoor.Sh
open Go.RowKit
set_option linter.unusedVariables false

/-- The number of a cell at an Index of the axes that it is spread to. -/
def numA (d v : List Int) (i : Nat) : Int := v.getD (if d.length = 0 then 0 else i) 0
/-- Is there one? -/
def okA (d v : List Int) (i : Nat) : Prop := (d.length = 0 → 0 < v.length) ∧ (¬ d.length = 0 → i < v.length)
def AllR (v : List Int) : Prop := ∀ x ∈ v, Sc.InR x
theorem numA_R {d v : List Int} {i : Nat} (h : AllR v) : Sc.InR (numA d v i) := by
  unfold numA
  generalize (if d.length = 0 then 0 else i) = k
  rcases Nat.lt_or_ge k v.length with hk | hk
  · have : v.getD k 0 = v[k] := by simp [List.getD, hk]
    rw [this]; exact h _ (List.getElem_mem hk)
  · have : v.getD k 0 = 0 := by simp [List.getD, hk]
    rw [this]; unfold Sc.InR; omega

set_option maxHeartbeats 1000000 in
theorem number_any (A : Option Addr) (c : Nat) (d : List Int) (B : Option Addr) (c2 : Nat) (v : List Int) (i : Nat) (x : Int) (w : World) (hx : numA d v i = x) (hk : okA d v i) (hd : d.length ≤ 100) (hv : v.length ≤ 1000) (iv : Ints w B v) :
    Calls Tryd.prog 26 #[.agg #[.slice A d.length c, .slice B v.length c2], .int .i64 (i : Int)] w fun e w' => e = .returned (.int .i64 x) ∧ Below w.heap.size w w' := by
  obtain ⟨s0, s1, _, _⟩ := (Box.new w (.slice A d.length c) (.slice B v.length c2)).all
  have hB : Below w.heap.size w (w.alloc (.cells #[.slice A d.length c, .slice B v.length c2] 32)) := below_box (Below.refl _ _)
  have iv1 := iv.below hB
  have L0 := Lib.hid hB
  clear hB iv
  by_cases hn : d.length = 0
  · have hn' : ((d.length : Int) == 0) = true := by simp [hn]
    have h0 : 0 < v.length := hk.1 hn
    obtain ⟨b, off, rfl, hb, hcs⟩ := iv1 h0
    have hck := hcs 0 h0
    rw [Nat.add_zero] at hck
    have hx' : v.getD 0 0 = x := by rw [← hx]; simp [numA, hn]
    rw [hx'] at hck
    have i0 : (0 : Int) < (v.length : Int) := by omega
    clear hx hx' hn hk hcs
    go_enter Tryd.func26, Tryd.ntmps26
    go_wp2
    go_ret
    exact ⟨rfl, L0.out⟩
  · have hn' : ((d.length : Int) == 0) = false := by simpa using hn
    have h0 : i < v.length := hk.2 hn
    obtain ⟨b, off, rfl, hb, hcs⟩ := iv1 (by omega)
    have hck := hcs i h0
    have hx' : v.getD i 0 = x := by rw [← hx]; simp [numA, hn]
    rw [hx'] at hck
    have i0 : (0 : Int) ≤ (i : Int) := by omega
    have i1 : (i : Int) < (v.length : Int) := by omega
    clear hx hx' hn hk hcs
    go_enter Tryd.func26, Tryd.ntmps26
    go_wp2
    go_ret
    exact ⟨rfl, L0.out⟩

theorem keep6 {W w1 : World} {p1 p2 p3 p4 p5 p6 : Addr} {x1 x2 x3 x4 x5 x6 : Value} (hb : Below W.heap.size W w1) (h : W.cell? p1 = some x1 ∧ W.cell? p2 = some x2 ∧ W.cell? p3 = some x3 ∧ W.cell? p4 = some x4 ∧ W.cell? p5 = some x5 ∧ W.cell? p6 = some x6) :
    w1.cell? p1 = some x1 ∧ w1.cell? p2 = some x2 ∧ w1.cell? p3 = some x3 ∧ w1.cell? p4 = some x4 ∧ w1.cell? p5 = some x5 ∧ w1.cell? p6 = some x6 :=
  have k : ∀ {p : Addr} {x : Value}, W.cell? p = some x → w1.cell? p = some x := fun {p x} hp => (hb.cell (World.block_lt_of_cell? W p hp)).trans hp
  ⟨k h.1, k h.2.1, k h.2.2.1, k h.2.2.2.1, k h.2.2.2.2.1, k h.2.2.2.2.2⟩

set_option maxHeartbeats 4000000 in
theorem two1_any (c : Int) (s : Bool) (gf ga gb : Nat) (A : Option Addr) (c1 : Nat) (d : List Int) (B : Option Addr) (c2 : Nat) (v : List Int) (A' : Option Addr) (c1' : Nat) (e : List Int) (B' : Option Addr) (c2' : Nat) (u : List Int) (i : Nat) (x : Int) (w : World)
    (hx : Sc.doI c s (numA d v i) (numA e u i) = x) (hT : Sc.Tab w) (hf0 : w.cell? ⟨gf, 0, none⟩ = some (.int .i64 c)) (hf1 : w.cell? ⟨gf, 1, none⟩ = some (.bool s))
    (ba : Box w ga (.slice A d.length c1) (.slice B v.length c2)) (bb : Box w gb (.slice A' e.length c1') (.slice B' u.length c2')) (iv : Ints w B v) (iu : Ints w B' u)
    (hk : okA d v i) (hk' : okA e u i) (hd : d.length ≤ 100) (hv : v.length ≤ 1000) (he : e.length ≤ 100) (hu : u.length ≤ 1000) (rv : AllR v) (ru : AllR u) :
    Calls Tryd.prog 24 #[.int .i64 (i : Int), .pointer (some ⟨gf, 0, none⟩), .pointer (some ⟨ga, 0, none⟩), .pointer (some ⟨gb, 0, none⟩)] w fun r w' => r = .returned (.int .i64 x) ∧ Below w.heap.size w w' := by
  obtain ⟨y, hy⟩ : ∃ y, numA d v i = y := ⟨_, rfl⟩
  obtain ⟨z, hz⟩ : ∃ z, numA e u i = z := ⟨_, rfl⟩
  have yR : Sc.InR y := hy ▸ numA_R rv
  have zR : Sc.InR z := hz ▸ numA_R ru
  rw [hy, hz] at hx
  obtain ⟨tb, htb⟩ : ∃ tb, Sc.twoB c = tb := ⟨_, rfl⟩
  have hdo : ∀ W, Sc.Tab W → Calls Tryd.prog 25 #[.agg #[.int .i64 c, .bool s], .int .i64 y, .int .i64 z] W fun e w' => e = .returned (.tuple #[.int .i64 x, .bool tb]) ∧ Below W.heap.size W w' := fun W hW => by
    rw [← hx, ← htb]; exact Sc.do_any c s y z W hW yR zR
  have HDO := Lib.hid hdo
  have HY := Lib.hid hy
  have HZ := Lib.hid hz
  have HK := Lib.hid hk
  have HK' := Lib.hid hk'
  have T0 : Sc.Tab w.drew := hT.below ((Below.refl _ w).drew)
  obtain ⟨a0, a1, _, _⟩ := ba.all
  obtain ⟨b0, b1, _, _⟩ := bb.all
  have L0 := Lib.hid ((Below.refl w.heap.size w).drew)
  have iv0 : Ints w.drew B v := iv
  have iu0 : Ints w.drew B' u := iu
  clear hx hdo hy hz hk hk' hT ba bb iv iu rv ru htb
  go_enter Tryd.func24, Tryd.ntmps24
  go_wp2_with fail
  go_region_held3 (fun w' => w'.cell? ⟨gf, 0, none⟩ = some (.int .i64 c) ∧ w'.cell? ⟨gf, 1, none⟩ = some (.bool s) ∧ w'.cell? ⟨ga, 0, none⟩ = some (.slice A d.length c1) ∧ w'.cell? ⟨ga, 1, none⟩ = some (.slice B v.length c2) ∧ w'.cell? ⟨gb, 0, none⟩ = some (.slice A' e.length c1') ∧ w'.cell? ⟨gb, 1, none⟩ = some (.slice B' u.length c2'))
    (first
      | go_keep
      | exact ⟨hf0, hf1, a0, a1, b0, b1⟩
      | exact keep6 hb1 (by go_keep)
      | exact keep6 hb2 (by go_keep)
      | exact keep6 hb3 (by go_keep))
    (first
      | (go_at_call 26; (with_reducible refine (number_any A c1 d B c2 v i y w.drew HY.out HK.out hd hv iv0).mono ?_); rintro r w1 ⟨rfl, hb1⟩; have iu1 := iu0.below hb1; have T1 := T0.below hb1; have M1 := Lib.hid (Go.Proofs.YthabimjmdnhomaaDoor.Sh.below_next L0.out hb1))
      | (go_at_call 26; (with_reducible refine (number_any A' c1' e B' c2' u i z w1 HZ.out HK'.out he hu iu1).mono ?_); rintro r w2 ⟨rfl, hb2⟩; have T2 := T1.below hb2; have M2 := Lib.hid (Go.Proofs.YthabimjmdnhomaaDoor.Sh.below_next M1.out hb2))
      | (go_at_call 25; (with_reducible refine (HDO.out w2 T2).mono ?_); rintro r w3 ⟨rfl, hb3⟩; have M3 := Lib.hid (Go.Proofs.YthabimjmdnhomaaDoor.Sh.below_next M2.out hb3)))
  go_wp2
  go_ret
  exact ⟨rfl, by first | exact M3.out | exact M3.out.drew | exact below_drewN M3.out _⟩
end Go.Proofs.YthabimjmdnhomaaDoor.Sp
