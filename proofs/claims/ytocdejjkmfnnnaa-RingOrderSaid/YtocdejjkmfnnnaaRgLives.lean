/-
  What Push and Pop tell of a ring of width 1, and what rifflelaw11.lives answers: true; how deeds read that came in. Conditions: as told in each.
-/
import Derived.Test.YtocdejjkmfnnnaaRgOps3
import Derived.Test.YtocdejjkmfnnnaaRgDeed
import Derived.Test.YtocdejjkmfnnnaaPkC
set_option maxRecDepth 100000
namespace Go.Proofs.Ytocdejjkmfnnnaa.Rg
open Go.Proofs.Ytocdejjkmfnnnaa.Sh Go.Proofs.Ytocdejjkmfnnnaa.St
open Go.Joins Go.ChangeShapes Go.WideShapes Go.ChangeAt Go.RowKit Go.Deep
set_option linter.unusedVariables false

def RetPu (g h n : Nat) (rs : List (List Int)) (E : Int) (w : World) (e : Ending) (w' : World) : Prop := e = .returned (.int .i64 E) ∧ Ring w' g h n 1 rs ∧ Turn (Two g h) w w'
theorem push1 (g h n : Nat) (rs : List (List Int)) (x : Int) (A : Option Addr) (c : Nat) (w : World) (r : Ring w g h n 1 rs) (hi : Ints w A [x]) (hlt : rs.length < n) :
    Calls Try.prog 20 #[.pointer (some ⟨g, 0, none⟩), .slice A 1 c] w (RetPu g h n (rs ++ [[x]]) 0 w) := by
  have hp := push_any (fun _ => True) g h n 1 rs A c [x] w r (Ints.sints hi (fun _ _ _ _ => trivial)) (by simp)
  have e1 : pushE n 1 rs [x] = 0 := by unfold pushE; rw [if_neg (by simp), if_neg (by omega)]
  have e2 : pushL n 1 rs [x] = rs ++ [[x]] := by unfold pushL; rw [if_neg (by simp), if_neg (by omega)]
  unfold RetPush at hp
  rw [e1, e2] at hp
  exact hp
theorem push1_full (g h n : Nat) (rs : List (List Int)) (x : Int) (A : Option Addr) (c : Nat) (w : World) (r : Ring w g h n 1 rs) (hi : Ints w A [x]) (hlt : rs.length = n) :
    Calls Try.prog 20 #[.pointer (some ⟨g, 0, none⟩), .slice A 1 c] w (RetPu g h n rs 19 w) := by
  have hp := push_any (fun _ => True) g h n 1 rs A c [x] w r (Ints.sints hi (fun _ _ _ _ => trivial)) (by simp)
  have e1 : pushE n 1 rs [x] = 19 := by unfold pushE; rw [if_neg (by simp), if_pos hlt]
  have e2 : pushL n 1 rs [x] = rs := by unfold pushL; rw [if_neg (by simp), if_pos hlt]
  unfold RetPush at hp
  rw [e1, e2] at hp
  exact hp
def RetPo (g h n : Nat) (rs : List (List Int)) (x : Int) (w : World) (e : Ending) (w' : World) : Prop := ∃ b o c, e = .returned (.tuple #[.slice (some ⟨b, o, none⟩) 1 c, .bool true]) ∧ w'.cell? ⟨b, o, none⟩ = some (.int .i64 x) ∧ Ring w' g h n 1 rs ∧ Turn (Two g h) w w'
theorem pop1 (g h n : Nat) (rs : List (List Int)) (x : Int) (w : World) (r : Ring w g h n 1 ([x] :: rs)) : Calls Try.prog 15 #[.pointer (some ⟨g, 0, none⟩)] w (RetPo g h n rs x w) :=
  (pop_any g h n 1 ([x] :: rs) w r).mono fun e w' ⟨A, c, h1, h2, h3, h4, h5, h6⟩ => by
    obtain ⟨b, o, rfl, _, _, hc⟩ := h2 (by simp)
    exact ⟨b, o, c, h1, hc 0 _ rfl, h5, h6⟩
def RetPn (g h n : Nat) (w : World) (e : Ending) (w' : World) : Prop := ∃ A c, e = .returned (.tuple #[.slice A 0 c, .bool false]) ∧ Ring w' g h n 1 [] ∧ Turn (Two g h) w w'
theorem pop1_none (g h n : Nat) (w : World) (r : Ring w g h n 1 []) : Calls Try.prog 15 #[.pointer (some ⟨g, 0, none⟩)] w (RetPn g h n w) :=
  (pop_any g h n 1 [] w r).mono fun e w' ⟨A, c, h1, h2, h3, h4, h5, h6⟩ => ⟨A, c, h1, h5, h6⟩
theorem new1 (n : Nat) (w : World) (hn0 : 0 < n) (hn : n ≤ 64) : Calls Try.prog 9 #[.int .i64 n, .int .i64 1] w (RetNew n 1 w) := new_yes n 1 w hn0 hn (by omega)
theorem one64 (w : World) (x : Int) : Ints (w.alloc (.cells #[.int .i64 x] 2)) (some ⟨w.heap.size, 0, none⟩) [x] := one_new w x
theorem two_base {T : Nat → Prop} {a w w' : World} {g h : Nat} (hb : Below a.heap.size a w) (ht : Turn (Two g h) w w') (hg : a.heap.size ≤ g) (hh : a.heap.size ≤ h) : Below a.heap.size a w' :=
  hb.trans (ht.below hb.size fun i hi => by rcases hi with hi | hi <;> omega)

theorem new2 (w : World) : Calls Try.prog 9 #[.int .i64 2, .int .i64 1] w (RetNew 2 1 w) := new_yes 2 1 w (by omega) (by omega) (by omega)
set_option maxHeartbeats 2000000 in
theorem lives_any (w : World) : Calls Try.prog 11 #[] w fun e w' => e = .returned (.bool true) ∧ Below w.heap.size w w' := by
  go_enter Try.func11, Try.ntmps11
  go_wp2_with fail
  refine (new2 w).mono ?_
  rintro r w1 ⟨g, h, rfl, r1, hg, hh, hb1⟩
  have R1 := Lib.hid (r1.next (below_new w1 (.cells #[.int .i64 1] 2)))
  have L1 := Lib.hid (below_next hb1 (below_new w1 (.cells #[.int .i64 1] 2)))
  clear r1 hb1
  go_wp2_with fail
  refine (push1 g h 2 [] 1 _ _ _ R1.out (one64 w1 1) (by simp)).mono ?_
  rintro r w2 ⟨rfl, r2, ht⟩
  have K2 := Lib.hid (two_base (T := fun _ => True) L1.out ht hg hh)
  have R2 := Lib.hid (r2.next (below_new w2 (.cells #[.int .i64 2] 2)))
  have L2 := Lib.hid (below_next K2.out (below_new w2 (.cells #[.int .i64 2] 2)))
  clear r2 ht K2 L1 R1
  go_wp2_with fail
  refine (push1 g h 2 ([] ++ [[1]]) 2 _ _ _ R2.out (one64 w2 2) (by simp)).mono ?_
  rintro r w3 ⟨rfl, r3, ht⟩
  have K3 := Lib.hid (two_base (T := fun _ => True) L2.out ht hg hh)
  have R3 := Lib.hid (r3.next (below_new w3 (.cells #[.int .i64 3] 2)))
  have L3 := Lib.hid (below_next K3.out (below_new w3 (.cells #[.int .i64 3] 2)))
  clear r3 ht K3 L2 R2
  go_wp2_with fail
  refine (push1_full g h 2 ([] ++ [[1]] ++ [[2]]) 3 _ _ _ R3.out (one64 w3 3) (by simp)).mono ?_
  rintro r w4 ⟨rfl, r4, ht⟩
  have K4 := Lib.hid (two_base (T := fun _ => True) L3.out ht hg hh)
  have R4 := Lib.hid r4
  clear r4 ht L3 R3
  go_wp2_with fail
  refine (pop1 g h 2 [[2]] 1 _ R4.out).mono ?_
  rintro r w5 ⟨b, o, c, rfl, hc, r5, ht⟩
  have K5 := Lib.hid (two_base (T := fun _ => True) K4.out ht hg hh)
  clear r5 ht K4 R4
  go_wp2
  go_ret
  exact ⟨rfl, K5.out⟩

section
variable {H : Type} {enc : TypeId × Value → H} {w : World} {v : Value} {d : DataW H} {p : List MemPlace} {r : Reach} {b0 base : Nat}
theorem deed_arg (hok : Value.okWide Try.prog w r b0 35 v) (h : DataW.Trod enc Try.prog w base (fun _ => true) true 35 v d p) :
    ∃ (x : Deed) (B : Option Addr) (c : Nat), v = .agg #[.int .i64 x.1, .int .i64 x.2.1, .slice B x.2.2.length c] ∧ IntsC w B c x.2.2 := by
  obtain ⟨x0, x1, x2, y0, y1, y2, n, rfl, _, _, t0, t1, t2⟩ := open_agg3 Try.underlying35 (by kernel_rfl) (by kernel_rfl) hok h
  obtain ⟨K, hK, _, _⟩ := DataW.trod_int Try.underlying3 t0
  obtain ⟨I, hI, _, _⟩ := DataW.trod_int Try.underlying3 t1
  injection hK with hK
  injection hI with hI
  subst hK hI
  obtain ⟨B, c, l, rfl, hl⟩ := row_of Try.underlying33 Try.underlying2 (by kernel_rfl) t2
  exact ⟨(K, I, l), B, c, rfl, hl⟩
theorem deeds_arg (hok : Value.okWide Try.prog w r b0 22 v) (h : DataW.Trod enc Try.prog w base (fun _ => true) true 22 v d p) :
    ∃ (A : Option Addr) (c : Nat) (ds : List Deed), v = .slice A ds.length c ∧ Deeds w A ds ∧ ds.length ≤ maxLen := by
  obtain ⟨a, len, cap, rfl⟩ := okWide_slice Try.underlying22 hok
  obtain ⟨fuel, hf⟩ := h
  rcases open_slice Try.underlying22 hf with ⟨hcs, _⟩ | ⟨x, l, c, m, n, D, Pl, hcs, _, hl, hm, hmm, _, hx⟩
  · simp [Value.cells] at hcs
    obtain ⟨rfl, rfl, rfl⟩ := hcs
    exact ⟨none, 0, [], rfl, fun hp => absurd hp (by simp), by simp⟩
  · simp [Value.cells] at hcs
    obtain ⟨rfl, rfl, rfl⟩ := hcs
    have hlm : len ≤ m := by rw [hmm]; split <;> omega
    have ce : Try.prog.cellsOf 35 = 3 := by kernel_rfl
    have each : ∀ i, i < len → ∃ e : Deed, w.cell? (x.add (i * 3)) = some (.int .i64 e.1) ∧ w.cell? (x.add (i * 3 + 1)) = some (.int .i64 e.2.1) ∧ ∃ B c, w.cell? (x.add (i * 3 + 2)) = some (.slice B e.2.2.length c) ∧ e.2.2.length ≤ maxLen ∧ Ints w B e.2.2 := by
      intro i hi
      obtain ⟨cs', h1, h2⟩ := hx i (by omega)
      rw [ce] at h1
      obtain ⟨_, hlen, hcell⟩ := World.cells?_some h1
      obtain ⟨xs, k, _, _, _, hxl, hfl⟩ := DataW.trod_struct Try.underlying35 h2
      match cs', hlen with
      | [v0, v1, v2], _ =>
        have g0 := hfl 0 _ rfl
        have g1 := hfl 1 _ rfl
        have g2 := hfl 2 _ rfl
        have z1 : Try.prog.cellsOf 3 = 1 := by kernel_rfl
        have z2 : Try.prog.cellsOf 33 = 1 := by kernel_rfl
        simp [z1] at g0 g1
        simp [z2] at g2
        match xs, hxl with
        | [y0, y1, y2], _ =>
          obtain ⟨K, hK, _, _⟩ := DataW.trod_int Try.underlying3 g0
          obtain ⟨I, hI, _, _⟩ := DataW.trod_int Try.underlying3 g1
          obtain ⟨B, cB, row, hB, hrow⟩ := row_of Try.underlying33 Try.underlying2 (by kernel_rfl) g2
          have e0 := hcell 0 (by omega)
          have e1 := hcell 1 (by omega)
          have e2 := hcell 2 (by omega)
          rw [add_add] at e0 e1 e2
          injection hK with hK
          injection hI with hI
          subst hK hI hB
          exact ⟨(K, I, row), by simpa using e0, by simpa using e1, B, cB, by simpa using e2, hrow.2.2.2.1, hrow.1⟩
    obtain ⟨q, hq⟩ := choose_lt each
    refine ⟨some x, cap, (List.range len).map q, by simp, fun hp => ?_, by simp; omega⟩
    have hp' : 0 < len := by simpa using hp
    obtain ⟨bb, off, spot⟩ := x
    have h0 := (hq 0 hp').1
    have hspot : spot = none := by simpa [Addr.add] using World.cell?_spot h0
    subst hspot
    refine ⟨bb, off, rfl, World.block_lt_of_cell? w ⟨bb, off, none⟩ (by simpa [Addr.add] using h0), fun k dd hd => ?_⟩
    have hk : k < len := by have := (List.getElem?_eq_some_iff.1 hd).1; simpa using this
    rw [List.getElem?_map, List.getElem?_range hk] at hd
    simp only [Option.map_some, Option.some.injEq] at hd
    subst hd
    obtain ⟨k0, k1, B, c', k2, k3, k4⟩ := hq k hk
    rw [Go.WideShapes.add_plain] at k0 k1 k2
    exact ⟨k0, by rw [Nat.add_assoc]; exact k1, B, c', by rw [Nat.add_assoc]; exact k2, k3, k4⟩
end
end Go.Proofs.Ytocdejjkmfnnnaa.Rg
