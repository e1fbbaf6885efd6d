/-
  rifflelaw12.TwinPlays says yes, whatever the room and the deeds; deeds as arguments.
-/
import Derived.Test.YtogbemdoimhndaaTwDoes
import Derived.Test.YtogbemdoimhndaaTwLives
import Derived.Deep.SlicePairs
set_option maxRecDepth 100000
namespace Go.Proofs.Ytogbemdoimhndaa.Tws
open Go.Proofs.Ytogbemdoimhndaa.Sh Go.Proofs.Ytogbemdoimhndaa.St
open Go.Joins Go.ChangeShapes Go.WideShapes Go.ChangeAt Go.RowKit Go.Deep
set_option linter.unusedVariables false

section
variable {H : Type} {enc : TypeId × Value → H} {w : World} {v : Value} {d : DataW H} {p : List MemPlace} {r : Reach} {b0 base : Nat}
theorem deed_arg (hok : Value.okWide Try.prog w r b0 32 v) (h : DataW.Trod enc Try.prog w base (fun _ => true) true 32 v d p) :
    ∃ (b : Bool) (s : ByteArray), v = .agg #[.bool b, .string s] ∧ s.size ≤ maxLen := by
  obtain ⟨x0, y0, ya0, yb0, fu0, rfl, _, _, t0, t1⟩ := open_agg2 Try.underlying32 (by kernel_rfl) (by kernel_rfl) hok h
  obtain ⟨b, hb, _⟩ := DataW.trod_bool Try.underlying4 t0
  obtain ⟨s, hs, _, hz⟩ := DataW.trod_string Try.underlying9 t1
  injection hb with hb
  injection hs with hs
  subst hb hs
  exact ⟨b, s, rfl, hz⟩
theorem deeds_arg (hok : Value.okWide Try.prog w r b0 22 v) (h : DataW.Trod enc Try.prog w base (fun _ => true) true 22 v d p) :
    ∃ (A : Option Addr) (c : Nat) (ds : List Deed), v = .slice A ds.length c ∧ Deeds w A ds ∧ ds.length ≤ maxLen := by
  obtain ⟨a, len, cap, rfl⟩ := okWide_slice Try.underlying22 hok
  obtain ⟨fuel, hf⟩ := h
  rcases open_slice Try.underlying22 hf with ⟨hcs, _⟩ | ⟨x, l, c, m, n, D, Pl, hcs, _, hl, hm, hmm, _, hx⟩
  · simp [Value.cells] at hcs
    obtain ⟨rfl, rfl, rfl⟩ := hcs
    exact ⟨none, 0, [], rfl, fun hp => absurd hp (by simp), by simp⟩
  · simp [Value.cells] at hcs
    obtain ⟨rfl, rfl, rfl⟩ := hcs
    have hlm : len ≤ m := by rw [hmm]; split <;> omega
    have ce : Try.prog.cellsOf 32 = 2 := by kernel_rfl
    have each : ∀ i, i < len → ∃ e : Deed, w.cell? (x.add (i * 2)) = some (.bool e.1) ∧ w.cell? (x.add (i * 2 + 1)) = some (.string e.2) := by
      intro i hi
      obtain ⟨cs', h1, h2⟩ := hx i (by omega)
      rw [ce] at h1
      obtain ⟨_, hlen, hcell⟩ := World.cells?_some h1
      obtain ⟨xs, k, _, _, _, hxl, hfl⟩ := DataW.trod_struct Try.underlying32 h2
      match cs', hlen with
      | [v0, v1], _ =>
        have g0 := hfl 0 _ rfl
        have g1 := hfl 1 _ rfl
        have z1 : Try.prog.cellsOf 4 = 1 := by kernel_rfl
        have z2 : Try.prog.cellsOf 9 = 1 := by kernel_rfl
        simp [z1] at g0
        simp [z2] at g1
        match xs, hxl with
        | [y0, y1], _ =>
          obtain ⟨K, hK, _⟩ := DataW.trod_bool Try.underlying4 g0
          obtain ⟨I, hI, _, _⟩ := DataW.trod_string Try.underlying9 g1
          have e0 := hcell 0 (by omega)
          have e1 := hcell 1 (by omega)
          rw [add_add] at e0 e1
          injection hK with hK
          injection hI with hI
          subst hK hI
          exact ⟨(K, I), by simpa using e0, by simpa using e1⟩
    obtain ⟨q, hq⟩ := choose_lt each
    refine ⟨some x, cap, (List.range len).map q, by simp, fun hp => ?_, by simp; omega⟩
    have hp' : 0 < len := by simpa using hp
    obtain ⟨bb, off, spot⟩ := x
    have h0 := (hq 0 hp').1
    have hspot : spot = none := by simpa [Addr.add] using World.cell?_spot h0
    subst hspot
    refine ⟨bb, off, rfl, World.block_lt_of_cell? w ⟨bb, off, none⟩ (by simpa [Addr.add] using h0), fun k dd hd => ?_⟩
    have hk : k < len := by have := (List.getElem?_eq_some_iff.1 hd).1; simpa using this
    rw [List.getElem?_map, List.getElem?_range hk] at hd
    simp only [Option.map_some, Option.some.injEq] at hd
    subst hd
    obtain ⟨k0, k1⟩ := hq k hk
    rw [Go.WideShapes.add_plain] at k0 k1
    exact ⟨k0, by rw [Nat.add_assoc]; exact k1⟩
end
/-- At the head of the loop over the deeds. -/
def PlayAt (w wr : World) (g m : Nat) (V : Value) : Prop := ∃ (T : Nat → Prop) (l : List ByteArray) (base : Nat), Ob base wr g m l T ∧ Lst T wr V l ∧ l.length ≤ m ∧ (∀ z ∈ l, z.size ≤ 40) ∧ Below w.heap.size w wr ∧ ∀ b, T b → w.heap.size ≤ b
theorem play_next {w wr w1 w3 w4 : World} {g m base : Nat} {l : List ByteArray} {V : Value} {T T3 : Nat → Prop} (L0 : Below w.heap.size w wr) (B : Below wr.heap.size wr w1) (ho : Ob base w3 g m l T3) (hL : Lst T3 w3 V l) (ht : Turn T w1 w3) (h3 : ∀ b, T3 b → T b ∨ w1.heap.size ≤ b) (hT : ∀ b, T b → w.heap.size ≤ b) (hs : l.length ≤ m ∧ ∀ z ∈ l, z.size ≤ 40) (hb : Below w3.heap.size w3 w4) : PlayAt w w4 g m V := by
  have h1 : Below w.heap.size w w1 := below_next L0 B
  have h2 : Below w.heap.size w w3 := h1.trans (ht.below h1.size hT)
  refine ⟨T3, l, base, ho.next hb, hL.next hb, hs.1, hs.2, below_next h2 hb, fun b k => ?_⟩
  rcases h3 b k with k | k
  · exact hT b k
  · exact Nat.le_trans h1.size k
theorem new_bad (m : Int) (w : World) (h : m < 1 ∨ m > 64) : Calls Try.prog 9 #[.int .i64 m, .func (.func 10) #[] #[]] w fun e w' => e = .returned (.tuple #[.pointer none, .int .i64 1]) ∧ w = w' := new_no m w h
theorem new_good (m : Nat) (w : World) (h1 : 1 ≤ m) (h2 : m ≤ 64) : Calls Try.prog 9 #[.int .i64 (m : Int), .func (.func 10) #[] #[]] w fun e w' => ∃ g, e = .returned (.tuple #[.pointer (some ⟨g, 0, none⟩), .int .i64 0]) ∧ Ob w.heap.size w' g m [] (w.heap.size ≤ ·) ∧ Below w.heap.size w w' := ob_new m w h1 h2
set_option maxHeartbeats 4000000 in
theorem plays_any (m : Int) (A : Option Addr) (c : Nat) (ds : List Deed) (w : World) (hl : ds.length ≤ maxLen) (hD : Deeds w A ds) :
    Calls Try.prog 3 #[.int .i64 m, .slice A ds.length c] w fun e w' => e = .returned (.bool true) ∧ Below w.heap.size w w' := by
  by_cases hm : m < 1 ∨ m > 64
  · have NB := Lib.hid (new_bad m w hm)
    clear hD hl
    by_cases h1 : m < 1
    · have t1 : decide (m < 1) = true := decide_eq_true h1
      clear hm h1
      go_enter Try.func3, Try.ntmps3
      go_wp2_with (first
        | (go_at_call 9; (with_reducible refine (NB.out).mono ?_); rintro r w1 ⟨rfl, rfl⟩)
        | (go_at_call 11; (with_reducible refine (lives_any _).mono ?_); rintro r w2 ⟨rfl, hb2⟩; have B2 := Lib.hid hb2; clear hb2))
      go_ret
      exact ⟨rfl, B2.out⟩
    · have t1 : decide (m < 1) = false := decide_eq_false h1
      have t2 : decide (m > 64) = true := decide_eq_true (by omega)
      clear hm h1
      go_enter Try.func3, Try.ntmps3
      go_wp2_with (first
        | (go_at_call 9; (with_reducible refine (NB.out).mono ?_); rintro r w1 ⟨rfl, rfl⟩)
        | (go_at_call 11; (with_reducible refine (lives_any _).mono ?_); rintro r w2 ⟨rfl, hb2⟩; have B2 := Lib.hid hb2; clear hb2))
      go_ret
      exact ⟨rfl, B2.out⟩
  · obtain ⟨n, rfl⟩ : ∃ k : Nat, m = k := ⟨m.toNat, by omega⟩
    have hn0 : 1 ≤ n := by omega
    have hn : n ≤ 64 := by omega
    have t1 : decide ((n : Int) < 1) = false := decide_eq_false (by omega)
    have t2 : decide ((n : Int) > 64) = false := decide_eq_false (by omega)
    have HD := Lib.hid hD
    have HL := Lib.hid hl
    have NG := Lib.hid (new_good n w hn0 hn)
    have GR := fun (W : World) (h : Deeds W A ds) => great_any A c ds W HL.out h
    clear hm hD hl
    by_cases hg : greatB ds = true
    · rw [hg] at GR
      have HGR := Lib.hid GR
      clear GR hg
      go_enter Try.func3, Try.ntmps3
      go_wp2_with (first
        | (go_at_call 9; (with_reducible refine (NG.out).mono ?_); rintro r w1 ⟨g, rfl, h1, hb1⟩; have B1 := Lib.hid hb1; clear h1 hb1)
        | (go_at_call 12; (with_reducible refine (HGR.out _ (HD.out.below B1.out)).mono ?_); rintro r w2 ⟨rfl, rfl⟩)
        | (go_at_call 11; (with_reducible refine (lives_any _).mono ?_); rintro r w3 ⟨rfl, hb3⟩; have B3 := Lib.hid (below_next B1.out hb3); clear hb3))
      go_ret
      exact ⟨rfl, B3.out⟩
    · have hg' : greatB ds = false := by simpa using hg
      obtain ⟨hl8, hrows⟩ := great_no hg'
      rw [hg'] at GR
      have HGR := Lib.hid GR
      have HROWS := Lib.hid hrows
      clear GR hg hg' hrows
      go_enter Try.func3, Try.ntmps3
      go_wp2_with (first
        | (go_at_call 9; (with_reducible refine (NG.out).mono ?_); rintro r w1 ⟨g, rfl, h1, hb1⟩; have B1 := Lib.hid hb1; have O1 := Lib.hid h1; clear h1 hb1)
        | (go_at_call 12; (with_reducible refine (HGR.out _ (HD.out.below B1.out)).mono ?_); rintro r w2 ⟨rfl, rfl⟩))
      have PA : Hid (PlayAt w w1 g n (.slice none 0 0)) := Lib.hid ⟨_, [], _, O1.out, Lst.nil _ _, Nat.zero_le _, fun z hz => by simp at hz, B1.out, fun b k => k⟩
      clear O1
      go_loopw [7, 43] (fun V i wr => ∃ k : Nat, k ≤ ds.length ∧ i = .int .i64 k ∧ Hid (PlayAt w wr g n V)) (fun _ i _ => ds.length - (intOf i).toNat)
      case atStart => exact ⟨0, Nat.zero_le _, rfl, PA⟩
      case round =>
        obtain ⟨k, hk, rfl, HP⟩ := hrel
        by_cases hlt : k < ds.length
        · obtain ⟨T, l, base, ho, hL, hll, hz, hB, hT⟩ := HP.out
          obtain ⟨⟨db, x⟩, hd⟩ : ∃ d, ds[k]? = some d := ⟨_, List.getElem?_eq_getElem hlt⟩
          have i1 : (k : Int) < (ds.length : Int) := by omega
          obtain ⟨b, off, rfl, hb, hc⟩ := (HD.out.below hB) (by omega)
          obtain ⟨c0, c1⟩ := hc k _ hd
          have c0 : wr.cell? ⟨b, off + k * 2, none⟩ = some (.bool db) := c0
          have c1 : wr.cell? ⟨b, off + k * 2 + 1, none⟩ = some (.string x) := c1
          have hx := HROWS.out _ (List.mem_of_getElem? hd)
          have B3 := Lib.hid (below_new wr (.cells #[.bool db, .string x] 32))
          have DO := Lib.hid (does_any base g n T u7 (db, x) l _ (ho.next B3.out) (hL.next B3.out) hll hn hz hx)
          have SM := Lib.hid (step_small (d := (db, x)) hll hz hx)
          have SA := Lib.hid (fun T' V' W (h : Ob base W g n (step n l (db, x)) T') (h2 : Lst T' W V' (step n l (db, x))) => same_any base g n T' T' V' _ W h h2 (by have := SM.out.1; omega) SM.out.2)
          have HT := Lib.hid hT
          have L0 := Lib.hid hB
          have X1 := Lib.hid (Bk.new 32 wr [.bool db, .string x])
          have x0 : (wr.alloc (.cells #[.bool db, .string x] 32)).cell? ⟨wr.heap.size, 0, none⟩ = some (.bool db) := X1.out.c 0
          have x1 : (wr.alloc (.cells #[.bool db, .string x] 32)).cell? ⟨wr.heap.size, 1, none⟩ = some (.string x) := X1.out.c 1
          clear ho hL hll hz hB hT hc hd hx HP
          go_wp2_with (first
            | (go_at_call 13; (with_reducible refine (DO.out).mono ?_); rintro r w3 ⟨V3, T3, rfl, ho3, hL3, ht3, hT3⟩; have O3 := Lib.hid ho3; have L3 := Lib.hid hL3; have TT := Lib.hid ht3; have HT3 := Lib.hid hT3; clear ho3 hL3 ht3 hT3)
            | (go_at_call 14; (with_reducible refine (SA.out _ _ _ O3.out L3.out).mono ?_); rintro r w4 ⟨rfl, hb4⟩; have PZ : Hid (PlayAt w w4 g n V3) := Lib.hid (play_next L0.out B3.out O3.out L3.out TT.out HT3.out HT.out SM.out hb4); clear hb4))
          exact ⟨⟨k + 1, by omega, by go_num, PZ⟩, by simp [intOf]; omega⟩
        · obtain rfl : k = ds.length := by omega
          obtain ⟨T, l, base, -, -, -, -, hB, -⟩ := HP.out
          have L0 := Lib.hid hB
          clear HP hB hlt
          go_wp2_with (go_at_call 11; (with_reducible refine (lives_any _).mono ?_); rintro r w3 ⟨rfl, hb3⟩; have B3 := Lib.hid (below_next L0.out hb3); clear hb3)
          go_ret
          exact ⟨rfl, B3.out⟩
end Go.Proofs.Ytogbemdoimhndaa.Tws
