/-
  rifflelaw12.TwinApart says yes, whatever the deeds.
-/
import Derived.Test.YtogbemdoimhndaaTwPlays
set_option maxRecDepth 100000
namespace Go.Proofs.Ytogbemdoimhndaa.Tws
open Go.Proofs.Ytogbemdoimhndaa.Sh Go.Proofs.Ytogbemdoimhndaa.St
open Go.RowKit
set_option linter.unusedVariables false

theorem ob_clone (base g m : Nat) (l : List ByteArray) (T : Nat → Prop) (w : World) (h : Ob base w g m l T) (hl : l.length ≤ 900) :
    Calls Try.prog 19 #[.pointer (some ⟨g, 0, none⟩)] w fun e w' => ∃ g', e = .returned (.pointer (some ⟨g', 0, none⟩)) ∧ Ob w.heap.size w' g' m l (w.heap.size ≤ ·) ∧ Below w.heap.size w w' := by
  obtain ⟨FV, BV, fs, bs, tv, tb, r, rfl, ⟨y, rfl⟩, hT⟩ := h
  refine (clone_any base g m FV BV y tb fs bs w r (by simpa using hl)).mono ?_
  rintro e w' ⟨g', FV', BV', rfl, r', hb⟩
  exact ⟨g', rfl, ⟨FV', BV', fs, bs, _, tb, r', rfl, ⟨y, rfl⟩, fun b k => (r'.lt b k).2⟩, hb⟩
theorem Lst.low {T : Nat → Prop} {w : World} {V : Value} {l : List ByteArray} (h : Lst T w V l) : Lst (w.heap.size ≤ ·) w V l := by
  obtain ⟨A, c, e, h1, h2, hs⟩ := h
  refine ⟨A, c, e, h1, h2, fun hp => ?_⟩
  obtain ⟨g, o, e', _, hl, hc⟩ := hs hp
  exact ⟨g, o, e', by omega, hl, hc⟩
theorem does_five (base g : Nat) (T : Nat → Prop) (V : Value) (db : Bool) (x : ByteArray) (l : List ByteArray) (w : World) (h : Ob base w g 5 l T) (hL : Lst T w V l) (hl : l.length ≤ 5) (hz : ∀ z ∈ l, z.size ≤ 40) (hd : x.size ≤ 40) :
    Calls Try.prog 13 #[.pointer (some ⟨g, 0, none⟩), V, .int .i64 5, .agg #[.bool db, .string x]] w (RetDo base g 5 (step 5 l (db, x)) T w) := does_any base g 5 T V (db, x) l w h hL hl (by omega) hz hd
theorem new_five (w : World) : Calls Try.prog 9 #[.int .i64 5, .func (.func 10) #[] #[]] w fun e w' => ∃ g, e = .returned (.tuple #[.pointer (some ⟨g, 0, none⟩), .int .i64 0]) ∧ Ob w.heap.size w' g 5 [] (w.heap.size ≤ ·) ∧ Below w.heap.size w w' := new_good 5 w (by omega) (by omega)
theorem all_zero (w : World) : Calls Try.prog 15 #[.pointer none] w fun e w' => e = .returned (.tuple #[.string ⟨#[]⟩, .bool false]) ∧ Below w.heap.size w w' := all_nil w
set_option maxHeartbeats 8000000 in
theorem apart_any (A : Option Addr) (c : Nat) (ds : List Deed) (db : Bool) (x : ByteArray) (w : World) (hl : ds.length ≤ maxLen) (hD : Deeds w A ds) :
    Calls Try.prog 4 #[.slice A ds.length c, .agg #[.bool db, .string x]] w fun e w' => e = .returned (.bool true) ∧ Below w.heap.size w w' := by
  have HD := Lib.hid hD
  have HL := Lib.hid hl
  have LN := Lib.hid len_nil
  have GR := fun (W : World) (h : Deeds W A ds) => great_any A c ds W HL.out h
  have B0 := Lib.hid (below_new w (.cells #[.bool db, .string x] 32))
  have X0 := Lib.hid (Bk.new 32 w [.bool db, .string x])
  clear hD hl
  by_cases hg : greatB ds = true
  · rw [hg] at GR
    have HGR := Lib.hid GR
    clear GR hg
    go_enter Try.func4, Try.ntmps4
    go_wp2_with (first
      | (go_at_call 15; (with_reducible refine (all_zero _).mono ?_); rintro r w1 ⟨rfl, hb1⟩; have B1 := Lib.hid (below_next B0.out hb1); clear hb1)
      | (go_at_call 16; (with_reducible refine (drop_nil _).mono ?_); rintro r w2 ⟨rfl, rfl⟩)
      | (go_at_call 17; (with_reducible refine (LN.out _).mono ?_); rintro r w2 ⟨rfl, rfl⟩)
      | (go_at_call 18; (with_reducible refine (push_nil _ _).mono ?_); rintro r w2 ⟨rfl, rfl⟩)
      | (go_at_call 19; (with_reducible refine (clone_nil _).mono ?_); rintro r w2 ⟨rfl, rfl⟩)
      | (go_at_call 12; (with_reducible refine (HGR.out _ (HD.out.below B1.out)).mono ?_); rintro r w2 ⟨rfl, rfl⟩)
      | (go_at_call 11; (with_reducible refine (lives_any _).mono ?_); rintro r w3 ⟨rfl, hb3⟩; have B3 := Lib.hid (below_next B1.out hb3); clear hb3))
    go_ret
    exact ⟨rfl, B3.out⟩
  · have hg' : greatB ds = false := by simpa using hg
    obtain ⟨hl8, hrows⟩ := great_no hg'
    rw [hg'] at GR
    have HGR := Lib.hid GR
    have HROWS := Lib.hid hrows
    clear GR hg hg' hrows
    by_cases hx : x.size ≤ 40
    · have t1 : decide ((x.size : Int) > 40) = false := decide_eq_false (by omega)
      have HX := Lib.hid hx
      clear hx
      go_enter Try.func4, Try.ntmps4
      go_wp2_with (first
        | (go_at_call 15; (with_reducible refine (all_zero _).mono ?_); rintro r w1 ⟨rfl, hb1⟩; have B1 := Lib.hid (below_next B0.out hb1); have X1 := Lib.hid (X0.out.next hb1); have x1 := X1.out.c 1; have hbx := Lib.hid (show w.heap.size < w1.heap.size from X1.out.lt); clear hb1)
        | (go_at_call 16; (with_reducible refine (drop_nil _).mono ?_); rintro r w2 ⟨rfl, rfl⟩)
        | (go_at_call 17; (with_reducible refine (LN.out _).mono ?_); rintro r w2 ⟨rfl, rfl⟩)
        | (go_at_call 18; (with_reducible refine (push_nil _ _).mono ?_); rintro r w2 ⟨rfl, rfl⟩)
        | (go_at_call 19; (with_reducible refine (clone_nil _).mono ?_); rintro r w2 ⟨rfl, rfl⟩)
        | (go_at_call 12; (with_reducible refine (HGR.out _ (HD.out.below B1.out)).mono ?_); rintro r w2 ⟨rfl, rfl⟩)
        | (go_at_call 9; (with_reducible refine (new_five _).mono ?_); rintro r w2 ⟨g, rfl, h2, hb2⟩; have PA : Hid (PlayAt w1 w2 g 5 (.slice none 0 0)) := Lib.hid ⟨_, [], _, h2, Lst.nil _ _, Nat.zero_le _, fun z hz => by simp at hz, hb2, fun b k => k⟩; clear h2 hb2 x1))
      go_loopw [10, 62] (fun V i wr => ∃ k : Nat, k ≤ ds.length ∧ i = .int .i64 k ∧ Hid (PlayAt w1 wr g 5 V)) (fun _ i _ => ds.length - (intOf i).toNat)
      case atStart => exact ⟨0, Nat.zero_le _, rfl, PA⟩
      case round =>
        obtain ⟨k, hk, rfl, HP⟩ := hrel
        by_cases hlt : k < ds.length
        · obtain ⟨T, l, base, ho, hL, hll, hz, hB, hT⟩ := HP.out
          obtain ⟨⟨eb, y⟩, hd⟩ : ∃ d, ds[k]? = some d := ⟨_, List.getElem?_eq_getElem hlt⟩
          have i1 : (k : Int) < (ds.length : Int) := by omega
          obtain ⟨b, off, rfl, hb, hc⟩ := ((HD.out.below B1.out).below hB) (by omega)
          obtain ⟨c0, c1⟩ := hc k _ hd
          have c0 : wr.cell? ⟨b, off + k * 2, none⟩ = some (.bool eb) := c0
          have c1 : wr.cell? ⟨b, off + k * 2 + 1, none⟩ = some (.string y) := c1
          have hy := HROWS.out _ (List.mem_of_getElem? hd)
          have B3 := Lib.hid (below_new wr (.cells #[.bool eb, .string y] 32))
          have DO := Lib.hid (does_five base g T u10 eb y l _ (ho.next B3.out) (hL.next B3.out) hll hz hy)
          have SM := Lib.hid (step_small (d := (eb, y)) hll hz hy)
          have HT := Lib.hid hT
          have L0 := Lib.hid hB
          have X3 := Lib.hid (Bk.new 32 wr [.bool eb, .string y])
          have x0 : (wr.alloc (.cells #[.bool eb, .string y] 32)).cell? ⟨wr.heap.size, 0, none⟩ = some (.bool eb) := X3.out.c 0
          have x1 : (wr.alloc (.cells #[.bool eb, .string y] 32)).cell? ⟨wr.heap.size, 1, none⟩ = some (.string y) := X3.out.c 1
          clear ho hL hll hz hB hT hc hd hy HP
          go_wp2_with (go_at_call 13; (with_reducible refine (DO.out).mono ?_); rintro r w3 ⟨V3, T3, rfl, ho3, hL3, ht3, hT3⟩; have PZ : Hid (PlayAt w1 w3 g 5 V3) := Lib.hid (play_next L0.out B3.out ho3 hL3 ht3 hT3 HT.out SM.out (Below.refl _ _)); clear ho3 hL3 ht3 hT3)
          exact ⟨⟨k + 1, by omega, by go_num, PZ⟩, by simp [intOf]; omega⟩
        · obtain rfl : k = ds.length := by omega
          obtain ⟨T, l, base, ho, hL, hll, hz, hB, hT⟩ := HP.out
          obtain ⟨T0, ho0, hT0⟩ := ho.own
          have CL := Lib.hid (ob_clone base g 5 l T wr ho (by omega))
          have O0 := Lib.hid ho0
          have N0 := Lib.hid hT0
          have LL := Lib.hid hL.low
          have SM := Lib.hid (step_small (d := (db, x)) hll hz HX.out)
          have SS := Lib.hid (fun b' g' T' T2 V' W (h : Ob b' W g' 5 l T') (h2 : Lst T2 W V' l) => same_any b' g' 5 T' T2 V' l W h h2 (by omega) hz)
          have SY := Lib.hid (fun b' g' T' T2 V' W (h : Ob b' W g' 5 (step 5 l (db, x)) T') (h2 : Lst T2 W V' (step 5 l (db, x))) => same_any b' g' 5 T' T2 V' _ W h h2 (by have := SM.out.1; omega) SM.out.2)
          have DC := Lib.hid (fun b' g' T' V' W (h : Ob b' W g' 5 l T') (h2 : Lst T' W V' l) => does_five b' g' T' V' db x l W h h2 hll hz HX.out)
          have L0 := Lib.hid (below_next B1.out hB)
          have XR := Lib.hid (X1.out.next hB)
          clear HP hB hlt ho hL hll hz hT ho0 hT0
          go_wp2_with (first
            | (go_at_call 19; (with_reducible refine (CL.out).mono ?_); rintro r w3 ⟨gc, rfl, hc3, hb3⟩; have C3 := Lib.hid hc3; have B3 := Lib.hid hb3; have L3 := Lib.hid (LL.out.next hb3); clear hc3 hb3 CL)
            | (go_at_call 14; (with_reducible refine (SS.out _ _ _ _ _ _ C3.out L3.out).mono ?_); rintro r w4 ⟨rfl, hb4⟩; have B4 := Lib.hid (below_next B3.out hb4); have C4 := Lib.hid (C3.out.next hb4); have L4 := Lib.hid (L3.out.next hb4); have X4 := Lib.hid (XR.out.next B4.out); have x0 := X4.out.c 0; have x1 := X4.out.c 1; clear hb4 C3 L3)
            | (go_at_call 13; (with_reducible refine (DC.out _ _ _ _ _ C4.out L4.out).mono ?_); rintro r w5 ⟨V5, T5, rfl, ho5, hL5, ht5, hT5⟩; have C5 := Lib.hid ho5; have Y5 := Lib.hid hL5; have L5 := Lib.hid (L4.out.left ht5 fun b k => .inl k); have G5 := Lib.hid ((O0.out.next B4.out).turn ht5 fun b k h => by have := (N0.out b k).2.1; omega); have B5 := Lib.hid (B4.out.trans (ht5.below B4.out.size fun b k => k)); clear ho5 hL5 ht5 hT5 C4 L4)
            | (go_at_call 14; (with_reducible refine (SY.out _ _ _ _ _ _ C5.out Y5.out).mono ?_); rintro r w6 ⟨rfl, hb6⟩; have B6 := Lib.hid (below_next B5.out hb6); have G6 := Lib.hid (G5.out.next hb6); have L6 := Lib.hid (L5.out.next hb6); clear hb6 C5 Y5)
            | (go_at_call 14; (with_reducible refine (SS.out _ _ _ _ _ _ G6.out L6.out).mono ?_); rintro r w7 ⟨rfl, hb7⟩; have B7 := Lib.hid (below_next B6.out hb7); clear hb7)
            | (go_at_call 11; (with_reducible refine (lives_any _).mono ?_); rintro r w8 ⟨rfl, hb8⟩; have B8 := Lib.hid (below_next L0.out (below_next B7.out hb8)); clear hb8))
          go_ret
          exact ⟨rfl, B8.out⟩
    · have t1 : decide ((x.size : Int) > 40) = true := decide_eq_true (by omega)
      clear hx
      go_enter Try.func4, Try.ntmps4
      go_wp2_with (first
        | (go_at_call 15; (with_reducible refine (all_zero _).mono ?_); rintro r w1 ⟨rfl, hb1⟩; have B1 := Lib.hid (below_next B0.out hb1); have X1 := Lib.hid (X0.out.next hb1); have x1 := X1.out.c 1; clear hb1)
        | (go_at_call 16; (with_reducible refine (drop_nil _).mono ?_); rintro r w2 ⟨rfl, rfl⟩)
        | (go_at_call 17; (with_reducible refine (LN.out _).mono ?_); rintro r w2 ⟨rfl, rfl⟩)
        | (go_at_call 18; (with_reducible refine (push_nil _ _).mono ?_); rintro r w2 ⟨rfl, rfl⟩)
        | (go_at_call 19; (with_reducible refine (clone_nil _).mono ?_); rintro r w2 ⟨rfl, rfl⟩)
        | (go_at_call 12; (with_reducible refine (HGR.out _ (HD.out.below B1.out)).mono ?_); rintro r w2 ⟨rfl, rfl⟩)
        | (go_at_call 11; (with_reducible refine (lives_any _).mono ?_); rintro r w3 ⟨rfl, hb3⟩; have B3 := Lib.hid (below_next B1.out hb3); clear hb3))
      go_ret
      exact ⟨rfl, B3.out⟩
end Go.Proofs.Ytogbemdoimhndaa.Tws
