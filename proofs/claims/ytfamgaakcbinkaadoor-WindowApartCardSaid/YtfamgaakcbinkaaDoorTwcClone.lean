/-
  slices.Clone of a window's two rows, and (*twin.Agg[int64]).Clone. Conditions: as told in each.
-/
import Derived.Test.YtfamgaakcbinkaaDoorTwcAll
namespace Go.Proofs.YtfamgaakcbinkaaDoor.Twc
open Go.Proofs.YtfamgaakcbinkaaDoor.Sh Go.Proofs.YtfamgaakcbinkaaDoor.St
open Go.RowKit
set_option linter.unusedVariables false
set_option linter.unusedSectionVars false
variable [J : Jc]

/-- A row of one's own that is told. -/
def RetOwn (base0 : Nat) (e : TypeId) (size n : Nat) (vs : List Value) (w : World) (en : Ending) (w' : World) : Prop := ∃ V, en = .returned V ∧ w'.ownsRow base0 e size V n vs ∧ Below w.heap.size w w'
set_option maxHeartbeats 1000000 in
theorem clone_v (base base0 n : Nat) (V : Value) (vs : List Value) (w : World) (h : w.ownsRow base 2 1 V n vs) (h1 : ∀ u ∈ vs, u.oneCell' = true) (hl : n ≤ 1000) (hb0 : base0 ≤ w.heap.size) :
    Calls Tryd.prog 59 #[V] w (RetOwn base0 2 1 n vs w) := by
  obtain ⟨A, c, rfl, _, _, hs⟩ := own_seq h (by decide)
  have hvl : vs.length = n * 1 := h.1
  have q : ∀ (w : World) (a : Option Addr) (n c n' c' : Nat), (binOp .eql 27 (.slice a n c) (.slice none n' c')).run Tryd.prog w = .ok (.bool a.isNone) w := fun w a n c n' c' => Go.Lib.run_eql_slice_nil w _ _ a n c n' c' Tryd.underlying27
  rcases A with _ | ad
  · have h0 : n = 0 := by
      rcases h.2 with ⟨e1, h0⟩ | ⟨g, cap, cur, e1, _⟩
      · exact h0
      · injection e1 with e1; cases e1
    subst h0
    obtain rfl : vs = [] := List.eq_nil_of_length_eq_zero (by omega)
    clear h hs hvl
    go_enter Tryd.func59, Tryd.ntmps59
    go_wp2
    go_ret
    exact ⟨_, rfl, World.ownsRow_nil _ _ _ _, Below.refl _ _⟩
  · have HS := Lib.hid ((hs.mono (S' := fun _ => True) fun _ _ => trivial).next (below_new w (.cells #[] 2)))
    have HO := Lib.hid (own_empty w 2 1 base0 w.heap.size rfl hb0)
    have L1 : Hid (0 + n ≤ 100000) := Lib.hid (by omega)
    have LB : Hid (base0 ≤ (w.alloc (.cells #[] 2)).heap.size) := Lib.hid (by simp; omega)
    have LE := Lib.hid hvl
    have O1 := Lib.hid h1
    clear h hs hl hvl h1
    go_enter Tryd.func59, Tryd.ntmps59
    go_wp2_with (at_builtin; refine wpList_appS infoV rfl (by decide) (by decide) Tryd.underlying27 rfl (.tmp 5) (.tmp 6) rfl base0 (.slice (some ⟨w.heap.size, 0, none⟩) 0 0) 0 [] rfl HO.out (fun _ => True) (some ad) n c vs rfl LE.out HS.out O1.out L1.out LB.out ?_; intro v4 w4 hv4 hg4 hat4; have V4 := Lib.hid hv4; have G4 := Lib.hid hg4; clear hv4 hg4 hat4)
    go_ret
    refine ⟨_, rfl, ?_, ?_⟩
    · have h4 := V4.out
      rw [Nat.zero_add, List.nil_append] at h4
      exact h4
    · exact ((Below.refl w.heap.size w).alloc (Nat.le_refl _) _).grown G4.out (by simp) (fun k hk => by
        have : w.heap.size = k := by simpa [Value.ownBlock] using hk
        omega)
set_option maxHeartbeats 1000000 in
theorem clone_s (base base0 n : Nat) (V : Value) (vs : List Value) (w : World) (h : w.ownsRow base 159 2 V n vs) (h1 : ∀ u ∈ vs, u.oneCell' = true) (hl : n ≤ 1000) (hb0 : base0 ≤ w.heap.size) :
    Calls Tryd.prog 157 #[V] w (RetOwn base0 159 2 n vs w) := by
  obtain ⟨A, c, rfl, _, _, hs⟩ := own_seq h (by decide)
  have hvl : vs.length = n * 2 := h.1
  have q : ∀ (w : World) (a : Option Addr) (n c n' c' : Nat), (binOp .eql 157 (.slice a n c) (.slice none n' c')).run Tryd.prog w = .ok (.bool a.isNone) w := fun w a n c n' c' => Go.Lib.run_eql_slice_nil w _ _ a n c n' c' Tryd.underlying157
  rcases A with _ | ad
  · have h0 : n = 0 := by
      rcases h.2 with ⟨e1, h0⟩ | ⟨g, cap, cur, e1, _⟩
      · exact h0
      · injection e1 with e1; cases e1
    subst h0
    obtain rfl : vs = [] := List.eq_nil_of_length_eq_zero (by omega)
    clear h hs hvl
    go_enter Tryd.func157, Tryd.ntmps157
    go_wp2
    go_ret
    exact ⟨_, rfl, World.ownsRow_nil _ _ _ _, Below.refl _ _⟩
  · have HS := Lib.hid ((hs.mono (S' := fun _ => True) fun _ _ => trivial).next (below_new w (.cells #[] 159)))
    have HO := Lib.hid (own_empty w 159 2 base0 w.heap.size rfl hb0)
    have L1 : Hid (0 + n ≤ 100000) := Lib.hid (by omega)
    have LB : Hid (base0 ≤ (w.alloc (.cells #[] 159)).heap.size) := Lib.hid (by simp; omega)
    have LE := Lib.hid hvl
    have O1 := Lib.hid h1
    clear h hs hl hvl h1
    go_enter Tryd.func157, Tryd.ntmps157
    go_wp2_with (at_builtin; refine wpList_appS infoN rfl (by decide) (by decide) Tryd.underlying157 rfl (.tmp 5) (.tmp 6) rfl base0 (.slice (some ⟨w.heap.size, 0, none⟩) 0 0) 0 [] rfl HO.out (fun _ => True) (some ad) n c vs rfl LE.out HS.out O1.out L1.out LB.out ?_; intro v4 w4 hv4 hg4 hat4; have V4 := Lib.hid hv4; have G4 := Lib.hid hg4; clear hv4 hg4 hat4)
    go_ret
    refine ⟨_, rfl, ?_, ?_⟩
    · have h4 := V4.out
      rw [Nat.zero_add, List.nil_append] at h4
      exact h4
    · exact ((Below.refl w.heap.size w).alloc (Nat.le_refl _) _).grown G4.out (by simp) (fun k hk => by
        have : w.heap.size = k := by simpa [Value.ownBlock] using hk
        omega)
theorem clone_nil (w : World) : Calls Tryd.prog 152 #[.pointer none] w fun e w' => e = .returned (.pointer none) ∧ w = w' := by
  go_enter Tryd.func152, Tryd.ntmps152
  go_wp2
  go_ret
  exact ⟨rfl, rfl⟩
/-- What New tells. -/
def RetFull (m : Nat) (w : World) (e : Ending) (w' : World) : Prop := ∃ g FV BV, e = .returned (.tuple #[.pointer (some ⟨g, 0, none⟩), .int .i64 0]) ∧ Tw w.heap.size w' g m FV BV [] [] (.int .i64 0 : Value) false ∧ Below w.heap.size w w'
set_option maxHeartbeats 1000000 in
theorem new_full (m : Nat) (w : World) (h1 : 1 ≤ m) (h2 : m ≤ 64) : Calls Tryd.prog 93 #[.int .i64 (m : Int), jv] w (RetFull m w) := by
  have t1 : decide ((m : Int) < 1) = false := decide_eq_false (by omega)
  have t2 : decide ((m : Int) > 64) = false := decide_eq_false (by omega)
  have t3 : ∀ W, (binOp .eql 121 jv .nilFunc).run Tryd.prog W = .ok (.bool false) W := fun W => by kernel_rfl
  unfold jv at *
  go_enter Tryd.func93, Tryd.ntmps93
  go_wp2
  go_ret2
  exact ⟨w.heap.size, .slice none 0 0, .slice none 0 0, rfl, ⟨Bk.new _ w _, World.ownsRow_nil _ _ _ _, World.ownsRow_nil _ _ _ _, Nat.le_refl _, fun h => absurd h (by simp)⟩, below_new w _⟩
/-- What a clone is. -/
def RetClone (m : Nat) (fs bs : List Int) (tv : Value) (tb : Bool) (w : World) (e : Ending) (w' : World) : Prop := ∃ g FV BV, e = .returned (.pointer (some ⟨g, 0, none⟩)) ∧ Tw w.heap.size w' g m FV BV fs bs tv tb ∧ Below w.heap.size w w'
theorem vals_cell (l : List Int) : ∀ u ∈ l.map (fun x => (Value.int .i64 x : Value)), u.oneCell' = true := fun u hu => by
  obtain ⟨y, _, rfl⟩ := List.mem_map.1 hu
  rfl
theorem clone_end {base g m : Nat} {FV BV V5 V6 FV' BV' : Value} {y : Int} {tb : Bool} {fs bs : List Int} {w w6 : World} (r : Tw base w g m FV BV fs bs (Value.int .i64 y) tb) (hX : Bk 161 w6 w.heap.size [.int .i64 m, jv, FV', BV', Value.int .i64 y, .bool tb]) (hB : Below w.heap.size w w6) (h5 : w6.ownsRow w.heap.size 159 2 V5 fs.length (flat (sums fs))) (h6 : w6.ownsRow w.heap.size 2 1 V6 bs.length (bs.map (Value.int .i64))) :
    RetClone m fs bs (Value.int .i64 y) tb w (.returned (.pointer (some ⟨w.heap.size, 0, none⟩))) ((w6.setCell ⟨w.heap.size, 2, none⟩ V5).setCell ⟨w.heap.size, 3, none⟩ V6) := by
  have ts : Turn (fun b => b = w.heap.size) w6 ((w6.setCell ⟨w.heap.size, 2, none⟩ V5).setCell ⟨w.heap.size, 3, none⟩ V6) :=
    Turn.setCell (p := ⟨w.heap.size, 3, none⟩) (Turn.setCell (p := ⟨w.heap.size, 2, none⟩) (Turn.refl (fun b => b = w.heap.size) w6) (.inl rfl) _) (.inl rfl) _
  refine ⟨w.heap.size, V5, V6, rfl, ⟨Bk.set_ (Bk.set_ hX 2 V5) 3 V6, own_turn h5 ts fun b hb e => own_bk_ne (t := 161) h5 hX (by decide) (by rw [hb, e]), own_turn h6 ts fun b hb e => own_bk_ne (t := 161) h6 hX (by decide) (by rw [hb, e]), Nat.le_refl _, r.2.2.2.2⟩, ?_⟩
  exact (hB.setCell (p := ⟨w.heap.size, 2, none⟩) (Nat.le_refl _) V5).setCell (p := ⟨w.heap.size, 3, none⟩) (Nat.le_refl _) V6
set_option maxHeartbeats 4000000 in
theorem clone_any (base g m : Nat) (FV BV : Value) (y : Int) (tb : Bool) (fs bs : List Int) (w : World) (r : Tw base w g m FV BV fs bs (Value.int .i64 y) tb) (hl : fs.length + bs.length ≤ 900) :
    Calls Tryd.prog 152 #[.pointer (some ⟨g, 0, none⟩)] w (RetClone m fs bs (Value.int .i64 y) tb w) := by
  have HR := Lib.hid r
  have CS := Lib.hid (fun W (h : Below w.heap.size w W) => clone_s base w.heap.size fs.length FV (flat (sums fs)) W (r.next h).2.1 (flat_one _) (by omega) h.size)
  have CV := Lib.hid (fun W (h : Below w.heap.size w W) => clone_v base w.heap.size bs.length BV (bs.map (Value.int .i64)) W (r.next h).2.2.1 (vals_cell bs) (by omega) h.size)
  have B1 := Lib.hid (below_new w (.cells #[.int .i64 m, jv, FV, BV, Value.int .i64 y, .bool tb] 161))
  have X1 := Lib.hid (Bk.new 161 w [.int .i64 m, jv, FV, BV, Value.int .i64 y, .bool tb])
  obtain ⟨c0, c1, c2, c3, c4, c5⟩ := r.all
  obtain ⟨A1, n1, rfl, -⟩ := r.front
  obtain ⟨A2, n2, rfl, -⟩ := r.back
  have R1 := Lib.hid (r.next B1.out)
  have d2 := R1.out.1.c 2
  have d3 := R1.out.1.c 3
  have hlw := r.1.lt
  have e1 : ¬ w.heap.size = g := fun e => by omega
  have e3 : ¬ g = w.heap.size := fun e => e1 e.symm
  clear r hl hlw
  obtain ⟨w1, hw1⟩ : ∃ w1, w.alloc (.cells #[.int .i64 m, jv, .slice A1 fs.length n1, .slice A2 bs.length n2, Value.int .i64 y, .bool tb] 161) = w1 := ⟨_, rfl⟩
  have SS := Lib.hid (fun W (h : Below w.heap.size w W) => show W.cell? ⟨g, 2, none⟩ = some (.slice A1 fs.length n1) ∧ W.cell? ⟨g, 3, none⟩ = some (.slice A2 bs.length n2) from ⟨(HR.out.next h).1.c 2, (HR.out.next h).1.c 3⟩)
  rw [hw1] at B1 X1 R1 d2 d3
  unfold jv at hw1 c1
  go_enter Tryd.func152, Tryd.ntmps152
  go_wp2_with fail
  clear hw1 c0 c1 c2 c3 c4 c5
  go_region_held3 (fun w' => w'.cell? ⟨g, 2, none⟩ = some (.slice A1 fs.length n1) ∧ w'.cell? ⟨g, 3, none⟩ = some (.slice A2 bs.length n2))
    (first
      | with_reducible exact K6.out
      | with_reducible exact K5.out
      | go_keep)
    (first
      | (go_at_call 157; (with_reducible refine (CS.out _ B1.out.drew).mono ?_); rintro r w5 ⟨V5, rfl, O5, hb5⟩; obtain ⟨A5, k5, rfl, -⟩ := own_seq O5 (by decide); have B5 := Lib.hid (below_next B1.out (below_next (Below.refl w1.heap.size w1).drew hb5)); have OS := Lib.hid O5; have X5 := Lib.hid (X1.out.next (below_next (Below.refl w1.heap.size w1).drew hb5)); have K5 := Lib.hid (SS.out _ B5.out); clear hb5 O5)
      | (go_at_call 59; (with_reducible refine (CV.out _ B5.out).mono ?_); rintro r w6 ⟨V6, rfl, O6, hb6⟩; obtain ⟨A6, k6, rfl, -⟩ := own_seq O6 (by decide); have B6 := Lib.hid (below_next B5.out hb6); have OV := Lib.hid O6; have OT := Lib.hid (own_below OS.out hb6); have X6 := Lib.hid (X5.out.next hb6); have K6 := Lib.hid (SS.out _ B6.out); have u2 := X6.out.c 2; have u3 := X6.out.c 3; have f2 := X6.out.f 2; have f3 := X6.out.f 3; clear hb6 O6))
  all_goals
    go_wp2_with fail
    go_ret
    exact clone_end HR.out X6.out B6.out OT.out OV.out
end Go.Proofs.YtfamgaakcbinkaaDoor.Twc
