/-
  Layer 17, token: (*reader).all. Condition: the two tables of unicode/utf8 hold what their text lays.
-/
import Derived.Test.YtdhpplbopciijaaDoorTkPick
set_option maxRecDepth 100000
namespace Go.Proofs.YtdhpplbopciijaaDoor.Tk
open Go.Proofs.YtdhpplbopciijaaDoor.Sh Go.Proofs.YtdhpplbopciijaaDoor.St
open Go.RowKit
set_option linter.unusedVariables false

def OkT (ts : List Tk) : Prop := ts.length ≤ 400 ∧ ∀ t ∈ ts, t.nums.length ≤ 64
theorem okT_add {ts ts' : List Tk} {t : Tk} {b a' : Nat} (h : OkT ts) (ht : t.nums.length ≤ 64) (e : addO ts t b = .next a' ts') : OkT ts' := by
  obtain ⟨-, rfl, h4⟩ := addO_next e
  refine ⟨by rw [List.length_append, List.length_singleton]; have := h.1; omega, fun x hx => ?_⟩
  rcases List.mem_append.1 hx with hx | hx
  · exact h.2 x hx
  · simp at hx; subst hx; exact ht
theorem step_ok {l : List UInt8} {a a' : Nat} {ts ts' : List Tk} (h : OkT ts) (hs : Step l a ts (.next a' ts')) : OkT ts' := by
  rcases hs with ⟨_, e⟩ | ⟨_, e⟩ | ⟨_, e⟩ | ⟨_, e⟩ | ⟨_, e⟩ | ⟨_, c', n, hf, e⟩
  · cases e; exact h
  · exact okT_add h (Nat.zero_le _) e.symm
  · unfold numO at e
    split at e
    · cases e
    · rcases List.eq_nil_or_concat ts with rfl | ⟨ps, q, rfl⟩
      · rw [putO_nil] at e; cases e; exact ⟨by simp, fun x hx => by simp at hx; subst hx; simp⟩
      · rw [List.concat_eq_append] at e h
        by_cases hk : q.kind = 1
        · rw [putO_num hk] at e
          split at e
          · cases e
          · rename_i h64
            cases e
            have hq := h.2 q (by simp)
            refine ⟨by have := h.1; simpa using this, fun x hx => ?_⟩
            rcases List.mem_append.1 hx with hx | hx
            · exact h.2 x (by simp [hx])
            · simp at hx; subst hx; simp; omega
        · rw [putO_other hk] at e; exact okT_add h (by simp) e.symm
  · unfold nameO at e
    split at e
    · cases e
    · exact okT_add h (Nat.zero_le _) e.symm
  · cases e; exact h
  · unfold signO at e
    split at e
    · cases e
    · split at e
      · exact okT_add h (Nat.zero_le _) e.symm
      · exact okT_add h (Nat.zero_le _) e.symm
theorem meth_any (w : World) (g : Nat) (s : ByteArray) (a : Nat) (V : Value) (qs : List Qt) (d : Rd w g s a V qs) (ha : a < s.size) (hs : s.size ≤ maxLen) (hq : OkT (qs.map Prod.fst)) (hT : Gl.Tabs w) :
    Calls Tryd.prog (pickF (clsN (s.data.toList.drop a))) #[.pointer (some ⟨g, 0, none⟩)] w (RetM g s a (qs.map Prod.fst) w) := by
  have hq4 : qs.length ≤ 400 := by simpa using hq.1
  have hq6 : ∀ q ∈ qs, q.1.nums.length ≤ 64 := fun q h => hq.2 q.1 (List.mem_map_of_mem h)
  have hlt := cls_lt (s.data.toList.drop a)
  obtain ⟨k, hk⟩ : ∃ k, clsN (s.data.toList.drop a) = k := ⟨_, rfl⟩
  rw [hk] at hlt ⊢
  rcases (show k = 0 ∨ k = 1 ∨ k = 2 ∨ k = 3 ∨ k = 4 ∨ k = 5 by omega) with rfl | rfl | rfl | rfl | rfl | rfl
  · exact (blank_any w g s a V qs d ha hs).mono fun e w' h => ⟨_, .inl ⟨hk, rfl⟩, h⟩
  · exact (newline_any w g s a V qs d ha hs hq4).mono fun e w' h => ⟨_, .inr (.inl ⟨hk, rfl⟩), h⟩
  · exact (number_any w g s a V qs d ha hs hq4 hq6).mono fun e w' h => ⟨_, .inr (.inr (.inl ⟨hk, rfl⟩)), h⟩
  · exact (name_any w g s a V qs d ha hs hq4).mono fun e w' h => ⟨_, .inr (.inr (.inr (.inl ⟨hk, rfl⟩))), h⟩
  · exact (remark_any w g s a V qs d ha hs).mono fun e w' h => ⟨_, .inr (.inr (.inr (.inr (.inl ⟨hk, rfl⟩)))), h⟩
  · exact (sign_any w g s a V qs d ha hs hq4 hT).mono fun e w' ⟨c, n, hf, h⟩ => ⟨_, .inr (.inr (.inr (.inr (.inr ⟨hk, c, n, hf, rfl⟩)))), h⟩
theorem pick_enter (k : Nat) (args : Array Value) (W : World) : Sem.run Tryd.prog (callFunc (pickF k) args) W = .ok (.enter (pickF k) args) W := by
  unfold pickF
  repeat' split
  all_goals rfl
/-- Where a reader stands. -/
def atOf (w : World) (g : Nat) : Nat := match w.cell? ⟨g, 1, none⟩ with
  | some v => (intOf v).toNat
  | none => 0
theorem Rd.atOf {w : World} {g a : Nat} {s : ByteArray} {V : Value} {qs : List Qt} (d : Rd w g s a V qs) : atOf w g = a := by unfold Tk.atOf; rw [d.all.2.1]; simp [intOf]
/-- What comes of the whole text. -/
def RetA (g : Nat) (s : ByteArray) (w : World) (e : Ending) (w' : World) : Prop := ∃ R, LexIs s.data.toList R ∧ match R with
  | .inl ts => ∃ b V' qs', e = .returned (.tuple #[]) ∧ Rd w' g s b V' qs' ∧ qs'.map Prod.fst = ts ∧ OkT ts ∧ Below g w w'
  | .inr (e0, p) => e = .panicked [{ v := .iface 25 (.agg #[.int .i64 (e0 : Int), .int .i64 (p : Int)]), recovered := false }] ∧ Below g w w'
def AllAt (g : Nat) (s : ByteArray) (w wr : World) (a : Nat) (V : Value) (qs : List Qt) : Prop := Rd wr g s a V qs ∧ Below g w wr ∧ a ≤ s.size ∧ OkT (qs.map Prod.fst) ∧ ∀ R, Lexes s.data.toList a (qs.map Prod.fst) R → Lexes s.data.toList 0 [] R
set_option maxHeartbeats 2000000 in
theorem all_any (w : World) (g : Nat) (s : ByteArray) (d : Rd w g s 0 (.slice none 0 0) []) (hs : s.size ≤ maxLen) (hT : ∀ W, Below g w W → Gl.Tabs W) :
    Calls Tryd.prog 11 #[.pointer (some ⟨g, 0, none⟩)] w (RetA g s w) := by
  have hlen : s.data.toList.length = s.size := by simp
  by_cases h2 : 2000 < s.size
  · have HF : Hid (Calls Tryd.prog 20 #[.pointer (some ⟨g, 0, none⟩), .int .i64 8] (w.setCell ⟨g, 1, none⟩ (.int .i64 2000)) (RetF 8 2000 (w.setCell ⟨g, 1, none⟩ (.int .i64 2000)))) := Lib.hid (fail_any _ g s 2000 _ _ 8 (d.at_ 2000))
    have HL : Hid (LexIs s.data.toList (.inr (8, 2000))) := Lib.hid (by unfold LexIs; rw [if_pos (by rw [hlen]; exact h2)])
    obtain ⟨c0, c1, -⟩ := d.all
    obtain ⟨f1, -⟩ := d.froz
    have i1 : (2000 : Int) < (s.size : Int) := by omega
    clear d h2 hlen
    go_enter Tryd.func11, Tryd.ntmps11
    go_wp2_with fail
    refine (HF.out).mono ?_
    rintro e w1 ⟨rfl, rfl⟩
    go_wp2
    exact ⟨rfl, _, HL.out, rfl, (Below.refl g w).setCell (p := ⟨g, 1, none⟩) (Nat.le_refl _) _⟩
  · have HL : Hid (∀ R, Lexes s.data.toList 0 [] R → LexIs s.data.toList R) := Lib.hid (fun R h => by unfold LexIs; rw [if_neg (by rw [hlen]; exact h2)]; exact h)
    obtain ⟨c0, -, -⟩ := d.all
    have i1 : ¬ (2000 : Int) < (s.size : Int) := by omega
    have HD := Lib.hid d
    have HT := Lib.hid hT
    have HLN := Lib.hid hlen
    clear d h2 hlen hT
    go_enter Tryd.func11, Tryd.ntmps11
    go_wp2_with fail
    clear c0
    go_loopw [] (fun wr => ∃ a V qs, AllAt g s w wr a V qs) (fun wr => s.size - atOf wr g)
    case atStart => exact ⟨0, _, [], HD.out, Below.refl _ _, Nat.zero_le _, ⟨by simp, fun t h => by simp at h⟩, fun R h => h⟩
    case round =>
      obtain ⟨a, V, qs, hat⟩ := hrel
      have HAT := Lib.hid hat
      obtain ⟨c0, c1, -⟩ := hat.1.all
      have haz := hat.2.2.1
      clear hat
      by_cases hlt : a < s.size
      · have i2 : (a : Int) < (s.size : Int) := by omega
        go_wp2_with fail
        go_region
        go_wp2_with fail
        have D1 := Lib.hid (HAT.out.1.next (Below.refl _ _).drew)
        have L1 := Lib.hid (HAT.out.2.1.drew)
        refine (picked_any _ g s a V qs D1.out hlt hs).mono ?_
        rintro e w2 ⟨rfl, hb2⟩
        have D2 := Lib.hid (D1.out.next hb2)
        have L2 := Lib.hid (L1.out.trans (hb2.mono (Nat.le_of_lt D1.out.lt)))
        have HM := Lib.hid (meth_any w2 g s a V qs D2.out hlt hs HAT.out.2.2.2.1 (HT.out _ L2.out))
        unfold fnV
        have HE := Lib.hid (fun args W => pick_enter (clsN (s.data.toList.drop a)) args W)
        generalize pickF (clsN (s.data.toList.drop a)) = f at *
        have HLT := Lib.hid hlt
        clear hb2 c0 c1 D1 L1 hlt
        go_wp2_with fail
        rw [HE.out, Oper.upon_enter]
        refine (HM.out).mono ?_
        rintro e w3 ⟨o, ho, h3⟩
        cases o with
        | next b ts =>
          obtain ⟨V', qs', rfl, d3, hm3, hb3⟩ := h3
          have HN := Lib.hid (show AllAt g s w w3 b V' qs' from ⟨d3, L2.out.trans hb3, by have := (step_on (by rw [HLN.out]; exact HLT.out) ho).2; rw [HLN.out] at this; exact this, by rw [hm3]; exact step_ok HAT.out.2.2.2.1 ho, fun R hR => HAT.out.2.2.2.2 R (.next (by rw [HLN.out]; exact HLT.out) ho (by rw [← hm3]; exact hR))⟩)
          have HST := Lib.hid (step_on (by rw [HLN.out]; exact HLT.out) ho).1
          clear d3 hm3 hb3 ho
          go_wp2
          go_round
          case rel => exact ⟨b, V', qs', HN.out⟩
          case measure => rw [HAT.out.1.atOf, HN.out.1.atOf]; have := HST.out; have := HLT.out; omega
        | bad e0 p =>
          obtain ⟨rfl, hb3⟩ := h3
          have HB := Lib.hid (HL.out _ (HAT.out.2.2.2.2 _ (.bad (by rw [HLN.out]; exact HLT.out) ho)))
          have L3 := Lib.hid (L2.out.trans hb3)
          clear hb3 ho
          go_wp2
          exact ⟨rfl, _, HB.out, rfl, L3.out⟩
      · have i2 : ¬ (a : Int) < (s.size : Int) := by omega
        have HLX := Lib.hid (HAT.out.2.2.2.2 _ (Lexes.done (by rw [HLN.out]; omega)))
        go_wp2_with fail
        go_region
        go_wp2
        go_end0
        exact ⟨.inl (qs.map Prod.fst), HL.out _ HLX.out, a, V, qs, rfl, HAT.out.1.next (Below.refl _ _).drew, rfl, HAT.out.2.2.2.1, HAT.out.2.1.drew⟩
end Go.Proofs.YtdhpplbopciijaaDoor.Tk
