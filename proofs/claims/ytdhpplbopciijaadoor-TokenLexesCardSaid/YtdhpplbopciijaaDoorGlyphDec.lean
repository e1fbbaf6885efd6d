/-
  What the signs' readers of package glyph answer for any text: leading, Named, Of and First, over the library's own contract of utf8.DecodeRuneInString; nothing that was there is written. Condition: the two tables of unicode/utf8 hold what their text lays.
-/
import Derived.Test.YtdhpplbopciijaaDoorGlyphFind
set_option maxRecDepth 100000
namespace Go.Proofs.YtdhpplbopciijaaDoor.Gl
open Go.RowKit
set_option linter.unusedVariables false

def decRen : Go.Shelf.Ren := ⟨fun | 197 => 59 | 260 => 67 | n => n, fun | 9 => 9 | 21 => 21 | 3 => 3 | 4 => 4 | 5 => 5 | 105 => 69 | 119 => 84 | 0 => 0 | 46 => 78 | 139 => 87 | 138 => 86 | n => n, fun | 3 => 1 | 4 => 2 | n => n⟩
theorem decLays : Go.Proofs.Lays.n197 Tryd.prog decRen := {
  mixed := by kernel_rfl
  f197 := Tryd.func59.trans (congrArg some (by kernel_rfl))
  f260 := Tryd.func67.trans (congrArg some (by kernel_rfl))
  t0 := Tryd.underlying0
  a0 := Tryd.isAgg0
  z0 := Tryd.sizeOf0
  v0 := Tryd.zeroValue0
  t3 := Tryd.underlying3
  a3 := Tryd.isAgg3
  z3 := Tryd.sizeOf3
  v3 := Tryd.zeroValue3
  t4 := Tryd.underlying4
  a4 := Tryd.isAgg4
  z4 := Tryd.sizeOf4
  v4 := Tryd.zeroValue4
  t5 := Tryd.underlying5
  a5 := Tryd.isAgg5
  z5 := Tryd.sizeOf5
  v5 := Tryd.zeroValue5
  t9 := Tryd.underlying9
  a9 := Tryd.isAgg9
  z9 := Tryd.sizeOf9
  v9 := Tryd.zeroValue9
  t21 := Tryd.underlying21
  a21 := Tryd.isAgg21
  z21 := Tryd.sizeOf21
  v21 := Tryd.zeroValue21
  t46 := Tryd.underlying78
  a46 := Tryd.isAgg78
  z46 := Tryd.sizeOf78
  v46 := Tryd.zeroValue78
  t105 := Tryd.underlying69
  a105 := Tryd.isAgg69
  z105 := Tryd.sizeOf69
  v105 := Tryd.zeroValue69
  t119 := Tryd.underlying84
  a119 := Tryd.isAgg84
  z119 := Tryd.sizeOf84
  t138 := Tryd.underlying86
  a138 := Tryd.isAgg86
  z138 := Tryd.sizeOf86
  v138 := Tryd.zeroValue86
  t139 := Tryd.underlying87
  a139 := Tryd.isAgg87
  z139 := Tryd.sizeOf87
  v139 := Tryd.zeroValue87
  g3 := by kernel_rfl
  g4 := by kernel_rfl }
/-- The two tables of unicode/utf8 hold what their text lays. -/
def Tabs (w : World) : Prop := Lib.Utf8Tabs 1 2 w
theorem Tabs.below {w w' : World} (h : Tabs w) (hb : Below w.heap.size w w') : Tabs w' := Utf8Tabs_below h hb
theorem decode_any (s : ByteArray) (w : World) (hT : Tabs w) :
    Calls Tryd.prog 59 #[.string s] w fun e w' => e = .returned (.tuple #[.int .i32 (Lib.decodeGo s).1, .int .i64 (Lib.decodeGo s).2]) ∧ Below w.heap.size w w' := Any.utf8_DecodeRuneInString decLays s w hT

theorem rs_free : ∀ k, k < 44 → ∀ j, j < 44 → 1 ≤ j → rs j <+: rs k → j = k := by
  have h : ∀ k : Fin 44, ∀ j : Fin 44, 1 ≤ j.1 → (rs j.1).isPrefixOf (rs k.1) = true → j.1 = k.1 := by decide
  exact fun k hk j hj h1 hp => h ⟨k, hk⟩ ⟨j, hj⟩ h1 (List.isPrefixOf_iff_prefix.2 hp)
theorem first_congr {p q : Nat → Prop} {c : Nat} (h : IsFirst p c) (e : ∀ j, 1 ≤ j → j < 44 → (p j ↔ q j)) : IsFirst q c := by
  rcases h with ⟨rfl, h⟩ | ⟨h1, h2, h3, h4⟩
  · exact .inl ⟨rfl, fun k k1 k2 hq => h k k1 k2 ((e k k1 k2).2 hq)⟩
  · exact .inr ⟨h1, h2, (e c h1 h2).1 h3, fun k k1 k2 hq => h4 k k1 k2 ((e k k1 (by omega)).2 hq)⟩
theorem rs_zero : rs 0 = [] := rfl

def Lead (l : List UInt8) (c n : Nat) : Prop := IsFirst (fun k => rs k <+: l) c ∧ n = (rs c).length
set_option maxHeartbeats 1000000 in
theorem leading_any (s : ByteArray) (w : World) (hT : Tabs w) :
    Calls Tryd.prog 54 #[.string s] w fun e w' => ∃ c n : Nat, e = .returned (.tuple #[.int .i64 c, .int .i64 n]) ∧ Lead s.data.toList c n ∧ Below w.heap.size w w' := by
  go_enter Tryd.func54, Tryd.ntmps54
  go_wp2_with fail
  refine (decode_any s _ hT).mono ?_
  rintro e w1 ⟨rfl, hb1⟩
  have hfl : ∀ c : Nat, IsFirst (fun k => sgn k = ((Lib.decodeGo s).1 : Int)) c → IsFirst (fun k => rs k <+: s.data.toList) c := fun c h => first_congr h (fun j j1 j2 => ⟨fun e => (lead_iff s j j1 j2).1.1 e.symm, fun e => ((lead_iff s j j1 j2).1.2 e).symm⟩)
  have hln : ∀ c : Nat, 1 ≤ c → c < 44 → sgn c = ((Lib.decodeGo s).1 : Int) → (Lib.decodeGo s).2 = (rs c).length := fun c c1 c2 h => (lead_iff s c c1 c2).2 h.symm
  have HF := Lib.hid hfl
  have HL := Lib.hid hln
  clear hfl hln
  generalize (Lib.decodeGo s).1 = R at *
  generalize (Lib.decodeGo s).2 = M at *
  go_wp2_with fail
  refine (find_lead w1.heap.size (R : Int) _ (by rw [World.cell?_alloc_at _ _ _ _ rfl]; rfl)).mono ?_
  rintro e w2 ⟨c, rfl, hfst, hb2⟩
  have HB := Lib.hid (below_next hb1 (((Below.refl _ w1).alloc (Nat.le_refl _) _).trans (hb2.mono (by simp))))
  have HI := Lib.hid hfst
  have hc44 := hfst.lt
  clear hb2 hfst hb1
  by_cases hc : c = 0
  · subst hc
    go_wp2
    go_ret2
    exact ⟨0, 0, rfl, ⟨HF.out 0 HI.out, rfl⟩, HB.out⟩
  · have hq : ((c : Int) == 0) = false := by simpa using hc
    obtain ⟨h1, h2, h3⟩ := HI.out.at_ hc
    have hM := Lib.hid (HL.out c h1 h2 h3)
    clear h3 hc
    go_wp2
    go_ret2
    exact ⟨c, M, rfl, ⟨HF.out c HI.out, hM.out⟩, HB.out⟩
end Go.Proofs.YtdhpplbopciijaaDoor.Gl
