/-
  A list of texts as it lies in memory, away from the window's blocks; riffleref12's Push and All. Conditions: as told in each.
-/
import Derived.Test.YtogbemdoimhndaaTwDeed
import Derived.Test.YtogbemdoimhndaaTwsClone
set_option maxRecDepth 100000
namespace Go.Proofs.Ytogbemdoimhndaa.Tws
open Go.Proofs.Ytogbemdoimhndaa.Sh Go.Proofs.Ytogbemdoimhndaa.St
open Go.RowKit
set_option linter.unusedVariables false

/-- The texts l behind a slice value, in no block of T. -/
def Lst (T : Nat → Prop) (w : World) (V : Value) (l : List ByteArray) : Prop := ∃ A c, V = .slice A l.length c ∧ l.length ≤ c ∧ c ≤ maxLen ∧ Seq (fun b => ¬ T b) w A (l.map Value.string)
theorem Lst.nil (T : Nat → Prop) (w : World) : Lst T w (.slice none 0 0) [] := ⟨none, 0, rfl, Nat.le_refl _, by simp [maxLen], Seq.nil _ _ _⟩
theorem Lst.left {T T' : Nat → Prop} {w w' : World} {V : Value} {l : List ByteArray} (h : Lst T w V l) (ht : Turn T w w') (hT : ∀ b, T' b → T b ∨ w.heap.size ≤ b) : Lst T' w' V l := by
  obtain ⟨A, c, e, h1, h2, hs⟩ := h
  refine ⟨A, c, e, h1, h2, fun hp => ?_⟩
  obtain ⟨g, o, e', hg, hl, hc⟩ := hs hp
  refine ⟨g, o, e', fun k => ?_, Nat.lt_of_lt_of_le hl ht.size, fun j x hx => ht.cell (p := ⟨g, o + j, none⟩) hg (hc j x hx)⟩
  rcases hT g k with k | k
  · exact hg k
  · omega
theorem Lst.next {T : Nat → Prop} {w w' : World} {V : Value} {l : List ByteArray} (h : Lst T w V l) (hb : Below w.heap.size w w') : Lst T w' V l := h.left (Turn.of_below T hb) fun b k => .inl k
theorem Lst.sub {T T' : Nat → Prop} {w : World} {V : Value} {l : List ByteArray} (h : Lst T w V l) (hT : ∀ b, T' b → T b) : Lst T' w V l := h.left (Turn.refl T w) fun b k => .inl (hT b k)
/-- All, one behind the other. -/
def cat (l : List ByteArray) : ByteArray := l.foldl (· ++ ·) ⟨#[]⟩
theorem cat_snoc (l : List ByteArray) (x : ByteArray) : cat (l ++ [x]) = cat l ++ x := by simp [cat]
theorem cat_size : ∀ (l : List ByteArray) (a : ByteArray), (l.foldl (· ++ ·) a).size = a.size + wsum l
  | [], a => by simp [wsum]
  | x :: l, a => by
    rw [List.foldl_cons, cat_size l, ByteArray.size_append, wsum_cons]
    unfold wt
    omega
theorem cat_jl : ∀ (n : Nat) (l : List ByteArray), l.length = n → cat l = jl l
  | 0, l, h => by
    obtain rfl := List.eq_nil_of_length_eq_zero h
    rfl
  | n + 1, l, h => by
    obtain ⟨a, x, rfl⟩ : ∃ a x, l = a ++ [x] := ⟨l.dropLast, l.getLast (by intro e; subst e; simp at h), (List.dropLast_concat_getLast _).symm⟩
    have ha : a.length = n := by simpa using h
    rw [cat_snoc, cat_jl n a ha]
    rcases Nat.eq_zero_or_pos a.length with h0 | h0
    · obtain rfl := List.eq_nil_of_length_eq_zero h0
      show (⟨#[]⟩ : ByteArray) ++ x = x
      exact ByteArray.empty_append
    · rw [jl_app (by simp) a h0]
      rfl
theorem wsum_take (l : List ByteArray) (k : Nat) : wsum (l.take k) ≤ wsum l := by
  have h := wsum_app (l.take k) (l.drop k)
  rw [List.take_append_drop] at h
  omega
set_option maxHeartbeats 1000000 in
theorem rall_any (T : Nat → Prop) (V : Value) (l : List ByteArray) (w : World) (h : Lst T w V l) (hl : l.length ≤ 900) (hw : wsum l ≤ 1000000) :
    Calls Try.prog 37 #[V] w fun e w' => e = .returned (.string (jl l)) ∧ w = w' := by
  obtain ⟨A, c, rfl, _, _, hs⟩ := h
  have HS := Lib.hid hs
  have HJ := Lib.hid (cat_jl _ l rfl)
  have HW := Lib.hid hw
  clear hs hw
  go_enter Try.func37, Try.ntmps37
  go_wp2
  go_loop [3, 4] (fun s i => ∃ k : Nat, k ≤ l.length ∧ i = .int .i64 k ∧ s = .string (cat (l.take k))) (fun _ i => l.length - (intOf i).toNat)
  case atStart => exact ⟨0, Nat.zero_le _, rfl, rfl⟩
  case round =>
    obtain ⟨k, hk, rfl, rfl⟩ := hrel
    by_cases hlt : k < l.length
    · obtain ⟨x, hx⟩ : ∃ x, l[k]? = some x := ⟨_, List.getElem?_eq_getElem hlt⟩
      obtain ⟨b, off, rfl, _, _, hz⟩ := HS.out.one (j := k) (u := .string x) (by rw [List.getElem?_map, hx]; rfl)
      have i1 : (k : Int) < (l.length : Int) := by omega
      have hst : cat (l.take (k + 1)) = cat (l.take k) ++ x := by
        rw [List.take_add_one, hx]
        exact cat_snoc _ _
      have hsz : ¬ ((cat (l.take k)).size + x.size > 9223372036854775807) := by
        have h1 : (cat (l.take (k + 1))).size = 0 + wsum (l.take (k + 1)) := cat_size _ _
        rw [hst, ByteArray.size_append] at h1
        have h2 := wsum_take l (k + 1)
        have := HW.out
        omega
      have HST := Lib.hid hst
      obtain ⟨s0, hs0⟩ : ∃ s0, cat (l.take k) = s0 := ⟨_, rfl⟩
      rw [hs0] at HST hsz ⊢
      clear hx hst hs0
      go_wp2
      go_round
      case rel => exact ⟨k + 1, by omega, by go_num, by rw [HST.out]⟩
      case measure => simp [intOf]; omega
    · obtain rfl : k = l.length := by omega
      rw [List.take_length, HJ.out]
      go_wp2
      go_ret
      exact ⟨rfl, rfl⟩
theorem one_str (x : ByteArray) : ∀ u ∈ [(Value.string x)], u.oneCell' = true := one_ev x
theorem rpush_full (V : Value) (l : List ByteArray) (T : Nat → Prop) (x : ByteArray) (w : World) (h : Lst T w V l) :
    Calls Try.prog 36 #[V, .int .i64 (l.length : Nat), .string x] w fun e w' => e = .returned (.tuple #[V, .int .i64 19]) ∧ w = w' := by
  obtain ⟨A, c, rfl, _, _, hs⟩ := h
  clear hs
  go_enter Try.func36, Try.ntmps36
  go_wp2
  go_ret2
  exact ⟨rfl, rfl⟩
/-- What the document's push tells. -/
def RetRp (l : List ByteArray) (x : ByteArray) (w : World) (e : Ending) (w' : World) : Prop := ∃ V, e = .returned (.tuple #[V, .int .i64 0]) ∧ Lst (fun b => b < w.heap.size) w' V (l ++ [x]) ∧ Below w.heap.size w w'
set_option maxHeartbeats 2000000 in
theorem rpush_room (V : Value) (l : List ByteArray) (T : Nat → Prop) (m : Nat) (x : ByteArray) (w : World) (h : Lst T w V l) (hm : ¬ l.length = m) (hl : l.length ≤ 900) :
    Calls Try.prog 36 #[V, .int .i64 (m : Nat), .string x] w (RetRp l x w) := by
  obtain ⟨A, c, rfl, _, _, hs⟩ := h
  have t1 : ((l.length : Int) == (m : Int)) = false := by simp; omega
  have HS := Lib.hid ((hs.mono (S' := fun _ => True) fun _ _ => trivial).next (below_new w (.cells #[] 9)))
  have HO := Lib.hid (own_empty w 9 1 w.heap.size w.heap.size rfl (Nat.le_refl _))
  have L1 : Hid (0 + l.length ≤ 100000) := Lib.hid (by omega)
  have L2 : Hid (0 + l.length + 1 ≤ 100000) := Lib.hid (by omega)
  have LB : Hid (w.heap.size ≤ (w.alloc (.cells #[] 9)).heap.size) := Lib.hid (by simp)
  have LE := Lib.hid (show (l.map Value.string).length = l.length * 1 by simp)
  have O1 := Lib.hid (vals_cell l)
  clear hs hl hm
  go_enter Try.func36, Try.ntmps36
  go_wp2_with (first
    | (at_builtin; refine wpList_appS infoV rfl (by decide) (by decide) Try.underlying30 rfl (.tmp 13) (.tmp 14) rfl w.heap.size (.slice (some ⟨w.heap.size, 0, none⟩) 0 0) 0 [] rfl HO.out (fun _ => True) A l.length c (l.map Value.string) rfl LE.out HS.out O1.out L1.out LB.out ?_; intro v4 w4 hv4 hg4 hat4; have V4 := Lib.hid hv4; have G4 := Lib.hid hg4; have V5 := Lib.hid (World.ownsRow.alloc hv4 (.cells #[.string x] 9)); have Y5 := Lib.hid (seq_new 9 w4 [.string x]); have LC : Hid (w.heap.size ≤ (w4.alloc (.cells #[.string x] 9)).heap.size) := Lib.hid (by have := hg4.size; simp at this ⊢; omega); clear hv4 hg4 hat4)
    | (at_builtin; refine wpList_appS infoV rfl (by decide) (by decide) Try.underlying30 rfl (.tmp 15) (.tmp 17) rfl w.heap.size v4 (0 + l.length) ([] ++ l.map Value.string) rfl V5.out (fun _ => True) (some ⟨w4.heap.size, 0, none⟩) 1 1 [.string x] rfl rfl Y5.out (one_str x) L2.out LC.out ?_; intro v6 w6 hv6 hg6 hat6; have V6 := Lib.hid hv6; have G6 := Lib.hid hg6; clear hv6 hg6 hat6))
  go_ret2
  have h6 := V6.out
  have hb4 : Below w.heap.size w w4 := ((Below.refl w.heap.size w).alloc (Nat.le_refl _) _).grown G4.out (by simp) (fun k hk => by
    have : w.heap.size = k := by simpa [Value.ownBlock] using hk
    omega)
  have hb6 : Below w.heap.size w w6 := (hb4.alloc hb4.size _).grown G6.out LC.out (fun k hk => own_base V5.out k hk)
  obtain ⟨A6, c6, e6, h1, h2, h3⟩ := own_seq h6 (by decide)
  refine ⟨v6, rfl, ⟨A6, c6, by rw [e6]; simp, by simpa using h1, h2, ?_⟩, hb6⟩
  have h4 := h3.mono (S' := fun b => ¬ b < w.heap.size) fun b hb => by omega
  simpa using h4
end Go.Proofs.Ytogbemdoimhndaa.Tws
