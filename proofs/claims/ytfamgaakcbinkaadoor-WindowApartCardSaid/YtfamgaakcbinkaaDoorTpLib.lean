/-
  slices.Clone and slices.Delete (from the first on) of numbers, slices.ContainsFunc of (*tape.Tape).unfit, slices.Reverse of deltas. Conditions: as told in each.
-/
import Derived.Test.YtfamgaakcbinkaaDoorTpRow
namespace Go.Proofs.YtfamgaakcbinkaaDoor.Tp
open Go.Proofs.YtfamgaakcbinkaaDoor.Sh Go.Proofs.YtfamgaakcbinkaaDoor.St
open Go.RowKit
set_option linter.unusedVariables false

set_option maxHeartbeats 400000 in
theorem cl64_any (A : Option Addr) (c : Nat) (d : List Int) (w : World) (hl : d.length ≤ 60000) (hi : Ints w A d) :
    Calls Tryd.prog 59 #[.slice A d.length c] w (RetT 2 w d) := by
  have q : ∀ (w : World) (a : Option Addr) (n c n' c' : Nat), (binOp .eql 27 (.slice a n c) (.slice none n' c')).run Tryd.prog w = .ok (.bool a.isNone) w := fun w a n c n' c' => Go.Lib.run_eql_slice_nil w _ _ a n c n' c' Tryd.underlying27
  rcases A with _ | a
  · have hd : d = [] := by
      rcases Nat.eq_zero_or_pos d.length with h | h
      · exact List.eq_nil_of_length_eq_zero h
      · obtain ⟨_, _, e, _⟩ := hi h; cases e
    subst hd
    go_enter Tryd.func59, Tryd.ntmps59
    go_wp2
    go_ret
    exact ⟨_, _, rfl, MineT.nil _ _ _, Below.refl _ _⟩
  · have HI := Lib.hid hi
    clear hi
    go_enter Tryd.func59, Tryd.ntmps59
    go_wp2_with (at_builtin; refine wpList_copyI numL Tryd.underlying27 rfl (.tmp 5) (.tmp 6) rfl rfl _ _ d rfl HI.out (by omega) ?_; intro B c' w' hm hb)
    go_ret
    exact ⟨_, _, rfl, hm, hb⟩
theorem setCells_turn (b : Nat) : ∀ (vs : List Value) (o : Nat) (w : World), Turn (fun i => i = b) w (w.setCells b o vs)
  | [], o, w => Turn.refl _ _
  | v :: vs, o, w => (Turn.setCell (p := ⟨b, o, none⟩) (Turn.refl (fun i => i = b) w) (.inl rfl) v).trans (setCells_turn b vs (o + 1) (w.setCell ⟨b, o, none⟩ v))
theorem setCells_row (b : Nat) (t : TypeId) : ∀ (vs : List Value) (o : Nat) (w : World) (cur : List Value), Bk t w b cur → o + vs.length ≤ cur.length → Bk t (w.setCells b o vs) b (splice cur o vs)
  | [], o, w, cur, h, hl => by
    have e : splice cur o [] = cur := by simp [splice]
    rw [e]; exact h
  | v :: vs, o, w, cur, h, hl => by
    have h1 := h.set_ o v
    have ih := setCells_row b t vs (o + 1) _ _ h1 (by simp at hl ⊢; omega)
    have e : splice (cur.set o v) (o + 1) vs = splice cur o (v :: vs) := by
      have ho : o < cur.length := by simp at hl; omega
      have e1 : cur.set o v = cur.take o ++ v :: cur.drop (o + 1) := by rw [List.set_eq_take_append_cons_drop, if_pos ho]
      have l1 : (cur.take o ++ [v]).length = o + 1 := by simp; omega
      have e2 : cur.set o v = (cur.take o ++ [v]) ++ cur.drop (o + 1) := by rw [e1]; simp
      unfold splice
      rw [e2, List.take_left' l1, ← l1, List.drop_append, l1, List.drop_drop]
      simp only [List.length_cons, List.append_assoc, List.cons_append]
      rw [show o + 1 + (o + 1 + vs.length - (o + 1)) = o + (vs.length + 1) by omega, List.drop_of_length_le (show (cur.take o ++ [v]).length ≤ o + 1 + vs.length by omega)]
      rfl
    rw [← e]
    exact ih
theorem isSome_at {w : World} {g : Nat} {t : TypeId} {cur : List Value} (h : Bk t w g cur) {i : Nat} (hi : i < cur.length) : (w.cell? ⟨g, i, none⟩).isSome = true := by
  rw [h.c, List.getElem?_eq_getElem hi]; rfl
/-- What is left of V, in the same block. -/
def RetDel (base : Nat) (V : Value) (l : List Int) (w : World) (e : Ending) (w' : World) : Prop := ∃ V', e = .returned V' ∧ MineT 2 w' base V' l ∧ V'.ownBlock = V.ownBlock ∧ Turn (fun i => V.ownBlock = some i) w w'
set_option maxHeartbeats 4000000 in
theorem del_any (base : Nat) (V : Value) (l : List Int) (k : Nat) (w : World) (h : MineT 2 w base V l) (hk : k ≤ l.length) (hl : l.length ≤ 60000) :
    Calls Tryd.prog 166 #[V, .int .i64 0, .int .i64 (k : Int)] w (RetDel base V (l.drop k) w) := by
  rcases Nat.eq_zero_or_pos k with rfl | h0
  · obtain ⟨A, c, rfl, hc, -, -⟩ := own_seq h (by decide)
    have HH := Lib.hid h
    clear h
    go_enter Tryd.func166, Tryd.ntmps166
    go_wp2
    go_ret
    exact ⟨_, rfl, HH.out, rfl, Turn.refl _ _⟩
  · obtain ⟨i0, hi0, hz0, hz1, hz2⟩ := info_parts numL
    rcases h.2 with ⟨_, h1⟩ | ⟨b, c, cur, rfl, hb, hg, hn, hm, hs, ht⟩
    · omega
    obtain ⟨m, hme⟩ : ∃ m, l.length - k = m := ⟨_, rfl⟩
    have hB : Bk 2 w b cur.toList := by unfold Bk; simpa using hg
    have hcl : cur.toList.length = c := by simpa using hs
    have ht' : cur.toList.take l.length = vals l := by simpa [vals] using ht
    generalize cur.toList = cs at *
    obtain ⟨n, hnl⟩ : ∃ n, l.length = n := ⟨_, rfl⟩
    rw [hnl] at hn hk hl hme ht' ⊢
    unfold maxLen at hm
    have hfl : (vals (l.drop k)).length = m := by rw [vals_length, List.length_drop, hnl, hme]
    have hget : ∀ j u, (vals (l.drop k))[j]? = some u → w.cell? ⟨b, k + j, none⟩ = some u := by
      intro j u hu
      rw [hB.c]
      have hj : j < m := by have := (List.getElem?_eq_some_iff.1 hu).1; omega
      have e : (cs.take n)[k + j]? = some u := by
        rw [ht']
        unfold vals at hu ⊢
        rwa [List.map_drop, List.getElem?_drop] at hu
      rwa [List.getElem?_take_of_lt (by omega)] at e
    obtain ⟨A, hA, hsrc⟩ : ∃ A : Addr, (if c = k then some (⟨b, 0, none⟩ : Addr) else some ⟨b, k, none⟩) = some A ∧ Hid (∀ t u, (vals (l.drop k))[t]? = some u → w.drew.cell? (A.add t) = some u) := by
      by_cases h1 : c = k
      · refine ⟨⟨b, 0, none⟩, by simp [h1], fun t u hu => ?_⟩
        have := (List.getElem?_eq_some_iff.1 hu).1
        omega
      · refine ⟨⟨b, k, none⟩, by simp [h1], fun t u hu => ?_⟩
        rw [Go.WideShapes.add_plain]
        exact hget t u hu
    have s1 : Hid ((vals (l.drop k)).length = m * 1) := Lib.hid (by rw [hfl]; omega)
    have s2 : Hid (∀ u ∈ vals (l.drop k), u.oneCell' = true) := Lib.hid (vals_one _)
    have s3 : Hid (∀ t, t < (vals (l.drop k)).length → (w.drew.cell? ⟨b, 0 + 0 * 1 + t, none⟩).isSome = true ∧ w.drew.frozen? ⟨b, 0 + 0 * 1 + t, none⟩ = false) := by
      intro t ht2
      rw [Nat.zero_mul, Nat.add_zero, Nat.zero_add]
      exact ⟨isSome_at (w := w) hB (by omega), hB.f t⟩
    obtain ⟨W1, hW1⟩ : ∃ W1, W1 = w.drew.setCells b (0 + 0 * 1) (vals (l.drop k)) := ⟨_, rfl⟩
    have T1 : Turn (fun i => i = b) w W1 := by rw [hW1]; exact (Turn.refl _ w).trans (setCells_turn b _ _ _)
    have B1 : Bk 2 W1 b (splice cs 0 (vals (l.drop k))) := by
      rw [hW1]; exact setCells_row b _ _ _ _ cs hB (by omega)
    have hsl : (splice cs 0 (vals (l.drop k))).length = c := by rw [length_splice _ _ _ (by omega), hcl]
    have hclr := fun ty => Lib.run_clear_slice (P := Tryd.prog) W1 27 2 ty (.int .i64 0) Tryd.underlying27 Tryd.zeroValue2 rfl rfl b m k (c - m) h0 (fun j hj => isSome_at B1 (by omega)) (fun j hj => B1.f _)
    have hW : Hid (W1 = w.drew.setCells b (0 + 0 * 1) (vals (l.drop k))) := hW1
    have i1 : (k : Int) ≤ (n : Int) := by omega
    have i2 : (n : Int) ≤ (c : Int) := by omega
    have i3 : (k : Int) ≤ (c : Int) := by omega
    have i4 : (m : Int) ≤ (c : Int) := by omega
    have i5 : ¬ c = m := by omega
    have i6 : k ≤ c := by omega
    have i7 : m ≤ c := by omega
    have i8 : n ≤ c := by omega
    have i9 : (m : Int) ≤ (n : Int) := by omega
    have hnk : n - m = k := by omega
    have hk0 : ((0 : Int) == (k : Int)) = false := by simp; omega
    have TT := Lib.hid T1
    have BB := Lib.hid B1
    have HS := Lib.hid hsl
    have HL := Lib.hid hcl
    have HNL := Lib.hid hnl
    have hb' := hb
    clear hW1 T1 B1 hsl h ht' ht hget hcl hfl hg hs hB hnl hb
    go_enter Tryd.func166, Tryd.ntmps166
    go_wp2_with fail
    go_region_law (refine step_append_room rfl (.tmp 22) (.tmp 25) 27 rfl 2 i0 1 Tryd.underlying27 hi0 hz1 b 0 0 c (by simp [Act.eval, Act.put]) A m (c - k) (vals (l.drop k)) (by first | simp [Act.eval, Act.put] | simp [Act.eval, Act.put, hme] | simp [Act.eval, Act.put, hA] | simp [Act.eval, Act.put, hme, hA]) s1.out hsrc.out s2.out (by omega) s3.out ?_; rw [← hW.out])
    go_wp2
    go_ret
    have hfl : (l.drop k).length = m := by rw [List.length_drop, HNL.out, hme]
    have B2 := setCells_row b 2 (List.replicate k (.int .i64 0)) m W1 _ BB.out (by rw [HS.out, List.length_replicate]; omega)
    refine ⟨_, rfl, ?_, rfl, (TT.out.trans (setCells_turn b _ _ _)).mono fun i hi => by rw [hi]; rfl⟩
    show MineT 2 _ base (.slice (some ⟨b, 0, none⟩) m c) (l.drop k)
    unfold MineT
    rw [hfl]
    refine ⟨by rw [Nat.mul_one, List.length_map, hfl], .inr ⟨b, c, _, rfl, hb', B2, i7, by unfold maxLen; exact hm, ?_, ?_⟩⟩
    · rw [List.size_toArray, length_splice _ _ _ (by rw [HS.out, List.length_replicate]; omega), HS.out]; omega
    · show List.take (m * 1) (splice (splice cs 0 (vals (l.drop k))) m _) = vals (l.drop k)
      have h1 : (vals (l.drop k)).length = m * 1 := s1.out
      unfold splice
      rw [List.take_left' (by simp; omega), List.take_zero, List.nil_append, List.take_left' (by omega)]
/-- Is a row of another width? -/
def unfitB (wd : Nat) (rs : List (List Int)) : Bool := rs.any fun r => decide (r.length ≠ wd)
theorem unfit_take {wd k : Nat} {rs : List (List Int)} {r : List Int} (h : rs[k]? = some r) : unfitB wd (rs.take (k + 1)) = (unfitB wd (rs.take k) || decide (r.length ≠ wd)) := by
  obtain ⟨hk, e⟩ := List.getElem?_eq_some_iff.1 h
  unfold unfitB
  rw [List.take_succ_eq_append_getElem hk, List.any_append, e]
  simp
theorem unfit_hit {wd k : Nat} {rs : List (List Int)} {r : List Int} (h : rs[k]? = some r) (hr : r.length ≠ wd) : unfitB wd rs = true := by
  unfold unfitB
  rw [List.any_eq_true]
  exact ⟨r, List.mem_of_getElem? h, by simpa using hr⟩
theorem unfit_no {wd : Nat} {rs : List (List Int)} (h : unfitB wd rs = false) : ∀ r ∈ rs, r.length = wd := fun r hr => by
  unfold unfitB at h
  rw [List.any_eq_false] at h
  simpa using h r hr
/-- Is there an index? -/
def RetIx (b : Bool) (w : World) (e : Ending) (w' : World) : Prop := ∃ n : Int, e = .returned (.int .i64 n) ∧ decide (0 ≤ n) = b ∧ w = w'
/-- The first k and the last k changed about. -/
def rv (qs : List Qd) : Nat → List Qd
  | 0 => qs
  | k + 1 => ((rv qs k).set k ((rv qs k).getD (qs.length - 1 - k) default)).set (qs.length - 1 - k) ((rv qs k).getD k default)
theorem rv_len (qs : List Qd) : ∀ k, (rv qs k).length = qs.length
  | 0 => rfl
  | k + 1 => by simp [rv, rv_len qs k]
theorem rv_at (qs : List Qd) : ∀ k i, 2 * k ≤ qs.length → i < qs.length → (rv qs k).getD i default = if i < k ∨ qs.length ≤ i + k then qs.getD (qs.length - 1 - i) default else qs.getD i default
  | 0, i, h, hi => by rw [if_neg (by omega)]; rfl
  | k + 1, i, h, hi => by
    have ih := rv_at qs k
    have l1 : ((rv qs k).set k ((rv qs k).getD (qs.length - 1 - k) default)).length = qs.length := by rw [List.length_set, rv_len]
    show ((((rv qs k).set k ((rv qs k).getD (qs.length - 1 - k) default)).set (qs.length - 1 - k) ((rv qs k).getD k default))).getD i default = _
    rw [ih (qs.length - 1 - k) (by omega) (by omega), ih k (by omega) (by omega), if_neg (by omega), if_neg (by omega)]
    simp only [List.getD, List.getElem?_set, List.length_set, rv_len]
    by_cases h1 : i = k
    · subst h1
      rw [if_neg (by omega), if_pos rfl, if_pos (by omega), if_pos (by omega)]
      simp
    · by_cases h2 : i = qs.length - 1 - k
      · subst h2
        rw [if_pos rfl, if_pos (by omega), if_pos (by omega), show qs.length - 1 - (qs.length - 1 - k) = k by omega]
        simp
      · rw [if_neg (by omega), if_neg (by omega)]
        have := ih i (by omega) hi
        simp only [List.getD] at this
        rw [this]
        by_cases h3 : i < k ∨ qs.length ≤ i + k
        · rw [if_pos h3, if_pos (by omega)]
        · rw [if_neg h3, if_neg (by omega)]
theorem rv_end (qs : List Qd) (k : Nat) (h1 : 2 * k ≤ qs.length) (h2 : qs.length ≤ 2 * k + 1) : rv qs k = qs.reverse := by
  apply List.ext_getElem
  · rw [rv_len, List.length_reverse]
  · intro i a b
    rw [rv_len] at a
    have := rv_at qs k i h1 a
    simp only [List.getD, List.getElem?_eq_getElem (show i < (rv qs k).length by rw [rv_len]; exact a), List.getElem?_eq_getElem a, List.getElem?_eq_getElem (show qs.length - 1 - i < qs.length by omega), Option.getD_some] at this
    rw [this, List.getElem_reverse]
    split
    · rfl
    · congr 1; omega
theorem flat3_put {a tl : List Value} {qs : List Qd} {i : Nat} {q : Qd} (hi : i < qs.length) (h : a = flat3 qs ++ tl) : ((a.set (i * 3) (.int .i64 q.1.1)).set (i * 3 + 1) (.int .i64 (q.1.2.1 : Nat))).set (i * 3 + 2) (vq q) = flat3 (qs.set i q) ++ tl := by
  subst h
  have hl := flat3_len qs
  rw [List.set_append_left _ _ (by omega), List.set_append_left _ _ (by simp; omega), List.set_append_left _ _ (by simp; omega), flat3_set _ _ _ hi]
theorem rv_put {a tl : List Value} {qs : List Qd} {k : Nat} {p q : Qd} (hk : k < qs.length) (hp : (rv qs k)[k]? = some p) (hq : (rv qs k)[qs.length - 1 - k]? = some q) (h : a = flat3 (rv qs k) ++ tl) :
    ((((((a.set (k * 3) (.int .i64 q.1.1)).set (k * 3 + 1) (.int .i64 (q.1.2.1 : Nat))).set (k * 3 + 2) (vq q)).set ((qs.length - 1 - k) * 3) (.int .i64 p.1.1)).set ((qs.length - 1 - k) * 3 + 1) (.int .i64 (p.1.2.1 : Nat))).set ((qs.length - 1 - k) * 3 + 2) (vq p)) = flat3 (rv qs (k + 1)) ++ tl := by
  have e : rv qs (k + 1) = ((rv qs k).set k q).set (qs.length - 1 - k) p := by
    show ((rv qs k).set k ((rv qs k).getD (qs.length - 1 - k) default)).set (qs.length - 1 - k) ((rv qs k).getD k default) = _
    simp only [List.getD, hp, hq, Option.getD_some]
  rw [e]
  exact flat3_put (by rw [List.length_set, rv_len]; omega) (flat3_put (by rw [rv_len]; omega) h)
theorem set_turn {b : Nat} {w wr : World} (h : Turn (fun i => i = b) w wr) (o : Nat) (u : Value) : Turn (fun i => i = b) w (wr.setCell ⟨b, o, none⟩ u) := h.setCell (p := ⟨b, o, none⟩) (.inl rfl) u
theorem set_bk {t : TypeId} {b : Nat} {wr : World} {xs : List Value} (h : Bk t wr b xs) (o : Nat) (u : Value) : Bk t (wr.setCell ⟨b, o, none⟩ u) b (xs.set o u) := Bk.set_ h o u
end Go.Proofs.YtfamgaakcbinkaaDoor.Tp
