/-
  Layer 17, token: how a token's row of numbers grows. Conditions: as told in each.
-/
import Derived.Test.YtdhpplbopciijaaDoorTkSign
set_option maxRecDepth 100000
namespace Go.Proofs.YtdhpplbopciijaaDoor.Tk
open Go.Proofs.YtdhpplbopciijaaDoor.Sh Go.Proofs.YtdhpplbopciijaaDoor.St
open Go.RowKit
set_option linter.unusedVariables false

theorem own_putN {w : World} {base : Nat} {e : TypeId} {size : Nat} {V : Value} {n i : Nat} {xs : List Value} (h : w.ownsRow base e size V n xs) (hi : i < n * size) :
    ∃ b c cur, V = .slice (some ⟨b, 0, none⟩) n c ∧ base ≤ b ∧ n ≤ c ∧ c ≤ maxLen ∧ Bk e w b cur ∧ (∀ j, j < n * size → w.cell? ⟨b, j, none⟩ = xs[j]?) ∧ ∀ u, (w.setCell ⟨b, i, none⟩ u).ownsRow base e size V n (xs.set i u) := by
  rcases h.2 with ⟨_, h0⟩ | ⟨b, c, cur, rfl, hb, hg, hn, hm, hs, ht⟩
  · subst h0; rw [Nat.zero_mul] at hi; omega
  have hB : Bk e w b cur.toList := by unfold Bk; simpa using hg
  refine ⟨b, c, cur.toList, rfl, hb, hn, hm, hB, fun j hj => ?_, fun u => ?_⟩
  · rw [hB.c, ← ht, List.getElem?_take_of_lt hj]
  · refine ⟨by rw [List.length_set]; exact h.1, .inr ⟨b, c, (cur.toList.set i u).toArray, rfl, hb, hB.set_ i u, hn, hm, by simp; simpa using hs, ?_⟩⟩
    rw [List.toList_toArray, ← ht, List.take_set]
theorem last_at {ps : List Qt} {q : Qt} : (ps ++ [q])[ps.length]? = some q := by simp
theorem set_last {ps : List Qt} {q q' : Qt} : (ps ++ [q]).set ps.length q' = ps ++ [q'] := by
  rw [List.set_append_right _ _ (Nat.le_refl _)]; simp
/-- What the reader's last token lies in. -/
theorem Rd.lasts {w : World} {g a : Nat} {s : ByteArray} {V : Value} {ps : List Qt} {q : Qt} (d : Rd w g s a V (ps ++ [q])) :
    ∃ b c, V = .slice (some ⟨b, 0, none⟩) (ps.length + 1) c ∧ g + 1 ≤ b ∧ w.cell? ⟨b, ps.length * 5, none⟩ = some (.int .i64 (q.1.kind : Nat)) ∧ w.cell? ⟨b, ps.length * 5 + 3, none⟩ = some (vq q) ∧ w.frozen? ⟨b, ps.length * 5 + 3, none⟩ = false ∧ b < w.heap.size := by
  have h := d.2.1.1
  unfold TRow at h
  rw [List.length_append, List.length_singleton] at h
  obtain ⟨b, c, cur, hV, hb, hn, hm, hB, hc, -⟩ := own_putN (i := ps.length * 5 + 3) h (by omega)
  have hf := flat5_at (ps ++ [q]) ps.length q last_at
  exact ⟨b, c, hV, hb, (hc _ (by omega)).trans hf.1, (hc _ (by omega)).trans hf.2.2.2.1, hB.f _, hB.lt⟩
theorem num_live {w3 w5 : World} {g a n2 k b cV c5 : Nat} {s : ByteArray} {V : Value} {ps : List Qt} {q : Qt} {v : Int} {A5 : Option Addr} (hk : q.1.nums.length = k) (d3 : Rd w3 g s a V (ps ++ [q]))
    (hv5 : w5.ownsRow (g + 1) 2 1 (.slice A5 (k + 1) c5) (k + 1) (q.1.nums.map (Value.int .i64) ++ [.int .i64 v])) (hg5 : w3.grownBy w5 (vq q).ownBlock)
    (ha5 : (Value.slice A5 (k + 1) c5).ownBlock = (vq q).ownBlock ∨ (Value.slice A5 (k + 1) c5).ownBlock = some w3.heap.size) (hV : V = .slice (some ⟨b, 0, none⟩) (ps.length + 1) cV) :
    Rd ((w5.setCell ⟨b, ps.length * 5 + 3, none⟩ (.slice A5 (k + 1) c5)).setCell ⟨g, 1, none⟩ (.int .i64 (n2 : Nat))) g s n2 V (ps ++ [({ q.1 with nums := q.1.nums ++ [v] }, (A5, c5))]) ∧
      Below g w3 ((w5.setCell ⟨b, ps.length * 5 + 3, none⟩ (.slice A5 (k + 1) c5)).setCell ⟨g, 1, none⟩ (.int .i64 (n2 : Nat))) := by
  subst hk
  have hq := d3.2.1.2 q (by simp)
  have hne : g ≠ b := by
    have := (d3.2.1.lt b (by rw [hV]; rfl)).2
    omega
  have t5 : w5.ownsRow (g + 1) 37 5 V (ps.length + 1) (flat5 (ps ++ [q])) := by
    have h := World.ownsRow.kept d3.2.1.1 hg5 (own_apart d3.2.1.1 hq (by decide))
    rwa [List.length_append, List.length_singleton] at h
  obtain ⟨b', c', cur, hV', hb, hn, hm, hB, hc, hset⟩ := own_putN (i := ps.length * 5 + 3) t5 (by omega)
  obtain rfl : b' = b := by rw [hV] at hV'; injection hV' with h1; injection h1 with h1; injection h1 with h1; exact h1.symm
  have hbk : Bk 33 w5 g [.string s, .int .i64 (a : Nat), V] := d3.1.grown hg5 (own_bk_ne hq d3.1 (by decide))
  have far : ∀ (u : Value) (xs : List Int), MineT 2 w5 (g + 1) u xs → MineT 2 (w5.setCell ⟨b', ps.length * 5 + 3, none⟩ (.slice A5 (q.1.nums.length + 1) c5)) (g + 1) u xs := fun u xs h =>
    ownsRow_setCell_other (a := ⟨b', ps.length * 5 + 3, none⟩) h (fun e => own_bk_ne h hB (by decide) e.symm) _
  have hlone := d3.2.2 ps q rfl
  refine ⟨⟨(hbk.far (p := ⟨b', ps.length * 5 + 3, none⟩) hne _).set_ 1 _, Live.far ⟨?_, fun p hp => ?_⟩ 1 _, fun ps' p' e x hx => ?_⟩, ?_⟩
  · unfold TRow
    rw [List.length_append, List.length_singleton, ← set_last (q := q), flat5_set (ps ++ [q]) ps.length q (({ q.1 with nums := q.1.nums ++ [v] }, (A5, c5)) : Qt) last_at rfl rfl rfl rfl]
    have h := hset (.slice A5 (q.1.nums.length + 1) c5)
    have e : vq (({ q.1 with nums := q.1.nums ++ [v] }, (A5, c5)) : Qt) = .slice A5 (q.1.nums.length + 1) c5 := by simp [vq]
    rw [e]
    exact h
  · rcases List.mem_append.1 hp with hp | hp
    · refine far _ _ (World.ownsRow.kept (d3.2.1.2 p (by simp [hp])) hg5 ?_)
      rcases hvp : (vq p).ownBlock with _ | kk
      · exact .inl rfl
      · refine .inr fun e => ?_
        exact hlone p hp kk e.symm hvp
    · simp at hp
      subst hp
      refine far _ _ ?_
      unfold MineT
      simpa [vq] using hv5
  · obtain ⟨rfl, h2⟩ := List.append_inj' e rfl
    obtain rfl : (({ q.1 with nums := q.1.nums ++ [v] }, (A5, c5)) : Qt) = p' := by simpa using h2
    intro kk h1 h2
    have e1 : (Value.slice A5 (q.1.nums.length + 1) c5).ownBlock = some kk := by simpa [vq] using h1
    rcases ha5 with h5 | h5
    · exact hlone x hx kk (by rw [← h5]; exact e1) h2
    · rw [h5] at e1
      injection e1 with e1
      have := own_lt (d3.2.1.2 x (by simp [hx])) kk h2
      omega
  · have hgb : g ≤ b' := by omega
    exact (((Below.refl g w3).grown hg5 (Nat.le_of_lt d3.lt) (fun k hk => by have := own_base hq k hk; omega)).setCell (p := ⟨b', ps.length * 5 + 3, none⟩) hgb _).setCell (p := ⟨g, 1, none⟩) (Nat.le_refl _) _
end Go.Proofs.YtdhpplbopciijaaDoor.Tk
