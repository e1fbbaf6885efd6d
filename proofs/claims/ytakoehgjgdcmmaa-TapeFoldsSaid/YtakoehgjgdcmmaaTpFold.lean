/-
  What riffleref16.Fold tells. Conditions: as told in it.
-/
import Derived.Test.YtakoehgjgdcmmaaTpSet2
set_option maxRecDepth 100000
namespace Go.Proofs.Ytakoehgjgdcmmaa.Tp
open Go.Proofs.Ytakoehgjgdcmmaa.Sh Go.Proofs.Ytakoehgjgdcmmaa.St
open Go.RowKit
set_option linter.unusedVariables false

/-- A row as it stands in a slice of rows. -/
def RowV (S : Nat → Prop) (w : World) (u : Value) (r : List Int) : Prop := ∃ B d, u = .slice B r.length d ∧ r.length ≤ d ∧ d ≤ maxLen ∧ SInts S w B r
/-- Deeds as they are read, their rows in blocks of S. -/
def DlsS (S : Nat → Prop) (w : World) (V : Value) (l : List Dl) : Prop := ∃ A c qs, V = .slice A qs.length c ∧ Seq (fun _ => True) w A (flat3 qs) ∧ (∀ q ∈ qs, RowV S w (vq q) q.1.2.2) ∧ qs.map (·.1) = l
theorem DlsS.one {S : Nat → Prop} {w : World} {V : Value} {l : List Dl} (h : DlsS S w V l) {k : Nat} {d : Dl} (hd : l[k]? = some d) : ∃ b off c u, V = .slice (some ⟨b, off, none⟩) l.length c ∧ b < w.heap.size ∧ w.cell? ⟨b, off + k * 3, none⟩ = some (.int .i64 d.1) ∧ w.cell? ⟨b, off + k * 3 + 1, none⟩ = some (.int .i64 (d.2.1 : Nat)) ∧ w.cell? ⟨b, off + k * 3 + 2, none⟩ = some u ∧ RowV S w u d.2.2 := by
  obtain ⟨A, c, qs, rfl, h1, h2, rfl⟩ := h
  rw [List.getElem?_map] at hd
  cases hq : qs[k]? with
  | none => rw [hq] at hd; simp at hd
  | some q =>
    rw [hq] at hd
    obtain rfl : q.1 = d := by simpa using hd
    obtain ⟨y0, y1, y2⟩ := flat3_at qs k q hq
    have hk := (List.getElem?_eq_some_iff.1 hq).1
    obtain ⟨b, off, rfl, -, hlt, hc⟩ := h1 (by rw [flat3_len]; omega)
    exact ⟨b, off, c, vq q, by rw [List.length_map], hlt, hc _ _ y0, by rw [Nat.add_assoc]; exact hc _ _ y1, by rw [Nat.add_assoc]; exact hc _ _ y2, h2 q (List.mem_of_getElem? hq)⟩
theorem mine_seqS {w : World} {base : Nat} {A : Option Addr} {n c : Nat} {d : List Int} (h : MineT 2 w base (.slice A n c) d) : SInts (fun b => (Value.slice A n c).ownBlock = some b) w A d := by
  rcases h.2 with ⟨e, h0⟩ | ⟨g, cap, cur, e, _⟩
  · obtain rfl : d = [] := List.eq_nil_of_length_eq_zero h0
    exact Seq.nil _ _ _
  · obtain ⟨A', c', e', hi⟩ := h.ints
    injection e' with e1 e2 e3
    subst e1 e3
    injection e with e1 e2 e3
    subst e1
    refine Ints.sints hi fun b off e4 _ => ?_
    injection e4 with e4
    injection e4 with e5 e6
    rw [← e5]
    rfl
theorem own_put {w : World} {base : Nat} {e : TypeId} {V : Value} {n i : Nat} {xs : List Value} (h : w.ownsRow base e 1 V n xs) (hi : i < n) : ∃ b c, V = .slice (some ⟨b, 0, none⟩) n c ∧ base ≤ b ∧ w.cell? ⟨b, i, none⟩ = xs[i]? ∧ w.frozen? ⟨b, i, none⟩ = false ∧ b < w.heap.size ∧ ∀ u, (w.setCell ⟨b, i, none⟩ u).ownsRow base e 1 V n (xs.set i u) := by
  rcases h.2 with ⟨_, h0⟩ | ⟨b, c, cur, rfl, hb, hg, hn, hm, hs, ht⟩
  · omega
  have hB : Bk e w b cur.toList := by unfold Bk; simpa using hg
  refine ⟨b, c, rfl, hb, ?_, hB.f i, hB.lt, fun u => ?_⟩
  · rw [hB.c, ← ht, List.getElem?_take_of_lt (by omega)]
  · refine ⟨by rw [List.length_set]; exact h.1, .inr ⟨b, c, (cur.toList.set i u).toArray, rfl, hb, hB.set_ i u, hn, hm, by simp; simpa using hs, ?_⟩⟩
    rw [List.toList_toArray, ← ht, List.take_set]
/-- The rows as Fold has them. -/
def FoldAt (S : Nat → Prop) (w wr : World) (V : Value) (cur : List (List Int)) : Prop := ∃ vs, wr.ownsRow w.heap.size 42 1 V cur.length vs ∧ vs.length = cur.length ∧ (∀ (t : Nat) (r : List Int), cur[t]? = some r → ∃ u, vs[t]? = some u ∧ RowV S w u r) ∧ Below w.heap.size w wr
theorem FoldAt.rows {S : Nat → Prop} {w wr : World} {V : Value} {cur : List (List Int)} (h : FoldAt S w wr V cur) : RwsIn (fun b => S b ∨ w.heap.size ≤ b) wr V cur := by
  obtain ⟨vs, h1, h2, h3, h4⟩ := h
  obtain ⟨A, c, rfl, hn, hm, hs⟩ := own_seq h1 (by decide)
  refine ⟨A, c, vs, rfl, hn, hm, h2, hs.mono fun i hi => .inr hi, fun t r hr => ?_⟩
  obtain ⟨u, k1, B, d, rfl, k2, k3, k4⟩ := h3 t r hr
  exact ⟨B, d, k1, k2, k3, Seq.mono (Seq.next k4 h4) fun i hi => .inl hi⟩
theorem vs_cells {S : Nat → Prop} {w : World} {vs : List Value} {cur : List (List Int)} (hl : vs.length = cur.length) (h : ∀ (t : Nat) (r : List Int), cur[t]? = some r → ∃ u, vs[t]? = some u ∧ RowV S w u r) : ∀ u ∈ vs, u.oneCell' = true := fun u hu => by
  obtain ⟨t, ht⟩ := List.getElem?_of_mem hu
  have htl : t < cur.length := by have := (List.getElem?_eq_some_iff.1 ht).1; omega
  obtain ⟨u', k1, B, d, rfl, -⟩ := h t _ (List.getElem?_eq_getElem htl)
  rw [k1] at ht
  injection ht with ht
  subst ht
  rfl
theorem foldS_cases {cur cur' : List (List Int)} {d : Dl} (h : foldS cur d = some cur') : (d.1 = 1 ∧ d.2.1 = cur.length ∧ cur' = cur ++ [d.2.2]) ∨ (d.1 = 2 ∧ d.2.1 < cur.length ∧ cur' = cur.set d.2.1 d.2.2) ∨ (d.1 = 3 ∧ d.2.1 + 1 = cur.length ∧ d.2.2 = [] ∧ cur' = cur.take d.2.1) := by
  unfold foldS at h
  split at h
  · next h1 =>
    split at h
    · next h2 => injection h with h; exact .inl ⟨h1, h2, h.symm⟩
    · cases h
  · split at h
    · next h1 =>
      split at h
      · next h2 => injection h with h; exact .inr (.inl ⟨h1, h2, h.symm⟩)
      · cases h
    · split at h
      · next h1 =>
        split at h
        · next h2 => injection h with h; exact .inr (.inr ⟨h1, h2.1, h2.2, h.symm⟩)
        · cases h
      · cases h
def RetFo (S : Nat → Prop) (fin : List (List Int)) (w : World) (e : Ending) (w' : World) : Prop := ∃ A c, e = .returned (.tuple #[.slice A fin.length c, .bool true]) ∧ RwsIn (fun b => S b ∨ w.heap.size ≤ b) w' (.slice A fin.length c) fin ∧ Below w.heap.size w w'
set_option maxHeartbeats 16000000 in
theorem fold_any (S : Nat → Prop) (V1 V2 : Value) (rows fin : List (List Int)) (l : List Dl) (w : World) (h1 : RwsIn S w V1 rows) (h2 : DlsS S w V2 l) (hf : foldL rows l = some fin) (hr : rows.length ≤ 1000) (hl : l.length ≤ 10000) :
    Calls Try.prog 18 #[V1, V2] w (RetFo S fin w) := by
  have H2 := Lib.hid h2
  have HF := Lib.hid hf
  obtain ⟨A1, c1, vs1, rfl, _, _, hv1, hs1, hk1⟩ := h1
  have e2 : ∃ A c, V2 = .slice A l.length c := by
    obtain ⟨A, c, qs, rfl, -, -, e⟩ := h2
    exact ⟨A, c, by rw [← e, List.length_map]⟩
  obtain ⟨A2, c2, rfl⟩ := e2
  obtain ⟨n, hn⟩ : ∃ n, l.length = n := ⟨_, rfl⟩
  have HN := Lib.hid hn
  have K1 := Lib.hid hk1
  have O1 := Lib.hid (vs_one hv1 fun t r hr => by obtain ⟨B, d, k, -⟩ := hk1 t r hr; exact ⟨B, d, k⟩)
  obtain ⟨N, hNr⟩ : ∃ N, rows.length = N := ⟨_, rfl⟩
  have HNR := Lib.hid hNr
  rw [hn] at hl ⊢
  rw [hNr] at hr hv1 ⊢
  have HV1 := Lib.hid hv1
  have OE := Lib.hid (own_empty w 42 1 w.heap.size w.heap.size rfl (Nat.le_refl _))
  have Q1 := Lib.hid (hs1.next (below_new w (.cells #[] 42)))
  have V1 := Lib.hid (show vs1.length = N * 1 by omega)
  have L1 := Lib.hid (show 0 + N ≤ 100000 by omega)
  have LB := Lib.hid (show w.heap.size ≤ (w.alloc (.cells #[] 42)).heap.size by simp)
  clear h2 hf hk1 hs1 hn hNr hv1
  go_enter Try.func18, Try.ntmps18
  go_wp2_with (at_builtin; refine wpList_appS infoR rfl (by decide) (by decide) Try.underlying29 rfl (.tmp 9) (.tmp 10) rfl w.heap.size _ 0 [] rfl OE.out S A1 N c1 vs1 rfl V1.out Q1.out O1.out L1.out LB.out ?_; intro v3 w3 hv3 hg3 hat3; have O3 := Lib.hid hv3; have B3 := Lib.hid ((below_new w (.cells #[] 42)).grown hg3 (by simp) (own_base OE.out)); clear hv3 hg3 hat3)
  have FA : Hid (∃ cur, foldL rows (l.take 0) = some cur ∧ FoldAt S w w3 v3 cur) := Lib.hid ⟨rows, rfl, vs1, by have h := O3.out; rw [Nat.zero_add, List.nil_append] at h; rw [HNR.out]; exact h, by rw [HNR.out]; exact HV1.out, fun t r hr => by
    obtain ⟨B, d, k1, k2, k3, k4⟩ := K1.out t r hr
    exact ⟨_, k1, B, d, rfl, k2, k3, k4⟩, B3.out⟩
  go_loopw [6, 7] (fun V i wr => ∃ k : Nat, k ≤ n ∧ i = .int .i64 k ∧ Hid (∃ cur, foldL rows (l.take k) = some cur ∧ FoldAt S w wr V cur)) (fun _ i _ => n - (intOf i).toNat)
  case atStart => exact ⟨0, Nat.zero_le _, rfl, FA⟩
  case round =>
    obtain ⟨k, hk, rfl, HP⟩ := hrel
    obtain ⟨cur, hcu, vs, f1, f2, f3, f4⟩ := HP.out
    have hcl := fold_len _ hcu
    rw [List.length_take, HN.out, HNR.out] at hcl
    obtain ⟨m, hm⟩ : ∃ m, cur.length = m := ⟨_, rfl⟩
    have HM := Lib.hid hm
    rw [hm] at f1 f2 hcl
    by_cases hlt : k < n
    · obtain ⟨d, hd⟩ : ∃ d, l[k]? = some d := ⟨_, List.getElem?_eq_getElem (by rw [HN.out]; exact hlt)⟩
      obtain ⟨cur', hs, hcu'⟩ := foldL_step HF.out hcu hd
      obtain ⟨b, off, cc, u, ev, hb, x0, x1, x2, hu⟩ := H2.out.one hd
      injection ev with ev _ evc
      subst ev evc
      have i1 : (k : Int) < (n : Int) := by omega
      have x0 := (f4.cell (p := ⟨b, off + k * 3, none⟩) hb).trans x0
      have x1 := (f4.cell (p := ⟨b, off + k * 3 + 1, none⟩) hb).trans x1
      have x2 := (f4.cell (p := ⟨b, off + k * 3 + 2, none⟩) hb).trans x2
      have HU := Lib.hid hu
      obtain ⟨UB, Ud, rfl, -, -, -⟩ := hu
      have HB := Lib.hid f4
      have O4 := Lib.hid f1
      have F2 := Lib.hid f2
      have F3 := Lib.hid f3
      have HCU := Lib.hid hcu'
      obtain ⟨d1, d2, d3⟩ := d
      obtain ⟨AV, cV, rfl, hmc, _, _⟩ := own_seq f1 (by decide)
      clear f1 f2 f3 f4 hd hcu hb
      rcases foldS_cases hs with ⟨rfl, hat, rfl⟩ | ⟨rfl, hat, rfl⟩ | ⟨rfl, hat, he, rfl⟩
      · simp only at hat x0 x1 x2 HU
        have t1 : ((d2 : Int) != (m : Int)) = false := by simp; omega
        obtain ⟨rl, hrl⟩ : ∃ rl, d3.length = rl := ⟨_, rfl⟩
        rw [hrl] at x2
        have HRL := Lib.hid hrl
        have b5 := below_new wr (.cells #[.int .i64 1, .int .i64 (d2 : Int), .slice UB rl Ud] 54)
        have B5 := Lib.hid (below_next HB.out (below_next b5 (below_new _ (.cells #[.slice UB rl Ud] 42))))
        have O5 := Lib.hid (World.ownsRow.alloc (World.ownsRow.alloc O4.out (.cells #[.int .i64 1, .int .i64 (d2 : Int), .slice UB rl Ud] 54)) (.cells #[.slice UB rl Ud] 42))
        have Y5 := Lib.hid (seq1 42 (wr.alloc (.cells #[.int .i64 1, .int .i64 (d2 : Int), .slice UB rl Ud] 54)) (.slice UB rl Ud))
        have TL := Lib.hid (show m + 1 ≤ 100000 by omega)
        rw [show (wr.alloc (.cells #[.int .i64 1, .int .i64 (d2 : Int), .slice UB rl Ud] 54)).heap.size = wr.heap.size + 1 from by simp] at Y5
        clear hs hat hrl b5
        go_wp2_with (at_builtin; refine wpList_appS infoR rfl (by decide) (by decide) Try.underlying29 rfl (.tmp 31) (.tmp 34) rfl w.heap.size (.slice AV m cV) m vs rfl O5.out (fun _ => True) (some ⟨wr.heap.size + 1, 0, none⟩) 1 1 [.slice UB rl Ud] rfl rfl Y5.out (one_sl _ _ _) TL.out B5.out.size ?_; intro v6 w6 hv6 hg6 hat6; have O6 := Lib.hid hv6; have B6 := Lib.hid (B5.out.grown hg6 B5.out.size (own_base O5.out)); clear hv6 hg6 hat6)
        have PZ : Hid (∃ cur, foldL rows (l.take (k + 1)) = some cur ∧ FoldAt S w w6 v6 cur) := Lib.hid ⟨_, HCU.out, vs ++ [.slice UB rl Ud], by rw [List.length_append, HM.out]; exact O6.out, by rw [List.length_append, List.length_append, HM.out, F2.out]; rfl, fun t r hr => by
          rcases Nat.lt_or_ge t cur.length with h | h
          · rw [List.getElem?_append_left h] at hr
            obtain ⟨u, k1, k2⟩ := F3.out t r hr
            exact ⟨u, by rw [List.getElem?_append_left (by rw [F2.out, ← HM.out]; exact h)]; exact k1, k2⟩
          · rw [List.getElem?_append_right h] at hr
            have ht : t - cur.length = 0 := by have := (List.getElem?_eq_some_iff.1 hr).1; simp at this; omega
            rw [ht] at hr
            obtain rfl : d3 = r := by simpa using hr
            refine ⟨.slice UB rl Ud, by rw [List.getElem?_append_right (by rw [F2.out, ← HM.out]; exact h), F2.out, ← HM.out, ht]; rfl, ?_⟩
            rw [← HRL.out]
            exact HU.out, B6.out⟩
        exact ⟨⟨k + 1, by omega, by go_num, PZ⟩, by simp [intOf]; omega⟩
      · simp only at hat x0 x1 x2 HU
        have hat : d2 < m := by rw [← HM.out]; exact hat
        have t1 : decide ((d2 : Int) < 0) = false := decide_eq_false (by omega)
        have t2 : decide ((d2 : Int) ≥ (m : Int)) = false := decide_eq_false (by omega)
        have t2' : decide (m ≤ d2) = false := decide_eq_false (by omega)
        have i2 : (d2 : Int) < (m : Int) := by omega
        obtain ⟨rl, hrl⟩ : ∃ rl, d3.length = rl := ⟨_, rfl⟩
        rw [hrl] at x2
        have HRL := Lib.hid hrl
        have B5 := Lib.hid (below_next HB.out (below_new wr (.cells #[.int .i64 2, .int .i64 (d2 : Int), .slice UB rl Ud] 54)))
        have O5 := Lib.hid (World.ownsRow.alloc O4.out (.cells #[.int .i64 2, .int .i64 (d2 : Int), .slice UB rl Ud] 54))
        obtain ⟨b7, c7, e7, hb7, y0, y1, hlt7, hset⟩ := own_put O4.out hat
        injection e7 with e7 _ e7c
        subst e7 e7c
        have hvl : d2 < vs.length := by rw [F2.out]; exact hat
        rw [List.getElem?_eq_getElem hvl] at y0
        have HSET := Lib.hid (hset (.slice UB rl Ud))
        have HB7 := Lib.hid hb7
        clear hs hrl hset
        go_wp2
        have PZ : Hid (∃ cur, foldL rows (l.take (k + 1)) = some cur ∧ FoldAt S w ((wr.setCell ⟨b7, d2, none⟩ (.slice UB rl Ud)).alloc (.cells #[.int .i64 2, .int .i64 (d2 : Int), .slice UB rl Ud] 54)) (.slice (some ⟨b7, 0, none⟩) m cV) cur) := Lib.hid ⟨_, HCU.out, vs.set d2 (.slice UB rl Ud), by rw [List.length_set, HM.out]; exact World.ownsRow.alloc HSET.out _, by rw [List.length_set, List.length_set, HM.out, F2.out], fun t r hr => by
          rw [List.getElem?_set] at hr ⊢
          by_cases h : d2 = t
          · rw [if_pos h] at hr ⊢
            have h2 : d2 < cur.length := by rw [HM.out]; exact hat
            rw [if_pos h2] at hr
            rw [if_pos hvl]
            obtain rfl : d3 = r := by simpa using hr
            refine ⟨_, rfl, ?_⟩
            rw [← HRL.out]
            exact HU.out
          · rw [if_neg h] at hr ⊢
            exact F3.out t r hr, (HB.out.setCell (p := ⟨b7, d2, none⟩) HB7.out _).alloc (by have := HB.out.size; simpa [World.setCell] using this) _⟩
        exact ⟨⟨k + 1, by omega, by go_num, PZ⟩, by simp [intOf]; omega⟩
      · have he : d3 = [] := he
        subst he
        have x0 : wr.cell? ⟨b, off + k * 3, none⟩ = some (.int .i64 3) := x0
        have x1 : wr.cell? ⟨b, off + k * 3 + 1, none⟩ = some (.int .i64 (d2 : Int)) := x1
        have x2 : wr.cell? ⟨b, off + k * 3 + 2, none⟩ = some (.slice UB 0 Ud) := x2
        have hat : d2 + 1 = m := by rw [← HM.out]; exact hat
        have t1 : decide ((d2 : Int) < 0) = false := decide_eq_false (by omega)
        have w1 : IntKind.i64.wrap ((m : Int) - 1) = (m : Int) - 1 := IntWalk.i64_in _ (by omega)
        have t2 : ((d2 : Int) != (m : Int) - 1) = false := by simp; omega
        obtain ⟨b7, c7, e7, -⟩ := own_put O4.out (show d2 < m by omega)
        injection e7 with e7 _ e7c
        subst e7 e7c
        have i2 : (d2 : Int) ≤ (cV : Int) := by omega
        have i3 : d2 ≤ cV := by omega
        have i4 : (d2 : Int) ≤ (m : Int) := by omega
        obtain ⟨A9, c9, e9, -, -, s9⟩ := own_seq O4.out (by decide)
        injection e9 with e9 _ e9c
        subst e9 e9c
        have b5 := below_new wr (.cells #[.int .i64 3, .int .i64 (d2 : Int), .slice UB 0 Ud] 54)
        have S5 := Lib.hid (take_seq ((s9.next b5).next (below_new _ (.cells #[] 42))) d2)
        have E5 := Lib.hid (own_empty (wr.alloc (.cells #[.int .i64 3, .int .i64 (d2 : Int), .slice UB 0 Ud] 54)) 42 1 w.heap.size (wr.heap.size + 1) (by simp) (by have := HB.out.size; omega))
        have B5 := Lib.hid (below_next HB.out (below_next b5 (below_new _ (.cells #[] 42))))
        have TL := Lib.hid (show 0 + d2 ≤ 100000 by omega)
        have LT := Lib.hid (show (vs.take d2).length = d2 * 1 by rw [List.length_take, F2.out]; omega)
        have OT := Lib.hid (fun u (hu : u ∈ vs.take d2) => vs_cells (by rw [F2.out, HM.out]) F3.out u (List.mem_of_mem_take hu))
        clear hs b5 s9
        go_wp2_with (at_builtin; refine wpList_appS infoR rfl (by decide) (by decide) Try.underlying29 rfl (.tmp 73) (.tmp 77) rfl w.heap.size _ 0 [] rfl E5.out _ (some ⟨b7, 0, none⟩) d2 cV (vs.take d2) rfl LT.out S5.out OT.out TL.out B5.out.size ?_; intro v6 w6 hv6 hg6 hat6; have O6 := Lib.hid hv6; have B6 := Lib.hid (B5.out.grown hg6 B5.out.size (own_base E5.out)); clear hv6 hg6 hat6)
        have PZ : Hid (∃ cur, foldL rows (l.take (k + 1)) = some cur ∧ FoldAt S w w6 v6 cur) := Lib.hid ⟨_, HCU.out, vs.take d2, by
          have hq : (cur.take d2).length = d2 := by rw [List.length_take, HM.out]; omega
          have h := O6.out
          rw [Nat.zero_add, List.nil_append] at h
          rw [hq]
          exact h, by rw [List.length_take, List.length_take, F2.out, HM.out], fun t r hr => by
          have ht := (List.getElem?_eq_some_iff.1 hr).1
          rw [List.length_take] at ht
          rw [List.getElem?_take_of_lt (by omega)] at hr ⊢
          exact F3.out t r hr, B6.out⟩
        exact ⟨⟨k + 1, by omega, by go_num, PZ⟩, by simp [intOf]; omega⟩
    · obtain rfl : k = n := by omega
      have hfin : fin = cur := by
        rw [show l.take k = l from by rw [← HN.out]; exact List.take_length, HF.out] at hcu
        injection hcu
      subst hfin
      have FR := Lib.hid (FoldAt.rows ⟨vs, by rw [HM.out]; exact f1, by rw [HM.out]; exact f2, f3, f4⟩)
      have HB := Lib.hid f4
      obtain ⟨AV, cV, rfl, -, -, -⟩ := own_seq f1 (by decide)
      clear f1 f2 f3 f4 HP hcu hlt hk
      go_wp2
      refine bodyPost_ret (v := .tuple #[.slice AV m cV, .bool true]) (by simp [results, Try.results18, go_sem]) rfl ?_
      refine ⟨AV, cV, by rw [HM.out], ?_, HB.out⟩
      have h := FR.out
      rw [HM.out]
      exact h
end Go.Proofs.Ytakoehgjgdcmmaa.Tp
