/-
  Layer 17, token: (*reader).number. Conditions: at most 400 tokens of at most 64 numbers each.
-/
import Derived.Test.YtdhpplbopciijaaDoorTkNum
set_option maxRecDepth 100000
namespace Go.Proofs.YtdhpplbopciijaaDoor.Tk
open Go.Proofs.YtdhpplbopciijaaDoor.Sh Go.Proofs.YtdhpplbopciijaaDoor.St
open Go.RowKit
set_option linter.unusedVariables false

theorem infoI : (Tryd.prog.info? 2).map (fun i => (i.zero, i.size, i.bytes)) = some (some (.int .i64 0), 1, 8) := by kernel_rfl
theorem one_i (v : Int) : ∀ u ∈ [Value.int .i64 v], u.oneCell' = true := by intro u hu; simp at hu; subst hu; rfl
theorem map_snoc {qs : List Qt} {ts : List Tk} {t : Tk} (h : qs.map Prod.fst = ts ++ [t]) : ∃ ps q, qs = ps ++ [q] ∧ ps.map Prod.fst = ts ∧ q.1 = t := by
  rcases List.eq_nil_or_concat qs with rfl | ⟨ps, q, rfl⟩
  · simp at h
  · refine ⟨ps, q, by simp, ?_⟩
    rw [List.concat_eq_append, List.map_append] at h
    obtain ⟨h1, h2⟩ := List.append_inj' h rfl
    exact ⟨h1, by simpa using h2⟩
theorem num_cells {w3 w5 : World} {g a b cV : Nat} {s : ByteArray} {V : Value} {ps : List Qt} {q : Qt} (d3 : Rd w3 g s a V (ps ++ [q])) (hg5 : w3.grownBy w5 (vq q).ownBlock) (hV : V = .slice (some ⟨b, 0, none⟩) (ps.length + 1) cV) :
    w5.cell? ⟨b, ps.length * 5 + 3, none⟩ = some (vq q) ∧ w5.frozen? ⟨b, ps.length * 5 + 3, none⟩ = false ∧ w5.cell? ⟨g, 1, none⟩ = some (.int .i64 (a : Nat)) ∧ w5.frozen? ⟨g, 1, none⟩ = false ∧ ¬ g = b ∧ ¬ b = g := by
  have hq := d3.2.1.2 q (by simp)
  have hne : g ≠ b := by
    have := (d3.2.1.lt b (by rw [hV]; rfl)).2
    omega
  have t5 : w5.ownsRow (g + 1) 37 5 V (ps.length + 1) (flat5 (ps ++ [q])) := by
    have h := World.ownsRow.kept d3.2.1.1 hg5 (own_apart d3.2.1.1 hq (by decide))
    rwa [List.length_append, List.length_singleton] at h
  obtain ⟨b', c', cur, hV', hb, hn, hm, hB, hc, -⟩ := own_putN (i := ps.length * 5 + 3) t5 (by omega)
  obtain rfl : b' = b := by rw [hV] at hV'; injection hV' with h1; injection h1 with h1; injection h1 with h1; exact h1.symm
  have hbk : Bk 33 w5 g [.string s, .int .i64 (a : Nat), V] := d3.1.grown hg5 (own_bk_ne hq d3.1 (by decide))
  exact ⟨(hc _ (by omega)).trans (flat5_at (ps ++ [q]) ps.length q last_at).2.2.2.1, hB.f _, hbk.c 1, hbk.f 1, hne, fun e => hne e.symm⟩
theorem putO_nil {a b : Nat} {v : Int} : putO [] a b v = .next b [⟨1, a, 0, [v], []⟩] := rfl
theorem putO_other {ts : List Tk} {t : Tk} {a b : Nat} {v : Int} (h : t.kind ≠ 1) : putO (ts ++ [t]) a b v = addO (ts ++ [t]) ⟨1, a, 0, [v], []⟩ b := by
  unfold putO; rw [List.getLast?_append]; simp [h]
theorem putO_num {ts : List Tk} {t : Tk} {a b : Nat} {v : Int} (h : t.kind = 1) : putO (ts ++ [t]) a b v = if t.nums.length = 64 then .bad 8 a else .next b (ts ++ [{ t with nums := t.nums ++ [v] }]) := by
  unfold putO; rw [List.getLast?_append]; simp [h]
set_option maxHeartbeats 2000000 in
theorem number_any (w : World) (g : Nat) (s : ByteArray) (a : Nat) (V : Value) (qs : List Qt) (d : Rd w g s a V qs) (ha : a < s.size) (hs : s.size ≤ maxLen) (hq : qs.length ≤ 400) (h64 : ∀ q ∈ qs, q.1.nums.length ≤ 64) :
    Calls Tryd.prog 32 #[.pointer (some ⟨g, 0, none⟩)] w (RetO g s (numO (s.data.toList.drop a) a (qs.map Prod.fst)) w) := by
  have HR := Lib.hid (rest_any w g s a V qs d (by omega) hs)
  have hrs : (restB s a).size ≤ maxLen := by rw [rest_size]; omega
  have HG := Lib.hid (fun W => Dg.read_any (restB s a) W hrs)
  rw [rest_list] at HG
  obtain ⟨vb, hvb⟩ : ∃ vb, Dg.valB (Dg.readD (s.data.toList.drop a)) (Dg.readS (s.data.toList.drop a)) = vb := ⟨_, rfl⟩
  obtain ⟨v, hv⟩ : ∃ v, Dg.valI (Dg.readD (s.data.toList.drop a)) (Dg.readS (s.data.toList.drop a)) = v := ⟨_, rfl⟩
  obtain ⟨n, hn⟩ : ∃ n, Dg.readN (s.data.toList.drop a) = n := ⟨_, rfl⟩
  have hO : numO (s.data.toList.drop a) a (qs.map Prod.fst) = if vb = false then .bad 7 a else putO (qs.map Prod.fst) a (a + n) v := by unfold numO; rw [hvb, hv, hn]
  have hbn : vb = true → a + n ≤ s.size := fun h => by
    have := (readN_pos (hvb.trans h)).2
    rw [hn, List.length_drop] at this
    simp at this
    omega
  rw [hvb, hv, hn] at HG
  have HF := Lib.hid (fun (e0 : Nat) W V qs dW => fail_any W g s a V qs e0 dW)
  have HA : Hid (∀ W, Rd W g s a V qs → Calls Tryd.prog 39 #[.pointer (some ⟨g, 0, none⟩), .agg #[.int .i64 1, .int .i64 0, .int .i64 0, .slice none 0 0, .string ⟨#[]⟩], .int .i64 0] W (RetO g s (addO (qs.map Prod.fst) ⟨1, a, 0, [], []⟩ a) W)) := Lib.hid (fun W dW => add_any W g s a V qs 1 0 0 [] dW (by omega) hs hq)
  have HLA := Lib.hid (fun W B m c qs (dW : Rd W g s a (.slice (some ⟨B, 0, none⟩) (m + 1) c) qs) (hm : m ≤ 400) => last_any W g s a B m c qs dW hm)
  have HD := Lib.hid d
  have hgl := d.lt
  generalize hrr : restB s a = r at *
  generalize numO (s.data.toList.drop a) a (qs.map Prod.fst) = o at *
  clear hrr hvb hv hn hrs
  cases vb with
  | false =>
    have HO := Lib.hid (show o = .bad 7 a from hO)
    clear hO hbn d
    go_enter Tryd.func32, Tryd.ntmps32
    go_wp2_with fail
    refine (HR.out).mono ?_
    rintro e w1 ⟨rfl, hb1⟩
    have L1 := Lib.hid hb1
    clear hb1
    go_wp2_with fail
    refine (HG.out _).mono ?_
    rintro e w2 ⟨rfl, hb2⟩
    have L2 := Lib.hid (Gl.below_next L1.out hb2)
    have D2 := Lib.hid (HD.out.next L2.out)
    have LG := Lib.hid (L2.out.mono (Nat.le_of_lt hgl))
    clear hb2
    have HF7 : Hid (Calls Tryd.prog 20 #[.pointer (some ⟨g, 0, none⟩), .int .i64 7] w2 (RetF 7 a w2)) := Lib.hid (HF.out 7 _ _ _ D2.out)
    go_wp2_with fail
    refine (HF7.out).mono ?_
    rintro e w3 ⟨rfl, rfl⟩
    go_wp2
    rw [HO.out]
    exact ⟨rfl, rfl, LG.out⟩
  | true =>
    have hbn := hbn rfl
    have HO := Lib.hid (show o = putO (qs.map Prod.fst) a (a + n) v from hO)
    clear hO
    rcases List.eq_nil_or_concat qs with rfl | ⟨ps, q, rfl⟩
    · obtain ⟨A, c, rfl, hc1, hc2, -⟩ := d.2.1.view
      have i0 : (((([] : List Qt)).length : Nat) : Int) = 0 := rfl
      clear d
      go_enter Tryd.func32, Tryd.ntmps32
      go_wp2_with fail
      refine (HR.out).mono ?_
      rintro e w1 ⟨rfl, hb1⟩
      have L1 := Lib.hid hb1
      clear hb1
      go_wp2_with fail
      refine (HG.out _).mono ?_
      rintro e w2 ⟨rfl, hb2⟩
      have L2 := Lib.hid (Gl.below_next L1.out hb2)
      have D2 := Lib.hid (HD.out.next L2.out)
      have LG := Lib.hid (L2.out.mono (Nat.le_of_lt hgl))
      clear hb2
      obtain ⟨-, -, c2⟩ := D2.out.all
      simp only [List.length_nil] at c2
      go_wp2_with fail
      refine (HA.out _ D2.out).mono ?_
      intro e w3 h1
      obtain ⟨V', qs', rfl, d', hm, hb3⟩ := h1
      obtain ⟨ps, q, rfl, hps, hq1⟩ := map_snoc (ts := []) hm
      have hts : ps.map Prod.fst ++ [{ q.1 with nums := q.1.nums ++ [v] }] = [⟨1, a, 0, [v], []⟩] := by rw [hps, hq1]; rfl
      have HO2 := Lib.hid (show o = .next (a + n) (ps.map Prod.fst ++ [{ q.1 with nums := q.1.nums ++ [v] }]) by rw [hts, HO.out]; rfl)
      have hkq : q.1.nums.length = 0 := by rw [hq1]; rfl
      have hpl : ps.length ≤ 400 := by have := congrArg List.length hps; simp at this; simp [this]
      have LG3 := Lib.hid (LG.out.trans hb3)
      have D4 := Lib.hid d'
      clear d' hb3 hm hps hq1 hts c2 HO
      generalize hk : q.1.nums.length = k at *
      have hk64 : ¬ k = 64 := by omega
      have hk65 : k ≤ 64 := by omega
      clear hkq
      obtain ⟨b, cV, hV, hb, ck, cn, fn, bl⟩ := D4.out.lasts
      subst hV
      clear ck cn fn
      go_wp2_with fail
      refine (HLA.out _ _ _ _ _ D4.out hpl).mono ?_
      rintro e w6 ⟨rfl, hb6⟩
      have D6 := Lib.hid (D4.out.next hb6)
      have LG6 := Lib.hid (LG3.out.trans (hb6.mono (Nat.le_of_lt D4.out.lt)))
      obtain ⟨b2, cV2, hV2, hb2, ck2, cn2, fn2, bl2⟩ := D6.out.lasts
      obtain ⟨rfl, rfl⟩ : b = b2 ∧ cV = cV2 := by injection hV2 with h1 h2 h3; injection h1 with h1; injection h1 with h1; exact ⟨h1, h3⟩
      clear hV2 fn2 hb6
      have cn3 : w6.cell? ⟨b, ps.length * 5 + 3, none⟩ = some (.slice q.2.1 k q.2.2) := by rw [cn2]; unfold vq; rw [hk]
      clear cn2
      have b7 : ((k : Int) == 64) = false := by simp; omega
      have D7 := Lib.hid (D6.out.next (below_new w6 (.cells #[.int .i64 v] 2)))
      have LG7 := Lib.hid (LG6.out.trans ((below_new w6 (.cells #[.int .i64 v] 2)).mono (Nat.le_of_lt D6.out.lt)))
      have OW : Hid ((w6.alloc (.cells #[.int .i64 v] 2)).ownsRow (g + 1) 2 1 (.slice q.2.1 k q.2.2) k (q.1.nums.map (Value.int .i64))) := Lib.hid (by have h := D7.out.2.1.2 q (by simp); unfold MineT vq at h; rw [hk] at h; exact h)
      have SQ := Lib.hid (seq_new 2 w6 [.int .i64 v])
      have TL : Hid (k + 1 ≤ 100000) := Lib.hid (by omega)
      have LB : Hid (g + 1 ≤ (w6.alloc (.cells #[.int .i64 v] 2)).heap.size) := Lib.hid D7.out.lt
      have HVQ : Hid (vq q = .slice q.2.1 k q.2.2) := Lib.hid (by unfold vq; rw [hk])
      have HBK := Lib.hid hk
      have hgsum : IntKind.i64.wrap ((a : Int) + (n : Int)) = (a : Int) + (n : Int) := IntWalk.i64_in _ (by unfold maxLen at hs; omega)
      clear hk
      go_wp2_with (at_builtin; refine wpList_appS infoI rfl (by decide) (by decide) Tryd.underlying35 rfl (.tmp 48) (.tmp 50) rfl (g + 1) (.slice q.2.1 k q.2.2) k (q.1.nums.map (Value.int .i64)) rfl OW.out (fun _ => True) _ 1 1 [Value.int .i64 v] rfl rfl SQ.out (one_i v) TL.out LB.out ?_; intro v8 w8 hv8 hg8 ha8; obtain ⟨A8, c8, rfl, -⟩ := own_seq hv8 (by decide); rw [← HVQ.out] at hg8 ha8; have NL := Lib.hid (num_live (n2 := a + n) HBK.out D7.out hv8 hg8 ha8 rfl); obtain ⟨e1, e2, e3, e4, e5, e6⟩ := num_cells D7.out hg8 rfl; clear cn3 ck2 hv8 hg8 ha8)
      go_wp2
      go_end0
      rw [HO2.out]
      refine ⟨_, _, rfl, NL.out.1, by simp, LG7.out.trans NL.out.2⟩
    · rw [List.concat_eq_append] at *
      have h64q : q.1.nums.length ≤ 64 := h64 q (by simp)
      obtain ⟨b0, cV0, rfl, hb0, ck0, cn0, fn0, bl0⟩ := d.lasts
      have hpl : ps.length ≤ 400 := by rw [List.length_append] at hq; omega
      have i5 : ¬ ((ps.length : Int) + 1 = 0) := by omega
      by_cases hkd : q.1.kind = 1
      · have HK := Lib.hid hkd
        have HO1 : Hid (o = if q.1.nums.length = 64 then .bad 8 a else .next (a + n) (ps.map Prod.fst ++ [{ q.1 with nums := q.1.nums ++ [v] }])) := Lib.hid (by rw [HO.out, List.map_append]; exact putO_num hkd)
        clear d ck0 cn0 fn0 HO
        go_enter Tryd.func32, Tryd.ntmps32
        go_wp2_with fail
        refine (HR.out).mono ?_
        rintro e w1 ⟨rfl, hb1⟩
        have L1 := Lib.hid hb1
        clear hb1
        go_wp2_with fail
        refine (HG.out _).mono ?_
        rintro e w2 ⟨rfl, hb2⟩
        have L2 := Lib.hid (Gl.below_next L1.out hb2)
        have D2 := Lib.hid (HD.out.next L2.out)
        have LG := Lib.hid (L2.out.mono (Nat.le_of_lt hgl))
        clear hb2
        obtain ⟨-, -, c2⟩ := D2.out.all
        go_wp2_with fail
        refine (HLA.out _ _ _ _ _ D2.out hpl).mono ?_
        rintro e w3 ⟨rfl, hb3⟩
        have D3 := Lib.hid (D2.out.next hb3)
        have LG3 := Lib.hid (LG.out.trans (hb3.mono (Nat.le_of_lt D2.out.lt)))
        obtain ⟨b1, cV1, hV1, hb1, ck1, cn1, fn1, bl1⟩ := D3.out.lasts
        obtain ⟨rfl, rfl⟩ : b0 = b1 ∧ cV0 = cV1 := by injection hV1 with h1 h2 h3; injection h1 with h1; injection h1 with h1; exact ⟨h1, h3⟩
        rw [HK.out] at ck1
        clear hV1 cn1 fn1 c2 hkd hb3
        generalize hk : q.1.nums.length = k at *
        have D4 := D3
        by_cases hk64 : k = 64
        · have HO2 := Lib.hid (HO1.out.trans (if_pos hk64))
          clear HO1
          obtain ⟨b, cV, hV, hb, ck, cn, fn, bl⟩ := D4.out.lasts
          obtain ⟨rfl, rfl⟩ : b0 = b ∧ cV0 = cV := by injection hV with h1 h2 h3; injection h1 with h1; injection h1 with h1; exact ⟨h1, h3⟩
          clear ck cn fn
          go_wp2_with fail
          refine (HLA.out _ _ _ _ _ D4.out hpl).mono ?_
          rintro e w6 ⟨rfl, hb6⟩
          have D6 := Lib.hid (D4.out.next hb6)
          have LG6 := Lib.hid (LG3.out.trans (hb6.mono (Nat.le_of_lt D4.out.lt)))
          obtain ⟨b2, cV2, hV2, hb2, ck2, cn2, fn2, bl2⟩ := D6.out.lasts
          obtain ⟨rfl, rfl⟩ : b0 = b2 ∧ cV0 = cV2 := by injection hV2 with h1 h2 h3; injection h1 with h1; injection h1 with h1; exact ⟨h1, h3⟩
          clear hV2 fn2 hb6
          have cn3 : w6.cell? ⟨b0, ps.length * 5 + 3, none⟩ = some (.slice q.2.1 k q.2.2) := by rw [cn2]; unfold vq; rw [hk]
          clear cn2
          subst hk64
          have HF8 : Hid (Calls Tryd.prog 20 #[.pointer (some ⟨g, 0, none⟩), .int .i64 8] w6 (RetF 8 a w6)) := Lib.hid (HF.out 8 _ _ _ D6.out)
          go_wp2_with fail
          refine (HF8.out).mono ?_
          rintro e w7 ⟨rfl, rfl⟩
          go_wp2
          rw [HO2.out]
          exact ⟨rfl, rfl, LG6.out⟩
        · have HO2 := Lib.hid (HO1.out.trans (if_neg hk64))
          clear HO1
          obtain ⟨b, cV, hV, hb, ck, cn, fn, bl⟩ := D4.out.lasts
          obtain ⟨rfl, rfl⟩ : b0 = b ∧ cV0 = cV := by injection hV with h1 h2 h3; injection h1 with h1; injection h1 with h1; exact ⟨h1, h3⟩
          clear ck cn fn
          go_wp2_with fail
          refine (HLA.out _ _ _ _ _ D4.out hpl).mono ?_
          rintro e w6 ⟨rfl, hb6⟩
          have D6 := Lib.hid (D4.out.next hb6)
          have LG6 := Lib.hid (LG3.out.trans (hb6.mono (Nat.le_of_lt D4.out.lt)))
          obtain ⟨b2, cV2, hV2, hb2, ck2, cn2, fn2, bl2⟩ := D6.out.lasts
          obtain ⟨rfl, rfl⟩ : b0 = b2 ∧ cV0 = cV2 := by injection hV2 with h1 h2 h3; injection h1 with h1; injection h1 with h1; exact ⟨h1, h3⟩
          clear hV2 fn2 hb6
          have cn3 : w6.cell? ⟨b0, ps.length * 5 + 3, none⟩ = some (.slice q.2.1 k q.2.2) := by rw [cn2]; unfold vq; rw [hk]
          clear cn2
          have b7 : ((k : Int) == 64) = false := by simp; omega
          have D7 := Lib.hid (D6.out.next (below_new w6 (.cells #[.int .i64 v] 2)))
          have LG7 := Lib.hid (LG6.out.trans ((below_new w6 (.cells #[.int .i64 v] 2)).mono (Nat.le_of_lt D6.out.lt)))
          have OW : Hid ((w6.alloc (.cells #[.int .i64 v] 2)).ownsRow (g + 1) 2 1 (.slice q.2.1 k q.2.2) k (q.1.nums.map (Value.int .i64))) := Lib.hid (by have h := D7.out.2.1.2 q (by simp); unfold MineT vq at h; rw [hk] at h; exact h)
          have SQ := Lib.hid (seq_new 2 w6 [.int .i64 v])
          have TL : Hid (k + 1 ≤ 100000) := Lib.hid (by omega)
          have LB : Hid (g + 1 ≤ (w6.alloc (.cells #[.int .i64 v] 2)).heap.size) := Lib.hid D7.out.lt
          have HVQ : Hid (vq q = .slice q.2.1 k q.2.2) := Lib.hid (by unfold vq; rw [hk])
          have HBK := Lib.hid hk
          have hgsum : IntKind.i64.wrap ((a : Int) + (n : Int)) = (a : Int) + (n : Int) := IntWalk.i64_in _ (by unfold maxLen at hs; omega)
          clear hk
          go_wp2_with (at_builtin; refine wpList_appS infoI rfl (by decide) (by decide) Tryd.underlying35 rfl (.tmp 48) (.tmp 50) rfl (g + 1) (.slice q.2.1 k q.2.2) k (q.1.nums.map (Value.int .i64)) rfl OW.out (fun _ => True) _ 1 1 [Value.int .i64 v] rfl rfl SQ.out (one_i v) TL.out LB.out ?_; intro v8 w8 hv8 hg8 ha8; obtain ⟨A8, c8, rfl, -⟩ := own_seq hv8 (by decide); rw [← HVQ.out] at hg8 ha8; have NL := Lib.hid (num_live (n2 := a + n) HBK.out D7.out hv8 hg8 ha8 rfl); obtain ⟨e1, e2, e3, e4, e5, e6⟩ := num_cells D7.out hg8 rfl; clear cn3 ck2 hv8 hg8 ha8)
          go_wp2
          go_end0
          rw [HO2.out]
          refine ⟨_, _, rfl, NL.out.1, by simp, LG7.out.trans NL.out.2⟩
      · have HK := Lib.hid hkd
        have b5 : (((ps.length : Int) + 1) == 0) = false := by simpa using i5
        have b6 : ((q.1.kind : Int) != 1) = true := by simp; omega
        have HO1 : Hid (o = addO ((ps ++ [q]).map Prod.fst) ⟨1, a, 0, [v], []⟩ (a + n)) := Lib.hid (by rw [HO.out, List.map_append]; exact putO_other hkd)
        clear d ck0 cn0 fn0 HO
        go_enter Tryd.func32, Tryd.ntmps32
        go_wp2_with fail
        refine (HR.out).mono ?_
        rintro e w1 ⟨rfl, hb1⟩
        have L1 := Lib.hid hb1
        clear hb1
        go_wp2_with fail
        refine (HG.out _).mono ?_
        rintro e w2 ⟨rfl, hb2⟩
        have L2 := Lib.hid (Gl.below_next L1.out hb2)
        have D2 := Lib.hid (HD.out.next L2.out)
        have LG := Lib.hid (L2.out.mono (Nat.le_of_lt hgl))
        clear hb2
        obtain ⟨-, -, c2⟩ := D2.out.all
        go_wp2_with fail
        refine (HLA.out _ _ _ _ _ D2.out hpl).mono ?_
        rintro e w3 ⟨rfl, hb3⟩
        have D3 := Lib.hid (D2.out.next hb3)
        have LG2 := Lib.hid (LG.out.trans (hb3.mono (Nat.le_of_lt D2.out.lt)))
        obtain ⟨b1, cV1, hV1, hb1, ck1, cn1, fn1, bl1⟩ := D3.out.lasts
        obtain ⟨rfl, rfl⟩ : b0 = b1 ∧ cV0 = cV1 := by injection hV1 with h1 h2 h3; injection h1 with h1; injection h1 with h1; exact ⟨h1, h3⟩
        clear hV1 cn1 fn1 c2 hkd hb3
        go_wp2_with fail
        refine (HA.out _ D3.out).mono ?_
        intro e w4 h1
        by_cases h4 : (ps ++ [q]).length = 400
        · have ho : o = .bad 8 a := by rw [HO1.out]; unfold addO; rw [if_pos (by rw [List.length_map]; exact h4)]
          unfold addO at h1
          rw [if_pos (by rw [List.length_map]; exact h4)] at h1
          obtain ⟨rfl, hb4⟩ := h1
          have LG4 := Lib.hid (LG2.out.trans hb4)
          have HO2 := Lib.hid ho
          clear hb4 ho HO1
          go_wp2
          rw [HO2.out]
          exact ⟨rfl, rfl, LG4.out⟩
        · have ho : o = .next (a + n) ((ps ++ [q]).map Prod.fst ++ [⟨1, a, 0, [v], []⟩]) := by rw [HO1.out]; unfold addO; rw [if_neg (by rw [List.length_map]; exact h4)]
          unfold addO at h1
          rw [if_neg (by rw [List.length_map]; exact h4)] at h1
          obtain ⟨V', qs', rfl, d', hm, hb4⟩ := h1
          obtain ⟨ps5, q5, rfl, hps, hq1⟩ := map_snoc hm
          have hts : ps5.map Prod.fst ++ [{ q5.1 with nums := q5.1.nums ++ [v] }] = (ps ++ [q]).map Prod.fst ++ [⟨1, a, 0, [v], []⟩] := by rw [hps, hq1]; rfl
          have HO2 := Lib.hid (show o = .next (a + n) (ps5.map Prod.fst ++ [{ q5.1 with nums := q5.1.nums ++ [v] }]) by rw [hts]; exact ho)
          have hkq : q5.1.nums.length = 0 := by rw [hq1]; rfl
          have hpl5 : ps5.length ≤ 400 := by have := congrArg List.length hps; rw [List.length_map, List.length_map] at this; omega
          have LG3 := Lib.hid (LG2.out.trans hb4)
          have D4 := Lib.hid d'
          clear d' hb4 hm hps hq1 hts ho HO1 ck1
          generalize hk : q5.1.nums.length = k at *
          have hk64 : ¬ k = 64 := by omega
          have hk65 : k ≤ 64 := by omega
          clear hkq
          obtain ⟨b, cV, hV, hb, ck, cn, fn, bl⟩ := D4.out.lasts
          subst hV
          clear ck cn fn
          go_wp2_with fail
          refine (HLA.out _ _ _ _ _ D4.out hpl5).mono ?_
          rintro e w6 ⟨rfl, hb6⟩
          have D6 := Lib.hid (D4.out.next hb6)
          have LG6 := Lib.hid (LG3.out.trans (hb6.mono (Nat.le_of_lt D4.out.lt)))
          obtain ⟨b2, cV2, hV2, hb2, ck2, cn2, fn2, bl2⟩ := D6.out.lasts
          obtain ⟨rfl, rfl⟩ : b = b2 ∧ cV = cV2 := by injection hV2 with h1 h2 h3; injection h1 with h1; injection h1 with h1; exact ⟨h1, h3⟩
          clear hV2 fn2 hb6
          have cn3 : w6.cell? ⟨b, ps5.length * 5 + 3, none⟩ = some (.slice q5.2.1 k q5.2.2) := by rw [cn2]; unfold vq; rw [hk]
          clear cn2
          have b7 : ((k : Int) == 64) = false := by simp; omega
          have D7 := Lib.hid (D6.out.next (below_new w6 (.cells #[.int .i64 v] 2)))
          have LG7 := Lib.hid (LG6.out.trans ((below_new w6 (.cells #[.int .i64 v] 2)).mono (Nat.le_of_lt D6.out.lt)))
          have OW : Hid ((w6.alloc (.cells #[.int .i64 v] 2)).ownsRow (g + 1) 2 1 (.slice q5.2.1 k q5.2.2) k (q5.1.nums.map (Value.int .i64))) := Lib.hid (by have h := D7.out.2.1.2 q5 (by simp); unfold MineT vq at h; rw [hk] at h; exact h)
          have SQ := Lib.hid (seq_new 2 w6 [.int .i64 v])
          have TL : Hid (k + 1 ≤ 100000) := Lib.hid (by omega)
          have LB : Hid (g + 1 ≤ (w6.alloc (.cells #[.int .i64 v] 2)).heap.size) := Lib.hid D7.out.lt
          have HVQ : Hid (vq q5 = .slice q5.2.1 k q5.2.2) := Lib.hid (by unfold vq; rw [hk])
          have HBK := Lib.hid hk
          have hgsum : IntKind.i64.wrap ((a : Int) + (n : Int)) = (a : Int) + (n : Int) := IntWalk.i64_in _ (by unfold maxLen at hs; omega)
          clear hk
          go_wp2_with (at_builtin; refine wpList_appS infoI rfl (by decide) (by decide) Tryd.underlying35 rfl (.tmp 48) (.tmp 50) rfl (g + 1) (.slice q5.2.1 k q5.2.2) k (q5.1.nums.map (Value.int .i64)) rfl OW.out (fun _ => True) _ 1 1 [Value.int .i64 v] rfl rfl SQ.out (one_i v) TL.out LB.out ?_; intro v8 w8 hv8 hg8 ha8; obtain ⟨A8, c8, rfl, -⟩ := own_seq hv8 (by decide); rw [← HVQ.out] at hg8 ha8; have NL := Lib.hid (num_live (n2 := a + n) HBK.out D7.out hv8 hg8 ha8 rfl); obtain ⟨e1, e2, e3, e4, e5, e6⟩ := num_cells D7.out hg8 rfl; clear cn3 ck2 hv8 hg8 ha8)
          go_wp2
          go_end0
          rw [HO2.out]
          refine ⟨_, _, rfl, NL.out.1, by simp, LG7.out.trans NL.out.2⟩
end Go.Proofs.YtdhpplbopciijaaDoor.Tk
