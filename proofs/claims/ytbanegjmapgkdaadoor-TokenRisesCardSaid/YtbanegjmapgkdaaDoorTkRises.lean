/-
  Layer 17, token: rifflelaw17.TokenRises where a text has tokens. Condition: the two tables of unicode/utf8 hold what their text lays.
-/
import Derived.Test.YtbanegjmapgkdaaDoorTkRises0
set_option maxRecDepth 100000
namespace Go.Proofs.YtbanegjmapgkdaaDoor.Tk
open Go.Proofs.YtbanegjmapgkdaaDoor.Sh Go.Proofs.YtbanegjmapgkdaaDoor.St
open Go.RowKit
set_option linter.unusedVariables false

/-- What each kind has. -/
theorem kinds {n : Nat} {t : Tk} (h : TkOk n t) : (t.kind = 1 ∧ 0 < t.nums.length ∧ t.code = 0 ∧ t.name = []) ∨ (t.kind = 2 ∧ t.nums.length = 0 ∧ t.code = 0 ∧ t.name ≠ [] ∧ namedN t.name = 2) ∨ (t.kind = 3 ∧ t.nums.length = 0 ∧ t.code = 0 ∧ t.name ≠ [] ∧ namedN t.name = 3) ∨ (t.kind = 4 ∧ t.nums.length = 0 ∧ 0 < t.code ∧ t.name = []) ∨ (t.kind = 5 ∧ t.nums.length = 0 ∧ t.code = 0 ∧ t.name = []) := by
  obtain ⟨h1, h2, h3, h4, h5, h6, h7, h8⟩ := h
  have c0 : ¬ t.kind = 4 → t.code = 0 := fun h => by have := fun x => h (h5.2 x); omega
  have n0 : ¬ t.kind = 1 → t.nums.length = 0 := fun h => by
    have : ¬ t.nums ≠ [] := fun x => h (h4.2 x)
    simp at this; simp [this]
  have m0 : ¬ (t.kind = 2 ∨ t.kind = 3) → t.name = [] := fun h => by
    have : ¬ t.name ≠ [] := fun x => h (h6.2 x)
    simpa using this
  rcases (show t.kind = 1 ∨ t.kind = 2 ∨ t.kind = 3 ∨ t.kind = 4 ∨ t.kind = 5 by omega) with h | h | h | h | h
  · exact .inl ⟨h, List.length_pos_iff.2 (h4.1 h), c0 (by omega), m0 (by omega)⟩
  · exact .inr (.inl ⟨h, n0 (by omega), c0 (by omega), h6.1 (.inl h), (h7 (h6.1 (.inl h))).trans h⟩)
  · exact .inr (.inr (.inl ⟨h, n0 (by omega), c0 (by omega), h6.1 (.inr h), (h7 (h6.1 (.inr h))).trans h⟩))
  · exact .inr (.inr (.inr (.inl ⟨h, n0 (by omega), h5.1 h, m0 (by omega)⟩)))
  · exact .inr (.inr (.inr (.inr ⟨h, n0 (by omega), c0 (by omega), m0 (by omega)⟩)))
theorem name_facts {l : List UInt8} (h : l ≠ []) : (nm l).size ≠ 0 := fun e => h (by
  have : (nm l).data.toList.length = 0 := by simpa using e
  exact List.length_eq_zero_iff.1 this)
set_option maxHeartbeats 16000000 in
theorem rises_walk (s : ByteArray) (hs : s.size ≤ maxLen) (w : World) (hT : Gl.Tabs w) :
    Calls Tryd.prog 8 #[.string s] w fun e w' => e = .returned (.bool true) ∧ Below w.heap.size w w' := by
  have HX := Lib.hid (lex_any s w hs hT)
  have HT := Lib.hid hT
  have HS := Lib.hid hs
  clear hT hs
  go_enter Tryd.func8, Tryd.ntmps8
  go_wp2_with fail
  refine (HX.out).mono ?_
  rintro e w2 ⟨R, hR, h⟩
  have hfi := lexIs_facts hR
  have hls : s.data.toList.length = s.size := by simp
  rw [hls] at hfi
  clear hls hR HX
  cases R with
  | inr ep =>
    obtain ⟨e0, p⟩ := ep
    obtain ⟨rfl, hb⟩ := h
    have b1 : ((e0 : Int) == 0) = false := by have := hfi.1; simp; omega
    have b2 : ((e0 : Int) != 0) = true := by have := hfi.1; simp; omega
    have i1 : (p : Int) ≤ (s.size : Int) := by have := hfi.2; omega
    have i2 : ¬ (e0 : Int) = 0 := by have := hfi.1; omega
    have LB := Lib.hid (hb.alloc hb.size (.cells #[.int .i64 (e0 : Int), .int .i64 (p : Int)] 46))
    have HL := Lib.hid (lives_any _ (HT.out.below LB.out))
    clear hb hfi
    go_wp2_with fail
    refine (HL.out).mono ?_
    rintro e w3 ⟨rfl, hb2⟩
    have L2 := Lib.hid (Gl.below_next LB.out hb2)
    clear hb2
    go_wp2
    go_ret
    exact ⟨rfl, L2.out⟩
  | inl ts =>
    obtain ⟨V, qs, rfl, hl, rfl, hok4, hb1⟩ := h
    obtain ⟨A, c, rfl, hc1, hc2, -⟩ := hl.view
    have HLV := Lib.hid hl
    have h400 : qs.length ≤ 400 := by simpa using hok4.1
    have LB := Lib.hid (hb1.alloc hb1.size (.cells #[.int .i64 0, .int .i64 0] 46))
    have HI : Hid (∃ b, Inv s.size b (qs.map Prod.fst)) := Lib.hid hfi
    have i4 : (qs.length : Int) ≤ 400 := by omega
    have hs := HS.out
    clear hb1 hl hfi hok4
    go_wp2_with fail
    have HL2 := Lib.hid (HLV.out.next (below_new w2 (.cells #[.int .i64 0, .int .i64 0] 46)))
    clear HLV
    generalize hW0 : w2.alloc (.cells #[.int .i64 0, .int .i64 0] 46) = W0 at *
    clear hW0
    go_loopw [40] (fun i wr => ∃ k : Nat, k ≤ qs.length ∧ i = .int .i64 (k : Int) ∧ Hid (Below W0.heap.size W0 wr)) (fun i _ => qs.length - (intOf i).toNat)
    case atStart => exact ⟨0, Nat.zero_le _, rfl, Lib.hid (Below.refl _ _)⟩
    case round =>
      obtain ⟨k, hk, rfl, HB⟩ := hrel
      have HW := Lib.hid (Gl.below_next LB.out HB.out)
      by_cases hlt : k < qs.length
      · obtain ⟨q, hq⟩ : ∃ q, qs[k]? = some q := ⟨_, List.getElem?_eq_getElem hlt⟩
        obtain ⟨b, cc, hV, hbl, hcc, hcs⟩ := tok_cells (HL2.out.next HB.out) hq
        obtain ⟨rfl, rfl⟩ : A = some ⟨b, 0, none⟩ ∧ c = cc := by injection hV with h1 h2 h3; exact ⟨h1, h3⟩
        obtain ⟨x0, x1, x2, x3, x4⟩ := hcs k q hq
        obtain ⟨bb, hiv⟩ := HI.out
        have hok := (hiv.1 q.1 (List.mem_map_of_mem (List.mem_of_getElem? hq))).1
        have hprev : ∀ j u, j < k → qs[j]? = some u → u.1.pos < q.1.pos := fun j u hj hu => by
          have hp := List.pairwise_iff_getElem.1 hiv.2 j k (by simp; omega) (by simpa using hlt) hj
          have hju : qs[j]'(by omega) = u := (List.getElem?_eq_some_iff.1 hu).2
          have hkq : qs[k]'hlt = q := (List.getElem?_eq_some_iff.1 hq).2
          simpa [hju, hkq] using hp
        have hkd := kinds hok
        have p1 : (0 : Int) ≤ (q.1.pos : Int) := by omega
        have p2 : (q.1.pos : Int) < (s.size : Int) := by have := hok.1; omega
        have p3 : decide ((q.1.pos : Int) < 0) = false := by simp
        have p4 : decide (s.size ≤ q.1.pos) = false := by have := hok.1; simp; omega
        have hns : (nm q.1.name).size ≤ maxLen := by
          have e : (nm q.1.name).size = q.1.name.length := by show q.1.name.toArray.size = _; simp
          rw [e]; have := hok.2.2.2.2.2.2.2; omega
        have HNS := Lib.hid hns
        have hk8 : k < 400 := by omega
        rw [show vq q = .slice q.2.1 q.1.nums.length q.2.2 from rfl] at x3
        generalize hkk : q.1.kind = kd at *
        generalize hpp : q.1.pos = pos at *
        generalize hcd : q.1.code = cd at *
        generalize hnn : q.1.nums.length = nn at *
        generalize hne : q.1.name = nam at *
        clear hcd hnn hkk hne hok hiv hV hcc
        rcases Nat.eq_zero_or_pos k with hk0 | hk0
        · subst hk0
          simp only [Nat.zero_mul, Nat.zero_add] at x0 x1 x2 x3 x4
          clear hprev hcs hpp
          rcases hkd with ⟨rfl, h2, rfl, rfl⟩ | ⟨rfl, rfl, rfl, h4, h5⟩ | ⟨rfl, rfl, rfl, h4, h5⟩ | ⟨rfl, rfl, h3, rfl⟩ | ⟨rfl, rfl, rfl, rfl⟩
          · have h2' : (0 : Int) < (nn : Int) := by omega
            clear h2
            go_wp2_with fail
            go_quiet (fail)
            have HX3 := Lib.hid ((Bk.new 53 wr [.int .i64 (1 : Int), .int .i64 (pos : Int), .int .i64 (0 : Int), .slice q.2.1 nn q.2.2, .string ⟨#[]⟩]).drewN nq)
            have HB3 := Lib.hid (Gl.below_drewN (Gl.below_next HB.out (below_new wr (.cells #[.int .i64 (1 : Int), .int .i64 (pos : Int), .int .i64 (0 : Int), .slice q.2.1 nn q.2.2, .string ⟨#[]⟩] 53))) nq)
            clear x0 x1 x2 x3 x4 
            change Exit.then _ _ Exit.normal _ ((wr.alloc (.cells #[.int .i64 (1 : Int), .int .i64 (pos : Int), .int .i64 (0 : Int), .slice q.2.1 nn q.2.2, .string ⟨#[]⟩] 53)).drewN nq)
            generalize hwq : (wr.alloc (.cells #[.int .i64 (1 : Int), .int .i64 (pos : Int), .int .i64 (0 : Int), .slice q.2.1 nn q.2.2, .string ⟨#[]⟩] 53)).drewN nq = wq at *
            clear hwq
            have z0 : wq.cell? ⟨wr.heap.size, 0, none⟩ = some (.int .i64 1) := HX3.out.c 0
            have z2 : wq.cell? ⟨wr.heap.size, 2, none⟩ = some (.int .i64 0) := HX3.out.c 2
            have z3 : wq.cell? ⟨wr.heap.size, 3, none⟩ = some (.slice q.2.1 nn q.2.2) := HX3.out.c 3
            have z4 : wq.cell? ⟨wr.heap.size, 4, none⟩ = some (.string ⟨#[]⟩) := HX3.out.c 4
            go_wp2_with fail
            go_quiet (fail)
            go_wp2_with fail
            go_round
            case rel => exact ⟨0 + 1, by omega, by go_num, Lib.hid (Gl.below_drewN HB3.out nq)⟩
            case measure => simp [intOf]; omega
          · obtain ⟨e1, e2, e3⟩ := Gl.nonempty_facts (name_facts h4)
            have HNM : Hid (∀ W, Calls Tryd.prog 24 #[.string (nm nam)] W fun e w' => e = .returned (.int .i64 2) ∧ w' = W) := Lib.hid (fun W => (named_n (nm nam) 2 W HNS.out (by show namedN nam.toArray.toList = _; simpa using h5)).mono fun e w' ⟨h1, h2⟩ => ⟨h1, h2.symm⟩)
            clear h4 h5 HNS
            generalize nm nam = N at *
            go_wp2_with fail
            go_quiet (fail)
            have HX3 := Lib.hid ((Bk.new 53 wr [.int .i64 (2 : Int), .int .i64 (pos : Int), .int .i64 (0 : Int), .slice q.2.1 0 q.2.2, .string N]).drewN nq)
            have HB3 := Lib.hid (Gl.below_drewN (Gl.below_next HB.out (below_new wr (.cells #[.int .i64 (2 : Int), .int .i64 (pos : Int), .int .i64 (0 : Int), .slice q.2.1 0 q.2.2, .string N] 53))) nq)
            clear x0 x1 x2 x3 x4 
            change Exit.then _ _ Exit.normal _ ((wr.alloc (.cells #[.int .i64 (2 : Int), .int .i64 (pos : Int), .int .i64 (0 : Int), .slice q.2.1 0 q.2.2, .string N] 53)).drewN nq)
            generalize hwq : (wr.alloc (.cells #[.int .i64 (2 : Int), .int .i64 (pos : Int), .int .i64 (0 : Int), .slice q.2.1 0 q.2.2, .string N] 53)).drewN nq = wq at *
            clear hwq
            have z0 : wq.cell? ⟨wr.heap.size, 0, none⟩ = some (.int .i64 2) := HX3.out.c 0
            have z2 : wq.cell? ⟨wr.heap.size, 2, none⟩ = some (.int .i64 0) := HX3.out.c 2
            have z3 : wq.cell? ⟨wr.heap.size, 3, none⟩ = some (.slice q.2.1 0 q.2.2) := HX3.out.c 3
            have z4 : wq.cell? ⟨wr.heap.size, 4, none⟩ = some (.string N) := HX3.out.c 4
            go_wp2_with fail
            go_quiet ((go_at_call 24; exact Calls.quiet_of_same (HNM.out _)))
            go_wp2_with fail
            go_round
            case rel => exact ⟨0 + 1, by omega, by go_num, Lib.hid (Gl.below_drewN HB3.out nq)⟩
            case measure => simp [intOf]; omega
          · obtain ⟨e1, e2, e3⟩ := Gl.nonempty_facts (name_facts h4)
            have HNM : Hid (∀ W, Calls Tryd.prog 24 #[.string (nm nam)] W fun e w' => e = .returned (.int .i64 3) ∧ w' = W) := Lib.hid (fun W => (named_n (nm nam) 3 W HNS.out (by show namedN nam.toArray.toList = _; simpa using h5)).mono fun e w' ⟨h1, h2⟩ => ⟨h1, h2.symm⟩)
            clear h4 h5 HNS
            generalize nm nam = N at *
            go_wp2_with fail
            go_quiet (fail)
            have HX3 := Lib.hid ((Bk.new 53 wr [.int .i64 (3 : Int), .int .i64 (pos : Int), .int .i64 (0 : Int), .slice q.2.1 0 q.2.2, .string N]).drewN nq)
            have HB3 := Lib.hid (Gl.below_drewN (Gl.below_next HB.out (below_new wr (.cells #[.int .i64 (3 : Int), .int .i64 (pos : Int), .int .i64 (0 : Int), .slice q.2.1 0 q.2.2, .string N] 53))) nq)
            clear x0 x1 x2 x3 x4 
            change Exit.then _ _ Exit.normal _ ((wr.alloc (.cells #[.int .i64 (3 : Int), .int .i64 (pos : Int), .int .i64 (0 : Int), .slice q.2.1 0 q.2.2, .string N] 53)).drewN nq)
            generalize hwq : (wr.alloc (.cells #[.int .i64 (3 : Int), .int .i64 (pos : Int), .int .i64 (0 : Int), .slice q.2.1 0 q.2.2, .string N] 53)).drewN nq = wq at *
            clear hwq
            have z0 : wq.cell? ⟨wr.heap.size, 0, none⟩ = some (.int .i64 3) := HX3.out.c 0
            have z2 : wq.cell? ⟨wr.heap.size, 2, none⟩ = some (.int .i64 0) := HX3.out.c 2
            have z3 : wq.cell? ⟨wr.heap.size, 3, none⟩ = some (.slice q.2.1 0 q.2.2) := HX3.out.c 3
            have z4 : wq.cell? ⟨wr.heap.size, 4, none⟩ = some (.string N) := HX3.out.c 4
            go_wp2_with fail
            go_quiet ((go_at_call 24; exact Calls.quiet_of_same (HNM.out _)))
            go_wp2_with fail
            go_round
            case rel => exact ⟨0 + 1, by omega, by go_num, Lib.hid (Gl.below_drewN HB3.out nq)⟩
            case measure => simp [intOf]; omega
          · have h3' : (0 : Int) < (cd : Int) := by omega
            clear h3
            go_wp2_with fail
            go_quiet (fail)
            have HX3 := Lib.hid ((Bk.new 53 wr [.int .i64 (4 : Int), .int .i64 (pos : Int), .int .i64 (cd : Int), .slice q.2.1 0 q.2.2, .string ⟨#[]⟩]).drewN nq)
            have HB3 := Lib.hid (Gl.below_drewN (Gl.below_next HB.out (below_new wr (.cells #[.int .i64 (4 : Int), .int .i64 (pos : Int), .int .i64 (cd : Int), .slice q.2.1 0 q.2.2, .string ⟨#[]⟩] 53))) nq)
            clear x0 x1 x2 x3 x4 
            change Exit.then _ _ Exit.normal _ ((wr.alloc (.cells #[.int .i64 (4 : Int), .int .i64 (pos : Int), .int .i64 (cd : Int), .slice q.2.1 0 q.2.2, .string ⟨#[]⟩] 53)).drewN nq)
            generalize hwq : (wr.alloc (.cells #[.int .i64 (4 : Int), .int .i64 (pos : Int), .int .i64 (cd : Int), .slice q.2.1 0 q.2.2, .string ⟨#[]⟩] 53)).drewN nq = wq at *
            clear hwq
            have z0 : wq.cell? ⟨wr.heap.size, 0, none⟩ = some (.int .i64 4) := HX3.out.c 0
            have z2 : wq.cell? ⟨wr.heap.size, 2, none⟩ = some (.int .i64 cd) := HX3.out.c 2
            have z3 : wq.cell? ⟨wr.heap.size, 3, none⟩ = some (.slice q.2.1 0 q.2.2) := HX3.out.c 3
            have z4 : wq.cell? ⟨wr.heap.size, 4, none⟩ = some (.string ⟨#[]⟩) := HX3.out.c 4
            go_wp2_with fail
            go_quiet (fail)
            go_wp2_with fail
            go_round
            case rel => exact ⟨0 + 1, by omega, by go_num, Lib.hid (Gl.below_drewN HB3.out nq)⟩
            case measure => simp [intOf]; omega
          · go_wp2_with fail
            go_quiet (fail)
            have HX3 := Lib.hid ((Bk.new 53 wr [.int .i64 (5 : Int), .int .i64 (pos : Int), .int .i64 (0 : Int), .slice q.2.1 0 q.2.2, .string ⟨#[]⟩]).drewN nq)
            have HB3 := Lib.hid (Gl.below_drewN (Gl.below_next HB.out (below_new wr (.cells #[.int .i64 (5 : Int), .int .i64 (pos : Int), .int .i64 (0 : Int), .slice q.2.1 0 q.2.2, .string ⟨#[]⟩] 53))) nq)
            clear x0 x1 x2 x3 x4 
            change Exit.then _ _ Exit.normal _ ((wr.alloc (.cells #[.int .i64 (5 : Int), .int .i64 (pos : Int), .int .i64 (0 : Int), .slice q.2.1 0 q.2.2, .string ⟨#[]⟩] 53)).drewN nq)
            generalize hwq : (wr.alloc (.cells #[.int .i64 (5 : Int), .int .i64 (pos : Int), .int .i64 (0 : Int), .slice q.2.1 0 q.2.2, .string ⟨#[]⟩] 53)).drewN nq = wq at *
            clear hwq
            have z0 : wq.cell? ⟨wr.heap.size, 0, none⟩ = some (.int .i64 5) := HX3.out.c 0
            have z2 : wq.cell? ⟨wr.heap.size, 2, none⟩ = some (.int .i64 0) := HX3.out.c 2
            have z3 : wq.cell? ⟨wr.heap.size, 3, none⟩ = some (.slice q.2.1 0 q.2.2) := HX3.out.c 3
            have z4 : wq.cell? ⟨wr.heap.size, 4, none⟩ = some (.string ⟨#[]⟩) := HX3.out.c 4
            go_wp2_with fail
            go_quiet (fail)
            go_wp2_with fail
            go_round
            case rel => exact ⟨0 + 1, by omega, by go_num, Lib.hid (Gl.below_drewN HB3.out nq)⟩
            case measure => simp [intOf]; omega
        · obtain ⟨j, rfl⟩ : ∃ j, k = j + 1 := ⟨k - 1, by omega⟩
          obtain ⟨u, hu⟩ : ∃ u, qs[j]? = some u := ⟨_, List.getElem?_eq_getElem (by omega)⟩
          have hup := hprev j u (by omega) hu
          have y1 := (hcs j u hu).2.1
          have p5 : decide (pos ≤ u.1.pos) = false := by simp; omega
          have p6 : decide ((0 : Int) < (j : Int) + 1) = true := by simp <;> omega
          have p7 : IntKind.i64.wrap ((j : Int) + 1 - 1) = (j : Int) := by rw [IntWalk.i64_in _ (by omega)]; omega
          have p8 : (j : Int) < (qs.length : Int) := by omega
          have p9 : (0 : Int) ≤ (j : Int) := by omega
          have p10 : ((j : Int)).toNat = j := by omega
          clear hprev hcs hpp hup hu
          rcases hkd with ⟨rfl, h2, rfl, rfl⟩ | ⟨rfl, rfl, rfl, h4, h5⟩ | ⟨rfl, rfl, rfl, h4, h5⟩ | ⟨rfl, rfl, h3, rfl⟩ | ⟨rfl, rfl, rfl, rfl⟩
          · have h2' : (0 : Int) < (nn : Int) := by omega
            clear h2
            go_wp2_with fail
            go_quiet (fail)
            have HX3 := Lib.hid ((Bk.new 53 wr [.int .i64 (1 : Int), .int .i64 (pos : Int), .int .i64 (0 : Int), .slice q.2.1 nn q.2.2, .string ⟨#[]⟩]).drewN nq)
            have HB3 := Lib.hid (Gl.below_drewN (Gl.below_next HB.out (below_new wr (.cells #[.int .i64 (1 : Int), .int .i64 (pos : Int), .int .i64 (0 : Int), .slice q.2.1 nn q.2.2, .string ⟨#[]⟩] 53))) nq)
            clear x0 x1 x2 x3 x4 y1
            change Exit.then _ _ Exit.normal _ ((wr.alloc (.cells #[.int .i64 (1 : Int), .int .i64 (pos : Int), .int .i64 (0 : Int), .slice q.2.1 nn q.2.2, .string ⟨#[]⟩] 53)).drewN nq)
            generalize hwq : (wr.alloc (.cells #[.int .i64 (1 : Int), .int .i64 (pos : Int), .int .i64 (0 : Int), .slice q.2.1 nn q.2.2, .string ⟨#[]⟩] 53)).drewN nq = wq at *
            clear hwq
            have z0 : wq.cell? ⟨wr.heap.size, 0, none⟩ = some (.int .i64 1) := HX3.out.c 0
            have z2 : wq.cell? ⟨wr.heap.size, 2, none⟩ = some (.int .i64 0) := HX3.out.c 2
            have z3 : wq.cell? ⟨wr.heap.size, 3, none⟩ = some (.slice q.2.1 nn q.2.2) := HX3.out.c 3
            have z4 : wq.cell? ⟨wr.heap.size, 4, none⟩ = some (.string ⟨#[]⟩) := HX3.out.c 4
            go_wp2_with fail
            go_quiet (fail)
            go_wp2_with fail
            go_round
            case rel => exact ⟨(j + 1) + 1, by omega, by go_num, Lib.hid (Gl.below_drewN HB3.out nq)⟩
            case measure => simp [intOf]; omega
          · obtain ⟨e1, e2, e3⟩ := Gl.nonempty_facts (name_facts h4)
            have HNM : Hid (∀ W, Calls Tryd.prog 24 #[.string (nm nam)] W fun e w' => e = .returned (.int .i64 2) ∧ w' = W) := Lib.hid (fun W => (named_n (nm nam) 2 W HNS.out (by show namedN nam.toArray.toList = _; simpa using h5)).mono fun e w' ⟨h1, h2⟩ => ⟨h1, h2.symm⟩)
            clear h4 h5 HNS
            generalize nm nam = N at *
            go_wp2_with fail
            go_quiet (fail)
            have HX3 := Lib.hid ((Bk.new 53 wr [.int .i64 (2 : Int), .int .i64 (pos : Int), .int .i64 (0 : Int), .slice q.2.1 0 q.2.2, .string N]).drewN nq)
            have HB3 := Lib.hid (Gl.below_drewN (Gl.below_next HB.out (below_new wr (.cells #[.int .i64 (2 : Int), .int .i64 (pos : Int), .int .i64 (0 : Int), .slice q.2.1 0 q.2.2, .string N] 53))) nq)
            clear x0 x1 x2 x3 x4 y1
            change Exit.then _ _ Exit.normal _ ((wr.alloc (.cells #[.int .i64 (2 : Int), .int .i64 (pos : Int), .int .i64 (0 : Int), .slice q.2.1 0 q.2.2, .string N] 53)).drewN nq)
            generalize hwq : (wr.alloc (.cells #[.int .i64 (2 : Int), .int .i64 (pos : Int), .int .i64 (0 : Int), .slice q.2.1 0 q.2.2, .string N] 53)).drewN nq = wq at *
            clear hwq
            have z0 : wq.cell? ⟨wr.heap.size, 0, none⟩ = some (.int .i64 2) := HX3.out.c 0
            have z2 : wq.cell? ⟨wr.heap.size, 2, none⟩ = some (.int .i64 0) := HX3.out.c 2
            have z3 : wq.cell? ⟨wr.heap.size, 3, none⟩ = some (.slice q.2.1 0 q.2.2) := HX3.out.c 3
            have z4 : wq.cell? ⟨wr.heap.size, 4, none⟩ = some (.string N) := HX3.out.c 4
            go_wp2_with fail
            go_quiet ((go_at_call 24; exact Calls.quiet_of_same (HNM.out _)))
            go_wp2_with fail
            go_round
            case rel => exact ⟨(j + 1) + 1, by omega, by go_num, Lib.hid (Gl.below_drewN HB3.out nq)⟩
            case measure => simp [intOf]; omega
          · obtain ⟨e1, e2, e3⟩ := Gl.nonempty_facts (name_facts h4)
            have HNM : Hid (∀ W, Calls Tryd.prog 24 #[.string (nm nam)] W fun e w' => e = .returned (.int .i64 3) ∧ w' = W) := Lib.hid (fun W => (named_n (nm nam) 3 W HNS.out (by show namedN nam.toArray.toList = _; simpa using h5)).mono fun e w' ⟨h1, h2⟩ => ⟨h1, h2.symm⟩)
            clear h4 h5 HNS
            generalize nm nam = N at *
            go_wp2_with fail
            go_quiet (fail)
            have HX3 := Lib.hid ((Bk.new 53 wr [.int .i64 (3 : Int), .int .i64 (pos : Int), .int .i64 (0 : Int), .slice q.2.1 0 q.2.2, .string N]).drewN nq)
            have HB3 := Lib.hid (Gl.below_drewN (Gl.below_next HB.out (below_new wr (.cells #[.int .i64 (3 : Int), .int .i64 (pos : Int), .int .i64 (0 : Int), .slice q.2.1 0 q.2.2, .string N] 53))) nq)
            clear x0 x1 x2 x3 x4 y1
            change Exit.then _ _ Exit.normal _ ((wr.alloc (.cells #[.int .i64 (3 : Int), .int .i64 (pos : Int), .int .i64 (0 : Int), .slice q.2.1 0 q.2.2, .string N] 53)).drewN nq)
            generalize hwq : (wr.alloc (.cells #[.int .i64 (3 : Int), .int .i64 (pos : Int), .int .i64 (0 : Int), .slice q.2.1 0 q.2.2, .string N] 53)).drewN nq = wq at *
            clear hwq
            have z0 : wq.cell? ⟨wr.heap.size, 0, none⟩ = some (.int .i64 3) := HX3.out.c 0
            have z2 : wq.cell? ⟨wr.heap.size, 2, none⟩ = some (.int .i64 0) := HX3.out.c 2
            have z3 : wq.cell? ⟨wr.heap.size, 3, none⟩ = some (.slice q.2.1 0 q.2.2) := HX3.out.c 3
            have z4 : wq.cell? ⟨wr.heap.size, 4, none⟩ = some (.string N) := HX3.out.c 4
            go_wp2_with fail
            go_quiet ((go_at_call 24; exact Calls.quiet_of_same (HNM.out _)))
            go_wp2_with fail
            go_round
            case rel => exact ⟨(j + 1) + 1, by omega, by go_num, Lib.hid (Gl.below_drewN HB3.out nq)⟩
            case measure => simp [intOf]; omega
          · have h3' : (0 : Int) < (cd : Int) := by omega
            clear h3
            go_wp2_with fail
            go_quiet (fail)
            have HX3 := Lib.hid ((Bk.new 53 wr [.int .i64 (4 : Int), .int .i64 (pos : Int), .int .i64 (cd : Int), .slice q.2.1 0 q.2.2, .string ⟨#[]⟩]).drewN nq)
            have HB3 := Lib.hid (Gl.below_drewN (Gl.below_next HB.out (below_new wr (.cells #[.int .i64 (4 : Int), .int .i64 (pos : Int), .int .i64 (cd : Int), .slice q.2.1 0 q.2.2, .string ⟨#[]⟩] 53))) nq)
            clear x0 x1 x2 x3 x4 y1
            change Exit.then _ _ Exit.normal _ ((wr.alloc (.cells #[.int .i64 (4 : Int), .int .i64 (pos : Int), .int .i64 (cd : Int), .slice q.2.1 0 q.2.2, .string ⟨#[]⟩] 53)).drewN nq)
            generalize hwq : (wr.alloc (.cells #[.int .i64 (4 : Int), .int .i64 (pos : Int), .int .i64 (cd : Int), .slice q.2.1 0 q.2.2, .string ⟨#[]⟩] 53)).drewN nq = wq at *
            clear hwq
            have z0 : wq.cell? ⟨wr.heap.size, 0, none⟩ = some (.int .i64 4) := HX3.out.c 0
            have z2 : wq.cell? ⟨wr.heap.size, 2, none⟩ = some (.int .i64 cd) := HX3.out.c 2
            have z3 : wq.cell? ⟨wr.heap.size, 3, none⟩ = some (.slice q.2.1 0 q.2.2) := HX3.out.c 3
            have z4 : wq.cell? ⟨wr.heap.size, 4, none⟩ = some (.string ⟨#[]⟩) := HX3.out.c 4
            go_wp2_with fail
            go_quiet (fail)
            go_wp2_with fail
            go_round
            case rel => exact ⟨(j + 1) + 1, by omega, by go_num, Lib.hid (Gl.below_drewN HB3.out nq)⟩
            case measure => simp [intOf]; omega
          · go_wp2_with fail
            go_quiet (fail)
            have HX3 := Lib.hid ((Bk.new 53 wr [.int .i64 (5 : Int), .int .i64 (pos : Int), .int .i64 (0 : Int), .slice q.2.1 0 q.2.2, .string ⟨#[]⟩]).drewN nq)
            have HB3 := Lib.hid (Gl.below_drewN (Gl.below_next HB.out (below_new wr (.cells #[.int .i64 (5 : Int), .int .i64 (pos : Int), .int .i64 (0 : Int), .slice q.2.1 0 q.2.2, .string ⟨#[]⟩] 53))) nq)
            clear x0 x1 x2 x3 x4 y1
            change Exit.then _ _ Exit.normal _ ((wr.alloc (.cells #[.int .i64 (5 : Int), .int .i64 (pos : Int), .int .i64 (0 : Int), .slice q.2.1 0 q.2.2, .string ⟨#[]⟩] 53)).drewN nq)
            generalize hwq : (wr.alloc (.cells #[.int .i64 (5 : Int), .int .i64 (pos : Int), .int .i64 (0 : Int), .slice q.2.1 0 q.2.2, .string ⟨#[]⟩] 53)).drewN nq = wq at *
            clear hwq
            have z0 : wq.cell? ⟨wr.heap.size, 0, none⟩ = some (.int .i64 5) := HX3.out.c 0
            have z2 : wq.cell? ⟨wr.heap.size, 2, none⟩ = some (.int .i64 0) := HX3.out.c 2
            have z3 : wq.cell? ⟨wr.heap.size, 3, none⟩ = some (.slice q.2.1 0 q.2.2) := HX3.out.c 3
            have z4 : wq.cell? ⟨wr.heap.size, 4, none⟩ = some (.string ⟨#[]⟩) := HX3.out.c 4
            go_wp2_with fail
            go_quiet (fail)
            go_wp2_with fail
            go_round
            case rel => exact ⟨(j + 1) + 1, by omega, by go_num, Lib.hid (Gl.below_drewN HB3.out nq)⟩
            case measure => simp [intOf]; omega
      · have hke : k = qs.length := by omega
        subst hke
        have HL := Lib.hid (lives_any _ (HT.out.below HW.out))
        go_wp2_with fail
        refine (HL.out).mono ?_
        rintro e w5 ⟨rfl, hb5⟩
        have L5 := Lib.hid (Gl.below_next HW.out hb5)
        clear hb5
        go_wp2
        go_ret
        exact ⟨rfl, L5.out⟩
end Go.Proofs.YtbanegjmapgkdaaDoor.Tk
