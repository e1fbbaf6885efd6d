/-
  Layer 17, token: rifflelaw17.TokenLexes. Condition: the two tables of unicode/utf8 hold what their text lays.
-/
import Derived.Test.YtdhpplbopciijaaDoorTkRefF
import Derived.Test.YtdhpplbopciijaaDoorTkRefS
set_option maxRecDepth 100000
namespace Go.Proofs.YtdhpplbopciijaaDoor.Tk
open Go.Proofs.YtdhpplbopciijaaDoor.Sh Go.Proofs.YtdhpplbopciijaaDoor.St
open Go.RowKit
set_option linter.unusedVariables false

/-- Both results of Lex in one form, the fault's place too. -/
theorem retX_both {s : ByteArray} {w w' : World} {e : Ending} (h : RetX s w e w') : ∃ R A c qs, ∃ E P : Nat, LexIs s.data.toList R ∧ e = .returned (.tuple #[.slice A (List.length qs) c, .agg #[.int .i64 (E : Int), .int .i64 (P : Int)]]) ∧ Live w.heap.size w' (.slice A qs.length c) qs ∧ Below w.heap.size w w' ∧ qs.length ≤ 400 ∧ (∀ q ∈ qs, q.1.nums.length ≤ 64) ∧ ((R = .inl (qs.map Prod.fst) ∧ E = 0 ∧ P = 0) ∨ (qs = [] ∧ R = .inr (E, P))) := by
  obtain ⟨R, hR, h⟩ := h
  cases R with
  | inl ts =>
    obtain ⟨V, qs, rfl, hl, rfl, hok, hb⟩ := h
    obtain ⟨A, c, rfl, -⟩ := hl.view
    exact ⟨_, A, c, qs, 0, 0, hR, rfl, hl, hb, by simpa using hok.1, fun q hq => hok.2 q.1 (List.mem_map_of_mem hq), .inl ⟨rfl, rfl, rfl⟩⟩
  | inr ep =>
    obtain ⟨e0, p⟩ := ep
    obtain ⟨rfl, hb⟩ := h
    exact ⟨_, none, 0, [], e0, p, hR, rfl, Live.nil' _ _, hb, by simp, fun q hq => by simp at hq, .inr ⟨rfl, rfl⟩⟩
set_option maxHeartbeats 8000000 in
theorem lexes_walk (s : ByteArray) (hs : s.size ≤ maxLen) (w : World) (hT : Gl.Tabs w) : Calls Tryd.prog 3 #[.string s] w (RetB true w) := by
  have HX := Lib.hid (lex_any s w hs hT)
  have HX2 := Lib.hid (fun W => rlex_any s W hs)
  have HT := Lib.hid hT
  obtain ⟨nn, hnn⟩ : ∃ nn, namedN s.data.toList = nn := ⟨_, rfl⟩
  have HN1 := Lib.hid (fun W => named_any s W hs)
  have HN2 := Lib.hid (fun W => rnamed_any s W hs)
  rw [hnn] at HN1 HN2
  clear hT hs hnn
  go_enter Tryd.func3, Tryd.ntmps3
  go_wp2_with fail
  refine (HX.out).mono ?_
  intro e w2 h
  obtain ⟨R, A, c, qs, E, P, hR, rfl, hl, hb, h4, h6, hRR⟩ := retX_both h
  clear h HX
  have HRR := Lib.hid hRR
  have HR := Lib.hid hR
  have LB1 := Lib.hid (hb.alloc hb.size (.cells #[.int .i64 (E : Int), .int .i64 (P : Int)] 25))
  have BF := Lib.hid (Bk.new 25 w2 [.int .i64 (E : Int), .int .i64 (P : Int)])
  have LV := Lib.hid (hl.next (below_new w2 (.cells #[.int .i64 (E : Int), .int .i64 (P : Int)] 25)))
  have H4 := Lib.hid h4
  have H6 := Lib.hid h6
  clear hb hl hR hRR h4 h6
  go_wp2_with fail
  refine (HX2.out _).mono ?_
  intro e w4 h
  obtain ⟨R', A', c', qs', E', P', hR', rfl, hl', hb', -, -, hRR'⟩ := retX_both h
  have hu : R' = R := lexIs_same hR' HR.out
  have hmap : qs'.map Prod.fst = qs.map Prod.fst ∧ E' = E ∧ P' = P := by
    rcases HRR.out with ⟨e1, e2, e3⟩ | ⟨e1, e2⟩
    · rcases hRR' with ⟨k1, k2, k3⟩ | ⟨k1, k2⟩
      · rw [hu, e1] at k1
        injection k1 with k1
        exact ⟨k1.symm, k2.trans e2.symm, k3.trans e3.symm⟩
      · rw [hu, e1] at k2; cases k2
    · rcases hRR' with ⟨k1, k2, k3⟩ | ⟨k1, k2⟩
      · rw [hu, e2] at k1; cases k1
      · rw [hu, e2] at k2
        injection k2 with k2
        injection k2 with k2 k3
        exact ⟨by rw [k1, e1], k2.symm, k3.symm⟩
  obtain ⟨hm, rfl, rfl⟩ := hmap
  have hln : qs'.length = qs.length := by have := congrArg List.length hm; simpa using this
  have F1 := Lib.hid ((BF.out.next hb').alloc (.cells #[.int .i64 (E' : Int), .int .i64 (P' : Int)] 25))
  have L3 := Lib.hid (Gl.below_next LB1.out hb')
  have L4 := Lib.hid (L3.out.alloc L3.out.size (.cells #[.int .i64 (E' : Int), .int .i64 (P' : Int)] 25))
  have V1 := Lib.hid ((LV.out.next hb').next (below_new w4 (.cells #[.int .i64 (E' : Int), .int .i64 (P' : Int)] 25)))
  have V2 := Lib.hid (hl'.next (below_new w4 (.cells #[.int .i64 (E' : Int), .int .i64 (P' : Int)] 25)))
  have HSM := Lib.hid (rsame_any _ _ qs qs' A A' c c' _ V1.out V2.out hm H4.out H6.out)
  rw [hln] at HSM
  have HLV := Lib.hid (fun W hb => lives_any W (HT.out.below (Gl.below_next L4.out hb)))
  have F2 := Lib.hid (Bk.new 25 w4 [.int .i64 (E' : Int), .int .i64 (P' : Int)])
  have n1 : ¬ w2.heap.size = w4.heap.size := by have := (BF.out.next hb').lt; omega
  rw [hln]
  clear h hR' hRR' hu hm hl' hb' HX2 LV BF
  generalize qs.length = n at *
  generalize (E' : Int) = ei at *
  generalize (P' : Int) = pi at *
  go_wp2_with fail
  refine (HSM.out).mono ?_
  rintro e w5 ⟨rfl, hb5⟩
  have f0 := (F1.out.next hb5).c 0
  have f1 := (F1.out.next hb5).c 1
  have f2 := (F2.out.next hb5).c 0
  have f3 := (F2.out.next hb5).c 1
  simp only [List.getElem?_cons_zero, List.getElem?_cons_succ] at f0 f1 f2 f3
  have H5 := Lib.hid (Gl.below_next L4.out hb5)
  have HL := Lib.hid (HLV.out _ hb5)
  clear hb5 HLV
  go_wp2_with fail
  refine (HN1.out _).mono ?_
  rintro e w6 ⟨rfl, rfl⟩
  go_wp2_with fail
  refine (HN2.out _).mono ?_
  rintro e w6 ⟨rfl, rfl⟩
  go_wp2_with fail
  refine (HL.out).mono ?_
  rintro e w6 ⟨rfl, hb6⟩
  go_wp2
  go_ret
  exact ⟨rfl, Gl.below_next H5.out hb6⟩
end Go.Proofs.YtdhpplbopciijaaDoor.Tk
