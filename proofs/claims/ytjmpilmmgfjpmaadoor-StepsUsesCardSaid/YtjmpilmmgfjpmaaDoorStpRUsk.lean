/-
  Layer 22, the document's side: the uses of any node. Condition: a flat program.
-/
import Derived.Test.YtjmpilmmgfjpmaaDoorStpRFk1
import Derived.Test.YtjmpilmmgfjpmaaDoorStpRFk2
import Derived.Test.YtjmpilmmgfjpmaaDoorPkQc
set_option maxRecDepth 100000
namespace Go.Proofs.YtjmpilmmgfjpmaaDoor.Stp
open Go.Proofs.YtjmpilmmgfjpmaaDoor.Sh Go.Proofs.YtjmpilmmgfjpmaaDoor.St Go.Proofs.YtjmpilmmgfjpmaaDoor.Tr
open Go.RowKit
set_option linter.unusedVariables false
set_option linter.unusedSimpArgs false

theorem prim_in {c : Int} (h : primB c = true) : 1 ≤ c ∧ c ≤ 32 := by
  unfold primB Gl.clsI at h
  simp only [decide_eq_true_eq] at h
  repeat' split at h
  all_goals omega
theorem ruse_k (p : Pq) (hF : Fl p.nodes) (hKn : NoKn p.nodes) : ∀ (k : Nat) (q : Nq), p.nodes[k]? = some q → funI q.n.kind = true → ∀ (w : World), ProgIn w p → ∀ many : Int, many = 1 ∨ many = 2 → Calls Tryd.prog 17 #[progV p, .int .i64 (k : Int), .int .i64 many] w (RetBl (uM p.nodes (k : Int) many) w) := by
  obtain ⟨pnm, pda, pdc, pdims, pna, pnc, pnodes, pfa, pfc, pdefs, proot⟩ := p
  unfold progV
  simp only at hF hKn ⊢
  intro k
  induction k using Nat.strongRecOn with
  | ind k ih =>
  intro q hq hfun w hp many hm
  have hk6 := hKn k q hq
  have HU : ∀ m, m < k → (∃ q : Nq, pnodes[m]? = some q ∧ funI q.n.kind = true) → ∀ W, ProgIn W ⟨pnm, pda, pdc, pdims, pna, pnc, pnodes, pfa, pfc, pdefs, proot⟩ → ∀ many : Int, many = 1 ∨ many = 2 → Calls Tryd.prog 17 #[.agg #[.string pnm, .slice pda pdims.length pdc, .slice pna pnodes.length pnc, .slice pfa pdefs.length pfc, .int .i64 proot], .int .i64 (m : Int), .int .i64 many] W (RetBl (uM pnodes (m : Int) many) W) := fun m hmk ⟨q', h1, h2⟩ W hW many hmany => ih m hmk q' h1 h2 W hW many hmany
  have hfd := (hF.ok k q hq).2
  obtain ⟨⟨kk, pp, cc, kids, nums, name⟩, ka, kc, na, nc⟩ := q
  simp only at hfun hk6 hfd
  unfold funI at hfun
  simp only [Bool.and_eq_true, decide_eq_true_eq] at hfun
  rcases (show kk = 5 ∨ (kk = 7 ∧ cc = 38) ∨ (kk = 7 ∧ cc ≠ 38) ∨ kk = 8 ∨ kk = 9 ∨ kk = 10 ∨ kk = 11 ∨ kk = 12 by omega) with rfl | ⟨rfl, rfl⟩ | ⟨rfl, h38⟩ | rfl | rfl | rfl | rfl | rfl
  · have hc : primB cc = true := by
      unfold fieldedB fieldsB codeB at hfd
      simp only [Bool.and_eq_true] at hfd
      exact hfd.2.1
    have hin := prim_in hc
    by_cases h20 : cc < 20
    · rcases hm with rfl | rfl
      · exact ruse_5a1 pnm pda pdc pdims pna pnc pnodes pfa pfc pdefs proot hF k pp cc kids nums name ka kc na nc hq w hp ⟨hin.1, h20⟩
      · exact ruse_5a2 pnm pda pdc pdims pna pnc pnodes pfa pfc pdefs proot hF k pp cc kids nums name ka kc na nc hq w hp ⟨hin.1, h20⟩
    · rcases hm with rfl | rfl
      · exact ruse_5b1 pnm pda pdc pdims pna pnc pnodes pfa pfc pdefs proot hF k pp cc kids nums name ka kc na nc hq w hp (by omega) hin.2
      · exact ruse_5b2 pnm pda pdc pdims pna pnc pnodes pfa pfc pdefs proot hF k pp cc kids nums name ka kc na nc hq w hp (by omega) hin.2
  · rcases hm with rfl | rfl
    · exact ruse_7s1 pnm pda pdc pdims pna pnc pnodes pfa pfc pdefs proot hF k pp kids nums name ka kc na nc hq w hp HU
    · exact ruse_7s2 pnm pda pdc pdims pna pnc pnodes pfa pfc pdefs proot hF k pp kids nums name ka kc na nc hq w hp HU
  · rcases hm with rfl | rfl
    · exact ruse_71 pnm pda pdc pdims pna pnc pnodes pfa pfc pdefs proot hF k pp cc kids nums name ka kc na nc hq w hp h38
    · exact ruse_72 pnm pda pdc pdims pna pnc pnodes pfa pfc pdefs proot hF k pp cc kids nums name ka kc na nc hq w hp h38
  · rcases hm with rfl | rfl
    · exact ruse_81 pnm pda pdc pdims pna pnc pnodes pfa pfc pdefs proot hF k pp cc kids nums name ka kc na nc hq w hp
    · exact ruse_82 pnm pda pdc pdims pna pnc pnodes pfa pfc pdefs proot hF k pp cc kids nums name ka kc na nc hq w hp
  · rcases hm with rfl | rfl
    · exact ruse_91 pnm pda pdc pdims pna pnc pnodes pfa pfc pdefs proot hF k pp cc kids nums name ka kc na nc hq w hp
    · exact ruse_92 pnm pda pdc pdims pna pnc pnodes pfa pfc pdefs proot hF k pp cc kids nums name ka kc na nc hq w hp
  · rcases hm with rfl | rfl
    · exact ruse_101 pnm pda pdc pdims pna pnc pnodes pfa pfc pdefs proot hF k pp cc kids nums name ka kc na nc hq w hp
    · exact ruse_102 pnm pda pdc pdims pna pnc pnodes pfa pfc pdefs proot hF k pp cc kids nums name ka kc na nc hq w hp
  · rcases hm with rfl | rfl
    · exact ruse_111 pnm pda pdc pdims pna pnc pnodes pfa pfc pdefs proot hF k pp cc kids nums name ka kc na nc hq w hp HU
    · exact ruse_112 pnm pda pdc pdims pna pnc pnodes pfa pfc pdefs proot hF k pp cc kids nums name ka kc na nc hq w hp HU
  · rcases hm with rfl | rfl
    · exact ruse_121 pnm pda pdc pdims pna pnc pnodes pfa pfc pdefs proot hF k pp cc kids nums name ka kc na nc hq w hp HU
    · exact ruse_122 pnm pda pdc pdims pna pnc pnodes pfa pfc pdefs proot hF k pp cc kids nums name ka kc na nc hq w hp HU
end Go.Proofs.YtjmpilmmgfjpmaaDoor.Stp
