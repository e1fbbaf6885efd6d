/-
  Layer 18, tree: parted. Condition: each part is a node.
-/
import Derived.Test.YtjmpilmmgfjpmaaDoorTrParts
set_option maxRecDepth 100000
namespace Go.Proofs.YtjmpilmmgfjpmaaDoor.Tr
open Go.Proofs.YtjmpilmmgfjpmaaDoor.Sh Go.Proofs.YtjmpilmmgfjpmaaDoor.St
open Go.RowKit
set_option linter.unusedVariables false

theorem partsL_short (k : Int) : (partsL k).length ≤ 10 := by
  unfold partsL
  repeat' split
  all_goals decide
set_option maxHeartbeats 4000000 in
theorem parted_b (A : Option Addr) (c : Nat) (qs : List Nq) (q : Nq) (b : Bool) (w : World) (hn : Nodes w A qs) (hq : NodeIn w q) (hi : ∀ i ∈ q.n.kids, InR qs.length i) (hb : partedB qs (partsL q.n.kind) q.n.kids = b) :
    Calls Tryd.prog 64 #[.slice A qs.length c, nodeV q] w (RetBl b w) := by
  have hmf : ∀ (fn : Fn) (first cap : Array Value) (w : World), (Instr.makeFunc fn first cap).run Tryd.prog w = .ok (.func fn first cap) w := fun _ _ _ _ => rfl
  obtain ⟨⟨k, p, cd, kids, nums, name⟩, ka, kc, na, nc⟩ := q
  obtain ⟨i1, i2, l1, l2, l3⟩ := hq
  unfold nodeV
  simp only at hi hb i1 l1
  have B2 := Lib.hid ((Bk.new 23 w [.slice A qs.length c]).alloc (.cells #[.int .i64 k, .int .i64 p, .int .i64 cd, .slice ka kids.length kc, .slice na nums.length nc, .string name] 45))
  have B3 := Lib.hid (Bk.new 45 (w.alloc (.cells #[.slice A qs.length c] 23)) [.int .i64 k, .int .i64 p, .int .i64 cd, .slice ka kids.length kc, .slice na nums.length nc, .string name])
  have e1 : (w.alloc (.cells #[.slice A qs.length c] 23)).heap.size = w.heap.size + 1 := by simp
  rw [e1] at B3
  have LB := Lib.hid (((Below.refl _ w).alloc (Nat.le_refl _) (.cells #[.slice A qs.length c] 23)).alloc (by simp) (.cells #[.int .i64 k, .int .i64 p, .int .i64 cd, .slice ka kids.length kc, .slice na nums.length nc, .string name] 45))
  have HEQ := Lib.hid (fun js AF cF W hjs hF (hw : Below w.heap.size w W) hg hb => eqFunc_b js AF cF kids ka kc w.heap.size A c qs b W hjs l1 hF (i1.below hw) hi (hn.next hw) hg hb)
  have HPA := Lib.hid (fun W => parts_any k W)
  have HBB := Lib.hid hb
  have HSH := Lib.hid (partsL_short k)
  clear hn hi hb i1 i2 l1 l2 l3 e1
  generalize hjs : partsL k = js at *
  clear hjs
  go_enter Tryd.func64, Tryd.ntmps64
  go_upto_region 1 with fail
  have C2 : Hid (Bk 23 ((w.alloc (.cells #[.slice A qs.length c] 23)).alloc (.cells #[.int .i64 k, .int .i64 p, .int .i64 cd, .slice ka kids.length kc, .slice na nums.length nc, .string name] 45)) w.heap.size [.slice A qs.length c]) := B2
  generalize ((w.alloc (.cells #[.slice A qs.length c] 23)).alloc (.cells #[.int .i64 k, .int .i64 p, .int .i64 cd, .slice ka kids.length kc, .slice na nums.length nc, .string name] 45)) = wq at *
  have KW := Lib.hid (show wq.drew.cell? ⟨w.heap.size + 1, 0, none⟩ = some (.int .i64 k) ∧ wq.drew.cell? ⟨w.heap.size + 1, 3, none⟩ = some (.slice ka kids.length kc) from ⟨B3.out.c 0, B3.out.c 3⟩)
  go_region_held3 (fun w' => w'.cell? ⟨w.heap.size + 1, 0, none⟩ = some (.int .i64 k) ∧ w'.cell? ⟨w.heap.size + 1, 3, none⟩ = some (.slice ka kids.length kc))
    (first
      | with_reducible exact KW.out
      | with_reducible exact K9.out
      | with_reducible exact K7.out
      | go_keep)
    (first
      | (go_at_call 76; (with_reducible refine (HPA.out _).mono ?_); rintro r w7 ⟨AF, cF, rfl, hsq, hb7⟩; have B27 := Lib.hid (B2.out.drew.next hb7); have B37 := Lib.hid (B3.out.drew.next hb7); have L7 := Lib.hid (Gl.below_next LB.out.drew hb7); have SQ7 := Lib.hid hsq; have K7 := Lib.hid (show w7.cell? ⟨w.heap.size + 1, 0, none⟩ = some (.int .i64 k) ∧ w7.cell? ⟨w.heap.size + 1, 3, none⟩ = some (.slice ka kids.length kc) from ⟨B37.out.c 0, B37.out.c 3⟩); clear hsq hb7)
      | (go_at_call 75; (with_reducible refine (HEQ.out js AF cF _ HSH.out SQ7.out L7.out B27.out HBB.out).mono ?_); rintro r w9 ⟨rfl, hb9⟩; have L9 := Lib.hid (Gl.below_next L7.out hb9); have K9 := Lib.hid (show w9.cell? ⟨w.heap.size + 1, 0, none⟩ = some (.int .i64 k) ∧ w9.cell? ⟨w.heap.size + 1, 3, none⟩ = some (.slice ka kids.length kc) from ⟨(B37.out.next hb9).c 0, (B37.out.next hb9).c 3⟩); clear hb9))
  all_goals
    go_wp2
    go_ret
    exact ⟨rfl, L9.out⟩
end Go.Proofs.YtjmpilmmgfjpmaaDoor.Tr
