/-
  Layer 17, token: (*reader).add. Conditions: as told in each.
-/
import Derived.Test.YtdhpplbopciijaaDoorTkDo
import Derived.Laws.EntriesVeiled
set_option maxRecDepth 100000
namespace Go.Proofs.YtdhpplbopciijaaDoor.Tk
open Go.Proofs.YtdhpplbopciijaaDoor.Sh Go.Proofs.YtdhpplbopciijaaDoor.St
open Go.RowKit
set_option linter.unusedVariables false

theorem wp_if_appT : True := trivial
theorem step_appS {t e : TypeId} {z : Value} {size bytes : Nat} (hinf : (Tryd.prog.info? e).map (fun i => (i.zero, i.size, i.bytes)) = some (some z, size, bytes)) (hzs : z.cells.size = size) (hsz : 0 < size) (hby : bytes ≤ 64) (ht : Tryd.prog.underlying t = some (.slice e)) {w : World} {ops : Array Oper} {o : Oper} {a : Act} {K : Act → World → Prop} {Q : Exit → Act → World → Prop} {E : Prop} (hgd : o.guard = none) (s x : Operand)
    (ho : o.op = .call { callee := .builtin .append, args := #[s, x], argTypes := #[t, t] })
    (base : Nat) (v : Value) (n : Nat) (xs : List Value) (hs : a.eval s = v) (hown : w.ownsRow base e size v n xs) (S : Nat → Prop) (A : Option Addr) (m c : Nat) (news : List Value) (hx : a.eval x = .slice A m c) (hm : news.length = m * size) (hi : Seq S w A news)
    (h1 : ∀ u ∈ news, u.oneCell' = true) (hlen : n + m ≤ 100000) (hbase : base ≤ w.heap.size)
    (h : ∀ v' w', w'.ownsRow base e size v' (n + m) (xs ++ news) → w.grownBy w' v.ownBlock → (v'.ownBlock = v.ownBlock ∨ v'.ownBlock = some w.heap.size) → K (a.put o.dst v') w') :
    if Region.wanted o (yielded ops a.tmps) = true then Oper.wp Tryd.prog o a w K Q else E := by
  have hw : Region.wanted o (yielded ops a.tmps) = true := by simp [Region.wanted, hgd]
  rw [if_pos hw]
  exact wp_appS hinf hzs hsz hby ht s x ho base v n xs hs hown S A m c news hx hm hi h1 hlen hbase h
theorem seq_new (t : TypeId) (w : World) (xs : List Value) : Seq (fun _ => True) (w.alloc (.cells xs.toArray t)) (some ⟨w.heap.size, 0, none⟩) xs := fun _ => ⟨w.heap.size, 0, rfl, trivial, by simp, fun j x hx => by
  rw [Nat.zero_add]; exact (Bk.c (Bk.new t w xs) j).trans hx⟩
/-- What comes of a step: on, or a panic. -/
def RetO (g : Nat) (s : ByteArray) (o : Out) (w : World) (e : Ending) (w' : World) : Prop := match o with
  | .next b ts => RetN g s b ts w e w'
  | .bad e0 p => e = .panicked [{ v := .iface 25 (.agg #[.int .i64 (e0 : Int), .int .i64 (p : Int)]), recovered := false }] ∧ Below g w w'
def tokV (kd cd : Nat) (l : List UInt8) : Value := .agg #[.int .i64 (kd : Int), .int .i64 0, .int .i64 (cd : Int), .slice none 0 0, .string (nm l)]
set_option maxHeartbeats 2000000 in
theorem add_any (w : World) (g : Nat) (s : ByteArray) (a : Nat) (V : Value) (qs : List Qt) (kd cd n : Nat) (l : List UInt8) (d : Rd w g s a V qs) (ha : a + n ≤ s.size) (hs : s.size ≤ maxLen) (hq : qs.length ≤ 400) :
    Calls Tryd.prog 39 #[.pointer (some ⟨g, 0, none⟩), .agg #[.int .i64 (kd : Int), .int .i64 0, .int .i64 (cd : Int), .slice none 0 0, .string (nm l)], .int .i64 (n : Int)] w (RetO g s (addO (qs.map Prod.fst) ⟨kd, a, cd, [], l⟩ (a + n)) w) := by
  have HF := Lib.hid (fun W (dW : Rd W g s a V qs) => fail_any W g s a V qs 8 dW)
  obtain ⟨A, c, rfl, hc1, hc2, -⟩ := d.2.1.view
  have HL := Lib.hid d.2.1
  have HD := Lib.hid d
  have HB0 := Lib.hid (below_new w (.cells #[.int .i64 (kd : Int), .int .i64 0, .int .i64 (cd : Int), .slice none 0 0, .string (nm l)] 37))
  have BX := Lib.hid (Bk.new 37 w [.int .i64 (kd : Int), .int .i64 0, .int .i64 (cd : Int), .slice none 0 0, .string (nm l)])
  by_cases h4 : qs.length = 400
  · have HO := Lib.hid (show addO (qs.map Prod.fst) ⟨kd, a, cd, [], l⟩ (a + n) = .bad 8 a by unfold addO; rw [if_pos (by rw [List.length_map]; exact h4)])
    have D1 := Lib.hid (HD.out.next HB0.out)
    obtain ⟨-, -, c2⟩ := D1.out.all
    rw [h4] at c2
    have HG := Lib.hid (HF.out _ D1.out)
    clear d h4
    go_enter Tryd.func39, Tryd.ntmps39
    go_wp2_with fail
    refine (HG.out).mono ?_
    rintro e w1 ⟨rfl, rfl⟩
    go_wp2
    rw [HO.out]
    exact ⟨rfl, rfl, HB0.out.mono (Nat.le_of_lt HD.out.lt)⟩
  · have HO := Lib.hid (show addO (qs.map Prod.fst) ⟨kd, a, cd, [], l⟩ (a + n) = .next (a + n) (qs.map Prod.fst ++ [⟨kd, a, cd, [], l⟩]) by unfold addO; rw [if_neg (by rw [List.length_map]; exact h4)])
    have D1 := Lib.hid (HD.out.next HB0.out)
    obtain ⟨-, c1, c2⟩ := D1.out.all
    have i4 : ¬ (qs.length : Int) = 400 := by omega
    have X1 := Lib.hid (Bk.new 37 w [.int .i64 (kd : Int), .int .i64 (a : Int), .int .i64 (cd : Int), .slice none 0 0, .string (nm l)])
    have K1 := Lib.hid (below_new w (.cells #[.int .i64 (kd : Int), .int .i64 (a : Int), .int .i64 (cd : Int), .slice none 0 0, .string (nm l)] 37))
    have hle : qs.length < 400 := by omega
    have HLE := Lib.hid hle
    clear d h4 hle
    go_enter Tryd.func39, Tryd.ntmps39
    go_upto_region 4 with fail
    clear c1 c2
    have D2 := Lib.hid (HD.out.next K1.out)
    have X2 : Hid (Bk 37 (w.alloc (.cells #[.int .i64 (kd : Int), .int .i64 (a : Int), .int .i64 (cd : Int), .slice none 0 0, .string (nm l)] 37)) w.heap.size [.int .i64 (kd : Int), .int .i64 (a : Int), .int .i64 (cd : Int), .slice none 0 0, .string (nm l)]) := X1
    clear X1 D1
    generalize (w.alloc (.cells #[.int .i64 (kd : Int), .int .i64 (a : Int), .int .i64 (cd : Int), .slice none 0 0, .string (nm l)] 37)) = wq at *
    have b3 := below_new wq.drew (.cells #[.int .i64 (kd : Int), .int .i64 (a : Int), .int .i64 (cd : Int), .slice none 0 0, .string (nm l)] 37)
    have K3 := Lib.hid (Gl.below_next (show Below w.heap.size w wq.drew from K1.out.drew) b3)
    have D3 := Lib.hid (HD.out.next K3.out)
    have Y3 := Lib.hid (seq_new 37 wq.drew [.int .i64 (kd : Int), .int .i64 (a : Int), .int .i64 (cd : Int), .slice none 0 0, .string (nm l)])
    have L3 : Hid (qs.length + 1 ≤ 100000) := Lib.hid (by have := HLE.out; omega)
    have Z3 : Hid (g + 1 ≤ (wq.drew.alloc (.cells #[.int .i64 (kd : Int), .int .i64 (a : Int), .int .i64 (cd : Int), .slice none 0 0, .string (nm l)] 37)).heap.size) := Lib.hid D3.out.lt
    have O3 : Hid ((wq.drew.alloc (.cells #[.int .i64 (kd : Int), .int .i64 (a : Int), .int .i64 (cd : Int), .slice none 0 0, .string (nm l)] 37)).ownsRow (g + 1) 37 5 (.slice A qs.length c) qs.length (flat5 qs)) := Lib.hid D3.out.2.1.1
    have YA : Hid (∀ u ∈ ([.int .i64 (kd : Int), .int .i64 (a : Int), .int .i64 (cd : Int), .slice none 0 0, .string (nm l)] : List Value), u.oneCell' = true) := Lib.hid (by intro u hu; simp at hu; rcases hu with rfl | rfl | rfl | rfl | rfl <;> rfl)
    obtain ⟨-, c1, c2⟩ := D2.out.all
    obtain ⟨z0, z1, z2⟩ := D3.out.all
    obtain ⟨-, f2⟩ := D3.out.froz
    obtain ⟨x0, x1, x2, x3, x4⟩ : wq.cell? ⟨w.heap.size, 0, none⟩ = some (.int .i64 (kd : Int)) ∧ wq.cell? ⟨w.heap.size, 1, none⟩ = some (.int .i64 (a : Int)) ∧ wq.cell? ⟨w.heap.size, 2, none⟩ = some (.int .i64 (cd : Int)) ∧ wq.cell? ⟨w.heap.size, 3, none⟩ = some (.slice none 0 0) ∧ wq.cell? ⟨w.heap.size, 4, none⟩ = some (.string (nm l)) := ⟨X2.out.c 0, X2.out.c 1, X2.out.c 2, X2.out.c 3, X2.out.c 4⟩
    have i1 : (0 : Int) ≤ (c : Int) := by omega
    have g2 : IntKind.i64.wrap ((a : Int) + (n : Int)) = (a : Int) + (n : Int) := IntWalk.i64_in _ (by unfold maxLen at hs; omega)
    have zz : (wq.alloc (.cells #[.int .i64 (kd : Int), .int .i64 (a : Int), .int .i64 (cd : Int), .slice none 0 0, .string (nm l)] 37)).cell? ⟨g, 2, none⟩ = some (.slice A qs.length c) := z2
    clear b3
    go_region_law ((refine step_appS infoT rfl (by decide) (by decide) Tryd.underlying22 rfl (.tmp 23) (.tmp 25) rfl (g + 1) (.slice A qs.length c) qs.length (flat5 qs) (by simp [Act.eval]) O3.out (fun _ => True) (some ⟨wq.heap.size, 0, none⟩) 1 1 [.int .i64 (kd : Int), .int .i64 (a : Int), .int .i64 (cd : Int), .slice none 0 0, .string (nm l)] (by simp [Act.eval]) rfl Y3.out YA.out L3.out Z3.out ?_; intro v5 w5 hv5 hg5 ha5; obtain ⟨A5, c5, rfl, -⟩ := own_seq hv5 (by decide); have D5 := Lib.hid (Bk.grown D3.out.1 hg5 D3.out.ne); obtain ⟨y1, y2⟩ : w5.cell? ⟨g, 1, none⟩ = some (.int .i64 (a : Int)) ∧ w5.cell? ⟨g, 2, none⟩ = some (.slice A qs.length c) := ⟨D5.out.c 1, D5.out.c 2⟩; obtain ⟨yf, yf1⟩ : w5.frozen? ⟨g, 2, none⟩ = false ∧ w5.frozen? ⟨g, 1, none⟩ = false := ⟨D5.out.f 2, D5.out.f 1⟩))
    all_goals
      go_wp2
      go_end0
      rw [HO.out]
      refine ⟨_, qs ++ [(⟨kd, a, cd, [], l⟩, (none, 0))], rfl, ⟨(D5.out.set_ 2 _).set_ 1 _, (Live.far (Live.far (Live.app (q := (⟨kd, a, cd, [], l⟩, (none, 0))) D3.out.2.1 (World.ownsRow_nil _ _ _ _) hv5 hg5) 2 _) 1 _), Lone.app ⟨rfl, rfl⟩⟩, by simp, ?_⟩
      exact (((K3.out.mono (Nat.le_of_lt HD.out.lt)).grown hg5 (Nat.le_of_lt D3.out.lt) (fun k hk => by have := (D3.out.2.1.lt k hk).2; omega)).setCell (p := ⟨g, 2, none⟩) (Nat.le_refl _) _).setCell (p := ⟨g, 1, none⟩) (Nat.le_refl _) _
end Go.Proofs.YtdhpplbopciijaaDoor.Tk
