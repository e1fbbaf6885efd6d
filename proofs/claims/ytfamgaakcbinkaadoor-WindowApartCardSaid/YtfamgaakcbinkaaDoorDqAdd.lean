/-
  What (*deque.numbers).add and leave do to a window. Conditions: as told in each.
-/
import Derived.Test.YtfamgaakcbinkaaDoorDqOps
namespace Go.Proofs.YtfamgaakcbinkaaDoor.Dq
open Go.Proofs.YtfamgaakcbinkaaDoor.Sh Go.Proofs.YtfamgaakcbinkaaDoor.St
open Go.RowKit
set_option linter.unusedVariables false

theorem step_appS {t e : TypeId} {z : Value} {size bytes : Nat} (hinf : (Tryd.prog.info? e).map (fun i => (i.zero, i.size, i.bytes)) = some (some z, size, bytes)) (hzs : z.cells.size = size) (hsz : 0 < size) (hby : bytes ≤ 64) (ht : Tryd.prog.underlying t = some (.slice e)) {w : World} {ops : Array Oper} {o : Oper} {a : Act} {K : Act → World → Prop} {Q : Exit → Act → World → Prop} {E : Prop} (hgd : o.guard = none) (s x : Operand)
    (ho : o.op = .call { callee := .builtin .append, args := #[s, x], argTypes := #[t, t] })
    (base : Nat) (v : Value) (n : Nat) (xs : List Value) (hs : a.eval s = v) (hown : w.ownsRow base e size v n xs) (S : Nat → Prop) (A : Option Addr) (m c : Nat) (news : List Value) (hx : a.eval x = .slice A m c) (hm : news.length = m * size) (hi : Seq S w A news)
    (h1 : ∀ u ∈ news, u.oneCell' = true) (hlen : n + m ≤ 100000) (hbase : base ≤ w.heap.size)
    (h : ∀ v' w', w'.ownsRow base e size v' (n + m) (xs ++ news) → w.grownBy w' v.ownBlock → (v'.ownBlock = v.ownBlock ∨ v'.ownBlock = some w.heap.size) → K (a.put o.dst v') w') :
    if Region.wanted o (yielded ops a.tmps) = true then Oper.wp Tryd.prog o a w K Q else E := by
  have hw : Region.wanted o (yielded ops a.tmps) = true := by simp [Region.wanted, hgd]
  rw [if_pos hw]
  exact wp_appS hinf hzs hsz hby ht s x ho base v n xs hs hown S A m c news hx hm hi h1 hlen hbase h
theorem seq_new (t : TypeId) (w : World) (xs : List Value) : Seq (fun _ => True) (w.alloc (.cells xs.toArray t)) (some ⟨w.heap.size, 0, none⟩) xs := fun _ => ⟨w.heap.size, 0, rfl, trivial, by simp, fun j x hx => by
  rw [Nat.zero_add]; exact (Bk.c (Bk.new t w xs) j).trans hx⟩
theorem add_row {base g : Nat} {V' : Value} {ks ks' : List (Int × Nat)} {K : Nat} {y : Int} {a : Nat} {w5 : World} {cs : List Value} (hl : (ks.take K).length = K) (h : ks' = ks.take K ++ [(y, a)]) (hv : w5.ownsRow base 184 2 V' (K + 1) (flat (ks.take K) ++ [.int .i64 y, .int .i64 (a : Nat)])) (d : Bk 156 w5 g cs) : RowK base (w5.setCell ⟨g, 1, none⟩ V') V' ks' := by
  subst h
  have h1 : RowK base w5 V' (ks.take K ++ [(y, a)]) := by
    unfold RowK
    rw [List.length_append, hl, flat_app]
    exact hv
  refine h1.turn (Turn.setCell (p := ⟨g, 1, none⟩) (Turn.refl (fun i => i = g) w5) (.inl rfl) V') fun k hk e => ?_
  rw [e] at hk
  exact own_bk_ne (t := 156) h1 d (by decide) hk.symm
theorem add_turn {g : Nat} {V W : Value} {w w3 w5 : World} (h : Below w.heap.size w w3) (hg : w3.grownBy w5 W.ownBlock) (he : W.ownBlock = V.ownBlock) (u : Value) : Turn (Tq g V) w (w5.setCell ⟨g, 1, none⟩ u) :=
  Turn.setCell (p := ⟨g, 1, none⟩) ((Turn.of_below _ h).trans (Turn.of_grown hg fun k hk => .inr (by rw [← he]; exact hk))) (.inl (.inl rfl)) u
theorem add_fresh {w w3 : World} {V W V' : Value} (h : V'.ownBlock = W.ownBlock ∨ V'.ownBlock = some w3.heap.size) (he : W.ownBlock = V.ownBlock) (hs : w.heap.size ≤ w3.heap.size) : Fresh w V V' := fun k hk => by
  rcases h with h | h
  · exact .inl (by rw [← he, ← h]; exact hk)
  · rw [h] at hk; injection hk with hk; exact .inr (by omega)
/-- What add tells. -/
def RetAdd (base g : Nat) (V : Value) (ls : Bool) (came went most : Nat) (ks' : List (Int × Nat)) (w : World) (e : Ending) (w' : World) : Prop := ∃ V', e = .returned (.tuple #[]) ∧ DqF w' g ls V' came went most ∧ RowK base w' V' ks' ∧ Turn (Tq g V) w w' ∧ Fresh w V V'
theorem at_end {ls : Bool} {y : Int} {ks : List (Int × Nat)} {j : Nat} {p : Int × Nat} (hp : ks[j]? = some p) (h : ∀ q ∈ ks.drop (j + 1), beatB ls y q.1 = true) (hb : beatB ls y p.1 = true) : ∀ q ∈ ks.drop j, beatB ls y q.1 = true := by
  obtain ⟨hj, e⟩ := List.getElem?_eq_some_iff.1 hp
  rw [List.drop_eq_getElem_cons hj, e]
  intro q hq
  rcases List.mem_cons.1 hq with rfl | hq
  · exact hb
  · exact h q hq
set_option maxHeartbeats 4000000 in
theorem add_any (base g : Nat) (V : Value) (ls : Bool) (came went most f : Nat) (l : List Int) (y : Int) (a : Nat) (w : World) (d : DqF w g ls V came went most) (hr : RowK base w V (keptF ls f l)) (ha : a = f + l.length) (hbase : base ≤ w.heap.size) (hl : l.length ≤ 1000) (hne : V.ownBlock ≠ some g) :
    Calls Tryd.prog 142 #[.pointer (some ⟨g, 0, none⟩), .agg #[.int .i64 y, .int .i64 a]] w (RetAdd base g V ls came went most (keptF ls f (l ++ [y])) w) := by
  have HP : Hid (∀ e, e ≤ (keptF ls f l).length → (∀ p ∈ (keptF ls f l).drop e, beatB ls y p.1 = true) → (e = 0 ∨ ∃ p, (keptF ls f l)[e - 1]? = some p ∧ beatB ls y p.1 = false) → keptF ls f (l ++ [y]) = (keptF ls f l).take e ++ [(y, a)]) := Lib.hid (fun e _ h1 h2 => by rw [ha]; exact kept_push h1 h2)
  have hkl : (keptF ls f l).length ≤ 1000 := Nat.le_trans (kept_len ls l f) hl
  generalize keptF ls f (l ++ [y]) = ks' at *
  generalize keptF ls f l = ks at *
  obtain ⟨A, c, hV, hc, hm, hv⟩ := hr.view
  have HC := Lib.hid (fun e (he : e ≤ ks.length) => hr.cut hV he)
  subst hV
  have HV := Lib.hid hv
  have HR := Lib.hid hr
  have HD := Lib.hid d
  have HN := Lib.hid hne
  have K0 := Lib.hid (below_new w (.cells #[.int .i64 y, .int .i64 (a : Nat)] 184))
  have BX := Lib.hid (Bk.new 184 w [.int .i64 y, .int .i64 (a : Nat)])
  obtain ⟨c0, c1, -, -, -⟩ := (d.next (below_new w (.cells #[.int .i64 y, .int .i64 (a : Nat)] 184))).all
  have hgl : g < w.heap.size := d.lt
  clear d hr hv ha hl hne
  go_enter Tryd.func142, Tryd.ntmps142
  go_wp2
  generalize hW0 : w.alloc (.cells #[.int .i64 y, .int .i64 (a : Nat)] 184) = W0 at *
  clear c0 c1
  have HW0 := Lib.hid hW0
  clear hW0
  go_loopw [4] (fun E wr => ∃ k : Nat, k ≤ ks.length ∧ E = .int .i64 k ∧ Hid (∀ p ∈ ks.drop k, beatB ls y p.1 = true) ∧ Hid (Below W0.heap.size W0 wr)) (fun E _ => (intOf E).toNat)
  case atStart => exact ⟨ks.length, Nat.le_refl _, rfl, Lib.hid (by simp), Lib.hid (Below.refl _ _)⟩
  case round =>
    obtain ⟨k, hk, rfl, HA, HB⟩ := hrel
    have KW := Lib.hid (below_next K0.out HB.out)
    have D1 := Lib.hid ((HD.out.next K0.out).next HB.out)
    have BX1 := Lib.hid (BX.out.next HB.out)
    obtain ⟨c0, c1, -, -, -⟩ := D1.out.all
    obtain ⟨x0, x1⟩ : wr.cell? ⟨w.heap.size, 0, none⟩ = some (.int .i64 y) ∧ wr.cell? ⟨w.heap.size, 1, none⟩ = some (.int .i64 (a : Nat)) := ⟨BX1.out.c 0, BX1.out.c 1⟩
    rcases Nat.eq_zero_or_pos k with h0 | h0
    · subst h0
      have HEX := Lib.hid (HP.out 0 hk HA.out (.inl rfl))
      obtain ⟨hcut, hob⟩ := HC.out 0 hk
      have RK := Lib.hid (hcut.next KW.out)
      have HOB := Lib.hid hob
      have hlen : (ks.take 0).length = 0 := by rw [List.length_take]; omega
      clear hcut hob
      go_wp2_with fail
      go_quiet (fail)
      go_wp2_with fail
      have D2 := Lib.hid (D1.out.drewN nq)
      have R2 := Lib.hid (show RowK base (wr.drewN nq) (.slice A 0 c) (ks.take 0) from RK.out)
      have K2 := Lib.hid (below_drewN KW.out nq)
      have X2 := Lib.hid (BX1.out.drewN nq)
      clear c0 c1 x0 x1 D1 RK KW BX1 HB 
      generalize wr.drewN nq = wq at *
      have b3 := below_new wq.drew (.cells #[.int .i64 y, .int .i64 (a : Nat)] 184)
      have K3 := Lib.hid (below_next (show Below w.heap.size w wq.drew from K2.out.drew) b3)
      have M3 := Lib.hid (RowK.next (w := wq.drew) R2.out b3)
      have D3 := Lib.hid (DqF.next (w := wq.drew) D2.out b3)
      have Y3 := Lib.hid (seq_new 184 wq.drew [.int .i64 y, .int .i64 (a : Nat)])
      have L3 : Hid (0 + 1 ≤ 100000) := Lib.hid (by omega)
      have Z3 : Hid (base ≤ (wq.drew.alloc (.cells #[.int .i64 y, .int .i64 (a : Nat)] 184)).heap.size) := Lib.hid (Nat.le_trans hbase K3.out.size)
      have O3 : Hid ((wq.drew.alloc (.cells #[.int .i64 y, .int .i64 (a : Nat)] 184)).ownsRow base 184 2 (.slice A 0 c) 0 (flat (ks.take 0))) := Lib.hid (by have h := M3.out; unfold RowK at h; rw [hlen] at h; exact h)
      have YA : Hid (∀ u ∈ [Value.int .i64 y, Value.int .i64 (a : Nat)], u.oneCell' = true) := Lib.hid (by intro u hu; simp at hu; rcases hu with rfl | rfl <;> rfl)
      obtain ⟨c0, c1, -, -, -⟩ := D2.out.all
      obtain ⟨z0, z1, -, -, -⟩ := D3.out.all
      obtain ⟨f1, -, -⟩ := D3.out.froz
      obtain ⟨x0, x1⟩ : wq.cell? ⟨w.heap.size, 0, none⟩ = some (.int .i64 y) ∧ wq.cell? ⟨w.heap.size, 1, none⟩ = some (.int .i64 (a : Nat)) := ⟨X2.out.c 0, X2.out.c 1⟩
      have x2 : (wq.drew.alloc (.cells #[.int .i64 y, .int .i64 (a : Nat)] 184)).heap.size = wq.heap.size + 1 := by simp
      have HX2 := Lib.hid x2
      have i1 : (0 : Int) ≤ (c : Int) := by omega
      have i0 : (0 : Int) ≤ (0 : Int) := by omega
      have zz : (wq.alloc (.cells #[.int .i64 y, .int .i64 (a : Nat)] 184)).cell? ⟨g, 1, none⟩ = some (.slice A ks.length c) := z1
      have HLEN := Lib.hid hlen
      clear b3 x2 hlen
      go_region_law ((refine step_appS infoN rfl (by decide) (by decide) Tryd.underlying152 rfl (.tmp 35) (.tmp 37) rfl base (.slice A 0 c) 0 (flat (ks.take 0)) (by simp [Act.eval, Act.put]) O3.out (fun _ => True) (some ⟨wq.heap.size, 0, none⟩) 1 1 [.int .i64 y, .int .i64 (a : Nat)] (by simp [Act.eval, Act.put]) rfl Y3.out YA.out L3.out Z3.out ?_; intro v5 w5 hv5 hg5 ha5; obtain ⟨A5, c5, rfl, -⟩ := own_seq hv5 (by decide); have D5 := Lib.hid (Bk.grown D3.out hg5 (fun e => HN.out (by rw [← HOB.out]; exact e.symm))); obtain ⟨y0, y1, -, -, -⟩ := DqF.all D5.out; obtain ⟨yf, -, -⟩ := DqF.froz D5.out))
      all_goals
        go_wp2
        refine bodyPost_ret (v := .tuple #[]) (by simp [results, Tryd.results142, go_sem]) rfl ?_
        exact ⟨_, rfl, Bk.set_ D5.out 1 _, add_row HLEN.out HEX.out hv5 D5.out, add_turn K3.out hg5 HOB.out _, add_fresh ha5 HOB.out K3.out.size⟩
    · obtain ⟨j, rfl⟩ : ∃ j, k = j + 1 := ⟨k - 1, by omega⟩
      obtain ⟨b, rfl, hb, hbl, hob, hcs⟩ := HV.out (by omega)
      obtain ⟨p, hp⟩ : ∃ p, ks[j]? = some p := ⟨_, List.getElem?_eq_getElem (by omega)⟩
      have q0 := (KW.out.cell (p := ⟨b, j * 2, none⟩) hbl).trans (hcs j p hp).1
      have hw1 : IntKind.i64.wrap (((j + 1 : Nat) : Int) - 1) = (j : Int) := by rw [IntWalk.i64_in _ (by omega)]; omega
      have hw2 : ((j + 1 : Nat) : Int) - 1 = (j : Int) := by omega
      have jl : (j : Int) < (ks.length : Int) := by omega
      have BT := Lib.hid (fun W (h0 : World.cell? W ⟨g, 0, none⟩ = some (.bool ls)) => (beats_any g ls y p.1 W h0).mono fun e w' h => (⟨h.1, h.2.symm⟩ : e = _ ∧ w' = W))
      obtain ⟨B, hB⟩ : ∃ B, beatB ls y p.1 = B := ⟨_, rfl⟩
      rw [hB] at BT
      clear hcs hob
      cases B with
      | true =>
        have HA2 := Lib.hid (at_end hp HA.out hB)
        clear hB hp hb
        go_wp2_with fail
        go_quiet ((go_at_call 144; exact Calls.quiet_of_same (BT.out _ c0)))
        go_wp2
        refine ⟨⟨j, by omega, by first | rfl | go_num, HA2, Lib.hid (below_drewN HB.out _)⟩, by simp [intOf]⟩
      | false =>
        have HEX := Lib.hid (HP.out (j + 1) hk HA.out (.inr ⟨p, hp, hB⟩))
        clear hB hp hb
        obtain ⟨hcut, hob⟩ := HC.out (j + 1) hk
        have RK := Lib.hid (hcut.next KW.out)
        have HOB := Lib.hid hob
        have hlen : (ks.take (j + 1)).length = j + 1 := by rw [List.length_take]; omega
        clear hcut hob
        go_wp2_with fail
        go_quiet ((go_at_call 144; exact Calls.quiet_of_same (BT.out _ c0)))
        go_wp2_with fail
        have D2 := Lib.hid (D1.out.drewN nq)
        have R2 := Lib.hid (show RowK base (wr.drewN nq) (.slice (some ⟨b, 0, none⟩) (j + 1) c) (ks.take (j + 1)) from RK.out)
        have K2 := Lib.hid (below_drewN KW.out nq)
        have X2 := Lib.hid (BX1.out.drewN nq)
        clear c0 c1 x0 x1 D1 RK KW BX1 HB q0
        generalize wr.drewN nq = wq at *
        have b3 := below_new wq.drew (.cells #[.int .i64 y, .int .i64 (a : Nat)] 184)
        have K3 := Lib.hid (below_next (show Below w.heap.size w wq.drew from K2.out.drew) b3)
        have M3 := Lib.hid (RowK.next (w := wq.drew) R2.out b3)
        have D3 := Lib.hid (DqF.next (w := wq.drew) D2.out b3)
        have Y3 := Lib.hid (seq_new 184 wq.drew [.int .i64 y, .int .i64 (a : Nat)])
        have L3 : Hid (j + 1 + 1 ≤ 100000) := Lib.hid (by omega)
        have Z3 : Hid (base ≤ (wq.drew.alloc (.cells #[.int .i64 y, .int .i64 (a : Nat)] 184)).heap.size) := Lib.hid (Nat.le_trans hbase K3.out.size)
        have O3 : Hid ((wq.drew.alloc (.cells #[.int .i64 y, .int .i64 (a : Nat)] 184)).ownsRow base 184 2 (.slice (some ⟨b, 0, none⟩) (j + 1) c) (j + 1) (flat (ks.take (j + 1)))) := Lib.hid (by have h := M3.out; unfold RowK at h; rw [hlen] at h; exact h)
        have YA : Hid (∀ u ∈ [Value.int .i64 y, Value.int .i64 (a : Nat)], u.oneCell' = true) := Lib.hid (by intro u hu; simp at hu; rcases hu with rfl | rfl <;> rfl)
        obtain ⟨c0, c1, -, -, -⟩ := D2.out.all
        obtain ⟨z0, z1, -, -, -⟩ := D3.out.all
        obtain ⟨f1, -, -⟩ := D3.out.froz
        obtain ⟨x0, x1⟩ : wq.cell? ⟨w.heap.size, 0, none⟩ = some (.int .i64 y) ∧ wq.cell? ⟨w.heap.size, 1, none⟩ = some (.int .i64 (a : Nat)) := ⟨X2.out.c 0, X2.out.c 1⟩
        have x2 : (wq.drew.alloc (.cells #[.int .i64 y, .int .i64 (a : Nat)] 184)).heap.size = wq.heap.size + 1 := by simp
        have HX2 := Lib.hid x2
        have i1 : ((j : Int) + 1) ≤ (c : Int) := by omega
        have i0 : (0 : Int) ≤ ((j : Int) + 1) := by omega
        have zz : (wq.alloc (.cells #[.int .i64 y, .int .i64 (a : Nat)] 184)).cell? ⟨g, 1, none⟩ = some (.slice (some ⟨b, 0, none⟩) ks.length c) := z1
        have HLEN := Lib.hid hlen
        clear b3 x2 hlen
        go_region_law ((refine step_appS infoN rfl (by decide) (by decide) Tryd.underlying152 rfl (.tmp 35) (.tmp 37) rfl base (.slice (some ⟨b, 0, none⟩) (j + 1) c) (j + 1) (flat (ks.take (j + 1))) (by simp [Act.eval, Act.put]) O3.out (fun _ => True) (some ⟨wq.heap.size, 0, none⟩) 1 1 [.int .i64 y, .int .i64 (a : Nat)] (by simp [Act.eval, Act.put]) rfl Y3.out YA.out L3.out Z3.out ?_; intro v5 w5 hv5 hg5 ha5; obtain ⟨A5, c5, rfl, -⟩ := own_seq hv5 (by decide); have D5 := Lib.hid (Bk.grown D3.out hg5 (fun e => HN.out (by rw [← HOB.out]; exact e.symm))); obtain ⟨y0, y1, -, -, -⟩ := DqF.all D5.out; obtain ⟨yf, -, -⟩ := DqF.froz D5.out))
        all_goals
          go_wp2
          refine bodyPost_ret (v := .tuple #[]) (by simp [results, Tryd.results142, go_sem]) rfl ?_
          exact ⟨_, rfl, Bk.set_ D5.out 1 _, add_row HLEN.out HEX.out hv5 D5.out, add_turn K3.out hg5 HOB.out _, add_fresh ha5 HOB.out K3.out.size⟩
end Go.Proofs.YtfamgaakcbinkaaDoor.Dq
