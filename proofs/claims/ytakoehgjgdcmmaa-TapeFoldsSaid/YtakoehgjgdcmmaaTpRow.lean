/-
  Deltas as they lie in memory; slices.Grow, slices.Concat and slices.Reverse of such. Conditions: as told in each.
-/
import Derived.Test.YtakoehgjgdcmmaaTpMath
import Derived.Laws.EntriesVeiled
import Derived.IntWalk
import Derived.Deep.QuietTactic
import Derived.BigQuiet
import Derived.Deep.RegionLaw
import Derived.Lib.SliceRun
import Derived.Lib.AppendZeros
set_option maxRecDepth 100000
namespace Go.Proofs.Ytakoehgjgdcmmaa.Tp
open Go.Proofs.Ytakoehgjgdcmmaa.Sh Go.Proofs.Ytakoehgjgdcmmaa.St
open Go.RowKit
set_option linter.unusedVariables false

/-- A delta with the slice that holds its row. -/
abbrev Qd : Type := Dl × (Option Addr × Nat)
def vq (q : Qd) : Value := .slice q.2.1 q.1.2.2.length q.2.2
def cq (q : Qd) : List Value := [.int .i64 q.1.1, .int .i64 (q.1.2.1 : Nat), vq q]
def flat3 (qs : List Qd) : List Value := qs.flatMap cq
theorem flat3_cons (q : Qd) (qs : List Qd) : flat3 (q :: qs) = .int .i64 q.1.1 :: .int .i64 (q.1.2.1 : Nat) :: vq q :: flat3 qs := rfl
theorem flat3_app (a b : List Qd) : flat3 (a ++ b) = flat3 a ++ flat3 b := List.flatMap_append
theorem flat3_len : ∀ qs : List Qd, (flat3 qs).length = qs.length * 3
  | [] => rfl
  | q :: qs => by rw [flat3_cons, List.length_cons, List.length_cons, List.length_cons, List.length_cons, flat3_len qs]; omega
theorem flat3_at : ∀ (qs : List Qd) (i : Nat) (q : Qd), qs[i]? = some q → (flat3 qs)[i * 3]? = some (.int .i64 q.1.1) ∧ (flat3 qs)[i * 3 + 1]? = some (.int .i64 (q.1.2.1 : Nat)) ∧ (flat3 qs)[i * 3 + 2]? = some (vq q)
  | [], i, q, h => by simp at h
  | p :: qs, 0, q, h => by
    obtain rfl : p = q := by simpa using h
    exact ⟨rfl, rfl, rfl⟩
  | p :: qs, i + 1, q, h => by
    have ih := flat3_at qs i q (by simpa using h)
    rw [flat3_cons, show (i + 1) * 3 = i * 3 + 1 + 1 + 1 by omega]
    simpa using ih
theorem flat3_one (qs : List Qd) : ∀ u ∈ flat3 qs, u.oneCell' = true := by
  intro u hu
  obtain ⟨p, _, hp⟩ := List.mem_flatMap.1 hu
  simp [cq] at hp
  rcases hp with rfl | rfl | rfl <;> rfl
theorem flat3_set : ∀ (qs : List Qd) (i : Nat) (q : Qd), i < qs.length → flat3 (qs.set i q) = (((flat3 qs).set (i * 3) (.int .i64 q.1.1)).set (i * 3 + 1) (.int .i64 (q.1.2.1 : Nat))).set (i * 3 + 2) (vq q)
  | [], i, q, h => by simp at h
  | p :: qs, 0, q, h => rfl
  | p :: qs, i + 1, q, h => by
    have ih := flat3_set qs i q (by simpa using h)
    rw [List.set_cons_succ, flat3_cons, ih, flat3_cons, show (i + 1) * 3 = i * 3 + 1 + 1 + 1 by omega]
    simp
theorem infoD : (Try.prog.info? 54).map (fun i => (i.zero, i.size, i.bytes)) = some (some (.agg #[.int .i64 0, .int .i64 0, .slice none 0 0]), 3, 40) := by kernel_rfl
/-- V is a row of one's own with these deltas. -/
def DRow (base : Nat) (w : World) (V : Value) (qs : List Qd) : Prop := w.ownsRow base 54 3 V qs.length (flat3 qs)
/-- And their rows are one's own too. -/
def Live (base : Nat) (w : World) (V : Value) (qs : List Qd) : Prop := DRow base w V qs ∧ ∀ q ∈ qs, MineT 2 w base (vq q) q.1.2.2
section
variable {base : Nat} {w w' : World} {V : Value} {qs : List Qd}
theorem DRow.nil' (base : Nat) (w : World) : DRow base w (.slice none 0 0) [] := World.ownsRow_nil _ _ _ _
theorem Live.nil' (base : Nat) (w : World) : Live base w (.slice none 0 0) [] := ⟨DRow.nil' _ _, fun q h => by simp at h⟩
theorem DRow.view (h : DRow base w V qs) : ∃ A c, V = .slice A qs.length c ∧ qs.length ≤ c ∧ c ≤ maxLen ∧ Seq (base ≤ ·) w A (flat3 qs) := own_seq h (by decide)
theorem DRow.next (h : DRow base w V qs) (hb : Below w.heap.size w w') : DRow base w' V qs := own_below h hb
theorem Live.next (h : Live base w V qs) (hb : Below w.heap.size w w') : Live base w' V qs := ⟨h.1.next hb, fun q hq => own_below (h.2 q hq) hb⟩
theorem Live.lt (h : Live base w V qs) : ∀ g, V.ownBlock = some g → g < w.heap.size ∧ base ≤ g := fun g hg => ⟨own_lt h.1 g hg, own_base h.1 g hg⟩
/-- One more. -/
theorem Live.app {w6 : World} {V' : Value} {q : Qd} {o : Obj} (h : Live base w V qs) (hq : MineT 2 w base (vq q) q.1.2.2) (h6 : w6.ownsRow base 54 3 V' (qs.length + 1) (flat3 qs ++ cq q)) (hg : (w.alloc o).grownBy w6 V.ownBlock) : Live base w6 V' (qs ++ [q]) := by
  have keep : ∀ p : Qd, MineT 2 w base (vq p) p.1.2.2 → MineT 2 w6 base (vq p) p.1.2.2 := fun p hp => World.ownsRow.kept (World.ownsRow.alloc hp _) hg (own_apart hp h.1 (by decide))
  refine ⟨?_, fun p hp => ?_⟩
  · unfold DRow
    rw [flat3_app, List.length_append]
    simpa [flat3] using h6
  · rcases List.mem_append.1 hp with hp | hp
    · exact keep p (h.2 p hp)
    · simp at hp
      subst hp
      exact keep p hq
/-- Another one stays. -/
theorem Live.stay {w6 : World} {V2 : Value} {ps : List Qd} {o : Obj} (h : Live base w V2 ps) (h1 : Live base w V qs) (ha : V2.ownBlock = none ∨ V2.ownBlock ≠ V.ownBlock) (hg : (w.alloc o).grownBy w6 V.ownBlock) : Live base w6 V2 ps :=
  ⟨World.ownsRow.kept (World.ownsRow.alloc h.1 _) hg ha, fun p hp => World.ownsRow.kept (World.ownsRow.alloc (h.2 p hp) _) hg (own_apart (h.2 p hp) h1.1 (by decide))⟩
end
/-- Two rows are apart. -/
def Off (V W : Value) : Prop := ∀ k, V.ownBlock = some k → W.ownBlock ≠ some k
theorem Off.symm {V W : Value} (h : Off V W) : Off W V := fun k h1 h2 => h k h2 h1
theorem Off.or {V W : Value} (h : Off V W) : V.ownBlock = none ∨ V.ownBlock ≠ W.ownBlock := by
  rcases hv : V.ownBlock with _ | k
  · exact .inl rfl
  · exact .inr fun e => h k hv e.symm
theorem Off.nil (W : Value) : Off (.slice none 0 0) W := fun k h => by simp [Value.ownBlock] at h
/-- A row that grew is apart from what lay before. -/
theorem Off.grew {V V' W : Value} {n : Nat} (h : Off V W) (hV : V'.ownBlock = V.ownBlock ∨ V'.ownBlock = some n) (hW : ∀ k, W.ownBlock = some k → k < n) : Off V' W := fun k h1 h2 => by
  rcases hV with e | e
  · exact h k (by rw [← e]; exact h1) h2
  · rw [e] at h1; injection h1 with h1; have := hW k h2; omega

theorem run_appZ {ty : TypeId} (w : World) (n : Nat) (h0 : 0 < n) (hn : n ≤ 10000) :
    ∃ c Z, (Builtin.append_ #[39, 3] ty #[.slice none 0 0, .int .i64 (n : Int)]).run Try.prog w = .ok (.slice (some ⟨w.heap.size, 0, none⟩) n c) (w.drew.alloc (.cells Z 54)) ∧ n ≤ c ∧ c ≤ maxLen ∧ Z.size = c * 3 := by
  obtain ⟨i0, hi, hz0, hz1, hz2⟩ := info_parts infoD
  have happ := Lib.run_append_nil_zeros (P := Try.prog) w 39 3 ty 54 i0 (.agg #[.int .i64 0, .int .i64 0, .slice none 0 0]) .i64 .i64 Try.underlying39 Try.underlying3 hi hz0 n h0 (by omega) (by omega) (by rw [hz2]; omega)
  have hcapge : n ≤ grownCap w n 0 54 := grownCap_ge w _ 0 _
  refine ⟨_, _, happ, hcapge, grownCap_le_maxLen w _ 0 _ (by unfold maxLen; omega), ?_⟩
  simp [Builtin.zeroCells, Value.cells]; omega
theorem wpList_appZ {ops : Array Oper} {rest : List Oper} {o : Oper} {a : Act} {Q : Exit → Act → World → Prop} {w : World} (hgd : o.guard = none) (s x : Operand)
    (ho : o.op = .call { callee := .builtin .append, args := #[s, x], argTypes := #[39, 3] }) (n : Nat) (hs : a.eval s = .slice none 0 0) (hx : a.eval x = .int .i64 (n : Int)) (h0 : 0 < n) (hn : n ≤ 10000)
    (h : ∀ c w', DRow w.heap.size w' (.slice (some ⟨w.heap.size, 0, none⟩) 0 c) [] → n ≤ c → c ≤ maxLen → Below w.heap.size w w' → wpList Try.prog ops Q rest (a.put o.dst (.slice (some ⟨w.heap.size, 0, none⟩) n c)) w') : wpList Try.prog ops Q (o :: rest) a w := by
  refine wpList_plain hgd fun K hK => ?_
  obtain ⟨c, Z, hrun, h1, h2, h3⟩ := run_appZ (ty := o.type) w n h0 hn
  unfold Oper.wp execOp
  simp only [ho, resolve, invoke, builtin, Sem.run_bind, Sem.run_pure, Result.andThen_ok, List.map_toArray, List.map_cons, List.map_nil, hs, hx, hrun]
  refine hK _ _ (h c _ ?_ h1 h2 ((Below.refl _ w).drew.alloc (Nat.le_refl _) _))
  exact ⟨rfl, .inr ⟨w.heap.size, c, Z, rfl, Nat.le_refl _, heap_alloc_new w.drew _, Nat.zero_le _, h2, by simp [h3], by simp [flat3]⟩⟩
set_option maxHeartbeats 1000000 in
theorem grow_any (n : Nat) (w : World) (hn : n ≤ 10000) :
    Calls Try.prog 35 #[.slice none 0 0, .int .i64 (n : Int)] w fun e w' => ∃ v, e = .returned v ∧ DRow w.heap.size w' v [] ∧ Below w.heap.size w w' := by
  rcases Nat.eq_zero_or_pos n with rfl | h0
  · go_enter Try.func35, Try.ntmps35
    go_wp2
    go_ret
    exact ⟨_, rfl, DRow.nil' _ _, Below.refl _ _⟩
  · have i0 : (0 : Int) < (n : Int) := by omega
    go_enter Try.func35, Try.ntmps35
    go_wp2_with (at_builtin; refine wpList_appZ rfl (.tmp 20) (.tmp 21) rfl n rfl rfl h0 hn ?_; intro c w1 hm hc1 hc2 hb)
    have i1 : (0 : Int) ≤ (c : Int) := by omega
    have HM := Lib.hid hm
    have HB := Lib.hid hb
    clear hm hb
    go_wp2
    go_ret
    exact ⟨_, rfl, HM.out, HB.out⟩
/-- The first k lists, put behind one another. -/
def catQ (ps : List (List Qd)) (k : Nat) : List Qd := (ps.take k).flatten
theorem catQ_succ {ps : List (List Qd)} {k : Nat} {l : List Qd} (h : ps[k]? = some l) : catQ ps (k + 1) = catQ ps k ++ l := by
  obtain ⟨hk, e⟩ := List.getElem?_eq_some_iff.1 h
  unfold catQ
  rw [List.take_succ_eq_append_getElem hk, List.flatten_append, e]
  simp
theorem catQ_le (ps : List (List Qd)) (k : Nat) : (catQ ps k).length ≤ ps.flatten.length := by
  have := congrArg (fun l => l.flatten.length) (List.take_append_drop k ps)
  simp only [List.flatten_append, List.length_append] at this
  unfold catQ
  omega
theorem catQ_all (ps : List (List Qd)) : catQ ps ps.length = ps.flatten := by unfold catQ; rw [List.take_length]
def RetCat (l : List Qd) (w : World) (e : Ending) (w' : World) : Prop := ∃ V, e = .returned V ∧ DRow w.heap.size w' V l ∧ Below w.heap.size w w'
set_option maxHeartbeats 4000000 in
theorem concat_any (g : Nat) (S : Nat → Prop) (ps : List (List Qd)) (n : Nat) (w : World) (hn : ps.length = n) (hps : ∀ (k : Nat) (l : List Qd), ps[k]? = some l → ∃ A c, w.cell? ⟨g, k, none⟩ = some (.slice A l.length c) ∧ Seq S w A (flat3 l)) (hl : ps.flatten.length ≤ 10000) (h3 : n ≤ 3) :
    Calls Try.prog 33 #[.slice (some ⟨g, 0, none⟩) n n] w (RetCat ps.flatten w) := by
  have HP := Lib.hid hps
  have HN := Lib.hid hn
  have HL := Lib.hid (fun k => Nat.le_trans (catQ_le ps k) hl)
  have HF := Lib.hid hl
  clear hps hn hl
  go_enter Try.func33, Try.ntmps33
  go_wp2
  go_loopw [3, 11] (fun z j wr => ∃ k m : Nat, k ≤ n ∧ j = .int .i64 (k : Int) ∧ z = .int .i64 (m : Int) ∧ Hid (m = (catQ ps k).length) ∧ w = wr) (fun _ j _ => n - (intOf j).toNat)
  case atStart => exact ⟨0, 0, by omega, rfl, rfl, Lib.hid rfl, rfl⟩
  case round =>
    obtain ⟨k, m, hk, rfl, rfl, HM, rfl⟩ := hrel
    have hmb : m ≤ 10000 := by rw [HM.out]; exact HL.out k
    by_cases hlt : k < n
    · obtain ⟨l, hkl⟩ : ∃ l, ps[k]? = some l := ⟨_, List.getElem?_eq_getElem (by rw [HN.out]; exact hlt)⟩
      obtain ⟨A, c, hc, -⟩ := HP.out k l hkl
      have HS := Lib.hid (catQ_succ hkl)
      have hsl : m + l.length ≤ 10000 := by have := HL.out (k + 1); rw [HS.out, List.length_append, ← HM.out] at this; exact this
      have i1 : (k : Int) < (n : Int) := by omega
      obtain ⟨r, hr⟩ : ∃ r, l.length = r := ⟨_, rfl⟩
      rw [hr] at hc hsl
      have HR := Lib.hid hr
      have t1 : decide ((m : Int) + (r : Int) < 0) = false := decide_eq_false (by omega)
      clear hkl hr
      go_wp2
      go_roundw
      case rel => exact ⟨k + 1, m + r, by omega, by go_num, by go_num, Lib.hid (by rw [HS.out, List.length_append, HM.out, HR.out]), trivial⟩
      case measure => simp [intOf]; omega
    · obtain rfl : k = n := by omega
      have GR := Lib.hid (grow_any m w hmb)
      go_wp2_with fail
      refine (GR.out).mono ?_
      rintro r w1 ⟨v1, rfl, hm1, hb1⟩
      have M1 := Lib.hid hm1
      have L1 := Lib.hid hb1
      clear hm1 hb1 hlt hk
      go_wp2
      go_loopw [6, 27] (fun v j W => ∃ i : Nat, i ≤ k ∧ j = .int .i64 (i : Int) ∧ Hid (DRow w.heap.size W v (catQ ps i)) ∧ Hid (Below w.heap.size w W)) (fun _ j _ => k - (intOf j).toNat)
      case atStart => exact ⟨0, by omega, rfl, M1, L1⟩
      case round =>
      obtain ⟨i, hi, rfl, HM2, LB⟩ := hrel
      by_cases hlt : i < k
      · obtain ⟨l, hkl⟩ : ∃ l, ps[i]? = some l := ⟨_, List.getElem?_eq_getElem (by rw [HN.out]; exact hlt)⟩
        obtain ⟨A, c, hc, hs⟩ := HP.out i l hkl
        have q := (LB.out.cell (p := ⟨g, i, none⟩) (World.block_lt_of_cell? w _ hc)).trans hc
        have IX := Lib.hid ((hs.mono (S' := fun _ => True) fun _ _ => trivial).next LB.out)
        have HS := Lib.hid (catQ_succ hkl)
        have TL : Hid ((catQ ps i).length + l.length ≤ 100000) := Lib.hid (by have := HL.out (i + 1); rw [HS.out, List.length_append] at this; omega)
        have i1 : (i : Int) < (k : Int) := by omega
        have O1 := Lib.hid (flat3_one l)
        have FL := Lib.hid (flat3_len l)
        obtain ⟨r, hr⟩ : ∃ r, l.length = r := ⟨_, rfl⟩
        rw [hr] at q FL TL
        have HR := Lib.hid hr
        clear hkl hs hc hr
        go_wp2_with (at_builtin; refine wpList_appS infoD rfl (by decide) (by decide) Try.underlying39 rfl (.tmp 31) (.tmp 32) rfl w.heap.size u6 (catQ ps i).length (flat3 (catQ ps i)) rfl HM2.out (fun _ => True) A r c (flat3 l) rfl FL.out IX.out O1.out TL.out LB.out.size ?_; intro v' w3 hm3 hg3 ha3; have MM3 := Lib.hid hm3; have LL := Lib.hid (LB.out.grown hg3 LB.out.size (own_base HM2.out)); clear hm3 hg3 ha3)
        refine ⟨⟨i + 1, by omega, by go_num, Lib.hid ?_, LL⟩, by simp [intOf]; omega⟩
        unfold DRow
        rw [HS.out, flat3_app, List.length_append, HR.out]
        exact MM3.out
      · obtain rfl : i = k := by omega
        have e : catQ ps i = ps.flatten := by rw [← HN.out]; exact catQ_all ps
        rw [e] at HM2
        go_wp2
        go_ret
        exact ⟨_, rfl, HM2.out, LB.out⟩
end Go.Proofs.Ytakoehgjgdcmmaa.Tp
