/-
  Layer 18, tree: ordered. Condition: at most 320 nodes with at most 20 parts each.
-/
import Derived.Test.YtjmpilmmgfjpmaaDoorTrField
set_option maxRecDepth 100000
namespace Go.Proofs.YtjmpilmmgfjpmaaDoor.Tr
open Go.Proofs.YtjmpilmmgfjpmaaDoor.Sh Go.Proofs.YtjmpilmmgfjpmaaDoor.St
open Go.RowKit
set_option linter.unusedVariables false

def ordStep (qs : List Nq) (tops : List Int) (i : Nat) (q : Nq) : Option (List Int) :=
  if tops.length < q.n.kids.length then none else if tops.drop (tops.length - q.n.kids.length) ≠ q.n.kids then none
  else if partedB qs (partsL q.n.kind) q.n.kids = false then none else if fieldedB q.n = false then none
  else some (tops.take (tops.length - q.n.kids.length) ++ [(i : Int)])
def ordTo (qs : List Nq) : Nat → Option (List Int)
  | 0 => some []
  | k + 1 => match ordTo qs k, qs[k]? with
    | some tops, some q => ordStep qs tops k q
    | _, _ => none
theorem ordTo_succ {qs : List Nq} {k : Nat} {tops : List Int} {q : Nq} (h : ordTo qs k = some tops) (hq : qs[k]? = some q) : ordTo qs (k + 1) = ordStep qs tops k q := by
  unfold ordTo
  rw [h, hq]
theorem ordTo_none {qs : List Nq} {k : Nat} (h : ordTo qs k = none) : ∀ m, k ≤ m → ordTo qs m = none
  | 0, hm => by obtain rfl : k = 0 := by omega
                exact h
  | m + 1, hm => by
    by_cases he : k = m + 1
    · rw [← he]; exact h
    · unfold ordTo
      rw [ordTo_none h m (by omega)]
theorem ord_in {qs : List Nq} {tops tops' : List Int} {k : Nat} {q : Nq} (h : ∀ x ∈ tops, InR k x) (hs : ordStep qs tops k q = some tops') : ∀ x ∈ tops', InR (k + 1) x := by
  unfold ordStep at hs
  repeat' split at hs
  all_goals first
    | cases hs
    | skip
  intro x hx
  rcases List.mem_append.1 hx with hx | hx
  · have := h x (List.mem_of_mem_take hx)
    exact ⟨this.1, by have := this.2; omega⟩
  · simp at hx
    subst hx
    exact ⟨by omega, by omega⟩
theorem ord_len {qs : List Nq} {tops tops' : List Int} {k : Nat} {q : Nq} (h : tops.length ≤ k) (hs : ordStep qs tops k q = some tops') : tops'.length ≤ k + 1 := by
  unfold ordStep at hs
  repeat' split at hs
  all_goals first
    | cases hs
    | skip
  simp
  omega
theorem mine_cutI {w : World} {base n c m : Nat} {A : Option Addr} {l l' : List Int} (h : MineT 3 w base (.slice A n c) l) (hm : m ≤ l.length) (he : l.take m = l') : MineT 3 w base (.slice A m c) l' := by
  subst he
  have hl : (l.take m).length = m := by rw [List.length_take]; omega
  unfold MineT
  rw [hl]
  refine ⟨by simp; omega, ?_⟩
  rcases h.2 with ⟨e1, h0⟩ | ⟨g, cap, cur, e1, hb, hg, hn, hx, hs, ht⟩
  · injection e1 with e1 e2 e3
    subst e1 e2 e3
    exact .inl ⟨by rw [show m = 0 by omega], by omega⟩
  · injection e1 with e1 e2 e3
    subst e1 e3
    refine .inr ⟨g, c, cur, rfl, hb, hg, by omega, hx, hs, ?_⟩
    rw [List.map_take, ← ht, List.take_take, Nat.mul_one, Nat.mul_one, Nat.min_eq_left hm]
def RetOrd (o : Option (List Int)) (w : World) (e : Ending) (w' : World) : Prop := match o with
  | some tops => ∃ B c, e = .returned (.tuple #[.slice B tops.length c, .bool true]) ∧ MineT 3 w' w.heap.size (.slice B tops.length c) tops ∧ Below w.heap.size w w' ∧ ∀ x ∈ tops, True
  | none => e = .returned (.tuple #[.slice none 0 0, .bool false]) ∧ Below w.heap.size w w'
structure OrdS (qs : List Nq) (w wr : World) (k : Nat) (B : Option Addr) (m cB : Nat) (tops : List Int) : Prop where
  len : m = tops.length
  ord : ordTo qs k = some tops
  own : MineT 3 wr w.heap.size (.slice B m cB) tops
  bel : Below w.heap.size w wr
  inr : ∀ x ∈ tops, InR k x
  few : tops.length ≤ k
theorem ints_drop {w : World} {g off : Nat} {L : List Int} (h : Ints w (some ⟨g, off, none⟩) L) (l : Nat) : Ints w (some ⟨g, off + l, none⟩) (L.drop l) := by
  intro hp
  rw [List.length_drop] at hp
  obtain ⟨b, o, e, hb, hc⟩ := h (by omega)
  injection e with e
  injection e with e1 e2 e3
  subst e1 e2
  refine ⟨g, off + l, rfl, hb, fun i hi => ?_⟩
  rw [List.length_drop] at hi
  rw [Nat.add_assoc, hc (l + i) (by omega)]
  simp [List.getD, List.getElem?_drop]
/-- A row's rest, from a place on. -/
theorem own_rest {w : World} {base m cB l : Nat} {B : Option Addr} {L : List Int} (h : MineT 3 w base (.slice B m cB) L) (hm : m = L.length) (hl : l ≤ m) : ∃ X cX, (∀ W, (Instr.slice 22 (.slice B m cB) (some (.int .i64 (l : Int))) none none).run Tryd.prog W = .ok (.slice X (m - l) cX) W) ∧
    (∀ W, (Instr.slice 22 (.slice B m cB) none (some (.int .i64 (l : Int))) none).run Tryd.prog W = .ok (.slice B l cB) W) ∧ ∀ W, Ints W B L → Ints W X (L.drop l) := by
  rcases h.2 with ⟨e1, e2⟩ | ⟨g, cap, cur, e1, e3, e4, e5, e6, e7, e8⟩
  · injection e1 with e1 e3 e4
    subst e1 e3 e4
    obtain rfl : l = 0 := by omega
    exact ⟨none, 0, fun W => rfl, fun W => rfl, fun W hi => by rwa [List.drop_zero]⟩
  · injection e1 with e1 e9 e10
    subst e1 e10
    have h1 : (l : Int) ≤ (m : Int) := by omega
    have h2 : (l : Int) ≤ (cB : Int) := by omega
    have h3 : (0 : Int) ≤ (l : Int) := by omega
    have h4 : (m : Int) ≤ (cB : Int) := by omega
    refine ⟨if cB = l then some ⟨g, 0, none⟩ else some ⟨g, 0 + l, none⟩, cB - l, fun W => ?_, fun W => ?_, fun W hi => ?_⟩
    · simp [Instr.slice, go_sem, h1, h3]
    · simp [Instr.slice, go_sem, h2, h3]
    · by_cases hc : cB = l
      · rw [if_pos hc, List.drop_eq_nil_of_le (by omega)]
        exact fun hp => absurd hp (by simp)
      · rw [if_neg hc]
        exact ints_drop hi l
theorem infoInt : (Tryd.prog.info? 3).map (fun i => (i.zero, i.size, i.bytes)) = some (some (.int .i64 0), 1, 8) := by kernel_rfl
theorem one_int (v : Int) : ∀ u ∈ [Value.int .i64 v], u.oneCell' = true := by intro u hu; simp at hu; subst hu; rfl
theorem seq_new (t : TypeId) (w : World) (xs : List Value) : Seq (fun _ => True) (w.alloc (.cells xs.toArray t)) (some ⟨w.heap.size, 0, none⟩) xs := fun _ => ⟨w.heap.size, 0, rfl, trivial, by simp, fun j x hx => by
  rw [Nat.zero_add]; exact (Bk.c (Bk.new t w xs) j).trans hx⟩
set_option maxHeartbeats 8000000 in
theorem ordered_any (A : Option Addr) (c : Nat) (qs : List Nq) (w : World) (hn : Nodes w A qs) (h3 : qs.length ≤ 400) (h20 : ∀ q ∈ qs, q.n.kids.length ≤ 1000) : Calls Tryd.prog 46 #[.slice A qs.length c] w (RetOrd (ordTo qs qs.length) w) := by
  have HN := Lib.hid hn
  have H2 := Lib.hid h20
  clear hn h20
  go_enter Tryd.func46, Tryd.ntmps46
  go_wp2_with fail
  go_loopw [4, 10] (fun V i wr => ∃ (k : Nat) (B : Option Addr) (m cB : Nat) (tops : List Int), k ≤ qs.length ∧ i = .int .i64 (k : Int) ∧ V = .slice B m cB ∧ Hid (OrdS qs w wr k B m cB tops)) (fun _ i _ => qs.length - (intOf i).toNat)
  case atStart => exact ⟨0, none, 0, 0, [], Nat.zero_le _, rfl, rfl, Lib.hid ⟨rfl, rfl, World.ownsRow_nil _ _ _ _, Below.refl _ _, fun x h => by simp at h, by simp⟩⟩
  case round =>
    obtain ⟨k, B, m, cB, tops, hk, rfl, rfl, HS⟩ := hrel
    by_cases hlt : k < qs.length
    · obtain ⟨q, hq⟩ : ∃ q, qs[k]? = some q := ⟨_, List.getElem?_eq_getElem hlt⟩
      obtain ⟨b0, o0, rfl, hb0, ⟨c0, c1, c2, c3, c4, c5⟩, hin⟩ := (HN.out.next HS.out.bel).at_ hq
      have HQ := Lib.hid hq
      have HIN := Lib.hid hin
      have HKL := Lib.hid (H2.out q (List.mem_of_getElem? hq))
      have HM4 := Lib.hid (show m ≤ 400 by have h1 := HS.out.len; have h2 := HS.out.few; omega)
      have i0 : (0 : Int) ≤ (k : Int) := by omega
      have i1 : (k : Int) < (qs.length : Int) := by omega
      have BX := Lib.hid (Bk.new 45 wr [.int .i64 q.n.kind, .int .i64 q.n.pos, .int .i64 q.n.code, .slice q.ka q.n.kids.length q.kc, .slice q.na q.n.nums.length q.nc, .string q.n.name])
      have LX := Lib.hid (below_new wr (.cells #[.int .i64 q.n.kind, .int .i64 q.n.pos, .int .i64 q.n.code, .slice q.ka q.n.kids.length q.kc, .slice q.na q.n.nums.length q.nc, .string q.n.name] 45))
      clear hq hin
      by_cases hml : m < q.n.kids.length
      · have hsub : IntKind.i64.wrap ((m : Int) - (q.n.kids.length : Int)) = (m : Int) - (q.n.kids.length : Int) := IntWalk.i64_in _ (by have := HM4.out; have := HKL.out; omega)
        have hneg : decide ((m : Int) - (q.n.kids.length : Int) < 0) = true := by simp; omega
        have hneg2 : (m : Int) - (q.n.kids.length : Int) < 0 := by omega
        have HO := Lib.hid (show ordTo qs qs.length = none from ordTo_none (by rw [ordTo_succ HS.out.ord HQ.out]; unfold ordStep; rw [if_pos (by rw [← HS.out.len]; exact hml)]) _ hlt)
        clear hml
        go_upto_region 6 with fail
        go_quiet (go_wp2)
        go_wp2
        go_ret2
        rw [HO.out]
        exact ⟨rfl, Gl.below_drewN (Gl.below_next HS.out.bel LX.out) _⟩
      · obtain ⟨l, hl⟩ : ∃ l, m = l + q.n.kids.length := ⟨m - q.n.kids.length, by omega⟩
        have HL := Lib.hid hl
        have hsub : IntKind.i64.wrap ((m : Int) - (q.n.kids.length : Int)) = (l : Int) := by rw [IntWalk.i64_in _ (by have := HM4.out; have := HKL.out; omega)]; omega
        have hneg : decide ((l : Int) < 0) = false := by simp
        have hnn : (0 : Int) ≤ (l : Int) := by omega
        have hlm : (l : Int) ≤ (m : Int) := by omega
        clear hml hl
        obtain ⟨X, cX, hsl, hsl2, hX⟩ := own_rest HS.out.own HS.out.len (l := l) (by omega)
        have HIX := Lib.hid ((HIN.out.next LX.out).1)
        have OWD := Lib.hid (show MineT 3 (wr.alloc (.cells #[.int .i64 q.n.kind, .int .i64 q.n.pos, .int .i64 q.n.code, .slice q.ka q.n.kids.length q.kc, .slice q.na q.n.nums.length q.nc, .string q.n.name] 45)).drew w.heap.size (.slice B m cB) tops from (MineT.alloc HS.out.own _).drew)
        obtain ⟨eqb, heq⟩ : ∃ eqb, decide (tops.drop l = q.n.kids) = eqb := ⟨_, rfl⟩
        have HEQ : Hid (Calls Tryd.prog 63 #[.slice X (m - l) cX, .slice q.ka q.n.kids.length q.kc] (wr.alloc (.cells #[.int .i64 q.n.kind, .int .i64 q.n.pos, .int .i64 q.n.code, .slice q.ka q.n.kids.length q.kc, .slice q.na q.n.nums.length q.nc, .string q.n.name] 45)).drew (RetBl eqb (wr.alloc (.cells #[.int .i64 q.n.kind, .int .i64 q.n.pos, .int .i64 q.n.code, .slice q.ka q.n.kids.length q.kc, .slice q.na q.n.nums.length q.nc, .string q.n.name] 45)).drew)) := Lib.hid (by
          have hin2 : Ints (wr.alloc (.cells #[.int .i64 q.n.kind, .int .i64 q.n.pos, .int .i64 q.n.code, .slice q.ka q.n.kids.length q.kc, .slice q.na q.n.nums.length q.nc, .string q.n.name] 45)).drew B tops := by
            obtain ⟨A2, c2, e2, hi2⟩ := MineT.ints OWD.out
            injection e2 with e2
            rw [e2]; exact hi2
          have h := equal_any X cX (tops.drop l) q.ka q.kc q.n.kids _ (by rw [List.length_drop]; have := HS.out.len; have := HM4.out; unfold maxLen; omega) (by have := HKL.out; unfold maxLen; omega) (hX _ hin2) HIX.out
          rw [List.length_drop, ← HS.out.len, heq] at h
          exact h.mono fun e0 w0 hr => ⟨hr.1, by obtain ⟨dn, hq⟩ := hr.2; rw [hq]; exact below_drewN (Below.refl _ _) dn⟩)
        have KX := Lib.hid (show ((wr.alloc (.cells #[.int .i64 q.n.kind, .int .i64 q.n.pos, .int .i64 q.n.code, .slice q.ka q.n.kids.length q.kc, .slice q.na q.n.nums.length q.nc, .string q.n.name] 45)).drew.cell? ⟨wr.heap.size, 3, none⟩ = some (.slice q.ka q.n.kids.length q.kc)) from BX.out.c 3)
        have LD := Lib.hid (show Below w.heap.size w (wr.alloc (.cells #[.int .i64 q.n.kind, .int .i64 q.n.pos, .int .i64 q.n.code, .slice q.ka q.n.kids.length q.kc, .slice q.na q.n.nums.length q.nc, .string q.n.name] 45)).drew from (Gl.below_next HS.out.bel LX.out).drew)
        have HEE := Lib.hid heq
        clear heq hX
        go_upto_region 6 with fail
        cases eqb with
        | true =>
          go_region_held3 (fun w' => w'.cell? ⟨wr.heap.size, 3, none⟩ = some (.slice q.ka q.n.kids.length q.kc))
            (first
              | with_reducible exact KX.out
              | with_reducible exact K7.out
              | go_keep)
            (first
              | (go_at_call 63; (with_reducible refine (HEQ.out).mono ?_); rintro r w7 ⟨rfl, hb7⟩; have K7 := Lib.hid (show w7.cell? ⟨wr.heap.size, 3, none⟩ = some (.slice q.ka q.n.kids.length q.kc) from (BX.out.drew.next hb7).c 3); have L7 := Lib.hid (Gl.below_next LD.out hb7); have HB7 := Lib.hid hb7; clear hb7))
          have hin7 := HIN.out.next ((LX.out.drew).trans (HB7.out.mono (by simp)))
          have HN7 := Lib.hid (HN.out.next L7.out)
          have H7 := Lib.hid hin7
          have B7 := Lib.hid (BX.out.drew.next HB7.out)
          have O7 := Lib.hid (own_below OWD.out HB7.out)
          have KIN : Hid (∀ i ∈ q.n.kids, InR qs.length i) := Lib.hid (fun i hi => by
            have h := HEE.out
            have h2 : tops.drop l = q.n.kids := by simpa using h
            rw [← h2] at hi
            have h3 := HS.out.inr i (List.mem_of_mem_drop hi)
            exact ⟨h3.1, by have := h3.2; omega⟩)
          obtain ⟨pb, hpb⟩ : ∃ pb, partedB qs (partsL q.n.kind) q.n.kids = pb := ⟨_, rfl⟩
          have HPA := Lib.hid (parted_b (some ⟨b0, o0, none⟩) c qs q pb w7 HN7.out H7.out KIN.out hpb)
          have HPB := Lib.hid hpb
          unfold nodeV at HPA
          have z0 := B7.out.c 0
          have z1 := B7.out.c 1
          have z2 := B7.out.c 2
          have z3 := B7.out.c 3
          have z4 := B7.out.c 4
          have z5 := B7.out.c 5
          simp only [List.getElem?_cons_zero, List.getElem?_cons_succ] at z0 z1 z2 z3 z4 z5
          clear hin7 hpb
          cases pb with
          | false =>
            have HO := Lib.hid (show ordTo qs qs.length = none from ordTo_none (by rw [ordTo_succ HS.out.ord HQ.out]; unfold ordStep; rw [if_neg (by rw [← HS.out.len, HL.out]; omega), if_neg (by
              have h := HEE.out
              rw [show tops.length - q.n.kids.length = l by rw [← HS.out.len, HL.out]; omega]
              simpa using h), if_pos HPB.out]) _ hlt)
            go_wp2_with fail
            refine (HPA.out).mono ?_
            rintro e w8 ⟨rfl, hb8⟩
            have L8 := Lib.hid (Gl.below_next L7.out hb8)
            clear hb8
            go_wp2
            go_ret2
            rw [HO.out]
            exact ⟨rfl, L8.out⟩
          | true =>
            go_wp2_with fail
            refine (HPA.out).mono ?_
            rintro e w8 ⟨rfl, hb8⟩
            have L8 := Lib.hid (Gl.below_next L7.out hb8)
            have B8 := Lib.hid (B7.out.next hb8)
            have O8 := Lib.hid (own_below O7.out hb8)
            obtain ⟨fb, hfb⟩ : ∃ fb, fieldedB q.n = fb := ⟨_, rfl⟩
            have HFI := Lib.hid (fielded_b q fb w8 H7.out.2.2.2.2 hfb)
            unfold nodeV at HFI
            have HFB := Lib.hid hfb
            have u0 := B8.out.c 0
            have u1 := B8.out.c 1
            have u2' := B8.out.c 2
            have u3' := B8.out.c 3
            have u4 := B8.out.c 4
            have u5 := B8.out.c 5
            simp only [List.getElem?_cons_zero, List.getElem?_cons_succ] at u0 u1 u2' u3' u4 u5
            clear hb8 hfb z0 z1 z2 z3 z4 z5
            cases fb with
            | false =>
              have HO := Lib.hid (show ordTo qs qs.length = none from ordTo_none (by rw [ordTo_succ HS.out.ord HQ.out]; unfold ordStep; rw [if_neg (by rw [← HS.out.len, HL.out]; omega), if_neg (by
                have h := HEE.out
                rw [show tops.length - q.n.kids.length = l by rw [← HS.out.len, HL.out]; omega]
                simpa using h), if_neg (by rw [HPB.out]; simp), if_pos HFB.out]) _ hlt)
              go_wp2_with fail
              refine (HFI.out).mono ?_
              rintro e w9 ⟨rfl, hb9⟩
              have L9 := Lib.hid (Gl.below_next L8.out hb9)
              clear hb9
              go_wp2
              go_ret2
              rw [HO.out]
              exact ⟨rfl, L9.out⟩
            | true =>
              have HO : Hid (ordTo qs (k + 1) = some (tops.take l ++ [(k : Int)])) := Lib.hid (by
                have el : tops.length - q.n.kids.length = l := by rw [← HS.out.len, HL.out]; omega
                rw [ordTo_succ HS.out.ord HQ.out]; unfold ordStep; rw [if_neg (by rw [← HS.out.len, HL.out]; omega), if_neg (by
                have h := HEE.out
                rw [el]
                simpa using h), if_neg (by rw [HPB.out]; simp), if_neg (by rw [HFB.out]; simp), el])
              go_wp2_with fail
              refine (HFI.out).mono ?_
              rintro e w9 ⟨rfl, hb9⟩
              have L9 := Lib.hid (Gl.below_next L8.out hb9)
              have O9 := Lib.hid (mine_cutI (own_below O8.out hb9) (m := l) (by rw [← HS.out.len, HL.out]; omega) rfl)
              have SQ := Lib.hid (seq_new 3 w9 [.int .i64 (k : Int)])
              have ON : Hid ((w9.alloc (.cells #[.int .i64 (k : Int)] 3)).ownsRow w.heap.size 3 1 (.slice B l cB) l ((tops.take l).map (Value.int .i64))) := Lib.hid (by
                have h := World.ownsRow.alloc O9.out (.cells #[.int .i64 (k : Int)] 3)
                have e : (tops.take l).length = l := by rw [List.length_take, ← HS.out.len, HL.out]; omega
                rw [e] at h
                exact h)
              have TL : Hid (l + 1 ≤ 100000) := Lib.hid (by have := HM4.out; have := HL.out; omega)
              have LBs : Hid (w.heap.size ≤ (w9.alloc (.cells #[.int .i64 (k : Int)] 3)).heap.size) := Lib.hid (by have := L9.out.size; simp; omega)
              have hk1 := wrap_k k (by omega)
              clear u0 u1 u2' u3' u4 u5 hb9
              go_wp2_with (at_builtin; refine wpList_appS infoInt rfl (by decide) (by decide) Tryd.underlying22 rfl (.tmp 43) (.tmp 45) rfl w.heap.size (.slice B l cB) l ((tops.take l).map (Value.int .i64)) rfl ON.out (fun _ => True) _ 1 1 [Value.int .i64 (k : Int)] rfl rfl SQ.out (one_int k) TL.out LBs.out ?_; intro v8 w8' hv8 hg8 ha8; obtain ⟨A8, c8, rfl, -⟩ := own_seq hv8 (by decide); have HV8 := Lib.hid hv8; have HG8 := Lib.hid hg8; clear hv8 hg8 ha8)
              go_wp2
              go_round
              case rel =>
                refine ⟨k + 1, A8, l + 1, c8, tops.take l ++ [(k : Int)], by omega, by go_num, rfl, Lib.hid ⟨?_, HO.out, ?_, ?_, ?_, ?_⟩⟩
                · rw [List.length_append, List.length_take, ← HS.out.len, HL.out]; simp
                · unfold MineT
                  have e : (tops.take l ++ [(k : Int)]).length = l + 1 := by rw [List.length_append, List.length_take, ← HS.out.len, HL.out]; simp
                  rw [e, List.map_append]
                  exact HV8.out
                · exact (L9.out.alloc L9.out.size _).grown HG8.out (by have := L9.out.size; simp; omega) (own_base ON.out)
                · exact ord_in HS.out.inr ((ordTo_succ HS.out.ord HQ.out).symm.trans HO.out)
                · exact ord_len HS.out.few ((ordTo_succ HS.out.ord HQ.out).symm.trans HO.out)
              case measure => simp [intOf]; omega
        | false =>
          have HO := Lib.hid (show ordTo qs qs.length = none from ordTo_none (by rw [ordTo_succ HS.out.ord HQ.out]; unfold ordStep; rw [if_neg (by rw [← HS.out.len, HL.out]; omega), if_pos (by
            have h := HEE.out
            rw [show tops.length - q.n.kids.length = l by rw [← HS.out.len, HL.out]; omega]
            simpa using h)]) _ hlt)
          go_region_held3 (fun w' => w'.cell? ⟨wr.heap.size, 3, none⟩ = some (.slice q.ka q.n.kids.length q.kc))
            (first
              | with_reducible exact KX.out
              | with_reducible exact K7.out
              | go_keep)
            (first
              | (go_at_call 63; (with_reducible refine (HEQ.out).mono ?_); rintro r w7 ⟨rfl, hb7⟩; have K7 := Lib.hid (show w7.cell? ⟨wr.heap.size, 3, none⟩ = some (.slice q.ka q.n.kids.length q.kc) from (BX.out.drew.next hb7).c 3); have L7 := Lib.hid (Gl.below_next LD.out hb7); have HB7 := Lib.hid hb7; clear hb7))
          go_wp2
          go_ret2
          rw [HO.out]
          exact ⟨rfl, L7.out⟩
    · have hke : k = qs.length := by omega
      have HO := Lib.hid (show ordTo qs qs.length = some tops by rw [← hke]; exact HS.out.ord)
      have hkn : decide (k < qs.length) = false := by simp; omega
      subst hke
      go_wp2
      go_ret2
      rw [HO.out]
      have HLN := HS.out.len
      subst HLN
      exact ⟨B, cB, rfl, HS.out.own, HS.out.bel, fun _ _ => trivial⟩
end Go.Proofs.YtjmpilmmgfjpmaaDoor.Tr
