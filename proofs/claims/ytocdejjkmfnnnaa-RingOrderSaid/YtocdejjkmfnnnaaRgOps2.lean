/-
  What Pop, Rows, New and Clone of package ring do to a ring, and what they answer. Conditions: as told in each.
-/
import Derived.Test.YtocdejjkmfnnnaaRgOps
set_option maxRecDepth 100000
namespace Go.Proofs.Ytocdejjkmfnnnaa.Rg
open Go.Proofs.Ytocdejjkmfnnnaa.Sh Go.Proofs.Ytocdejjkmfnnnaa.St
open Go.RowKit
set_option linter.unusedVariables false

theorem pop_nil (w : World) : Calls Try.prog 15 #[.pointer none] w fun e w' => e = .returned (.tuple #[.slice none 0 0, .bool false]) ∧ Below w.heap.size w w' := by
  go_enter Try.func15, Try.ntmps15
  go_wp2_with fail
  refine (at_nil 0 w).mono ?_
  rintro r w1 ⟨rfl, hb⟩
  have K := Lib.hid hb
  clear hb
  go_wp2
  exact bodyPost_ret (v := .tuple #[.slice none 0 0, .bool false]) (by simp [results, Try.results15, go_sem]) rfl ⟨rfl, K.out⟩
theorem rows_nil (w : World) : Calls Try.prog 17 #[.pointer none] w fun e w' => e = .returned (.slice none 0 0) ∧ Below w.heap.size w w' := by
  go_enter Try.func17, Try.ntmps17
  go_wp2_with fail
  refine (len_nil w).mono ?_
  rintro r w1 ⟨rfl, rfl⟩
  go_wp2
  go_loop [3, 7] (fun r i => r = .slice none 0 0 ∧ i = .int .i64 0) (fun _ _ => 0)
  case atStart => exact ⟨rfl, rfl⟩
  case round =>
    obtain ⟨rfl, rfl⟩ := hrel
    go_wp2
    go_ret
    exact ⟨rfl, Below.refl _ _⟩
theorem clone_nil (w : World) : Calls Try.prog 21 #[.pointer none] w fun e w' => e = .returned (.pointer none) ∧ Below w.heap.size w w' := by
  go_enter Try.func21, Try.ntmps21
  go_wp2
  go_ret
  exact ⟨rfl, Below.refl _ _⟩

def RetPop (g h n s : Nat) (rs : List (List Int)) (w : World) (e : Ending) (w' : World) : Prop :=
  ∃ A c, e = .returned (.tuple #[.slice A (rs.headD []).length c, .bool (!rs.isEmpty)]) ∧ SInts (w.heap.size ≤ ·) w' A (rs.headD []) ∧ (rs.headD []).length ≤ c ∧ c ≤ maxLen ∧ Ring w' g h n s rs.tail ∧ Turn (Two g h) w w'
theorem at0_cons (y : List Int) (rs : List (List Int)) : atB (y :: rs) 0 = true ∧ atL (y :: rs) 0 = y := by
  have h : atB (y :: rs) 0 = true := by unfold atB; simp
  exact ⟨h, by unfold atL; rw [if_pos h]; simp⟩
theorem at0_nil : atB [] 0 = false ∧ atL [] 0 = [] := by
  have h : atB [] 0 = false := by unfold atB; simp
  exact ⟨h, by unfold atL; rw [if_neg (by simp [h])]⟩
set_option maxHeartbeats 1000000 in
theorem pop_any (g h n s : Nat) (rs : List (List Int)) (w : World) (r : Ring w g h n s rs) :
    Calls Try.prog 15 #[.pointer (some ⟨g, 0, none⟩)] w (RetPop g h n s rs w) := by
  have hat := at_any g h n s rs 0 w r
  have RR := Lib.hid r
  clear r
  cases rs with
  | nil =>
    rw [at0_nil.1, at0_nil.2] at hat
    have HA := Lib.hid hat
    clear hat
    go_enter Try.func15, Try.ntmps15
    go_wp2_with fail
    refine HA.out.mono ?_
    rintro r w1 ⟨A, c, rfl, h1, h2, h3, hb⟩
    have H := Lib.hid (And.intro h1 (And.intro h2 h3))
    have K := Lib.hid hb
    clear h1 h2 h3 hb HA
    go_wp2
    refine bodyPost_ret (v := .tuple #[.slice A 0 c, .bool false]) (by simp [results, Try.results15, go_sem]) rfl ?_
    exact ⟨A, c, rfl, H.out.1, H.out.2.1, H.out.2.2, RR.out.next K.out, Turn.of_below _ K.out⟩
  | cons y ys =>
    rw [(at0_cons y ys).1, (at0_cons y ys).2] at hat
    have HA := Lib.hid hat
    clear hat
    go_enter Try.func15, Try.ntmps15
    go_wp2_with fail
    refine HA.out.mono ?_
    rintro r w1 ⟨A, c, rfl, h1, h2, h3, hb⟩
    have H := Lib.hid (And.intro h1 (And.intro h2 h3))
    have K := Lib.hid hb
    have HR := (RR.out.next hb).room
    obtain ⟨f, c1, cs, q1, q2, hc, hcm, hrd, hn, hs, hall⟩ := RR.out.next hb
    have AL := Lib.hid hall
    clear hall
    have NE := Lib.hid RR.out.ne_
    have hfn : f < n := hrd.2.1
    have F1 : RingF w1 g h n s (ys.length + 1) f c1 := q1
    obtain ⟨d0, d1, d2, d3, d4⟩ := F1.all
    obtain ⟨y3, y4⟩ := F1.froz
    have FF := Lib.hid F1
    have FC := Lib.hid q2
    have RD := Lib.hid hrd
    have HC := Lib.hid hc
    have hyl : ys.length + 1 ≤ n := by simpa using HR.1
    obtain ⟨p, hpe⟩ : ∃ p, (f + 1) % n = p := ⟨_, rfl⟩
    have w1' : IntKind.i64.wrap ((f : Int) + 1) = (f : Int) + 1 := IntWalk.i64_in _ (by omega)
    have w2' : ((f : Int) + 1).tmod (n : Int) = (p : Int) := by
      rw [← hpe, Int.tmod_eq_emod_of_nonneg (by omega), Int.natCast_emod, Int.natCast_add]; rfl
    have nz : ((n : Int) == 0) = false := by simp; omega
    have PE := Lib.hid hpe
    clear h1 h2 h3 hb HA q1 q2 hrd hc F1 HR hpe
    go_wp2_with fail
    go_region
    go_wp2
    have gl := RR.out
    obtain ⟨f', c', cs', g1, g2, -⟩ := gl
    have T1 : Turn (Two g h) w1 ((w1.setCell ⟨g, 3, none⟩ (.int .i64 p)).setCell ⟨g, 4, none⟩ (.int .i64 ys.length)) := ((Turn.refl _ w1).setCell (.inl (.inl rfl)) _).setCell (.inl (.inl rfl)) _
    have B1 : Bk 77 ((w1.setCell ⟨g, 3, none⟩ (.int .i64 p)).setCell ⟨g, 4, none⟩ (.int .i64 ys.length)) g [.slice (some ⟨h, 0, none⟩) (n * s) c1, .int .i64 n, .int .i64 s, .int .i64 p, .int .i64 ys.length] := (Bk.set_ FF.out 3 (.int .i64 p)).set_ 4 (.int .i64 ys.length)
    have B2 : Bk 2 ((w1.setCell ⟨g, 3, none⟩ (.int .i64 p)).setCell ⟨g, 4, none⟩ (.int .i64 ys.length)) h cs := (FC.out.far (p := ⟨g, 3, none⟩) (fun e => NE.out e.symm) _).far (p := ⟨g, 4, none⟩) (fun e => NE.out e.symm) _
    refine bodyPost_ret (v := .tuple #[.slice A y.length c, .bool true]) (by simp [results, Try.results15, go_sem]) rfl ?_
    refine ⟨A, c, rfl, ?_, H.out.2.1, H.out.2.2, ⟨p, c1, cs, B1, B2, HC.out, hcm, ?_, hn, hs, AL.out⟩, (Turn.of_below _ K.out).trans T1⟩
    · refine Seq.turn H.out.1 T1.drew fun i hi ht => ?_
      have l1 := g1.lt
      have l2 := g2.lt
      rcases ht with ht | ht <;> (have hi' : w.heap.size ≤ i := hi; omega)
    · rw [← PE.out]; exact RD.out.pop

/-- The rows told so far. -/
def RetRows (rs : List (List Int)) (w : World) (e : Ending) (w' : World) : Prop := ∃ V, e = .returned V ∧ RwsIn (w.heap.size ≤ ·) w' V rs ∧ Below w.heap.size w w'
set_option maxHeartbeats 1000000 in
theorem rows_any (g h n s : Nat) (rs : List (List Int)) (w : World) (r : Ring w g h n s rs) :
    Calls Try.prog 17 #[.pointer (some ⟨g, 0, none⟩)] w (RetRows rs w) := by
  have RR := Lib.hid r
  have HR := r.room
  obtain ⟨f, c1, cs, h1, h2, hc, hcm, hrd, hn, hs, -⟩ := r
  have FF : Hid (RingF w g h n s rs.length f c1) := h1
  have FC := Lib.hid h2
  have RD := Lib.hid hrd
  have hcn : n * s ≤ c1 := by rw [← hc]; exact hrd.1
  have hfn : f < n := hrd.2.1
  have hrl : rs.length ≤ n := HR.1
  clear h1 h2 hrd hc HR
  go_enter Try.func17, Try.ntmps17
  go_wp2_with fail
  refine (len_any g h n s rs.length f c1 w FF.out).mono ?_
  rintro r w1 ⟨rfl, rfl⟩
  go_wp2
  go_loopw [3, 7] (fun V i wr => ∃ k : Nat, k ≤ rs.length ∧ i = .int .i64 k ∧ Hid (RowsOwn w.heap.size wr V (rs.take k)) ∧ Hid (Below w.heap.size w wr)) (fun _ i _ => rs.length - (intOf i).toNat)
  case atStart => exact ⟨0, Nat.zero_le _, rfl, Lib.hid (by simpa using RowsOwn.nil _ _), Lib.hid (Below.refl _ _)⟩
  case round =>
    obtain ⟨k, hk, rfl, HO, HB⟩ := hrel
    by_cases hlt : k < rs.length
    · obtain ⟨y, hy⟩ : ∃ y, rs[k]? = some y := ⟨_, List.getElem?_eq_getElem hlt⟩
      have HS := Lib.hid (RR.out.row_len (List.mem_of_getElem? hy))
      have HY := Lib.hid hy
      have HT : Hid (rs.take (k + 1) = rs.take k ++ [y]) := Lib.hid (by rw [List.take_succ_eq_append_getElem hlt]; congr 1; rw [List.getElem?_eq_getElem hlt] at hy; simpa using hy)
      have i1 : (k : Int) < (rs.length : Int) := by omega
      clear hy
      go_wp2_with fail
      refine (piece_any g h n s rs.length f c1 k _ (FF.out.next HB.out) hfn (by omega) hn hs hcn hcm).mono ?_
      rintro r w2 ⟨A1, n1, rfl, hA1, hw1⟩
      have KB : Below wr.heap.size wr w2 := by rw [hw1]; exact below_drewN (Below.refl _ _) _
      have K2 := Lib.hid (below_next HB.out KB)
      have IP := Lib.hid (piece_ints ((FC.out.next HB.out).next KB) RD.out HY.out hA1).ints
      have O2 := Lib.hid (HO.out.next KB)
      clear hA1 hw1 KB HO HB
      go_wp2_with fail
      refine (clone_s A1 _ s y _ HS.out (by omega) IP.out).mono ?_
      rintro r w3 ⟨B, c3, rfl, hm, hb3⟩
      have K3 := Lib.hid (below_next K2.out hb3)
      have M3 := Lib.hid (MineT.mono hm K2.out.size)
      have O3 := Lib.hid (O2.out.next hb3)
      clear hm hb3 O2 IP
      obtain ⟨vs, j1, j2⟩ := O3.out
      have OO := Lib.hid (And.intro j1 j2)
      have hvl : (rs.take k).length = k := by rw [List.length_take]; omega
      have HVL := Lib.hid hvl
      rw [hvl] at j1
      have J1 := Lib.hid (World.ownsRow.alloc j1 (.cells #[Value.slice B s c3] 33))
      have SQ : Hid (Seq (fun _ => True) (w3.alloc (.cells #[Value.slice B s c3] 33)) (some ⟨w3.heap.size, 0, none⟩) [Value.slice B s c3]) := Lib.hid (fun _ => ⟨w3.heap.size, 0, rfl, trivial, by simp, fun j u hu => by
        rw [Nat.zero_add]; exact (Bk.c (Bk.new 33 w3 [Value.slice B s c3]) j).trans hu⟩)
      clear j1 j2 hvl
      have ON : Hid (∀ u ∈ [Value.slice B s c3], u.oneCell' = true) := Lib.hid (by intro u hu; simp at hu; subst hu; rfl)
      have L1 : Hid (k + 1 ≤ 100000) := Lib.hid (by omega)
      have LB : Hid (w.heap.size ≤ (w3.alloc (.cells #[Value.slice B s c3] 33)).heap.size) := Lib.hid (by have := K3.out.size; simp; omega)
      go_wp2_with (at_builtin; refine wpList_appS infoR rfl (by decide) (by decide) Try.underlying30 rfl (.tmp 10) (.tmp 15) rfl w.heap.size u3 k vs rfl J1.out (fun _ => True) _ 1 1 [Value.slice B s c3] rfl rfl SQ.out ON.out L1.out LB.out ?_; intro v4 w4 hv4 hg4 hat4; have V4 := Lib.hid hv4; have G4 := Lib.hid hg4; clear hv4 hg4 hat4)
      refine ⟨⟨k + 1, by omega, by go_num, Lib.hid ?_, Lib.hid ?_⟩, by simp [intOf]; omega⟩
      · rw [HT.out]
        have hv : w4.ownsRow w.heap.size 33 1 v4 ((rs.take k).length + 1) (vs ++ [Value.slice B s c3]) := by rw [HVL.out]; exact V4.out
        exact RowsOwn.app OO.out.1 OO.out.2 M3.out _ hv G4.out
      · exact RowsOwn.below OO.out.1 K3.out K3.out.size G4.out
    · obtain rfl : k = rs.length := by omega
      rw [List.take_length] at HO
      go_wp2
      go_ret
      exact ⟨_, rfl, HO.out.rows, HB.out⟩
end Go.Proofs.Ytocdejjkmfnnnaa.Rg
