/-
  riffleref16.Same, Forget and Set: what they tell. Conditions: as told in each.
-/
import Derived.Test.YtakoehgjgdcmmaaTpRef
set_option maxRecDepth 100000
namespace Go.Proofs.Ytakoehgjgdcmmaa.Tp
open Go.Proofs.Ytakoehgjgdcmmaa.Sh Go.Proofs.Ytakoehgjgdcmmaa.St
open Go.RowKit
set_option linter.unusedVariables false

/-- Deltas as they are read. -/
def Dls (w : World) (V : Value) (l : List Dl) : Prop := ∃ A c qs, V = .slice A qs.length c ∧ Seq (fun _ => True) w A (flat3 qs) ∧ Vals (fun _ => True) w qs ∧ qs.map (·.1) = l
theorem Dls.next {w w' : World} {V : Value} {l : List Dl} (h : Dls w V l) (hb : Below w.heap.size w w') : Dls w' V l := by
  obtain ⟨A, c, qs, e, h1, h2, h3⟩ := h
  exact ⟨A, c, qs, e, h1.next hb, h2.next hb, h3⟩
theorem Live.dls {base : Nat} {w : World} {V : Value} {qs : List Qd} {l : List Dl} (h : Live base w V qs) (e : qs.map (·.1) = l) : Dls w V l := by
  obtain ⟨A, c, rfl, -, -, hs⟩ := h.1.view
  exact ⟨A, c, qs, rfl, hs.mono fun _ _ => trivial, h.vals.mono fun _ _ => trivial, e⟩
theorem Dls.one {w : World} {V : Value} {l : List Dl} (h : Dls w V l) {k : Nat} {d : Dl} (hd : l[k]? = some d) : ∃ b off c B e, V = .slice (some ⟨b, off, none⟩) l.length c ∧ b < w.heap.size ∧ w.cell? ⟨b, off + k * 3, none⟩ = some (.int .i64 d.1) ∧ w.cell? ⟨b, off + k * 3 + 1, none⟩ = some (.int .i64 (d.2.1 : Nat)) ∧ w.cell? ⟨b, off + k * 3 + 2, none⟩ = some (.slice B d.2.2.length e) ∧ Ints w B d.2.2 ∧ d.2.2.length ≤ maxLen := by
  obtain ⟨A, c, qs, rfl, h1, h2, rfl⟩ := h
  rw [List.getElem?_map] at hd
  cases hq : qs[k]? with
  | none => rw [hq] at hd; simp at hd
  | some q =>
    rw [hq] at hd
    obtain rfl : q.1 = d := by simpa using hd
    obtain ⟨y0, y1, y2⟩ := flat3_at qs k q hq
    have hk := (List.getElem?_eq_some_iff.1 hq).1
    obtain ⟨b, off, rfl, -, hlt, hc⟩ := h1 (by rw [flat3_len]; omega)
    exact ⟨b, off, c, q.2.1, q.2.2, by rw [List.length_map], hlt, hc _ _ y0, by rw [Nat.add_assoc]; exact hc _ _ y1, by rw [Nat.add_assoc]; exact hc _ _ y2, (h2 q (List.mem_of_getElem? hq)).1.ints, (h2 q (List.mem_of_getElem? hq)).2⟩
set_option maxHeartbeats 8000000 in
theorem same_ds (V1 V2 : Value) (l : List Dl) (w : World) (h1 : Dls w V1 l) (h2 : Dls w V2 l) (hl : l.length ≤ 100000) :
    Calls Try.prog 22 #[V1, V2] w fun e w' => e = .returned (.bool true) ∧ Below w.heap.size w w' := by
  have H1 := Lib.hid h1
  have H2 := Lib.hid h2
  have e1 : ∃ A c, V1 = .slice A l.length c := by
    obtain ⟨A, c, qs, rfl, -, -, e⟩ := h1
    exact ⟨A, c, by rw [← e, List.length_map]⟩
  have e2 : ∃ A c, V2 = .slice A l.length c := by
    obtain ⟨A, c, qs, rfl, -, -, e⟩ := h2
    exact ⟨A, c, by rw [← e, List.length_map]⟩
  obtain ⟨A1, c1, rfl⟩ := e1
  obtain ⟨A2, c2, rfl⟩ := e2
  clear h1 h2
  obtain ⟨n, hn⟩ : ∃ n, l.length = n := ⟨_, rfl⟩
  have HN := Lib.hid hn
  rw [hn] at hl ⊢
  clear hn
  go_enter Try.func22, Try.ntmps22
  go_wp2
  go_loopw [5] (fun i wr => ∃ k : Nat, k ≤ n ∧ i = .int .i64 k ∧ Hid (Below w.heap.size w wr)) (fun i _ => n - (intOf i).toNat)
  case atStart => exact ⟨0, Nat.zero_le _, rfl, Lib.hid (Below.refl _ _)⟩
  case round =>
    obtain ⟨k, hk, rfl, HB⟩ := hrel
    by_cases hlt : k < n
    · have i1 : (k : Int) < (n : Int) := by omega
      obtain ⟨d, hd⟩ : ∃ d, l[k]? = some d := ⟨_, List.getElem?_eq_getElem (by rw [HN.out]; exact hlt)⟩
      obtain ⟨b1, o1, ca, B1, g1, ev1, hb1, x0, x1, x2, ix, lx⟩ := H1.out.one hd
      obtain ⟨b2, o2, cb, B2, g2, ev2, hb2, y0, y1, y2, iy, ly⟩ := H2.out.one hd
      injection ev1 with ev1 _ ev1c
      injection ev2 with ev2 _ ev2c
      subst ev1 ev2 ev1c ev2c
      obtain ⟨d1, d2, d3⟩ := d
      have x0 := (HB.out.cell (p := ⟨b1, o1 + k * 3, none⟩) hb1).trans x0
      have x1 := (HB.out.cell (p := ⟨b1, o1 + k * 3 + 1, none⟩) hb1).trans x1
      have x2 := (HB.out.cell (p := ⟨b1, o1 + k * 3 + 2, none⟩) hb1).trans x2
      have y0 := (HB.out.cell (p := ⟨b2, o2 + k * 3, none⟩) hb2).trans y0
      have y1 := (HB.out.cell (p := ⟨b2, o2 + k * 3 + 1, none⟩) hb2).trans y1
      have y2 := (HB.out.cell (p := ⟨b2, o2 + k * 3 + 2, none⟩) hb2).trans y2
      simp only at x0 x1 x2 y0 y1 y2 ix iy lx ly
      have LX := Lib.hid lx
      have LY := Lib.hid ly
      have IX := Lib.hid (ix.below HB.out.drew)
      have IY := Lib.hid (iy.below HB.out.drew)
      have CC : ∀ W, Below wr.heap.size wr W → (W.cell? ⟨b1, o1 + k * 3, none⟩ = some (.int .i64 d1) ∧ W.cell? ⟨b1, o1 + k * 3 + 1, none⟩ = some (.int .i64 d2) ∧ W.cell? ⟨b1, o1 + k * 3 + 2, none⟩ = some (.slice B1 d3.length g1) ∧ W.cell? ⟨b2, o2 + k * 3, none⟩ = some (.int .i64 d1) ∧ W.cell? ⟨b2, o2 + k * 3 + 1, none⟩ = some (.int .i64 d2) ∧ W.cell? ⟨b2, o2 + k * 3 + 2, none⟩ = some (.slice B2 d3.length g2)) := fun W hW => by
        have l1 := Nat.lt_of_lt_of_le hb1 HB.out.size
        have l2 := Nat.lt_of_lt_of_le hb2 HB.out.size
        exact ⟨(hW.cell (p := ⟨b1, o1 + k * 3, none⟩) l1).trans x0, (hW.cell (p := ⟨b1, o1 + k * 3 + 1, none⟩) l1).trans x1, (hW.cell (p := ⟨b1, o1 + k * 3 + 2, none⟩) l1).trans x2, (hW.cell (p := ⟨b2, o2 + k * 3, none⟩) l2).trans y0, (hW.cell (p := ⟨b2, o2 + k * 3 + 1, none⟩) l2).trans y1, (hW.cell (p := ⟨b2, o2 + k * 3 + 2, none⟩) l2).trans y2⟩
      have LZ1 := Lib.hid (CC _ (Below.refl wr.heap.size wr).drew)
      have HCC := Lib.hid CC
      clear CC hd hb1 hb2 ix iy lx ly
      go_wp2_with fail
      go_region_held3 (fun w' => w'.cell? ⟨b1, o1 + k * 3, none⟩ = some (.int .i64 d1) ∧ w'.cell? ⟨b1, o1 + k * 3 + 1, none⟩ = some (.int .i64 d2) ∧ w'.cell? ⟨b1, o1 + k * 3 + 2, none⟩ = some (.slice B1 d3.length g1) ∧ w'.cell? ⟨b2, o2 + k * 3, none⟩ = some (.int .i64 d1) ∧ w'.cell? ⟨b2, o2 + k * 3 + 1, none⟩ = some (.int .i64 d2) ∧ w'.cell? ⟨b2, o2 + k * 3 + 2, none⟩ = some (.slice B2 d3.length g2))
        (first
          | with_reducible exact KK.out
          | with_reducible exact LZ1.out
          | go_keep)
        (first
          | (go_at_call 19; (with_reducible refine (nums_b B1 g1 d3 B2 g2 d3 _ LX.out LY.out IX.out IY.out).mono ?_); rintro r3 w3 ⟨rfl, hb3⟩; rw [decide_eq_true (show d3 = d3 from rfl)]; have B3 := Lib.hid (below_next (Below.refl _ wr).drew hb3); have B03 := Lib.hid (below_next HB.out B3.out); have KK := Lib.hid (HCC.out _ B3.out); clear hb3))
      all_goals
        go_wp2_with fail
        exact ⟨⟨k + 1, by omega, by go_num, B03⟩, by simp [intOf]; omega⟩
    · obtain rfl : k = n := by omega
      go_wp2
      go_ret
      exact ⟨rfl, HB.out⟩
/-- The document's tape as a value. -/
def tv (V : Value) (f wd : Nat) : Value := .agg #[V, .int .i64 f, .int .i64 wd]
theorem box2 (V : Value) (f wd : Nat) (w : World) : Bk 31 ((w.alloc (.cells #[V, .int .i64 f, .int .i64 wd] 31)).alloc (.cells #[.slice none 0 0, .int .i64 0, .int .i64 0] 31)) w.heap.size [V, .int .i64 f, .int .i64 wd] ∧ Bk 31 ((w.alloc (.cells #[V, .int .i64 f, .int .i64 wd] 31)).alloc (.cells #[.slice none 0 0, .int .i64 0, .int .i64 0] 31)) (w.heap.size + 1) [.slice none 0 0, .int .i64 0, .int .i64 0] ∧ Below w.heap.size w ((w.alloc (.cells #[V, .int .i64 f, .int .i64 wd] 31)).alloc (.cells #[.slice none 0 0, .int .i64 0, .int .i64 0] 31)) := by
  have h := Bk.new 31 (w.alloc (.cells #[V, .int .i64 f, .int .i64 wd] 31)) [.slice none 0 0, .int .i64 0, .int .i64 0]
  rw [show (w.alloc (.cells #[V, .int .i64 f, .int .i64 wd] 31)).heap.size = w.heap.size + 1 from by simp] at h
  exact ⟨(Bk.new 31 w [V, .int .i64 f, .int .i64 wd]).alloc _, h, ((Below.refl _ w).alloc (Nat.le_refl _) _).alloc (by simp) _⟩
set_option maxHeartbeats 2000000 in
theorem rforget_any (A : Option Addr) (n c f wd : Nat) (i : Int) (w : World) (hf : f ≤ n) :
    Calls Try.prog 20 #[tv (.slice A n c) f wd, .int .i64 i] w fun e w' => e = .returned (tv (.slice A n c) (forgN f n i) wd) ∧ Below w.heap.size w w' := by
  unfold tv
  by_cases hi : i ≤ f
  · have e : forgN f n i = f := by unfold forgN; rw [if_pos hi]
    have t1 : decide (i > (f : Int)) = false := decide_eq_false (by omega)
    have t2 : decide ((f : Int) > (n : Int)) = false := decide_eq_false (by omega)
    have t2' : decide (n < f) = false := decide_eq_false (by omega)
    rw [e]
    clear e hi
    go_enter Try.func20, Try.ntmps20
    go_wp2
    refine bodyPost_ret (v := .agg #[.slice A n c, .int .i64 f, .int .i64 wd]) (by simp [results, Try.results20, go_sem]) rfl ?_
    exact ⟨rfl, below_next (below_new _ _) (below_new _ _)⟩
  · by_cases h2 : i ≤ n
    · obtain ⟨k, rfl⟩ : ∃ k : Nat, i = k := ⟨i.toNat, by omega⟩
      have e : forgN f n (k : Int) = k := by unfold forgN; rw [if_neg hi]; omega
      have t1 : decide ((k : Int) > (f : Int)) = true := decide_eq_true (by omega)
      have t1' : decide (f < k) = true := decide_eq_true (by omega)
      have t2 : decide ((k : Int) > (n : Int)) = false := decide_eq_false (by omega)
      have t2' : decide (n < k) = false := decide_eq_false (by omega)
      rw [e]
      clear e hi h2
      go_enter Try.func20, Try.ntmps20
      go_wp2
      refine bodyPost_ret (v := .agg #[.slice A n c, .int .i64 k, .int .i64 wd]) (by simp [results, Try.results20, go_sem]) rfl ?_
      exact ⟨rfl, below_next (below_new _ _) (below_new _ _)⟩
    · have e : forgN f n i = n := by unfold forgN; rw [if_neg hi]; omega
      have t1 : decide (i > (f : Int)) = true := decide_eq_true (by omega)
      have t2 : decide (i > (n : Int)) = true := decide_eq_true (by omega)
      rw [e]
      clear e hi h2
      go_enter Try.func20, Try.ntmps20
      go_wp2
      refine bodyPost_ret (v := .agg #[.slice A n c, .int .i64 n, .int .i64 wd]) (by simp [results, Try.results20, go_sem]) rfl ?_
      exact ⟨rfl, below_next (below_new _ _) (below_new _ _)⟩
set_option maxHeartbeats 2000000 in
theorem rset_out (A : Option Addr) (n c f wd : Nat) (i : Int) (A2 : Option Addr) (n2 c2 : Nat) (w : World) (h : i < f ∨ n < i) :
    Calls Try.prog 21 #[tv (.slice A n c) f wd, .int .i64 i, .slice A2 n2 c2] w fun e w' => e = .returned (.tuple #[tv (.slice A n c) f wd, .slice none 0 0, .int .i64 1]) ∧ Below w.heap.size w w' := by
  unfold tv
  by_cases h1 : i < f
  · have t1 : decide (i < (f : Int)) = true := decide_eq_true h1
    clear h
    go_enter Try.func21, Try.ntmps21
    go_wp2
    refine bodyPost_ret (v := .tuple #[.agg #[.slice A n c, .int .i64 f, .int .i64 wd], .slice none 0 0, .int .i64 1]) (by simp [results, Try.results21, go_sem]) rfl ?_
    exact ⟨rfl, below_next (below_new _ _) (below_new _ _)⟩
  · have t1 : decide (i < (f : Int)) = false := decide_eq_false h1
    have t2 : decide (i > (n : Int)) = true := decide_eq_true (by omega)
    clear h
    go_enter Try.func21, Try.ntmps21
    go_wp2
    refine bodyPost_ret (v := .tuple #[.agg #[.slice A n c, .int .i64 f, .int .i64 wd], .slice none 0 0, .int .i64 1]) (by simp [results, Try.results21, go_sem]) rfl ?_
    exact ⟨rfl, below_next (below_new _ _) (below_new _ _)⟩
theorem unfit_stop {wd k : Nat} {rs : List (List Int)} (h : unfitB wd rs = true) (h2 : unfitB wd (rs.take k) = false) : k < rs.length := by
  rcases Nat.lt_or_ge k rs.length with hk | hk
  · exact hk
  · rw [List.take_of_length_le hk] at h2
    rw [h] at h2; cases h2
/-- Both boxes, behind draws. -/
def Wt (V : Value) (f wd : Nat) (w0 w : World) : Prop := Bk 31 w w0.heap.size [V, .int .i64 f, .int .i64 wd] ∧ Bk 31 w (w0.heap.size + 1) [.slice none 0 0, .int .i64 0, .int .i64 0] ∧ Below w0.heap.size w0 w ∧ w0.heap.size + 2 ≤ w.heap.size
section
variable {V : Value} {f wd : Nat} {w0 w w' : World}
theorem Wt.new (V : Value) (f wd : Nat) (w : World) : Wt V f wd w ((w.alloc (.cells #[V, .int .i64 f, .int .i64 wd] 31)).alloc (.cells #[.slice none 0 0, .int .i64 0, .int .i64 0] 31)) :=
  ⟨(box2 V f wd w).1, (box2 V f wd w).2.1, (box2 V f wd w).2.2, by simp⟩
theorem Wt.next (h : Wt V f wd w0 w) (hb : Below w.heap.size w w') : Wt V f wd w0 w' := ⟨h.1.next hb, h.2.1.next hb, below_next h.2.2.1 hb, Nat.le_trans h.2.2.2 hb.size⟩
theorem Wt.drewN (h : Wt V f wd w0 w) (n : Nat) : Wt V f wd w0 (w.drewN n) := h.next (below_drewN (Below.refl _ _) _)
theorem Wt.cells (h : Wt V f wd w0 w) : w.cell? ⟨w0.heap.size, 0, none⟩ = some V ∧ w.cell? ⟨w0.heap.size, 1, none⟩ = some (.int .i64 f) ∧ w.cell? ⟨w0.heap.size, 2, none⟩ = some (.int .i64 wd) := ⟨h.1.c 0, h.1.c 1, h.1.c 2⟩
theorem Wt.cells2 (h : Wt V f wd w0 w) : w.cell? ⟨w0.heap.size + 1, 0, none⟩ = some (.slice none 0 0) ∧ w.cell? ⟨w0.heap.size + 1, 1, none⟩ = some (.int .i64 0) ∧ w.cell? ⟨w0.heap.size + 1, 2, none⟩ = some (.int .i64 0) ∧ w.frozen? ⟨w0.heap.size, 0, none⟩ = false ∧ w.frozen? ⟨w0.heap.size + 1, 0, none⟩ = false ∧ w.frozen? ⟨w0.heap.size + 1, 1, none⟩ = false ∧ w.frozen? ⟨w0.heap.size + 1, 2, none⟩ = false :=
  ⟨h.2.1.c 0, h.2.1.c 1, h.2.1.c 2, h.1.f 0, h.2.1.f 0, h.2.1.f 1, h.2.1.f 2⟩
theorem Wt.put (h : Wt V f wd w0 w) (a b c d : Value) : Below w0.heap.size w0 ((((w.setCell ⟨w0.heap.size, 0, none⟩ a).setCell ⟨w0.heap.size + 1, 0, none⟩ b).setCell ⟨w0.heap.size + 1, 1, none⟩ c).setCell ⟨w0.heap.size + 1, 2, none⟩ d) :=
  (((h.2.2.1.setCell (p := ⟨w0.heap.size, 0, none⟩) (Nat.le_refl _) a).setCell (p := ⟨w0.heap.size + 1, 0, none⟩) (Nat.le_succ _) b).setCell (p := ⟨w0.heap.size + 1, 1, none⟩) (Nat.le_succ _) c).setCell (p := ⟨w0.heap.size + 1, 2, none⟩) (Nat.le_succ _) d
end
set_option maxHeartbeats 4000000 in
theorem rset_unfit (S : Nat → Prop) (A : Option Addr) (n c f wd p : Nat) (U : Value) (news : List (List Int)) (w : World) (hf : f ≤ p) (hp : p ≤ n) (hn : RwsIn S w U news) (hnl : news.length ≤ 1000) (hu : unfitB wd news = true) :
    Calls Try.prog 21 #[tv (.slice A n c) f wd, .int .i64 p, U] w fun e w' => e = .returned (.tuple #[tv (.slice A n c) f wd, .slice none 0 0, .int .i64 3]) ∧ Below w.heap.size w w' := by
  have t1 : decide ((p : Int) < (f : Int)) = false := decide_eq_false (by omega)
  have t2 : decide ((p : Int) > (n : Int)) = false := decide_eq_false (by omega)
  have t1' : decide (p < f) = false := decide_eq_false (by omega)
  have t2' : decide (n < p) = false := decide_eq_false (by omega)
  have HN := Lib.hid hn
  have HU := Lib.hid hu
  have W0 := Lib.hid (Wt.new (.slice A n c) f wd w)
  obtain ⟨AU, cU, -, rfl, -⟩ := hn
  clear hu
  unfold tv
  go_enter Try.func21, Try.ntmps21
  go_wp2
  go_loopw [9] (fun i wr => ∃ k : Nat, k ≤ news.length ∧ i = .int .i64 k ∧ Hid (unfitB wd (news.take k) = false) ∧ Hid (Wt (.slice A n c) f wd w wr)) (fun i _ => news.length - (intOf i).toNat)
  case atStart => exact ⟨0, Nat.zero_le _, rfl, Lib.hid rfl, W0⟩
  case round =>
    obtain ⟨k, hk, rfl, HK, HW⟩ := hrel
    have hlt := unfit_stop HU.out HK.out
    obtain ⟨r, hr⟩ : ∃ r, news[k]? = some r := ⟨_, List.getElem?_eq_getElem hlt⟩
    obtain ⟨b, o, ca, B, d, ev, hb, hc, -, -⟩ := rws_at HN.out hr
    injection ev with ev _ evc
    subst ev evc
    have i1 : (k : Int) < (news.length : Int) := by omega
    obtain ⟨x0, x1, x2⟩ := HW.out.cells
    obtain ⟨y0, y1, y2, f0, g0, g1, g2⟩ := HW.out.cells2
    have z1 := (HW.out.2.2.1.cell (p := ⟨b, o + k, none⟩) hb).trans hc
    have HT := Lib.hid (unfit_take (wd := wd) hr)
    obtain ⟨rl, hrl⟩ : ∃ rl, r.length = rl := ⟨_, rfl⟩
    rw [hrl] at z1 HT
    clear hr hb hc hrl hk
    by_cases hne : rl = wd
    · have q1 : ((rl : Int) != (wd : Int)) = false := by simp [hne]
      have HSS := Lib.hid (show unfitB wd (news.take (k + 1)) = false by rw [HT.out, HK.out]; simp [hne])
      clear hne
      go_wp2_with fail
      go_quiet (fail)
      go_wp2
      go_roundw
      case rel => exact ⟨k + 1, by omega, by go_num, HSS, Lib.hid (HW.out.drewN nq)⟩
      case measure => simp [intOf]; omega
    · have q1 : ((rl : Int) != (wd : Int)) = true := by simp; omega
      clear hne
      go_wp2_with fail
      go_quiet (fail)
      go_wp2
      refine bodyPost_ret (v := .tuple #[.agg #[.slice A n c, .int .i64 f, .int .i64 wd], .slice none 0 0, .int .i64 3]) (by simp [results, Try.results21, go_sem, y0, y1, y2]) rfl ?_
      exact ⟨rfl, (((below_drewN HW.out.2.2.1 _).setCell (p := ⟨w.heap.size + 1, 0, none⟩) (Nat.le_succ _) _).setCell (p := ⟨w.heap.size + 1, 1, none⟩) (Nat.le_succ _) _).setCell (p := ⟨w.heap.size + 1, 2, none⟩) (Nat.le_succ _) _⟩
theorem rws_cut {S : Nat → Prop} {w : World} {V : Value} {rs : List (List Int)} (h : RwsIn S w V rs) : RwsIn (fun b => S b ∧ b < w.heap.size) w V rs := by
  have sq : ∀ {A : Option Addr} {xs : List Value}, Seq S w A xs → Seq (fun b => S b ∧ b < w.heap.size) w A xs := fun {A xs} h hp => by
    obtain ⟨b, o, e, h1, h2, h3⟩ := h hp
    exact ⟨b, o, e, ⟨h1, h2⟩, h2, h3⟩
  obtain ⟨A, c, vs, e, h1, h2, h3, h4, h5⟩ := h
  refine ⟨A, c, vs, e, h1, h2, h3, sq h4, fun t r hr => ?_⟩
  obtain ⟨B, d, k1, k2, k3, k4⟩ := h5 t r hr
  exact ⟨B, d, k1, k2, k3, sq k4⟩
theorem vs_one {vs : List Value} {rs : List (List Int)} (hl : vs.length = rs.length) (h : ∀ (t : Nat) (r : List Int), rs[t]? = some r → ∃ (B : Option Addr) (d : Nat), vs[t]? = some (Value.slice B r.length d)) : ∀ u ∈ vs, u.oneCell' = true := fun u hu => by
  obtain ⟨t, ht⟩ := List.getElem?_of_mem hu
  have htl : t < rs.length := by have := (List.getElem?_eq_some_iff.1 ht).1; omega
  obtain ⟨B, d, k1⟩ := h t _ (List.getElem?_eq_getElem htl)
  rw [k1] at ht
  injection ht with ht
  subst ht
  rfl
/-- The document's rows behind a Set. -/
theorem rows_set {S1 : Nat → Prop} {base : Nat} {w6 : World} {V6 : Value} {rows news : List (List Int)} {p : Nat} {vs1 vs2 : List Value} (hp : p ≤ rows.length) (hv1 : vs1.length = rows.length) (hv2 : vs2.length = news.length) (hb : ∀ i, base ≤ i → S1 i) {q : Nat} (hq : q = p + news.length)
    (o6 : w6.ownsRow base 42 1 V6 q (vs1.take p ++ vs2))
    (k1 : ∀ (t : Nat) (r : List Int), rows[t]? = some r → ∃ (B : Option Addr) (d : Nat), vs1[t]? = some (Value.slice B r.length d) ∧ r.length ≤ d ∧ d ≤ maxLen ∧ SInts S1 w6 B r)
    (k2 : ∀ (t : Nat) (r : List Int), news[t]? = some r → ∃ (B : Option Addr) (d : Nat), vs2[t]? = some (Value.slice B r.length d) ∧ r.length ≤ d ∧ d ≤ maxLen ∧ SInts S1 w6 B r) : RwsIn S1 w6 V6 (setL rows news p) := by
  subst hq
  obtain ⟨A, c, rfl, hn, hm, hs⟩ := own_seq o6 (by decide)
  have hl := setL_len (news := news) hp
  refine ⟨A, c, _, by rw [hl], by rw [hl]; exact hn, hm, by rw [hl, List.length_append, List.length_take, hv2]; omega, hs.mono hb, fun t r hr => ?_⟩
  unfold setL at hr
  have hpl : (rows.take p).length = p := by rw [List.length_take]; omega
  have hpl' : (vs1.take p).length = p := by rw [List.length_take]; omega
  rcases Nat.lt_or_ge t p with h | h
  · rw [List.getElem?_append_left (by omega), List.getElem?_take_of_lt h] at hr
    rw [List.getElem?_append_left (by omega), List.getElem?_take_of_lt h]
    exact k1 t r hr
  · rw [List.getElem?_append_right (by omega), hpl] at hr
    rw [List.getElem?_append_right (by omega), hpl']
    exact k2 (t - p) r hr
/-- What the document's Set tells. -/
def RetRs (S : Nat → Prop) (f wd : Nat) (is : List (List Int)) (l : List Dl) (w : World) (e : Ending) (w' : World) : Prop := ∃ A c Vd, e = .returned (.tuple #[tv (.slice A is.length c) f wd, Vd, .int .i64 0]) ∧ RwsIn (fun b => S b ∨ w.heap.size ≤ b) w' (.slice A is.length c) is ∧ Dls w' Vd l ∧ Below w.heap.size w w'
theorem Wt.grown {V : Value} {f wd : Nat} {w0 w w' : World} {base : Nat} {e : TypeId} {size m : Nat} {v : Value} {xs : List Value} (h : Wt V f wd w0 w) (hv : w.ownsRow base e size v m xs) (hne : e ≠ 31) (hbs : w0.heap.size ≤ base) (hb : w.grownBy w' v.ownBlock) : Wt V f wd w0 w' :=
  ⟨h.1.grown hb (own_bk_ne hv h.1 hne), h.2.1.grown hb (own_bk_ne hv h.2.1 hne), h.2.2.1.grown hb h.2.2.1.size (fun k hk => Nat.le_trans hbs (own_base hv k hk)), Nat.le_trans h.2.2.2 hb.size⟩
theorem take_seq {S : Nat → Prop} {w : World} {A : Option Addr} {vs : List Value} (h : Seq S w A vs) (p : Nat) : Seq S w A (vs.take p) := fun hp => by
  have hl : 0 < vs.length := by rw [List.length_take] at hp; omega
  obtain ⟨b, o, e, h1, h2, h3⟩ := h hl
  refine ⟨b, o, e, h1, h2, fun j u hj => h3 j u ?_⟩
  have := (List.getElem?_eq_some_iff.1 hj).1
  rw [List.length_take] at this
  rwa [List.getElem?_take_of_lt (by omega)] at hj
set_option maxHeartbeats 8000000 in
theorem rset_ok (S : Nat → Prop) (A : Option Addr) (c f wd p : Nat) (U : Value) (rows news : List (List Int)) (w : World) (hr0 : RwsIn S w (.slice A rows.length c) rows) (hf : f ≤ p) (hp : p ≤ rows.length) (hn : RwsIn S w U news) (hrl : rows.length ≤ 1000) (hnl : p + news.length ≤ 1000) (hu : unfitB wd news = false) :
    Calls Try.prog 21 #[tv (.slice A rows.length c) f wd, .int .i64 p, U] w (RetRs S f wd (setL rows news p) (changesL rows news p) w) := by
  have hfit := unfit_no hu
  have HU := Lib.hid hfit
  have HR := Lib.hid (rws_cut hr0)
  have HN := Lib.hid (rws_cut hn)
  obtain ⟨N, hN⟩ : ∃ N, rows.length = N := ⟨_, rfl⟩
  have HNN := Lib.hid hN
  rw [hN] at hp hrl ⊢
  have t1 : decide ((p : Int) < (f : Int)) = false := decide_eq_false (by omega)
  have t2 : decide ((p : Int) > (N : Int)) = false := decide_eq_false (by omega)
  have t1' : decide (p < f) = false := decide_eq_false (by omega)
  have t2' : decide (N < p) = false := decide_eq_false (by omega)
  have W0 := Lib.hid (Wt.new (.slice A N c) f wd w)
  obtain ⟨A', c', vs1, eA, hcN, _, hv1, hs1, hk1⟩ := HR.out
  injection eA with eA1 _ eA2
  subst eA1 eA2
  obtain ⟨AU, cU, vs2, rfl, _, _, hv2, hs2, hk2⟩ := HN.out
  have K1 := Lib.hid hk1
  have K2 := Lib.hid hk2
  have S1 := Lib.hid hs1
  have S2 := Lib.hid hs2
  have HV1 := Lib.hid hv1
  have HV2 := Lib.hid hv2
  have O1 := Lib.hid (fun u (hu : u ∈ vs1.take p) => vs_one hv1 (fun t r hr => by obtain ⟨B, d, k, -⟩ := hk1 t r hr; exact ⟨B, d, k⟩) u (List.mem_of_mem_take hu))
  have O2 := Lib.hid (vs_one hv2 (fun t r hr => by obtain ⟨B, d, k, -⟩ := hk2 t r hr; exact ⟨B, d, k⟩))
  have i4 : (p : Int) ≤ (c : Int) := by omega
  have i5 : p ≤ c := by omega
  have i6 : (p : Int) ≤ (N : Int) := by omega
  clear hu hfit hr0 hn hk1 hk2 hs1 hs2 hv1 hv2 hN
  obtain ⟨n, hnn⟩ : ∃ n, news.length = n := ⟨_, rfl⟩
  have HNL := Lib.hid hnn
  rw [hnn] at hnl ⊢
  clear hnn
  unfold tv
  go_enter Try.func21, Try.ntmps21
  go_wp2
  go_loopw [9] (fun i wr => ∃ k : Nat, k ≤ n ∧ i = .int .i64 k ∧ Hid (Wt (.slice A N c) f wd w wr)) (fun i _ => n - (intOf i).toNat)
  case atStart => exact ⟨0, Nat.zero_le _, rfl, W0⟩
  case round =>
    obtain ⟨k, hk, rfl, HW⟩ := hrel
    obtain ⟨x0, x1, x2⟩ := HW.out.cells
    by_cases hlt : k < n
    · obtain ⟨r, hr⟩ : ∃ r, news[k]? = some r := ⟨_, List.getElem?_eq_getElem (by rw [HNL.out]; exact hlt)⟩
      obtain ⟨B, d, hvk, -, -, -⟩ := K2.out k r hr
      obtain ⟨b, o, rfl, -, hb, hc⟩ := S2.out.one hvk
      have z1 := (HW.out.2.2.1.cell (p := ⟨b, o + k, none⟩) hb).trans hc
      have hrl2 := HU.out r (List.mem_of_getElem? hr)
      rw [hrl2] at z1
      have i1 : (k : Int) < (n : Int) := by omega
      clear hr hvk hb hc hrl2
      go_wp2_with fail
      go_quiet (fail)
      go_wp2
      go_roundw
      case rel => exact ⟨k + 1, by omega, by go_num, Lib.hid (HW.out.drewN nq)⟩
      case measure => simp [intOf]; omega
    · obtain rfl : k = n := by omega
      have OE := Lib.hid (own_empty wr 42 1 wr.heap.size wr.heap.size rfl (Nat.le_refl _))
      have W1 := Lib.hid (HW.out.next (below_new wr (.cells #[] 42)))
      have Q1 := Lib.hid (take_seq (S1.out.next (W1.out.2.2.1)) p)
      have V1 := Lib.hid (show (vs1.take p).length = p * 1 by rw [List.length_take, HV1.out, HNN.out]; omega)
      have V2 := Lib.hid (show vs2.length = k * 1 by rw [HV2.out, HNL.out]; omega)
      have L1 := Lib.hid (show 0 + p ≤ 100000 by omega)
      have L2 := Lib.hid (show 0 + p + k ≤ 100000 by omega)
      have LB := Lib.hid (show wr.heap.size ≤ (wr.alloc (.cells #[] 42)).heap.size by simp)
      have LW := Lib.hid (show w.heap.size ≤ wr.heap.size from HW.out.2.2.1.size)
      clear hlt hk x0 x1 x2
      obtain ⟨x0, x1, x2⟩ := W1.out.cells
      have hAc : Hid (A = none → N = 0) := Lib.hid (fun e => by
        rcases Nat.eq_zero_or_pos N with h | h
        · exact h
        · obtain ⟨b, o, e2, _⟩ := S1.out (by rw [HV1.out, HNN.out]; exact h)
          rw [e] at e2; cases e2)
      rcases A with _ | ad
      · obtain rfl : N = 0 := hAc.out rfl
        obtain rfl : p = 0 := by omega
        go_wp2_with (at_builtin; first
          | (refine wpList_appS infoR rfl (by decide) (by decide) Try.underlying29 rfl (.tmp 39) (.tmp 43) rfl wr.heap.size _ 0 [] rfl OE.out _ none 0 c (vs1.take 0) rfl V1.out Q1.out O1.out L1.out LB.out ?_; intro v3 w3 hv3 hg3 hat3; have O3 := Lib.hid hv3; have W3 := Lib.hid (W1.out.grown OE.out (by decide) LW.out hg3); have Q2 := Lib.hid (S2.out.next W3.out.2.2.1); have LB3 := Lib.hid (Nat.le_trans LB.out hg3.size); clear hv3 hg3 hat3)
          | (refine wpList_appS infoR rfl (by decide) (by decide) Try.underlying29 rfl (.tmp 44) (.tmp 45) rfl wr.heap.size v3 (0 + 0) ([] ++ vs1.take 0) rfl O3.out _ AU k cU vs2 rfl V2.out Q2.out O2.out L2.out LB3.out ?_; intro v6 w6 hv6 hg6 hat6; obtain ⟨A6, c6, rfl, hq1, hq2, hq3⟩ := own_seq hv6 (by decide); clear hq1 hq2 hq3; have O6 := Lib.hid hv6; have W6 := Lib.hid (W3.out.grown O3.out (by decide) LW.out hg6); have LB6 := Lib.hid (Nat.le_trans LB3.out hg6.size); clear hv6 hg6 hat6; obtain ⟨x0, x1, x2⟩ := W6.out.cells))
        have h1 : RwsIn (fun b => (S b ∧ b < w.heap.size) ∨ w.heap.size + 2 ≤ b) w6 (.slice none 0 c) rows := by
          have h := (HR.out.next W6.out.2.2.1).mono (S' := fun b => (S b ∧ b < w.heap.size) ∨ w.heap.size + 2 ≤ b) (fun i hi => .inl hi)
          rw [HNN.out] at h
          exact h
        have h2 := rows_set (S1 := fun b => (S b ∧ b < w.heap.size) ∨ w.heap.size + 2 ≤ b) (rows := rows) (news := news) (p := 0) (by rw [HNN.out]; omega) HV1.out HV2.out (fun i hi => .inr (Nat.le_trans HW.out.2.2.2 hi)) (q := 0 + 0 + k) (by have := HNL.out; omega) O6.out
          (fun t r hr => by obtain ⟨B, d, k1, k2, k3, k4⟩ := K1.out t r hr; exact ⟨B, d, k1, k2, k3, Seq.mono (Seq.next k4 W6.out.2.2.1) fun i hi => .inl hi⟩)
          (fun t r hr => by obtain ⟨B, d, k1, k2, k3, k4⟩ := K2.out t r hr; exact ⟨B, d, k1, k2, k3, Seq.mono (Seq.next k4 W6.out.2.2.1) fun i hi => .inl hi⟩)
        simp only [Nat.zero_add] at h2
        have CH := Lib.hid (changes_any _ _ _ rows news 0 w6 h1 h2 (by rw [HNN.out]; omega) (by rw [HNN.out]; omega) (by rw [HNL.out]; omega))
        have H2 := Lib.hid h2
        clear h1 h2 x0 x1 x2
        refine (CH.out).mono ?_
        rintro r7 w7 ⟨Vd, rfl, qs, k1, k2, k3, k4⟩
        have J1 := Lib.hid k1
        have J2 := Lib.hid k2
        have J3 := Lib.hid k3
        have J4 := Lib.hid k4
        have W7 := Lib.hid (W6.out.next k4)
        obtain ⟨x0, x1, x2⟩ := W7.out.cells
        obtain ⟨y0, y1, y2, f0, g0, g1, g2⟩ := W7.out.cells2
        clear k1 k2 k3 k4
        go_wp2
        refine bodyPost_ret (v := .tuple #[.agg #[.slice A6 k c6, .int .i64 f, .int .i64 wd], Vd, .int .i64 0]) (by simp [results, Try.results21, go_sem, y0, y1, y2]) rfl ?_
        have hT : Turn (fun b => b = w.heap.size ∨ b = w.heap.size + 1) w7 ((((w7.setCell ⟨w.heap.size, 0, none⟩ (.slice A6 k c6)).setCell ⟨w.heap.size + 1, 0, none⟩ (.slice A6 k c6)).setCell ⟨w.heap.size + 1, 1, none⟩ (.int .i64 f)).setCell ⟨w.heap.size + 1, 2, none⟩ (.int .i64 wd)) :=
          ((((Turn.refl _ w7).setCell (p := ⟨w.heap.size, 0, none⟩) (.inl (.inl rfl)) _).setCell (p := ⟨w.heap.size + 1, 0, none⟩) (.inl (.inr rfl)) _).setCell (p := ⟨w.heap.size + 1, 1, none⟩) (.inl (.inr rfl)) _).setCell (p := ⟨w.heap.size + 1, 2, none⟩) (.inl (.inr rfl)) _
        have hs1 : ∀ i, ((S i ∧ i < w.heap.size) ∨ w.heap.size + 2 ≤ i) → ¬ (i = w.heap.size ∨ i = w.heap.size + 1) := fun i hi h => by omega
        have hlen : (setL rows news 0).length = k := by rw [setL_len (by rw [HNN.out]; omega)]; have := HNL.out; omega
        have j1 := own_turn J1.out hT (fun g hg h => by have := own_base J1.out g hg; have := W6.out.2.2.2; omega)
        obtain ⟨A9, c9, e9, -, -, s9⟩ := DRow.view j1
        refine ⟨A6, c6, Vd, by rw [hlen]; rfl, ?_, ⟨A9, c9, qs, e9, s9.mono fun _ _ => trivial, ((J2.out.next J4.out).turn hT hs1).mono fun _ _ => trivial, J3.out⟩, W7.out.put _ _ _ _⟩
        rw [hlen]
        exact ((H2.out.next J4.out).turn hT hs1).mono fun i hi => by
          rcases hi with hi | hi
          · exact .inl hi.1
          · exact .inr (by omega)
      · go_wp2_with (at_builtin; first
          | (refine wpList_appS infoR rfl (by decide) (by decide) Try.underlying29 rfl (.tmp 39) (.tmp 43) rfl wr.heap.size _ 0 [] rfl OE.out _ (some ad) p c (vs1.take p) rfl V1.out Q1.out O1.out L1.out LB.out ?_; intro v3 w3 hv3 hg3 hat3; have O3 := Lib.hid hv3; have W3 := Lib.hid (W1.out.grown OE.out (by decide) LW.out hg3); have Q2 := Lib.hid (S2.out.next W3.out.2.2.1); have LB3 := Lib.hid (Nat.le_trans LB.out hg3.size); clear hv3 hg3 hat3)
          | (refine wpList_appS infoR rfl (by decide) (by decide) Try.underlying29 rfl (.tmp 44) (.tmp 45) rfl wr.heap.size v3 (0 + p) ([] ++ vs1.take p) rfl O3.out _ AU k cU vs2 rfl V2.out Q2.out O2.out L2.out LB3.out ?_; intro v6 w6 hv6 hg6 hat6; obtain ⟨A6, c6, rfl, hq1, hq2, hq3⟩ := own_seq hv6 (by decide); clear hq1 hq2 hq3; have O6 := Lib.hid hv6; have W6 := Lib.hid (W3.out.grown O3.out (by decide) LW.out hg6); have LB6 := Lib.hid (Nat.le_trans LB3.out hg6.size); clear hv6 hg6 hat6; obtain ⟨x0, x1, x2⟩ := W6.out.cells))
        have h1 : RwsIn (fun b => (S b ∧ b < w.heap.size) ∨ w.heap.size + 2 ≤ b) w6 (.slice (some ad) N c) rows := by
          have h := (HR.out.next W6.out.2.2.1).mono (S' := fun b => (S b ∧ b < w.heap.size) ∨ w.heap.size + 2 ≤ b) (fun i hi => .inl hi)
          rw [HNN.out] at h
          exact h
        have h2 := rows_set (S1 := fun b => (S b ∧ b < w.heap.size) ∨ w.heap.size + 2 ≤ b) (rows := rows) (news := news) (p := p) (by rw [HNN.out]; omega) HV1.out HV2.out (fun i hi => .inr (Nat.le_trans HW.out.2.2.2 hi)) (q := 0 + p + k) (by have := HNL.out; omega) O6.out
          (fun t r hr => by obtain ⟨B, d, k1, k2, k3, k4⟩ := K1.out t r hr; exact ⟨B, d, k1, k2, k3, Seq.mono (Seq.next k4 W6.out.2.2.1) fun i hi => .inl hi⟩)
          (fun t r hr => by obtain ⟨B, d, k1, k2, k3, k4⟩ := K2.out t r hr; exact ⟨B, d, k1, k2, k3, Seq.mono (Seq.next k4 W6.out.2.2.1) fun i hi => .inl hi⟩)
        simp only [Nat.zero_add] at h2
        have CH := Lib.hid (changes_any _ _ _ rows news p w6 h1 h2 (by rw [HNN.out]; omega) (by rw [HNN.out]; omega) (by rw [HNL.out]; omega))
        have H2 := Lib.hid h2
        clear h1 h2 x0 x1 x2
        refine (CH.out).mono ?_
        rintro r7 w7 ⟨Vd, rfl, qs, k1, k2, k3, k4⟩
        have J1 := Lib.hid k1
        have J2 := Lib.hid k2
        have J3 := Lib.hid k3
        have J4 := Lib.hid k4
        have W7 := Lib.hid (W6.out.next k4)
        obtain ⟨x0, x1, x2⟩ := W7.out.cells
        obtain ⟨y0, y1, y2, f0, g0, g1, g2⟩ := W7.out.cells2
        clear k1 k2 k3 k4
        go_wp2
        refine bodyPost_ret (v := .tuple #[.agg #[.slice A6 (p + k) c6, .int .i64 f, .int .i64 wd], Vd, .int .i64 0]) (by simp [results, Try.results21, go_sem, y0, y1, y2]) rfl ?_
        have hT : Turn (fun b => b = w.heap.size ∨ b = w.heap.size + 1) w7 ((((w7.setCell ⟨w.heap.size, 0, none⟩ (.slice A6 (p + k) c6)).setCell ⟨w.heap.size + 1, 0, none⟩ (.slice A6 (p + k) c6)).setCell ⟨w.heap.size + 1, 1, none⟩ (.int .i64 f)).setCell ⟨w.heap.size + 1, 2, none⟩ (.int .i64 wd)) :=
          ((((Turn.refl _ w7).setCell (p := ⟨w.heap.size, 0, none⟩) (.inl (.inl rfl)) _).setCell (p := ⟨w.heap.size + 1, 0, none⟩) (.inl (.inr rfl)) _).setCell (p := ⟨w.heap.size + 1, 1, none⟩) (.inl (.inr rfl)) _).setCell (p := ⟨w.heap.size + 1, 2, none⟩) (.inl (.inr rfl)) _
        have hs1 : ∀ i, ((S i ∧ i < w.heap.size) ∨ w.heap.size + 2 ≤ i) → ¬ (i = w.heap.size ∨ i = w.heap.size + 1) := fun i hi h => by omega
        have hlen : (setL rows news p).length = (p + k) := by rw [setL_len (by rw [HNN.out]; omega)]; have := HNL.out; omega
        have j1 := own_turn J1.out hT (fun g hg h => by have := own_base J1.out g hg; have := W6.out.2.2.2; omega)
        obtain ⟨A9, c9, e9, -, -, s9⟩ := DRow.view j1
        refine ⟨A6, c6, Vd, by rw [hlen]; rfl, ?_, ⟨A9, c9, qs, e9, s9.mono fun _ _ => trivial, ((J2.out.next J4.out).turn hT hs1).mono fun _ _ => trivial, J3.out⟩, W7.out.put _ _ _ _⟩
        rw [hlen]
        exact ((H2.out.next J4.out).turn hT hs1).mono fun i hi => by
          rcases hi with hi | hi
          · exact .inl hi.1
          · exact .inr (by omega)
end Go.Proofs.Ytakoehgjgdcmmaa.Tp
