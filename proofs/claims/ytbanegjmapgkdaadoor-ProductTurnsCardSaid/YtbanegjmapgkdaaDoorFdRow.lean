/-
  What fold.Row, fold.folderBy, (fold.folder).row and riffleref08.Row answer; nothing that was there is written. Conditions: the table of traits holds what its text lays; the numbers are int64.
-/
import Derived.Test.YtbanegjmapgkdaaDoorPkX
import Derived.Test.YtbanegjmapgkdaaDoorPkY
import Derived.Test.YtbanegjmapgkdaaDoorPkC
import Derived.Deep.RegionHeld3
import Derived.Laws.EntriesVeiled
set_option maxRecDepth 100000
namespace Go.Proofs.YtbanegjmapgkdaaDoor.Fd
open Go.Proofs.YtbanegjmapgkdaaDoor.Sh
open Go.RowKit
set_option linter.unusedVariables false

def AllR (v : List Int) : Prop := ∀ x ∈ v, Sc.InR x
/-- Folded from the right to the left. -/
def foldI (c : Int) (s : Bool) : List Int → Int
  | [] => 0
  | [x] => x
  | x :: y :: l => Sc.doI c s x (foldI c s (y :: l))
theorem foldI_cons (c : Int) (s : Bool) (x : Int) {l : List Int} (h : 0 < l.length) : foldI c s (x :: l) = Sc.doI c s x (foldI c s l) := by
  cases l with
  | nil => simp at h
  | cons y t => rfl
theorem foldI_R (c : Int) (s : Bool) : ∀ l : List Int, AllR l → Sc.InR (foldI c s l)
  | [], _ => by unfold foldI Sc.InR; omega
  | [x], h => h x (by simp)
  | x :: y :: l, h => Sc.do_R c s x _ (h x (by simp)) (foldI_R c s (y :: l) fun z hz => h z (by simp at hz ⊢; right; exact hz))
theorem AllR.drop {l : List Int} (h : AllR l) (k : Nat) : AllR (l.drop k) := fun x hx => h x (List.mem_of_mem_drop hx)
theorem AllR.at {l : List Int} (h : AllR l) (k : Nat) : Sc.InR (l.getD k 0) := by
  rcases Nat.lt_or_ge k l.length with hk | hk
  · have : l.getD k 0 = l[k] := by simp [List.getD, hk]
    rw [this]; exact h _ (List.getElem_mem hk)
  · have : l.getD k 0 = 0 := by simp [List.getD, hk]
    rw [this]; unfold Sc.InR; omega
theorem drop_at {l : List Int} {k : Nat} (h : k < l.length) : l.drop k = l.getD k 0 :: l.drop (k + 1) := by
  rw [List.drop_eq_getElem_cons h]; simp [List.getD, h]
theorem fold_step (c : Int) (s : Bool) {l : List Int} {k : Nat} (h : k + 1 < l.length) : foldI c s (l.drop k) = Sc.doI c s (l.getD k 0) (foldI c s (l.drop (k + 1))) := by
  rw [drop_at (show k < l.length by omega), foldI_cons _ _ _ (by simp; omega)]
theorem fold_last (c : Int) (s : Bool) {l : List Int} {k : Nat} (h : k + 1 = l.length) : foldI c s (l.drop k) = l.getD k 0 := by
  rw [drop_at (show k < l.length by omega), List.drop_of_length_le (by omega)]; rfl
theorem keepFn {W w1 : World} {g : Nat} {x y : Value} (hb : Below W.heap.size W w1) (h : W.cell? ⟨g, 0, none⟩ = some x ∧ W.cell? ⟨g, 1, none⟩ = some y) : w1.cell? ⟨g, 0, none⟩ = some x ∧ w1.cell? ⟨g, 1, none⟩ = some y := by
  have hg : g < W.heap.size := by
    rcases Nat.lt_or_ge g W.heap.size with hlt | hge
    · exact hlt
    · exfalso
      have := h.1
      unfold World.cell? at this
      rw [Array.getElem?_eq_none hge] at this; simp at this
  exact ⟨(hb.cell (p := ⟨g, 0, none⟩) hg).trans h.1, (hb.cell (p := ⟨g, 1, none⟩) hg).trans h.2⟩
theorem keepC {W w1 : World} {p : Addr} {x : Value} (hb : Below W.drew.heap.size W.drew w1) (h : W.cell? p = some x) : w1.cell? p = some x := (hb.cell (p := p) (World.block_lt_of_cell? W p h)).trans h
/-- A function api.Fn lies in a box. -/
def FnAt (w : World) (g : Nat) (c : Int) (s : Bool) : Prop := w.cell? ⟨g, 0, none⟩ = some (.int .i64 c) ∧ w.cell? ⟨g, 1, none⟩ = some (.bool s)
theorem FnAt.far {w : World} {g : Nat} {c : Int} {s : Bool} (h : FnAt w g c s) {p : Addr} (hp : g ≠ p.block) (u : Value) : FnAt (w.setCell p u) g c s :=
  ⟨(World.cell?_setCell_other _ _ _ _ (fun e => by first | exact hp (congrArg Addr.block e) | exact hp (congrArg Addr.block e).symm)).trans h.1, (World.cell?_setCell_other _ _ _ _ (fun e => by first | exact hp (congrArg Addr.block e) | exact hp (congrArg Addr.block e).symm)).trans h.2⟩
theorem FnAt.below {w w' : World} {g : Nat} {c : Int} {s : Bool} (h : FnAt w g c s) (hb : Below w.heap.size w w') : FnAt w' g c s := keepFn hb h

set_option maxHeartbeats 1000000 in
theorem join1_any (c : Int) (s : Bool) (a b : Int) (g : Nat) (w : World) (hT : Sc.Tab w) (hf : FnAt w g c s) (ha : Sc.InR a) (hb : Sc.InR b) :
    Calls Tryd.prog 93 #[.int .i64 a, .int .i64 b, .pointer (some ⟨g, 0, none⟩)] w fun e w' => e = .returned (.int .i64 (Sc.doI c s a b)) ∧ Below w.heap.size w w' := by
  obtain ⟨q0, q1⟩ := hf
  go_enter Tryd.func93, Tryd.ntmps93
  go_wp2_with fail
  refine (Sc.do_any c s a b _ hT ha hb).mono ?_
  rintro r w1 ⟨rfl, hb⟩
  go_wp2
  go_ret
  exact ⟨rfl, hb⟩

/-- A block with just these words. -/
def Bx (t : TypeId) (w : World) (g : Nat) (xs : Array Value) : Prop := w.heap[g]? = some (.cells xs t (0, 0))
section
variable {t : TypeId} {w w' : World} {g : Nat} {xs : Array Value}
theorem Bx.lt (h : Bx t w g xs) : g < w.heap.size := by
  rcases Nat.lt_or_ge g w.heap.size with hlt | hge
  · exact hlt
  · unfold Bx at h; rw [Array.getElem?_eq_none hge] at h; cases h
theorem Bx.new (t : TypeId) (w : World) (xs : Array Value) : Bx t (w.alloc (.cells xs t)) w.heap.size xs := heap_alloc_new w _
theorem Bx.c (h : Bx t w g xs) (i : Nat) : w.cell? ⟨g, i, none⟩ = xs[i]? := by rw [cell_of_row w g i _ _ _ h]
theorem Bx.f (h : Bx t w g xs) (i : Nat) : w.frozen? ⟨g, i, none⟩ = false := by unfold Bx at h; simp [World.frozen?, h]
theorem Bx.drewN (h : Bx t w g xs) (n : Nat) : Bx t (w.drewN n) g xs := h
theorem Bx.drew (h : Bx t w g xs) : Bx t w.drew g xs := h
theorem Bx.alloc (h : Bx t w g xs) (o : Obj) : Bx t (w.alloc o) g xs := (Below.heap_alloc w o g h.lt).trans h
theorem Bx.next (h : Bx t w g xs) (hb : Below w.heap.size w w') : Bx t w' g xs := (hb.block g h.lt).trans h
theorem Bx.far (h : Bx t w g xs) {p : Addr} (hp : g ≠ p.block) (u : Value) : Bx t (w.setCell p u) g xs := (Below.heap_setCell w p u g hp).trans h
end
section
variable {w : World} {g : Nat} {x y z : Value} {t : TypeId}
theorem bx3 (h : Bx t w g #[x, y, z]) : w.cell? ⟨g, 0, none⟩ = some x ∧ w.cell? ⟨g, 1, none⟩ = some y ∧ w.cell? ⟨g, 2, none⟩ = some z ∧ w.frozen? ⟨g, 0, none⟩ = false ∧ w.frozen? ⟨g, 1, none⟩ = false ∧ w.frozen? ⟨g, 2, none⟩ = false := ⟨h.c 0, h.c 1, h.c 2, h.f 0, h.f 1, h.f 2⟩
theorem bx3_set (h : Bx t w g #[x, y, z]) (a b d : Value) : Bx t (((w.setCell ⟨g, 0, none⟩ a).setCell ⟨g, 1, none⟩ b).setCell ⟨g, 2, none⟩ d) g #[a, b, d] := by
  unfold Bx at h ⊢
  simp [World.setCell, Array.getElem?_modify, h]
theorem bx2 (h : Bx t w g #[x, y]) : w.cell? ⟨g, 0, none⟩ = some x ∧ w.cell? ⟨g, 1, none⟩ = some y := ⟨h.c 0, h.c 1⟩
end
def RetFd (w : World) (c : Int) (s : Bool) (e : Ending) (w' : World) : Prop := ∃ g, e = .returned (.tuple #[.agg #[.func (.func 93) #[] #[.pointer (some ⟨g, 0, none⟩)], .int .i64 (Sc.trOf c).unit, .bool (Sc.trOf c).starts], .bool true]) ∧ FnAt w' g c s ∧ w.heap.size ≤ g ∧ Below w.heap.size w w'
set_option maxHeartbeats 2000000 in
theorem folderBy_no (c : Int) (s : Bool) (w : World) (hT : Sc.Tab w) (h : Sc.hasB c 2 = false) :
    Calls Tryd.prog 76 #[.agg #[.int .i64 c, .bool s]] w fun e w' => e = .returned (.tuple #[.agg #[.nilFunc, .int .i64 0, .bool false], .bool false]) ∧ Below w.heap.size w w' := by
  have L := Lib.hid (below_next (below_new w (.cells #[.int .i64 c, .bool s] 23)) (below_new _ (.cells #[.nilFunc, .int .i64 0, .bool false] 105)))
  have hs : (w.alloc (.cells #[.int .i64 c, .bool s] 23)).heap.size = w.heap.size + 1 := by simp
  have BF := Lib.hid (Bx.new 105 (w.alloc (.cells #[.int .i64 c, .bool s] 23)) #[.nilFunc, .int .i64 0, .bool false])
  rw [hs] at BF
  have T := Lib.hid (hT.below L.out)
  clear hT hs
  go_enter Tryd.func76, Tryd.ntmps76
  go_wp2_with fail
  refine (Sc.has_b c 2 false _ h T.out).mono ?_
  rintro r w1 ⟨rfl, hb⟩
  replace BF := Lib.hid (BF.out.next hb)
  replace L := Lib.hid (below_next L.out hb)
  obtain ⟨q0, q1, q2, f0, f1, f2⟩ := bx3 BF.out
  clear hb
  go_wp2
  obtain ⟨t0, t1, t2, _, _, _⟩ := bx3 (bx3_set BF.out .nilFunc (.int .i64 0) (.bool false))
  refine bodyPost_ret (v := .tuple #[.agg #[.nilFunc, .int .i64 0, .bool false], .bool false]) (by simp [results, Tryd.results76, go_sem, t0, t1, t2]) rfl ?_
  exact ⟨rfl, ((L.out.setCell (by simp) _).setCell (by simp) _).setCell (by simp) _⟩
set_option maxHeartbeats 2000000 in
theorem folderBy_yes (c : Int) (s : Bool) (w : World) (hT : Sc.Tab w) (h : Sc.hasB c 2 = true) :
    Calls Tryd.prog 76 #[.agg #[.int .i64 c, .bool s]] w (RetFd w c s) := by
  have L := Lib.hid (below_next (below_new w (.cells #[.int .i64 c, .bool s] 23)) (below_new _ (.cells #[.nilFunc, .int .i64 0, .bool false] 105)))
  have hs : (w.alloc (.cells #[.int .i64 c, .bool s] 23)).heap.size = w.heap.size + 1 := by simp
  have BN := Lib.hid ((Bx.new 23 w #[.int .i64 c, .bool s]).alloc (.cells #[.nilFunc, .int .i64 0, .bool false] 105))
  have BF := Lib.hid (Bx.new 105 (w.alloc (.cells #[.int .i64 c, .bool s] 23)) #[.nilFunc, .int .i64 0, .bool false])
  rw [hs] at BF
  have T := Lib.hid (hT.below L.out)
  clear hT hs
  go_enter Tryd.func76, Tryd.ntmps76
  go_wp2_with fail
  refine (Sc.has_b c 2 true _ h T.out).mono ?_
  rintro r w1 ⟨rfl, hb⟩
  replace BF := Lib.hid (BF.out.next hb)
  replace BN := Lib.hid (BN.out.next hb)
  replace L := Lib.hid (below_next L.out hb)
  replace T := Lib.hid (T.out.below hb)
  obtain ⟨n0, n1⟩ := bx2 BN.out
  clear hb
  go_wp2_with fail
  refine (Sc.unit_any c _ T.out).mono ?_
  rintro r w2 ⟨rfl, hb⟩
  replace BF := Lib.hid (BF.out.next hb)
  replace BN := Lib.hid (BN.out.next hb)
  replace L := Lib.hid (below_next L.out hb)
  clear hb n0 n1 T
  obtain ⟨q0, q1, q2, f0, f1, f2⟩ := bx3 BF.out
  go_wp2
  obtain ⟨t0, t1, t2, _, _, _⟩ := bx3 (bx3_set BF.out (.func (.func 93) #[] #[.pointer (some ⟨w.heap.size, 0, none⟩)]) (.int .i64 (Sc.trOf c).unit) (.bool (Sc.trOf c).starts))
  refine bodyPost_ret (v := .tuple #[.agg #[(.func (.func 93) #[] #[.pointer (some ⟨w.heap.size, 0, none⟩)]), .int .i64 (Sc.trOf c).unit, .bool (Sc.trOf c).starts], .bool true]) (by simp [results, Tryd.results76, go_sem, t0, t1, t2]) rfl ?_
  refine ⟨w.heap.size, rfl, ?_, Nat.le_refl _, ((L.out.setCell (by simp) _).setCell (by simp) _).setCell (by simp) _⟩
  exact bx2 (((BN.out.far (p := ⟨w.heap.size + 1, 0, none⟩) (by simp) _).far (p := ⟨w.heap.size + 1, 1, none⟩) (by simp) _).far (p := ⟨w.heap.size + 1, 2, none⟩) (by simp) _)
/-- What a folder makes of numbers. -/
def rowI (c : Int) (s : Bool) (l : List Int) : Int := if l.length = 0 then (Sc.trOf c).unit else foldI c s l
def rowK (c : Int) (l : List Int) : Bool := if l.length = 0 then (Sc.trOf c).starts else true
set_option maxHeartbeats 4000000 in
theorem row_any (c : Int) (s : Bool) (g : Nat) (A : Option Addr) (cap : Nat) (l : List Int) (w : World) (hT : Sc.Tab w) (hf : FnAt w g c s) (hl : l.length ≤ 1000) (hR : AllR l) (hi : Ints w A l) :
    Calls Tryd.prog 77 #[.agg #[.func (.func 93) #[] #[.pointer (some ⟨g, 0, none⟩)], .int .i64 (Sc.trOf c).unit, .bool (Sc.trOf c).starts], .slice A l.length cap] w fun e w' => e = .returned (.tuple #[.int .i64 (rowI c s l), .bool (rowK c l)]) ∧ Below w.heap.size w w' := by
  have L := Lib.hid (below_new w (.cells #[(.func (.func 93) #[] #[.pointer (some ⟨g, 0, none⟩)]), .int .i64 (Sc.trOf c).unit, .bool (Sc.trOf c).starts] 105))
  have BF := Lib.hid (Bx.new 105 w #[(.func (.func 93) #[] #[.pointer (some ⟨g, 0, none⟩)]), .int .i64 (Sc.trOf c).unit, .bool (Sc.trOf c).starts])
  have T := Lib.hid (hT.below L.out)
  have FN := Lib.hid (hf.below L.out)
  have I := Lib.hid (hi.below L.out)
  clear hT hf hi
  obtain ⟨q0, q1, q2, -, -, -⟩ := bx3 BF.out
  by_cases h0 : l.length = 0
  · obtain rfl := List.eq_nil_of_length_eq_zero h0
    go_enter Tryd.func77, Tryd.ntmps77
    go_upto_region 2 with (fail)
    go_region_held3 (fun w' => w'.cell? ⟨w.heap.size, 1, none⟩ = some (.int .i64 (Sc.trOf c).unit) ∧ w'.cell? ⟨w.heap.size, 2, none⟩ = some (.bool (Sc.trOf c).starts))
      (go_keep)
      (fail)
    go_wp2
    go_ret2
    exact ⟨by simp [rowI, rowK], L.out.drew⟩
  obtain ⟨m, hm⟩ : ∃ m, m + 1 = l.length := ⟨l.length - 1, by omega⟩
  have hz : ((l.length : Int) == 0) = false := by simp; intro h; rw [h] at h0; simp at h0
  have HI := Lib.hid (show rowI c s l = foldI c s (l.drop 0) by unfold rowI; rw [if_neg h0]; rfl)
  have HK := Lib.hid (show rowK c l = true by unfold rowK; rw [if_neg h0])
  rw [HI.out, HK.out]
  have HF := Lib.hid (fold_last c s hm)
  obtain ⟨b, off, rfl, hbb, hcs⟩ := I.out (by omega)
  have hm0 : (0 : Int) ≤ (l.length : Int) - 1 := by omega
  have hm1 : (l.length : Int) - 1 < (l.length : Int) := by omega
  have hlast := hcs m (by omega)
  rw [← HF.out] at hlast
  have e1 : ((l.length : Int) - 1).toNat = m := by omega
  go_enter Tryd.func77, Tryd.ntmps77
  go_wp2
  generalize hW1 : w.alloc (.cells #[.func (.func 93) #[] #[.pointer (some ⟨g, 0, none⟩)], .int .i64 (Sc.trOf c).unit, .bool (Sc.trOf c).starts] 105) = W1 at *
  clear hW1
  have HR := Lib.hid hR
  clear hlast hcs q0 q1 q2 hR
  go_loopw [7, 8] (fun x j wr => ∃ k : Nat, k < l.length ∧ j = .int .i64 ((k : Int) - 1) ∧ x = .int .i64 (foldI c s (l.drop k)) ∧ Below W1.heap.size W1 wr) (fun _ j _ => (intOf j + 1).toNat)
  case atStart => exact ⟨m, by omega, by go_num, rfl, Below.refl _ _⟩
  case round =>
    obtain ⟨k, hk, rfl, rfl, hb⟩ := hrel
    have BFr := Lib.hid (BF.out.next hb)
    have Tr := Lib.hid (T.out.below hb)
    have FNr := Lib.hid (FN.out.below hb)
    have Ir := Lib.hid (I.out.below hb)
    have Lr := Lib.hid (below_next L.out hb)
    have LW := Lib.hid hb
    clear hb
    by_cases hk0 : k = 0
    · subst hk0
      have hg : decide ((0 : Int) ≤ ((0 : Nat) : Int) - 1) = false := by simp
      go_wp2
      go_ret2
      exact ⟨rfl, Lr.out⟩
    · obtain ⟨j, rfl⟩ : ∃ j, k = j + 1 := ⟨k - 1, by omega⟩
      have HS := Lib.hid (fold_step c s (l := l) (k := j) (by omega))
      have hgx : ((j + 1 : Nat) : Int) - 1 = (j : Int) := by omega
      rw [hgx]
      have i0 : (0 : Int) ≤ (j : Int) := by omega
      have i1 : (j : Int) < (l.length : Int) := by omega
      obtain ⟨b', off', hbo, -, hcs⟩ := Ir.out (by omega)
      injection hbo with hbo
      injection hbo with h1 h2
      subst h1 h2
      have hcj := hcs j (by omega)
      obtain ⟨q0, -, -, -, -, -⟩ := bx3 BFr.out
      have CM := Lib.hid (join1_any c s (l.getD j 0) (foldI c s (l.drop (j + 1))) g wr.drew (Tr.out.below (Below.refl _ _).drew) (FNr.out.below (Below.refl _ _).drew) (HR.out.at j) (foldI_R c s _ (HR.out.drop (j + 1))))
      rw [← HS.out] at CM
      clear hcs hgx
      generalize l.getD j 0 = y at *
      generalize foldI c s (l.drop (j + 1)) = z at *
      go_upto_region 8 with (fail)
      go_region_held3 (fun w' => w'.cell? ⟨w.heap.size, 0, none⟩ = some (.func (.func 93) #[] #[.pointer (some ⟨g, 0, none⟩)]) ∧ w'.cell? ⟨b, off + j, none⟩ = some (.int .i64 y))
        (first
          | with_reducible exact KK.out
          | go_keep)
        (first
          | (go_at_call 93; (with_reducible refine (CM.out).mono ?_); rintro r w1 ⟨rfl, hb1⟩; have KK := Lib.hid (show w1.cell? ⟨w.heap.size, 0, none⟩ = some (.func (.func 93) #[] #[.pointer (some ⟨g, 0, none⟩)]) ∧ w1.cell? ⟨b, off + j, none⟩ = some (.int .i64 y) from ⟨keepC hb1 q0, keepC hb1 hcj⟩)))
      go_wp2
      go_roundw
      case rel => exact ⟨j, by omega, by go_num, rfl, below_next LW.out.drew hb1⟩
      case measure => simp [intOf]

def rowV (c : Int) (s : Bool) (l : List Int) : Int := if Sc.hasB c 2 = true then rowI c s l else 0
def rowB (c : Int) (l : List Int) : Bool := if Sc.hasB c 2 = true then rowK c l else false
set_option maxHeartbeats 2000000 in
theorem Row_any (c : Int) (s : Bool) (A : Option Addr) (cap : Nat) (l : List Int) (w : World) (hT : Sc.Tab w) (hl : l.length ≤ 1000) (hR : AllR l) (hi : Ints w A l) :
    Calls Tryd.prog 39 #[.agg #[.int .i64 c, .bool s], .slice A l.length cap] w fun e w' => e = .returned (.tuple #[.int .i64 (rowV c s l), .bool (rowB c l)]) ∧ Below w.heap.size w w' := by
  have L := Lib.hid (below_new w (.cells #[.int .i64 c, .bool s] 23))
  have BN := Lib.hid (Bx.new 23 w #[.int .i64 c, .bool s])
  have T := Lib.hid (hT.below L.out)
  have I := Lib.hid (hi.below L.out)
  clear hT hi
  obtain ⟨q0, q1⟩ := bx2 BN.out
  by_cases hh : Sc.hasB c 2 = true
  rotate_left
  · have HV := Lib.hid (show rowV c s l = 0 ∧ rowB c l = false by unfold rowV rowB; rw [if_neg hh, if_neg hh]; exact ⟨rfl, rfl⟩)
    rw [HV.out.1, HV.out.2]
    go_enter Tryd.func39, Tryd.ntmps39
    go_wp2_with fail
    refine (folderBy_no c s _ T.out (by simpa using hh)).mono ?_
    rintro r w1 ⟨rfl, hb⟩
    replace L := Lib.hid (below_next L.out hb)
    replace L := Lib.hid (below_next L.out (below_new w1 (.cells #[.nilFunc, .int .i64 0, .bool false] 105)))
    clear hb q0 q1
    go_wp2
    go_ret2
    exact ⟨rfl, L.out⟩
  have HV := Lib.hid (show rowV c s l = rowI c s l ∧ rowB c l = rowK c l by unfold rowV rowB; rw [if_pos hh, if_pos hh]; exact ⟨rfl, rfl⟩)
  rw [HV.out.1, HV.out.2]
  go_enter Tryd.func39, Tryd.ntmps39
  go_wp2_with fail
  refine (folderBy_yes c s _ T.out hh).mono ?_
  rintro r w1 ⟨g, rfl, hf, -, hb⟩
  have KB := Lib.hid (below_new w1 (.cells #[.func (.func 93) #[] #[.pointer (some ⟨g, 0, none⟩)], .int .i64 (Sc.trOf c).unit, .bool (Sc.trOf c).starts] 105))
  have BF := Lib.hid (Bx.new 105 w1 #[.func (.func 93) #[] #[.pointer (some ⟨g, 0, none⟩)], .int .i64 (Sc.trOf c).unit, .bool (Sc.trOf c).starts])
  replace L := Lib.hid (below_next (below_next L.out hb) KB.out)
  replace T := Lib.hid ((T.out.below hb).below KB.out)
  replace I := Lib.hid ((I.out.below hb).below KB.out)
  have FN := Lib.hid (hf.below KB.out)
  clear hb hf q0 q1 KB
  obtain ⟨q0, q1, q2, -, -, -⟩ := bx3 BF.out
  go_wp2_with fail
  refine (row_any c s g _ _ l _ T.out FN.out hl hR I.out).mono ?_
  rintro r w2 ⟨rfl, hb⟩
  replace L := Lib.hid (below_next L.out hb)
  clear hb q0 q1 q2
  go_wp2
  go_ret2
  exact ⟨rfl, L.out⟩
theorem two_has {c : Int} (h : Sc.hasB c 2 = true) : Sc.twoB c = true := by
  unfold Sc.twoB
  by_cases h1 : 1 ≤ c ∧ c ≤ 18
  · simp [h1.1, h1.2]
  · rw [Sc.has2_out (by omega)] at h; cases h
theorem Ints.tail {w : World} {b off : Nat} {x : Int} {l : List Int} (h : Ints w (some ⟨b, off, none⟩) (x :: l)) : Ints w (some ⟨b, off + 1, none⟩) l := by
  intro h0
  obtain ⟨b', o', e, h1, h2⟩ := h (by simp)
  injection e with e
  injection e with e1 e2
  subst e1 e2
  refine ⟨b, off + 1, rfl, h1, fun i hi => ?_⟩
  have := h2 (i + 1) (by simp; omega)
  rw [show off + 1 + i = off + (i + 1) by omega]
  simpa using this
set_option maxHeartbeats 4000000 in
theorem RRow_any (c : Int) (s : Bool) : ∀ (l : List Int) (A : Option Addr) (cap : Nat) (w : World) (hl : l.length ≤ 1000) (hc : l.length ≤ cap) (hcm : cap ≤ maxLen) (hR : AllR l) (hi : Ints w A l),
    Calls Tryd.prog 47 #[.agg #[.int .i64 c, .bool s], .slice A l.length cap] w fun e w' => e = .returned (.tuple #[.int .i64 (rowV c s l), .bool (rowB c l)]) ∧ Below w.heap.size w w' := by
  intro l
  induction l with
  | nil =>
    intro A cap w hl hc hcm hR hi
    have L := Lib.hid (below_new w (.cells #[.int .i64 c, .bool s] 23))
    obtain ⟨q0, q1⟩ := bx2 (Bx.new 23 w #[.int .i64 c, .bool s])
    by_cases hh : Sc.hasB c 2 = true
    · have HV := Lib.hid (show rowV c s [] = (Sc.trOf c).unit ∧ rowB c [] = (Sc.trOf c).starts by unfold rowV rowB; rw [if_pos hh, if_pos hh]; exact ⟨rfl, rfl⟩)
      rw [HV.out.1, HV.out.2]
      have HH := Lib.hid (Sc.rhas_any c 2)
      rw [hh] at HH
      go_enter Tryd.func47, Tryd.ntmps47
      go_wp2_with fail
      refine (HH.out _).mono ?_
      rintro r w1 ⟨rfl, rfl⟩
      go_wp2_with fail
      refine (Sc.runit_any c _).mono ?_
      rintro r w2 ⟨rfl, hb⟩
      replace L := Lib.hid (below_next L.out hb)
      clear hb q0 q1
      go_wp2
      go_ret2
      exact ⟨rfl, L.out⟩
    · have HV := Lib.hid (show rowV c s [] = 0 ∧ rowB c [] = false by unfold rowV rowB; rw [if_neg hh, if_neg hh]; exact ⟨rfl, rfl⟩)
      rw [HV.out.1, HV.out.2]
      have HH := Lib.hid (Sc.rhas_any c 2)
      rw [show Sc.hasB c 2 = false by simpa using hh] at HH
      go_enter Tryd.func47, Tryd.ntmps47
      go_wp2_with fail
      refine (HH.out _).mono ?_
      rintro r w1 ⟨rfl, rfl⟩
      go_wp2
      go_ret2
      exact ⟨rfl, L.out⟩
  | cons x t ih =>
    intro A cap w hl hc hcm hR hi
    have L := Lib.hid (below_new w (.cells #[.int .i64 c, .bool s] 23))
    have BN := Lib.hid (Bx.new 23 w #[.int .i64 c, .bool s])
    have I := Lib.hid (hi.below L.out)
    obtain ⟨q0, q1⟩ := bx2 BN.out
    by_cases hh : Sc.hasB c 2 = true
    rotate_left
    · have HV := Lib.hid (show rowV c s (x :: t) = 0 ∧ rowB c (x :: t) = false by unfold rowV rowB; rw [if_neg hh, if_neg hh]; exact ⟨rfl, rfl⟩)
      rw [HV.out.1, HV.out.2]
      have HH := Lib.hid (Sc.rhas_any c 2)
      rw [show Sc.hasB c 2 = false by simpa using hh] at HH
      clear ih
      go_enter Tryd.func47, Tryd.ntmps47
      go_wp2_with fail
      refine (HH.out _).mono ?_
      rintro r w1 ⟨rfl, rfl⟩
      go_wp2
      go_ret2
      exact ⟨rfl, L.out⟩
    have HV := Lib.hid (show rowV c s (x :: t) = foldI c s (x :: t) ∧ rowB c (x :: t) = true by unfold rowV rowB; rw [if_pos hh, if_pos hh]; exact ⟨rfl, rfl⟩)
    rw [HV.out.1, HV.out.2]
    have HH := Lib.hid (Sc.rhas_any c 2)
    rw [hh] at HH
    obtain ⟨b, off, rfl, hbb, hcs⟩ := I.out (by simp)
    have hc0 := hcs 0 (by simp)
    rw [show (x :: t).getD 0 0 = x from rfl, Nat.add_zero] at hc0
    clear hcs
    by_cases h1 : t.length = 0
    · obtain rfl := List.eq_nil_of_length_eq_zero h1
      rw [show foldI c s [x] = x from rfl]
      clear ih
      go_enter Tryd.func47, Tryd.ntmps47
      go_wp2_with fail
      refine (HH.out _).mono ?_
      rintro r w1 ⟨rfl, rfl⟩
      go_wp2
      go_ret2
      exact ⟨rfl, L.out⟩
    have HF := Lib.hid (foldI_cons c s x (l := t) (by omega))
    have HW := Lib.hid (show rowV c s t = foldI c s t by unfold rowV rowI; rw [if_pos hh, if_neg h1])
    obtain ⟨n, hn⟩ : ∃ n, t.length = n := ⟨_, rfl⟩
    have hx : ((((x :: t).length : Nat) : Int) == 1) = false := by simp; intro h; omega
    have CR := Lib.hid (fun W (hI : Ints W (some ⟨b, off + 1, none⟩) t) => ih (some ⟨b, off + 1, none⟩) (cap - 1) W (by simp at hl; omega) (by simp at hc; omega) (by omega) (fun z hz => hR z (by simp [hz])) hI)
    have CD := Lib.hid (fun W => Sc.rdo_any c s x (foldI c s t) W (hR x (by simp)) (foldI_R c s t fun z hz => hR z (by simp [hz])))
    rw [← HF.out] at CD
    rw [two_has hh] at CD
    rw [HW.out] at CR
    have IT := Lib.hid (Ints.tail I.out)
    clear ih hi hR
    go_enter Tryd.func47, Tryd.ntmps47
    go_wp2_with fail
    refine (HH.out _).mono ?_
    rintro r w1 ⟨rfl, rfl⟩
    go_upto_region 7 with (fail)
    generalize hW0 : w.alloc (.cells #[.int .i64 c, .bool s] 23) = W0 at *
    clear hW0
    rw [hn] at CR
    have s1 : (1 : Int) ≤ (n : Int) + 1 := by omega
    have s2 : (n : Int) + 1 ≤ (cap : Int) := by simp at hc; omega
    have s3 : ¬ cap = 1 := by simp at hc; omega
    have WD := Lib.hid ((Below.refl W0.heap.size W0).drew)
    go_region_held3 (fun w' => w'.cell? ⟨w.heap.size, 0, none⟩ = some (.int .i64 c) ∧ w'.cell? ⟨w.heap.size, 1, none⟩ = some (.bool s))
      (first
        | with_reducible exact KK.out
        | go_keep)
      (first
        | (go_at_call 47; (with_reducible refine (CR.out _ (IT.out.below WD.out)).mono ?_); rintro r w2 ⟨rfl, hb⟩; have KK := Lib.hid (show w2.cell? ⟨w.heap.size, 0, none⟩ = some (.int .i64 c) ∧ w2.cell? ⟨w.heap.size, 1, none⟩ = some (.bool s) from ⟨keepC hb q0, keepC hb q1⟩)))
    obtain ⟨k0, k1⟩ := KK.out
    have hd0 := keepC hb hc0
    replace L := Lib.hid (below_next (below_next L.out WD.out) hb)
    clear hb q0 q1 hc0
    go_upto_region 8 with (fail)
    go_region_held3 (fun w' => w'.cell? ⟨w.heap.size, 0, none⟩ = some (.int .i64 c) ∧ w'.cell? ⟨w.heap.size, 1, none⟩ = some (.bool s) ∧ w'.cell? ⟨b, off, none⟩ = some (.int .i64 x))
      (first
        | with_reducible exact KK3.out
        | go_keep)
      (first
        | (go_at_call 46; (with_reducible refine (CD.out _).mono ?_); rintro r w3 ⟨rfl, hb⟩; have KK3 := Lib.hid (show w3.cell? ⟨w.heap.size, 0, none⟩ = some (.int .i64 c) ∧ w3.cell? ⟨w.heap.size, 1, none⟩ = some (.bool s) ∧ w3.cell? ⟨b, off, none⟩ = some (.int .i64 x) from ⟨keepC hb k0, keepC hb k1, keepC hb hd0⟩)))
    replace L := Lib.hid (below_next L.out.drew hb)
    go_wp2
    go_ret2
    exact ⟨rfl, L.out⟩
end Go.Proofs.YtbanegjmapgkdaaDoor.Fd
