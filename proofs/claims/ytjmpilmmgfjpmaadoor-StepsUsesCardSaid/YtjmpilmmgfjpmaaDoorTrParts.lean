/-
  Layer 18, tree: parts, parted and slices.EqualFunc over the functions that tell kinds. Condition: each part is a node.
-/
import Derived.Test.YtjmpilmmgfjpmaaDoorTrSmall
set_option maxRecDepth 100000
namespace Go.Proofs.YtjmpilmmgfjpmaaDoor.Tr
open Go.Proofs.YtjmpilmmgfjpmaaDoor.Sh Go.Proofs.YtjmpilmmgfjpmaaDoor.St
open Go.RowKit
set_option linter.unusedVariables false

/-- Which kinds a part may be: 0 a value, 1 a function, 2 a tine. -/
def mayB (j : Nat) (k : Int) : Bool := if j = 0 then valI k else if j = 1 then funI k else tineB k
def mayF (j : Nat) : FuncId := if j = 0 then 66 else if j = 1 then 15 else 87
def fv (j : Nat) : Value := .func (.func (mayF j)) #[] #[]
theorem may_b (j : Nat) (k : Int) (b : Bool) (w : World) (h : mayB j k = b) : Calls Tryd.prog (mayF j) #[.int .i64 k] w fun e w' => e = .returned (.bool b) ∧ w = w' := by
  unfold mayB at h
  unfold mayF
  by_cases h0 : j = 0
  · rw [if_pos h0] at h ⊢; exact value_b k b w h
  · rw [if_neg h0] at h ⊢
    by_cases h1 : j = 1
    · rw [if_pos h1] at h ⊢; exact function_b k b w h
    · rw [if_neg h1] at h ⊢; exact tine_b k b w h
theorem may_enter (j : Nat) (args : Array Value) (W : World) : Sem.run Tryd.prog (callFunc (mayF j) args) W = .ok (.enter (mayF j) args) W := by
  unfold mayF
  repeat' split
  all_goals rfl
def kindAt (qs : List Nq) (i : Int) : Int := match qs[i.toNat]? with
  | some q => q.n.kind
  | none => 0
def InR (n : Nat) (i : Int) : Prop := 0 ≤ i ∧ i < (n : Int)
set_option maxHeartbeats 2000000 in
theorem parted1_b (j : Nat) (i : Int) (g : Nat) (A : Option Addr) (c : Nat) (qs : List Nq) (b : Bool) (w : World) (hi : InR qs.length i) (hn : Nodes w A qs) (hg : Bk 23 w g [.slice A qs.length c]) (hb : mayB j (kindAt qs i) = b) :
    Calls Tryd.prog 77 #[fv j, .int .i64 i, .pointer (some ⟨g, 0, none⟩)] w (RetBl b w) := by
  obtain ⟨k, rfl⟩ : ∃ k : Nat, i = (k : Int) := ⟨i.toNat, by have := hi.1; omega⟩
  have hk : k < qs.length := by have := hi.2; omega
  obtain ⟨q, hq⟩ : ∃ q, qs[k]? = some q := ⟨_, List.getElem?_eq_getElem hk⟩
  have hkd : kindAt qs (k : Int) = q.n.kind := by unfold kindAt; rw [show ((k : Int)).toNat = k by simp, hq]
  rw [hkd] at hb
  obtain ⟨b0, o0, rfl, hb0, ⟨c0, c1, c2, c3, c4, c5⟩, hin⟩ := hn.at_ hq
  have x0 := hg.c 0
  simp only [List.getElem?_cons_zero] at x0
  have HM := Lib.hid (fun W => may_b j q.n.kind b W hb)
  have HE := Lib.hid (fun args W => may_enter j args W)
  have i0 : (0 : Int) ≤ (k : Int) := by omega
  have i1 : (k : Int) < (qs.length : Int) := by omega
  clear hb hkd hq c1 c2 c3 c4 c5 hin hn hg hi hb0
  generalize q.n.kind = kd at *
  generalize qs.length = n at *
  unfold fv
  generalize mayF j = F at *
  go_enter Tryd.func77, Tryd.ntmps77
  go_wp2_with fail
  rw [HE.out, Oper.upon_enter]
  refine (HM.out _).mono ?_
  rintro e w1 ⟨rfl, rfl⟩
  go_wp2
  go_ret
  exact ⟨rfl, Below.refl _ _⟩
def partsL (k : Int) : List Nat := if k = 3 then [1, 0] else if k = 4 then [0, 1, 0] else if k = 7 ∨ k = 8 ∨ k = 10 then [1] else if k = 9 ∨ k = 12 then [1, 1] else if k = 11 then [2, 1, 1] else []
def RetFs (js : List Nat) (w : World) (e : Ending) (w' : World) : Prop := ∃ A c, e = .returned (.slice A js.length c) ∧ Seq (fun _ => True) w' A (js.map fv) ∧ Below w.heap.size w w'
set_option maxHeartbeats 2000000 in
theorem parts_any (k : Int) (w : World) : Calls Tryd.prog 76 #[.int .i64 k] w (RetFs (partsL k) w) := by
  have new : ∀ xs : List Value, Seq (fun _ => True) (w.alloc (.cells xs.toArray 42)) (some ⟨w.heap.size, 0, none⟩) xs := fun xs _ => ⟨w.heap.size, 0, rfl, trivial, by simp, fun j x hx => by
    rw [Nat.zero_add]; exact (Bk.c (Bk.new 42 w xs) j).trans hx⟩
  have NW := Lib.hid new
  clear new
  rcases (show k = 3 ∨ k = 4 ∨ k = 7 ∨ k = 8 ∨ k = 10 ∨ k = 9 ∨ k = 12 ∨ k = 11 ∨ (k ≠ 3 ∧ k ≠ 4 ∧ k ≠ 7 ∧ k ≠ 8 ∧ k ≠ 10 ∧ k ≠ 9 ∧ k ≠ 12 ∧ k ≠ 11) by omega) with rfl | rfl | rfl | rfl | rfl | rfl | rfl | rfl | h
  any_goals
    go_enter Tryd.func76, Tryd.ntmps76
    go_wp2
    go_ret
    exact ⟨some ⟨w.heap.size, 0, none⟩, _, rfl, NW.out _, (Below.refl _ w).alloc (Nat.le_refl _) _⟩
  obtain ⟨h1, h2, h3, h4, h5, h6, h7, h8⟩ := h
  have q1 : (k == 3) = false := by simpa using h1
  have q2 : (k == 4) = false := by simpa using h2
  have q3 : (k == 7) = false := by simpa using h3
  have q4 : (k == 8) = false := by simpa using h4
  have q5 : (k == 10) = false := by simpa using h5
  have q6 : (k == 9) = false := by simpa using h6
  have q7 : (k == 12) = false := by simpa using h7
  have q8 : (k == 11) = false := by simpa using h8
  have HS := Lib.hid (show partsL k = [] by unfold partsL; simp [h1, h2, h3, h4, h5, h6, h7, h8])
  clear h1 h2 h3 h4 h5 h6 h7 h8
  go_enter Tryd.func76, Tryd.ntmps76
  go_wp2
  go_ret
  rw [HS.out]
  exact ⟨none, 0, rfl, Seq.nil _ _ _, Below.refl _ _⟩
/-- Are these the parts that a kind is to have? -/
def partedB (qs : List Nq) (js : List Nat) (kids : List Int) : Bool := decide (js.length = kids.length) && (js.zip kids).all fun x => mayB x.1 (kindAt qs x.2)
theorem all_snocP {α : Type} {p : α → Bool} {l : List α} {k : Nat} {x : α} (h : (l.take k).all p = true) (hc : l[k]? = some x) (hd : p x = true) : (l.take (k + 1)).all p = true := by
  rw [List.take_add_one, hc, List.all_append, h]
  simp [hd]
theorem all_badP {α : Type} {p : α → Bool} {l : List α} {k : Nat} {x : α} (hc : l[k]? = some x) (hd : p x = false) : l.all p = false := by
  rw [Bool.eq_false_iff]
  intro ha
  rw [List.all_eq_true] at ha
  rw [ha _ (List.mem_of_getElem? hc)] at hd
  cases hd
theorem wrap_k (k : Nat) (h : k < 100000) : IntKind.i64.wrap ((k : Int) + 1) = (k : Int) + 1 := IntWalk.i64_in _ (by omega)
set_option maxHeartbeats 4000000 in
theorem eqFunc_b (js : List Nat) (AF : Option Addr) (cF : Nat) (kids : List Int) (KA : Option Addr) (KC : Nat) (g : Nat) (A : Option Addr) (c : Nat) (qs : List Nq) (b : Bool) (w : World) (hjs : js.length ≤ 10) (hk64 : kids.length ≤ maxLen) (hF : Seq (fun _ => True) w AF (js.map fv)) (hK : Ints w KA kids) (hi : ∀ i ∈ kids, InR qs.length i) (hn : Nodes w A qs) (hg : Bk 23 w g [.slice A qs.length c]) (hb : partedB qs js kids = b) :
    Calls Tryd.prog 75 #[.slice AF js.length cF, .slice KA kids.length KC, .func (.func 77) #[] #[.pointer (some ⟨g, 0, none⟩)]] w (RetBl b w) := by
  unfold maxLen at hk64
  by_cases hl : js.length = kids.length
  · have hev : ((js.length : Int) != (kids.length : Int)) = false := by simp [hl]
    have HB := Lib.hid (show ((js.zip kids).all fun x => mayB x.1 (kindAt qs x.2)) = b by rw [← hb]; unfold partedB; rw [decide_eq_true hl, Bool.true_and])
    have HF := Lib.hid hF
    have HK := Lib.hid hK
    have HI := Lib.hid hi
    have HN := Lib.hid hn
    have HG := Lib.hid hg
    have HL := Lib.hid hl
    have HZ : Hid ((js.zip kids).length = js.length) := Lib.hid (by rw [List.length_zip, hl, Nat.min_self])
    have hle : js.length ≤ kids.length := by omega
    clear hF hK hi hn hg hb hl
    go_enter Tryd.func75, Tryd.ntmps75
    go_wp2_with fail
    go_loopw [17] (fun i wr => ∃ k : Nat, k ≤ js.length ∧ i = .int .i64 (k : Int) ∧ ((js.zip kids).take k).all (fun x => mayB x.1 (kindAt qs x.2)) = true ∧ Hid (Below w.heap.size w wr)) (fun i _ => js.length - (intOf i).toNat)
    case atStart => exact ⟨0, Nat.zero_le _, rfl, by simp, Lib.hid (Below.refl _ _)⟩
    case round =>
      obtain ⟨k, hk, rfl, hal, HW⟩ := hrel
      have HA := Lib.hid hal
      clear hal
      by_cases hlt : k < js.length
      · obtain ⟨j, hj⟩ : ∃ j, js[k]? = some j := ⟨_, List.getElem?_eq_getElem hlt⟩
        obtain ⟨x, hx⟩ : ∃ x, kids[k]? = some x := ⟨_, List.getElem?_eq_getElem (by omega)⟩
        have hz : (js.zip kids)[k]? = some (j, x) := by rw [List.getElem?_zip_eq_some]; exact ⟨hj, hx⟩
        obtain ⟨bF, oF, rfl, -, hbF, hcF⟩ := Seq.one HF.out (show (js.map fv)[k]? = some (fv j) by rw [List.getElem?_map, hj]; rfl)
        obtain ⟨bK, oK, rfl, hbK, hcK⟩ := HK.out (by omega)
        have hcK' := hcK k (by omega)
        have hxe : kids.getD k 0 = x := by rw [List.getD_eq_getElem?_getD, hx]; rfl
        rw [hxe] at hcK'
        have y1 : wr.cell? ⟨bF, oF + k, none⟩ = some (fv j) := (HW.out.cell (p := ⟨bF, oF + k, none⟩) hbF).trans hcF
        have y2 : wr.cell? ⟨bK, oK + k, none⟩ = some (.int .i64 x) := (HW.out.cell (p := ⟨bK, oK + k, none⟩) hbK).trans hcK'
        obtain ⟨t, ht⟩ : ∃ t, mayB j (kindAt qs x) = t := ⟨_, rfl⟩
        have HP := Lib.hid (fun W (hw : Below w.heap.size w W) => parted1_b j x g A c qs t W (HI.out x (List.mem_of_getElem? hx)) (HN.out.next hw) (HG.out.next hw) ht)
        have i0 : (0 : Int) ≤ (k : Int) := by omega
        have i1 : (k : Int) < (js.length : Int) := by omega
        have i2 : (k : Int) < (kids.length : Int) := by omega
        have hsum := wrap_k k (by omega)
        have HPW := Lib.hid (HP.out wr HW.out)
        have HJ := Lib.hid hj
        have HXX := Lib.hid hx
        have HZZ := Lib.hid hz
        have HT := Lib.hid ht
        clear hj hx hz hcF hcK hcK' hxe ht hbF hbK
        unfold fv at y1 HPW
        cases t with
        | true =>
          go_wp2_with fail
          refine (HPW.out).mono ?_
          rintro e w1 ⟨rfl, hb1⟩
          have HW1 := Lib.hid (Gl.below_next HW.out hb1)
          clear hb1
          go_wp2
          go_round
          case rel => exact ⟨k + 1, by omega, by go_num, all_snocP HA.out HZZ.out HT.out, HW1⟩
          case measure => simp [intOf]; omega
        | false =>
          have HS := Lib.hid (show b = false by rw [← HB.out]; exact all_badP HZZ.out HT.out)
          go_wp2_with fail
          refine (HPW.out).mono ?_
          rintro e w1 ⟨rfl, hb1⟩
          have HW1 := Lib.hid (Gl.below_next HW.out hb1)
          clear hb1
          go_wp2
          go_ret
          exact ⟨by rw [HS.out]; rfl, HW1.out⟩
      · have HS := Lib.hid (show b = true by
          rw [← HB.out]
          have h := HA.out
          rwa [List.take_of_length_le (by rw [HZ.out]; omega)] at h)
        have hke : k = js.length := by omega
        subst hke
        go_wp2
        go_ret
        exact ⟨by rw [HS.out]; rfl, HW.out⟩
  · have hev : ((js.length : Int) != (kids.length : Int)) = true := by simp; omega
    have HS := Lib.hid (show b = false by rw [← hb]; unfold partedB; rw [decide_eq_false hl]; rfl)
    clear hl hb hF hK hi hn hg
    go_enter Tryd.func75, Tryd.ntmps75
    go_wp2
    go_ret
    exact ⟨by rw [HS.out]; rfl, Below.refl _ _⟩
end Go.Proofs.YtjmpilmmgfjpmaaDoor.Tr
