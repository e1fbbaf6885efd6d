/-
  Layer 18, tree: which nodes and definitions are the same, and small functions of kinds and signs. Conditions: the slices are no longer than fits into a machine.
-/
import Derived.Test.YtjmpilmmgfjpmaaDoorTrBase
import Derived.Test.YtjmpilmmgfjpmaaDoorGlyphCode
set_option maxRecDepth 100000
namespace Go.Proofs.YtjmpilmmgfjpmaaDoor.Tr
open Go.Proofs.YtjmpilmmgfjpmaaDoor.Sh Go.Proofs.YtjmpilmmgfjpmaaDoor.St
open Go.RowKit
set_option linter.unusedVariables false

def alikeB (a b : Nd) : Bool := decide (a.kind = b.kind) && (decide (a.code = b.code) && (decide (a.name = b.name) && (decide (a.kids = b.kids) && decide (a.nums = b.nums))))
theorem ba_eq {a b : ByteArray} (h : a.toList = b.toList) : a = b := by
  rw [Gl.toList_data, Gl.toList_data] at h
  cases a; cases b
  simp at h
  rw [h]
theorem ba_yes {a b : ByteArray} (h : a = b) : (a.toList == b.toList) = true := by rw [h]; simp
theorem ba_no {a b : ByteArray} (h : ¬ a = b) : (a.toList == b.toList) = false := by
  rw [beq_eq_false_iff_ne]
  exact fun e => h (ba_eq e)
def operB (c : Int) : Bool := decide (c = 31 ∨ c = 32 ∨ c = 33 ∨ c = 34 ∨ c = 38)
theorem operator_b (c : Int) (b : Bool) (w : World) (h : operB c = b) : Calls Tryd.prog 79 #[.int .i64 c] w fun e w' => e = .returned (.bool b) ∧ w = w' := by
  subst h
  by_cases hc : c = 31 ∨ c = 32 ∨ c = 33 ∨ c = 34 ∨ c = 38
  · rcases hc with rfl | rfl | rfl | rfl | rfl
    all_goals
      go_enter Tryd.func79, Tryd.ntmps79
      go_wp2
      go_ret
      exact ⟨rfl, rfl⟩
  · have HS := Lib.hid (show operB c = false by unfold operB; simp [hc])
    have q1 : (c == 31) = false := by simp; omega
    have q2 : (c == 32) = false := by simp; omega
    have q3 : (c == 33) = false := by simp; omega
    have q4 : (c == 34) = false := by simp; omega
    have q5 : (c == 38) = false := by simp; omega
    clear hc
    go_enter Tryd.func79, Tryd.ntmps79
    go_wp2
    go_ret
    exact ⟨by rw [HS.out]; rfl, rfl⟩
def primB (c : Int) : Bool := decide (Gl.clsI c = 1 ∨ Gl.clsI c = 2 ∨ c = 31 ∨ c = 32)
theorem primitive_b (c : Int) (b : Bool) (w : World) (h : primB c = b) : Calls Tryd.prog 78 #[.int .i64 c] w fun e w' => e = .returned (.bool b) ∧ w = w' := by
  subst h
  have HC := Lib.hid (fun W => Gl.class_any c W)
  obtain ⟨v, hv⟩ : ∃ v, Gl.clsI c = v := ⟨_, rfl⟩
  rw [hv] at HC
  have HP : Hid (primB c = decide (v = 1 ∨ v = 2 ∨ c = 31 ∨ c = 32)) := Lib.hid (by unfold primB; rw [show Gl.clsI c = v from hv])
  clear hv
  by_cases h1 : v = 1
  · have HS := Lib.hid (show primB c = true by rw [HP.out]; simp [h1])
    subst h1
    go_enter Tryd.func78, Tryd.ntmps78
    go_wp2_with fail
    refine (HC.out _).mono ?_
    rintro e w1 ⟨rfl, rfl⟩
    go_wp2
    go_ret
    exact ⟨by rw [HS.out]; rfl, rfl⟩
  by_cases h2 : v = 2
  · have HS := Lib.hid (show primB c = true by rw [HP.out]; simp [h2])
    subst h2
    clear h1
    go_enter Tryd.func78, Tryd.ntmps78
    go_wp2_with fail
    refine (HC.out _).mono ?_
    rintro e w1 ⟨rfl, rfl⟩
    go_wp2
    go_ret
    exact ⟨by rw [HS.out]; rfl, rfl⟩
  have q1 : (v == 1) = false := by simpa using h1
  have q2 : (v == 2) = false := by simpa using h2
  have HV := Lib.hid (And.intro h1 h2)
  clear h1 h2
  by_cases h3 : c = 31
  · have HS := Lib.hid (show primB c = true by rw [HP.out]; simp [h3])
    have q3 : (c == 31) = true := by simpa using h3
    clear h3
    go_enter Tryd.func78, Tryd.ntmps78
    go_wp2_with fail
    refine (HC.out _).mono ?_
    rintro e w1 ⟨rfl, rfl⟩
    go_wp2
    go_ret
    exact ⟨by rw [HS.out]; rfl, rfl⟩
  · have q3 : (c == 31) = false := by simpa using h3
    obtain ⟨t, ht⟩ : ∃ t, (c == 32) = t := ⟨_, rfl⟩
    have HS := Lib.hid (show primB c = t by rw [HP.out, ← ht]; by_cases h : c = 32 <;> simp [h, h3, HV.out.1, HV.out.2])
    clear h3
    go_enter Tryd.func78, Tryd.ntmps78
    go_wp2_with fail
    refine (HC.out _).mono ?_
    rintro e w1 ⟨rfl, rfl⟩
    go_wp2
    go_ret
    exact ⟨by rw [HS.out]; rfl, rfl⟩
def tineB (k : Int) : Bool := funI k || decide (k = 1)
theorem tine_b (k : Int) (b : Bool) (w : World) (h : tineB k = b) : Calls Tryd.prog 87 #[.int .i64 k] w fun e w' => e = .returned (.bool b) ∧ w = w' := by
  subst h
  cases hf : funI k with
  | true =>
    have HC := Lib.hid (fun W => function_b k true W hf)
    have HS := Lib.hid (show tineB k = true by unfold tineB; rw [hf]; rfl)
    clear hf
    go_enter Tryd.func87, Tryd.ntmps87
    go_wp2_with fail
    refine (HC.out _).mono ?_
    rintro e w1 ⟨rfl, rfl⟩
    go_wp2
    go_ret
    exact ⟨by rw [HS.out]; rfl, rfl⟩
  | false =>
    have HC := Lib.hid (fun W => function_b k false W hf)
    obtain ⟨t, ht⟩ : ∃ t, (k == 1) = t := ⟨_, rfl⟩
    have HS := Lib.hid (show tineB k = t by unfold tineB; rw [hf, ← ht]; by_cases h : k = 1 <;> simp [h])
    clear hf
    go_enter Tryd.func87, Tryd.ntmps87
    go_wp2_with fail
    refine (HC.out _).mono ?_
    rintro e w1 ⟨rfl, rfl⟩
    go_wp2
    go_ret
    exact ⟨by rw [HS.out]; rfl, rfl⟩
def fitsB (n : List UInt8) (k : Int) : Bool := if Tk.namedN n = 2 then valI k else if Tk.namedN n = 3 then funI k else false
theorem fits_b (s : ByteArray) (k : Int) (b : Bool) (w : World) (hs : s.size ≤ maxLen) (h : fitsB s.data.toList k = b) : Calls Tryd.prog 67 #[.string s, .int .i64 k] w fun e w' => e = .returned (.bool b) ∧ w = w' := by
  subst h
  obtain ⟨v, hv⟩ : ∃ v, Tk.namedN s.data.toList = v := ⟨_, rfl⟩
  have HC := Lib.hid (fun W => Tk.named_n s v W hs hv)
  have HF : Hid (fitsB s.data.toList k = if v = 2 then valI k else if v = 3 then funI k else false) := Lib.hid (by unfold fitsB; rw [hv])
  clear hv
  by_cases h2 : v = 2
  · have HS := Lib.hid (show fitsB s.data.toList k = valI k by rw [HF.out, if_pos h2])
    have q1 : ((v : Int) == 2) = true := by simp; omega
    have HV := Lib.hid (fun W => value_b k _ W rfl)
    clear h2
    go_enter Tryd.func67, Tryd.ntmps67
    go_wp2_with fail
    refine (HC.out _).mono ?_
    rintro e w1 ⟨rfl, rfl⟩
    go_wp2_with fail
    refine (HV.out _).mono ?_
    rintro e w1 ⟨rfl, rfl⟩
    go_wp2
    go_ret
    exact ⟨by rw [HS.out]; rfl, rfl⟩
  have q1 : ((v : Int) == 2) = false := by simp; omega
  by_cases h3 : v = 3
  · have HS := Lib.hid (show fitsB s.data.toList k = funI k by rw [HF.out, if_neg h2, if_pos h3])
    have q2 : ((v : Int) == 3) = true := by simp; omega
    have HV := Lib.hid (fun W => function_b k _ W rfl)
    clear h2 h3
    go_enter Tryd.func67, Tryd.ntmps67
    go_wp2_with fail
    refine (HC.out _).mono ?_
    rintro e w1 ⟨rfl, rfl⟩
    go_wp2_with fail
    refine (HV.out _).mono ?_
    rintro e w1 ⟨rfl, rfl⟩
    go_wp2
    go_ret
    exact ⟨by rw [HS.out]; rfl, rfl⟩
  · have HS := Lib.hid (show fitsB s.data.toList k = false by rw [HF.out, if_neg h2, if_neg h3])
    have q2 : ((v : Int) == 3) = false := by simp; omega
    clear h2 h3
    go_enter Tryd.func67, Tryd.ntmps67
    go_wp2_with fail
    refine (HC.out _).mono ?_
    rintro e w1 ⟨rfl, rfl⟩
    go_wp2
    go_ret
    exact ⟨by rw [HS.out]; rfl, rfl⟩
def thereB (n : Nat) (i : Int) : Bool := decide (0 ≤ i) && decide (i < (n : Int))
theorem there_b (p : Pq) (i : Int) (b : Bool) (w : World) (h : thereB p.nodes.length i = b) : Calls Tryd.prog 52 #[progV p, .int .i64 i] w (RetBl b w) := by
  subst h
  obtain ⟨name, da, dc, dims, na, nc, nodes, fa, fc, defs, root⟩ := p
  unfold progV
  have HW := Lib.hid ((Below.refl _ w).alloc (Nat.le_refl _) (.cells #[.string name, .slice da dims.length dc, .slice na nodes.length nc, .slice fa defs.length fc, .int .i64 root] 26))
  simp only
  generalize nodes.length = m at *
  by_cases h0 : 0 ≤ i
  · have t0 : decide (0 ≤ i) = true := by simpa using h0
    obtain ⟨t, ht⟩ : ∃ t, decide (i < (m : Int)) = t := ⟨_, rfl⟩
    have HS := Lib.hid (show thereB m i = t by unfold thereB; rw [t0, ht]; rfl)
    clear h0
    go_enter Tryd.func52, Tryd.ntmps52
    go_wp2
    go_ret
    exact ⟨by rw [HS.out]; rfl, HW.out⟩
  · have t0 : decide (0 ≤ i) = false := by simpa using h0
    have HS := Lib.hid (show thereB m i = false by unfold thereB; rw [t0]; rfl)
    clear h0
    go_enter Tryd.func52, Tryd.ntmps52
    go_wp2
    go_ret
    exact ⟨by rw [HS.out]; rfl, HW.out⟩
def sameDefB (a b : Df) : Bool := decide (a.name = b.name) && decide (a.node = b.node)
end Go.Proofs.YtjmpilmmgfjpmaaDoor.Tr
