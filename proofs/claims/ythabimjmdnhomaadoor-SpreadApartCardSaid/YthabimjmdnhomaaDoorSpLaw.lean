/-
  Helpers of the laws of layer 5. No condition.
-/
import Derived.Test.YthabimjmdnhomaaDoorSpLives
import Derived.Test.YthabimjmdnhomaaDoorSpOne
import Derived.Deep.DeepCutAuto
namespace Go.Proofs.YthabimjmdnhomaaDoor.Sp
open Go.Proofs.YthabimjmdnhomaaDoor.Sh
open Go.RowKit
set_option linter.unusedVariables false

theorem twoD_len {c : Int} {d e : List Int} {n m : Nat} (hd : d.length ≤ 10) (he : e.length ≤ 10) : (twoD c d n e m).length ≤ 10 := by
  unfold twoD fitD; split
  · split
    · split <;> omega
    · simp
  · simp
theorem twoV_len {c : Int} {s : Bool} {d v e u : List Int} : (twoV c s d v e u).length ≤ 64 := by
  unfold twoV; split
  · rename_i h
    have hf : fitE d e = 0 := by
      unfold twoE at h
      split at h
      · split at h
        · exact h
        · omega
      · omega
    obtain ⟨n, hn, h64⟩ := sizeI_nat _ (fit_right hf)
    rw [hn]; simpa using h64
  · simp
theorem oneD_len {c : Int} {d : List Int} {n : Nat} (hd : d.length ≤ 10) : (oneD c d n).length ≤ 10 := by
  unfold oneD; split
  · exact hd
  · simp
theorem oneV_len {c : Int} {d v : List Int} (hv : v.length ≤ 200) : (oneV c d v).length ≤ 200 := by
  unfold oneV; split
  · simpa using hv
  · simp
theorem rsame_eq (A : Option Addr) (c : Nat) (d : List Int) (B : Option Addr) (c2 : Nat) (v : List Int) (A' : Option Addr) (c' : Nat) (B' : Option Addr) (c2' : Nat) (w : World) (hd : d.length ≤ 1000) (hv : v.length ≤ 1000) (id : Ints w A d) (iv : Ints w B v) (ie : Ints w A' d) (iu : Ints w B' v) :
    Calls Tryd.prog 14 #[.agg #[.slice A d.length c, .slice B v.length c2], .agg #[.slice A' d.length c', .slice B' v.length c2']] w fun r w' => r = .returned (.bool true) ∧ Below w.heap.size w w' :=
  (rsame_any A c d B c2 v A' c' d B' c2' v w (by unfold maxLen; omega) (by unfold maxLen; omega) (by unfold maxLen; omega) (by unfold maxLen; omega) id iv ie iu).mono fun _ _ ⟨h1, h2⟩ => ⟨by rw [h1]; simp [sameB], h2⟩
theorem two_w (c : Int) (s : Bool) (A : Option Addr) (c1 : Nat) (d : List Int) (B : Option Addr) (c2 : Nat) (v : List Int) (A' : Option Addr) (c1' : Nat) (e : List Int) (B' : Option Addr) (c2' : Nat) (u : List Int) (w : World) (E : Int) (D V : List Int) (hE : twoE c d v.length e u.length = E) (hD : twoD c d v.length e u.length = D) (hV : twoV c s d v e u = V)
    (hT : Sc.Tab w) (id : Ints w A d) (iv : Ints w B v) (ie : Ints w A' e) (iu : Ints w B' u) (hd : d.length ≤ 100) (hv : v.length ≤ 1000) (he : e.length ≤ 100) (hu : u.length ≤ 1000) (rv : AllR v) (ru : AllR u) :
    Calls Tryd.prog 12 #[.agg #[.int .i64 c, .bool s], .agg #[.slice A d.length c1, .slice B v.length c2], .agg #[.slice A' e.length c1', .slice B' u.length c2']] w (RetC w D V (.int .i64 E)) := by
  subst hE hD hV; exact two_any c s A c1 d B c2 v A' c1' e B' c2' u w hT id iv ie iu hd hv he hu rv ru
theorem rtwo_w (c : Int) (s : Bool) (A : Option Addr) (c1 : Nat) (d : List Int) (B : Option Addr) (c2 : Nat) (v : List Int) (A' : Option Addr) (c1' : Nat) (e : List Int) (B' : Option Addr) (c2' : Nat) (u : List Int) (w : World) (E : Int) (D V : List Int) (hE : twoE c d v.length e u.length = E) (hD : twoD c d v.length e u.length = D) (hV : twoV c s d v e u = V)
    (id : Ints w A d) (iv : Ints w B v) (ie : Ints w A' e) (iu : Ints w B' u) (hd : d.length ≤ 100) (hv : v.length ≤ 1000) (he : e.length ≤ 100) (hu : u.length ≤ 1000) (rv : AllR v) (ru : AllR u) :
    Calls Tryd.prog 13 #[.agg #[.int .i64 c, .bool s], .agg #[.slice A d.length c1, .slice B v.length c2], .agg #[.slice A' e.length c1', .slice B' u.length c2']] w (RetC w D V (.int .i64 E)) := by
  subst hE hD hV; exact rtwo_any c s A c1 d B c2 v A' c1' e B' c2' u w id iv ie iu hd hv he hu rv ru
theorem one_w (c : Int) (A : Option Addr) (c1 : Nat) (d : List Int) (B : Option Addr) (c2 : Nat) (v : List Int) (w : World) (E : Int) (D V : List Int) (hE : oneE c d v.length = E) (hD : oneD c d v.length = D) (hV : oneV c d v = V) (hT : Sc.Tab w) (id : Ints w A d) (iv : Ints w B v) (hd : d.length ≤ 100) (hv : v.length ≤ 1000) (rv : AllR v) :
    Calls Tryd.prog 15 #[.int .i64 c, .agg #[.slice A d.length c1, .slice B v.length c2]] w (RetC w D V (.int .i64 E)) := by subst hE hD hV; exact one_any c A c1 d B c2 v w hT id iv hd hv rv
theorem rone_w (c : Int) (A : Option Addr) (c1 : Nat) (d : List Int) (B : Option Addr) (c2 : Nat) (v : List Int) (w : World) (E : Int) (D V : List Int) (hE : oneE c d v.length = E) (hD : oneD c d v.length = D) (hV : oneV c d v = V) (id : Ints w A d) (iv : Ints w B v) (hd : d.length ≤ 100) (hv : v.length ≤ 1000) (rv : AllR v) :
    Calls Tryd.prog 16 #[.int .i64 c, .agg #[.slice A d.length c1, .slice B v.length c2]] w (RetC w D V (.int .i64 E)) := by subst hE hD hV; exact rone_any c A c1 d B c2 v w id iv hd hv rv
end Go.Proofs.YthabimjmdnhomaaDoor.Sp
