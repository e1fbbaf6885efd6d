/-
  Helpers of the laws of layer 6. No condition.
-/
import Derived.Test.YthabimjmdnhomaaRows
import Derived.Test.YthabimjmdnhomaaMoLives
import Derived.Test.YthabimjmdnhomaaMoRResh
namespace Go.Proofs.Ythabimjmdnhomaa.Sh
open Go.RowKit
set_option linter.unusedVariables false

theorem rsame_eq (A : Option Addr) (c : Nat) (d : List Int) (B : Option Addr) (c2 : Nat) (v : List Int) (A' : Option Addr) (c' : Nat) (B' : Option Addr) (c2' : Nat) (w : World) (hd : d.length ≤ 1000) (hv : v.length ≤ 1000) (id : Ints w A d) (iv : Ints w B v) (ie : Ints w A' d) (iu : Ints w B' v) :
    Calls Try.prog 17 #[.agg #[.slice A d.length c, .slice B v.length c2], .agg #[.slice A' d.length c', .slice B' v.length c2']] w fun r w' => r = .returned (.bool true) ∧ Below w.heap.size w w' :=
  (rsame_any A c d B c2 v A' c' d B' c2' v w (by unfold maxLen; omega) (by unfold maxLen; omega) (by unfold maxLen; omega) (by unfold maxLen; omega) id iv ie iu).mono fun _ _ ⟨h1, h2⟩ => ⟨by rw [h1]; simp [sameB], h2⟩
theorem rsD_len {d v e u : List Int} (hv : v.length ≤ 200) : (rsD d v e u).length ≤ 200 := by
  unfold rsD; split
  · simpa [lensL] using hv
  · simp
theorem rsV_len {d v e u : List Int} : (rsV d v e u).length ≤ 64 := by
  unfold rsV; split
  · rename_i h
    have hr : rightB (lensL v) = true := by
      unfold rsE at h
      split at h
      · split at h
        · split at h
          · omega
          · split at h
            · assumption
            · omega
        · omega
      · omega
    obtain ⟨n, hn, h64⟩ := sizeI_nat _ hr
    rw [hn]; simpa using h64
  · simp
theorem reshape_w (A : Option Addr) (c : Nat) (d : List Int) (B : Option Addr) (c2 : Nat) (v : List Int) (A' : Option Addr) (c' : Nat) (e : List Int) (B' : Option Addr) (c2' : Nat) (u : List Int) (w : World) (E : Int) (D V : List Int) (hE : rsE d v e u = E) (hD : rsD d v e u = D) (hV : rsV d v e u = V)
    (id : Ints w A d) (iv : Ints w B v) (ie : Ints w A' e) (iu : Ints w B' u) (hd : d.length ≤ 100) (hv : v.length ≤ 1000) (he : e.length ≤ 100) (hu : u.length ≤ 1000) :
    Calls Try.prog 18 #[.agg #[.slice A d.length c, .slice B v.length c2], .agg #[.slice A' e.length c', .slice B' u.length c2']] w (RetC w D V (.int .i64 E)) := by
  subst hE hD hV; exact reshape_any A c d B c2 v A' c' e B' c2' u w id iv ie iu hd hv he hu
theorem rreshape_w (A : Option Addr) (c : Nat) (d : List Int) (B : Option Addr) (c2 : Nat) (v : List Int) (A' : Option Addr) (c' : Nat) (e : List Int) (B' : Option Addr) (c2' : Nat) (u : List Int) (w : World) (E : Int) (D V : List Int) (hE : rsE d v e u = E) (hD : rsD d v e u = D) (hV : rsV d v e u = V)
    (id : Ints w A d) (iv : Ints w B v) (ie : Ints w A' e) (iu : Ints w B' u) (hd : d.length ≤ 100) (hv : v.length ≤ 1000) (he : e.length ≤ 100) (hu : u.length ≤ 1000) :
    Calls Try.prog 19 #[.agg #[.slice A d.length c, .slice B v.length c2], .agg #[.slice A' e.length c', .slice B' u.length c2']] w (RetC w D V (.int .i64 E)) := by
  subst hE hD hV; exact rreshape_any A c d B c2 v A' c' e B' c2' u w id iv ie iu hd hv he hu
end Go.Proofs.Ythabimjmdnhomaa.Sh
