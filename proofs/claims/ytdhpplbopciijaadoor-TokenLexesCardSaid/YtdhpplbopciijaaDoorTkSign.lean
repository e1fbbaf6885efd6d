/-
  Layer 17, token: (*reader).sign. Condition: the two tables of unicode/utf8 hold what their text lays.
-/
import Derived.Test.YtdhpplbopciijaaDoorTkMeth
set_option maxRecDepth 100000
namespace Go.Proofs.YtdhpplbopciijaaDoor.Tk
open Go.Proofs.YtdhpplbopciijaaDoor.Sh Go.Proofs.YtdhpplbopciijaaDoor.St
open Go.RowKit
set_option linter.unusedVariables false

set_option maxHeartbeats 1000000 in
theorem sign_any (w : World) (g : Nat) (s : ByteArray) (a : Nat) (V : Value) (qs : List Qt) (d : Rd w g s a V qs) (ha : a < s.size) (hs : s.size ≤ maxLen) (hq : qs.length ≤ 400) (hT : Gl.Tabs w) :
    Calls Tryd.prog 35 #[.pointer (some ⟨g, 0, none⟩)] w fun e w' => ∃ c n, Gl.FirstIs (s.data.toList.drop a) c n ∧ RetO g s (signO c n a (qs.map Prod.fst)) w e w' := by
  have HR := Lib.hid (rest_any w g s a V qs d (by omega) hs)
  have hrs : (restB s a).size ≤ maxLen := by rw [rest_size]; omega
  have HG := Lib.hid (fun W hW => Gl.first_any (restB s a) W hW hrs)
  rw [rest_list] at HG
  have HF := Lib.hid (fun W dW => fail_any W g s a V qs 6 dW)
  have HE : Hid (∀ W, Rd W g s a V qs → ∀ n, a + n ≤ s.size → Calls Tryd.prog 39 #[.pointer (some ⟨g, 0, none⟩), .agg #[.int .i64 5, .int .i64 0, .int .i64 0, .slice none 0 0, .string ⟨#[]⟩], .int .i64 (n : Int)] W (RetO g s (addO (qs.map Prod.fst) ⟨5, a, 0, [], []⟩ (a + n)) W)) := Lib.hid (fun W dW n hn => add_any W g s a V qs 5 0 n [] dW hn hs hq)
  have HA : Hid (∀ W, Rd W g s a V qs → ∀ c n, a + n ≤ s.size → Calls Tryd.prog 39 #[.pointer (some ⟨g, 0, none⟩), .agg #[.int .i64 4, .int .i64 0, .int .i64 (c : Nat), .slice none 0 0, .string ⟨#[]⟩], .int .i64 (n : Int)] W (RetO g s (addO (qs.map Prod.fst) ⟨4, a, c, [], []⟩ (a + n)) W)) := Lib.hid (fun W dW c n hn => add_any W g s a V qs 4 c n [] dW hn hs hq)
  have HD := Lib.hid d
  have HT := Lib.hid hT
  have hgl := d.lt
  have hbd : ∀ c n, Gl.FirstIs (s.data.toList.drop a) c n → c ≠ 0 → a + n ≤ s.size := fun c n hf hc => by
    have := (first_pos hf hc).2
    rw [List.length_drop] at this
    simp at this
    omega
  have HBD := Lib.hid hbd
  clear d hT hrs hbd
  generalize hrr : restB s a = r at *
  generalize s.data.toList.drop a = rl at *
  clear hrr
  go_enter Tryd.func35, Tryd.ntmps35
  go_wp2_with fail
  refine (HR.out).mono ?_
  rintro e w1 ⟨rfl, hb1⟩
  have L1 := Lib.hid hb1
  clear hb1
  go_wp2_with fail
  refine (HG.out _ (HT.out.below L1.out)).mono ?_
  rintro e w2 ⟨c, n, rfl, hf, hb2⟩
  have L2 := Lib.hid (Gl.below_next L1.out hb2)
  have D2 := Lib.hid (HD.out.next L2.out)
  have HFI := Lib.hid hf
  clear hb2 hf
  have LG := Lib.hid (L2.out.mono (Nat.le_of_lt hgl))
  by_cases h0 : c = 0
  · subst h0
    go_wp2_with fail
    refine (HF.out _ D2.out).mono ?_
    rintro e w3 ⟨rfl, rfl⟩
    go_wp2
    exact ⟨rfl, 0, n, HFI.out, rfl, LG.out⟩
  have HN := Lib.hid (HBD.out c n HFI.out h0)
  by_cases h3 : c = 43
  · subst h3
    have HO := Lib.hid (show signO 43 n a (qs.map Prod.fst) = addO (qs.map Prod.fst) ⟨5, a, 0, [], []⟩ (a + n) from rfl)
    clear h0
    go_wp2_with fail
    refine (HE.out _ D2.out n HN.out).mono ?_
    intro e w3 h1
    have H1 := Lib.hid (h1.from_ LG.out)
    rcases h1.tail with ⟨rfl, -⟩ | ⟨e0, p, -, rfl⟩
    · clear h1
      go_wp2
      go_end0
      exact ⟨43, n, HFI.out, by rw [HO.out]; exact H1.out⟩
    · clear h1
      go_wp2
      exact ⟨rfl, 43, n, HFI.out, by rw [HO.out]; exact H1.out⟩
  · have HO := Lib.hid (show signO c n a (qs.map Prod.fst) = addO (qs.map Prod.fst) ⟨4, a, c, [], []⟩ (a + n) by unfold signO; rw [if_neg h0, if_neg h3])
    have i0 : ¬ (c : Int) = 0 := by omega
    have i3 : ¬ (c : Int) = 43 := by omega
    clear h0 h3
    go_wp2_with fail
    refine (HA.out _ D2.out c n HN.out).mono ?_
    intro e w3 h1
    have H1 := Lib.hid (h1.from_ LG.out)
    rcases h1.tail with ⟨rfl, -⟩ | ⟨e0, p, -, rfl⟩
    · clear h1
      go_wp2
      go_end0
      exact ⟨c, n, HFI.out, by rw [HO.out]; exact H1.out⟩
    · clear h1
      go_wp2
      exact ⟨rfl, c, n, HFI.out, by rw [HO.out]; exact H1.out⟩
/-- Where the last token stands. -/
def RetL (B : Nat) (o : Nat) (w : World) (e : Ending) (w' : World) : Prop := e = .returned (.pointer (some ⟨B, o, none⟩)) ∧ Below w.heap.size w w'
set_option maxHeartbeats 1000000 in
theorem last_any (w : World) (g : Nat) (s : ByteArray) (a B n c : Nat) (qs : List Qt) (d : Rd w g s a (.slice (some ⟨B, 0, none⟩) (n + 1) c) qs) (hn : n ≤ 400) :
    Calls Tryd.prog 42 #[.pointer (some ⟨g, 0, none⟩)] w (RetL B (n * 5) w) := by
  obtain ⟨-, -, c2⟩ := d.all
  clear d
  have g1 : IntKind.i64.wrap (((n + 1 : Nat) : Int) - 1) = (n : Int) := by rw [IntWalk.i64_in _ (by omega)]; omega
  have g2 : IntKind.i64.wrap ((n : Int) + 1 - 1) = (n : Int) := by rw [IntWalk.i64_in _ (by omega)]; omega
  have g3 : ((n : Int)).toNat = n := by omega
  have g4 : (n : Int) < ((n + 1 : Nat) : Int) := by omega
  go_enter Tryd.func42, Tryd.ntmps42
  go_wp2
  go_region
  go_wp2
  go_ret
  exact ⟨rfl, Gl.below_drewN (Below.refl _ _) _⟩
end Go.Proofs.YtdhpplbopciijaaDoor.Tk
