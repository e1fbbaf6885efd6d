/-
  Layer 17, token: (*reader).newline, name and sign. Conditions: as told in each.
-/
import Derived.Test.YtdhpplbopciijaaDoorTkAdd
set_option maxRecDepth 100000
namespace Go.Proofs.YtdhpplbopciijaaDoor.Tk
open Go.Proofs.YtdhpplbopciijaaDoor.Sh Go.Proofs.YtdhpplbopciijaaDoor.St
open Go.RowKit
set_option linter.unusedVariables false

/-- The step's answer, as an order of its own. -/
def RetM (g : Nat) (s : ByteArray) (a : Nat) (ts : List Tk) (w : World) (e : Ending) (w' : World) : Prop := ∃ o, Step s.data.toList a ts o ∧ RetO g s o w e w'
theorem RetO.from_ {g : Nat} {s : ByteArray} {o : Out} {w w1 w' : World} {e : Ending} (h : RetO g s o w1 e w') (hb : Below g w w1) : RetO g s o w e w' := by
  cases o with
  | next b ts => obtain ⟨V', qs', h1, h2, h3, h4⟩ := h; exact ⟨V', qs', h1, h2, h3, hb.trans h4⟩
  | bad e0 p => obtain ⟨h1, h2⟩ := h; exact ⟨h1, hb.trans h2⟩
/-- How a step's answer ends a walk. -/
theorem RetO.tail {g : Nat} {s : ByteArray} {o : Out} {w w' : World} {e : Ending} (h : RetO g s o w e w') : (e = .returned (.tuple #[]) ∧ ∃ b ts, o = .next b ts) ∨ (∃ e0 p, o = .bad e0 p ∧ e = .panicked [{ v := .iface 25 (.agg #[.int .i64 (e0 : Int), .int .i64 (p : Int)]), recovered := false }]) := by
  cases o with
  | next b ts => obtain ⟨V', qs', h1, -⟩ := h; exact .inl ⟨h1, b, ts, rfl⟩
  | bad e0 p => exact .inr ⟨e0, p, rfl, h.1⟩
theorem newline_cls {r : List UInt8} (h : clsN r = 1) : 0 < r.length := by
  cases r with
  | nil => simp [clsN] at h
  | cons c t => simp
set_option maxHeartbeats 1000000 in
theorem newline_any (w : World) (g : Nat) (s : ByteArray) (a : Nat) (V : Value) (qs : List Qt) (d : Rd w g s a V qs) (ha : a < s.size) (hs : s.size ≤ maxLen) (hq : qs.length ≤ 400) :
    Calls Tryd.prog 30 #[.pointer (some ⟨g, 0, none⟩)] w (RetO g s (addO (qs.map Prod.fst) ⟨5, a, 0, [], []⟩ (a + 1)) w) := by
  have HA : Hid (Calls Tryd.prog 39 #[.pointer (some ⟨g, 0, none⟩), .agg #[.int .i64 5, .int .i64 0, .int .i64 0, .slice none 0 0, .string ⟨#[]⟩], .int .i64 1] w (RetO g s (addO (qs.map Prod.fst) ⟨5, a, 0, [], []⟩ (a + 1)) w)) := Lib.hid (add_any w g s a V qs 5 0 1 [] d (by omega) hs hq)
  clear d
  generalize addO (qs.map Prod.fst) ⟨5, a, 0, [], []⟩ (a + 1) = o at *
  go_enter Tryd.func30, Tryd.ntmps30
  go_wp2_with fail
  refine (HA.out).mono ?_
  intro e w1 h1
  have H1 := Lib.hid h1
  rcases h1.tail with ⟨rfl, -⟩ | ⟨e0, p, -, rfl⟩
  · clear h1
    go_wp2
    go_end0
    exact H1.out
  · clear h1
    go_wp2
    exact ⟨rfl, H1.out⟩
set_option maxHeartbeats 1000000 in
theorem name_any (w : World) (g : Nat) (s : ByteArray) (a : Nat) (V : Value) (qs : List Qt) (d : Rd w g s a V qs) (ha : a < s.size) (hs : s.size ≤ maxLen) (hq : qs.length ≤ 400) :
    Calls Tryd.prog 33 #[.pointer (some ⟨g, 0, none⟩)] w (RetO g s (nameO (s.data.toList.drop a) a (qs.map Prod.fst)) w) := by
  have HR := Lib.hid (fun W dW => rest_any W g s a V qs dW (by omega) hs)
  have hl := runA_le (s.data.toList.drop a)
  obtain ⟨k, hk⟩ : ∃ k, runA (s.data.toList.drop a) = k := ⟨_, rfl⟩
  rw [hk] at hl
  have hk2 : k ≤ (restB s a).size := by rw [rest_size]; rw [List.length_drop] at hl; simpa using hl
  have hk3 : a + k ≤ s.size := by rw [rest_size] at hk2; omega
  have hrs : (restB s a).size ≤ maxLen := by rw [rest_size]; omega
  have HU := Lib.hid (fun W => run_n (restB s a) k W hrs (by rw [rest_list]; exact hk))
  obtain ⟨p, hp⟩ : ∃ p, (restB s a).extract 0 k = p := ⟨_, rfl⟩
  have hpl : p.data.toList = (s.data.toList.drop a).take k := by rw [← hp, Dg.ext_list, rest_list, List.drop_zero, Nat.sub_zero]
  have hps : p.size = k := by rw [← hp, Dg.ext_size _ _ _ hk2]; omega
  have hpn : nm ((s.data.toList.drop a).take k) = p := by rw [← hpl]; rfl
  obtain ⟨kd, hkd⟩ : ∃ kd, namedN ((s.data.toList.drop a).take k) = kd := ⟨_, rfl⟩
  have HN := Lib.hid (fun W => named_n p kd W (by rw [hps]; omega) (by rw [hpl]; exact hkd))
  have HF := Lib.hid (fun W dW => fail_any W g s a V qs 11 dW)
  have HA := Lib.hid (fun W dW => add_any W g s a V qs kd 0 k ((s.data.toList.drop a).take k) dW hk3 hs hq)
  have HO := Lib.hid (show nameO (s.data.toList.drop a) a (qs.map Prod.fst) = if kd = 0 then .bad 11 a else addO (qs.map Prod.fst) ⟨kd, a, 0, [], (s.data.toList.drop a).take k⟩ (a + k) by unfold nameO; rw [hk, hkd])
  rw [hpn] at HA
  have HP := Lib.hid hp
  have HD := Lib.hid d
  have i0 : (k : Int) ≤ ((restB s a).size : Int) := by omega
  generalize nameO (s.data.toList.drop a) a (qs.map Prod.fst) = o at *
  generalize (s.data.toList.drop a).take k = l at *
  have hgl := d.lt
  clear d hp hpl hpn hl hk hkd hk2
  generalize hrr : restB s a = r at *
  clear hrr
  by_cases h0 : kd = 0
  · rw [h0] at HN
    have HO2 := Lib.hid (HO.out.trans (if_pos h0))
    clear HO h0
    go_enter Tryd.func33, Tryd.ntmps33
    go_wp2_with fail
    refine (HR.out _ HD.out).mono ?_
    rintro e w1 ⟨rfl, hb1⟩
    have L1 := Lib.hid hb1
    have D1 := Lib.hid (HD.out.next hb1)
    clear hb1
    go_wp2_with fail
    refine (HR.out _ D1.out).mono ?_
    rintro e w2 ⟨rfl, hb2⟩
    have L2 := Lib.hid (Gl.below_next L1.out hb2)
    have D2 := Lib.hid (HD.out.next L2.out)
    clear hb2
    go_wp2_with fail
    refine (HU.out _).mono ?_
    rintro e w3 ⟨rfl, rfl⟩
    go_wp2_with fail
    try rw [HP.out]
    refine (HN.out _).mono ?_
    rintro e w3 ⟨rfl, rfl⟩
    go_wp2_with fail
    refine (HF.out _ D2.out).mono ?_
    rintro e w3 ⟨rfl, rfl⟩
    go_wp2
    rw [HO2.out]
    exact ⟨rfl, rfl, L2.out.mono (Nat.le_of_lt hgl)⟩
  · have i1 : ¬ (kd : Int) = 0 := by omega
    have HO2 := Lib.hid (HO.out.trans (if_neg h0))
    rw [← HO2.out] at HA
    clear HO h0
    go_enter Tryd.func33, Tryd.ntmps33
    go_wp2_with fail
    refine (HR.out _ HD.out).mono ?_
    rintro e w1 ⟨rfl, hb1⟩
    have L1 := Lib.hid hb1
    have D1 := Lib.hid (HD.out.next hb1)
    clear hb1
    go_wp2_with fail
    refine (HR.out _ D1.out).mono ?_
    rintro e w2 ⟨rfl, hb2⟩
    have L2 := Lib.hid (Gl.below_next L1.out hb2)
    have D2 := Lib.hid (HD.out.next L2.out)
    clear hb2
    go_wp2_with fail
    refine (HU.out _).mono ?_
    rintro e w3 ⟨rfl, rfl⟩
    go_wp2_with fail
    try rw [HP.out]
    refine (HN.out _).mono ?_
    rintro e w3 ⟨rfl, rfl⟩
    go_wp2_with fail
    refine (HA.out _ D2.out).mono ?_
    intro e w3 h1
    have H1 := Lib.hid (h1.from_ (L2.out.mono (Nat.le_of_lt hgl)))
    rcases h1.tail with ⟨rfl, -⟩ | ⟨e0, p, -, rfl⟩
    · clear h1
      go_wp2
      go_end0
      exact H1.out
    · clear h1
      go_wp2
      exact ⟨rfl, H1.out⟩
end Go.Proofs.YtdhpplbopciijaaDoor.Tk
