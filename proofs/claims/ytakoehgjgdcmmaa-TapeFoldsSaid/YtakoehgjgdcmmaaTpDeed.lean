/-
  Deeds with a tape, as they lie in memory; rifflelaw16.Great; deeds as arguments. Conditions: as told in each.
-/
import Derived.Test.YtakoehgjgdcmmaaTpDo
import Derived.Test.YtakoehgjgdcmmaaPkC
import Derived.Deep.SlicePairs
set_option maxRecDepth 100000
namespace Go.Proofs.Ytakoehgjgdcmmaa.Tp
open Go.Proofs.Ytakoehgjgdcmmaa.Sh Go.Proofs.Ytakoehgjgdcmmaa.St
open Go.Joins Go.ChangeShapes Go.WideShapes Go.ChangeAt Go.RowKit Go.Deep
set_option linter.unusedVariables false

/-- All rows lie at or below n. -/
def RwsA (w : World) (V : Value) (rs : List (List Int)) : Prop := RwsIn (fun _ => True) w V rs
def Deeds (w : World) (A : Option Addr) (ds : List Deed) : Prop := 0 < ds.length → ∃ b off, A = some ⟨b, off, none⟩ ∧ b < w.heap.size ∧ ∀ k d, ds[k]? = some d → ∃ V, w.cell? ⟨b, off + k * 3, none⟩ = some (.bool d.1) ∧ w.cell? ⟨b, off + k * 3 + 1, none⟩ = some (.int .i64 d.2.1) ∧ w.cell? ⟨b, off + k * 3 + 2, none⟩ = some V ∧ RwsA w V d.2.2
theorem Deeds.below {w w' : World} {A : Option Addr} {ds : List Deed} (h : Deeds w A ds) (hb : Below w.heap.size w w') : Deeds w' A ds := fun hp => by
  obtain ⟨b, off, e, hl, hc⟩ := h hp
  have hs := hb.size
  refine ⟨b, off, e, by omega, fun k d hd => ?_⟩
  obtain ⟨V, h1, h2, h3, h4⟩ := hc k d hd
  exact ⟨V, (hb.cell (p := ⟨b, off + k * 3, none⟩) hl).trans h1, (hb.cell (p := ⟨b, off + k * 3 + 1, none⟩) hl).trans h2, (hb.cell (p := ⟨b, off + k * 3 + 2, none⟩) hl).trans h3, RwsIn.next h4 hb⟩
/-- Is a deed small enough? -/
def okD (d : Deed) : Bool := decide (d.2.2.length ≤ 20) && d.2.2.all fun r => decide (r.length ≤ 70)
/-- What Great says. -/
def greatB (ds : List Deed) : Bool := !(decide (ds.length ≤ 40) && (ds.take 40).all okD)
theorem okD_len {d : Deed} (h : okD d = true) : d.2.2.length ≤ 20 := by
  simp only [okD, Bool.and_eq_true, decide_eq_true_eq] at h
  exact h.1
theorem great_no {ds : List Deed} (h : greatB ds = false) : ds.length ≤ 40 ∧ ∀ d ∈ ds, d.2.2.length ≤ 20 := by
  simp only [greatB, Bool.not_eq_false', Bool.and_eq_true, decide_eq_true_eq] at h
  refine ⟨h.1, fun d hd => ?_⟩
  have h2 := h.2
  rw [List.take_of_length_le h.1] at h2
  exact okD_len (List.all_eq_true.1 h2 d hd)
theorem great_hit {ds : List Deed} {k : Nat} {d : Deed} (hd : ds[k]? = some d) (hk : k < 40) (h : okD d = false) : greatB ds = true := by
  have h2 : (ds.take 40).all okD = false := by
    rw [List.all_eq_false]
    exact ⟨d, List.mem_of_getElem? (by rw [List.getElem?_take_of_lt hk]; exact hd), by simp [h]⟩
  simp [greatB, h2]
theorem great_end {ds : List Deed} {k : Nat} (h : (ds.take k).all okD = true) (hk : k = ds.length ∨ k = 40) (hl : k ≤ ds.length) : greatB ds = decide (40 < ds.length) := by
  rcases hk with rfl | rfl
  · rw [List.take_length] at h
    have h2 : (ds.take 40).all okD = true := List.all_eq_true.2 fun x hx => List.all_eq_true.1 h x (List.mem_of_mem_take hx)
    simp only [greatB, h2, Bool.and_true]
    by_cases h3 : ds.length ≤ 40
    · rw [decide_eq_true h3, decide_eq_false (by omega)]; rfl
    · rw [decide_eq_false h3, decide_eq_true (by omega)]; rfl
  · simp only [greatB, h, Bool.and_true]
    by_cases h3 : ds.length ≤ 40
    · rw [decide_eq_true h3, decide_eq_false (by omega)]; rfl
    · rw [decide_eq_false h3, decide_eq_true (by omega)]; rfl
theorem all_snoc {ds : List Deed} {k : Nat} {d : Deed} (h : (ds.take k).all okD = true) (hd : ds[k]? = some d) (ho : okD d = true) : (ds.take (k + 1)).all okD = true := by
  have hk : k < ds.length := (List.getElem?_eq_some_iff.1 hd).1
  rw [List.take_succ_eq_append_getElem hk, List.all_append, h]
  have e : ds[k] = d := by rw [List.getElem?_eq_getElem hk] at hd; injection hd
  simp [e, ho]
theorem okD_hit {d : Deed} {j : Nat} {r : List Int} (h : d.2.2[j]? = some r) (hr : ¬ r.length ≤ 70) : okD d = false := by
  have : (d.2.2.all fun r => decide (r.length ≤ 70)) = false := by
    rw [List.all_eq_false]
    exact ⟨r, List.mem_of_getElem? h, by simpa using hr⟩
  simp [okD, this]
theorem rall_snoc {rs : List (List Int)} {j : Nat} {r : List Int} (h : ((rs.take j).all fun r => decide (r.length ≤ 70)) = true) (hr : rs[j]? = some r) (ho : r.length ≤ 70) : ((rs.take (j + 1)).all fun r => decide (r.length ≤ 70)) = true := by
  have hk : j < rs.length := (List.getElem?_eq_some_iff.1 hr).1
  rw [List.take_succ_eq_append_getElem hk, List.all_append, h]
  have e : rs[j] = r := by rw [List.getElem?_eq_getElem hk] at hr; injection hr
  simp [e, ho]
set_option maxHeartbeats 4000000 in
theorem great_any (A : Option Addr) (c : Nat) (ds : List Deed) (w : World) (hl : ds.length ≤ maxLen) (hD : Deeds w A ds) :
    Calls Try.prog 8 #[.slice A ds.length c] w fun e w' => e = .returned (.bool (greatB ds)) ∧ w = w' := by
  unfold maxLen at hl
  have HD := Lib.hid hD
  clear hD
  go_enter Try.func8, Try.ntmps8
  go_wp2
  go_loop [3] (fun i => ∃ k : Nat, k ≤ ds.length ∧ k ≤ 40 ∧ i = .int .i64 k ∧ Hid ((ds.take k).all okD = true)) (fun i => ds.length - (intOf i).toNat)
  case atStart => exact ⟨0, Nat.zero_le _, Nat.zero_le _, rfl, Lib.hid rfl⟩
  case round =>
    obtain ⟨k, hk, hk8, rfl, HA⟩ := hrel
    by_cases hlt : k < ds.length
    · by_cases h8 : k < 40
      · have i1 : (k : Int) < (ds.length : Int) := by omega
        have i2 : (k : Int) < 40 := by omega
        obtain ⟨⟨db, di, news⟩, hd⟩ : ∃ d, ds[k]? = some d := ⟨_, List.getElem?_eq_getElem hlt⟩
        obtain ⟨b, off, rfl, hb, hc⟩ := HD.out (by omega)
        obtain ⟨V, c0, c1, c2, hrw⟩ := hc k _ hd
        simp only at c2 hrw
        have HRW := Lib.hid hrw
        obtain ⟨A2, c2', vs2, rfl, -⟩ := hrw
        have HDK := Lib.hid hd
        have w3 : IntKind.i64.wrap ((k : Int) + 1) = (k : Int) + 1 := IntWalk.i64_in _ (by omega)
        clear c0 c1 hc hd
        by_cases hr : news.length ≤ 20
        · have t1 : decide ((news.length : Int) > 20) = false := decide_eq_false (by omega)
          go_wp2
          go_loop [4] (fun j => ∃ q : Nat, q ≤ news.length ∧ j = .int .i64 q ∧ Hid (((news.take q).all fun r => decide (r.length ≤ 70)) = true)) (fun j => news.length - (intOf j).toNat)
          case atStart => exact ⟨0, Nat.zero_le _, rfl, Lib.hid rfl⟩
          case round =>
            obtain ⟨q, hq, rfl, HQ⟩ := hrel
            by_cases hqn : q < news.length
            · obtain ⟨r, hrq⟩ : ∃ r, news[q]? = some r := ⟨_, List.getElem?_eq_getElem hqn⟩
              obtain ⟨b2, o2, cb, B2, d2, ev2, hb2, z2, ix, lx⟩ := rws_at HRW.out hrq
              injection ev2 with ev2 _ ev2c
              subst ev2 ev2c
              have j1 : (q : Int) < (news.length : Int) := by omega
              have HRQ := Lib.hid hrq
              obtain ⟨rl, hrl⟩ : ∃ rl, r.length = rl := ⟨_, rfl⟩
              rw [hrl] at z2
              have HRL := Lib.hid hrl
              clear hrq ix lx hb2 hrl
              by_cases h70 : rl ≤ 70
              · have t2 : decide ((rl : Int) > 70) = false := decide_eq_false (by omega)
                have HN := Lib.hid (rall_snoc HQ.out HRQ.out (by rw [HRL.out]; exact h70))
                go_wp2
                go_round
                case rel => exact ⟨q + 1, by omega, by go_num, HN⟩
                case measure => simp [intOf]; omega
              · have t2 : decide ((rl : Int) > 70) = true := decide_eq_true (by omega)
                have HG := Lib.hid (great_hit HDK.out h8 (okD_hit HRQ.out (by rw [HRL.out]; exact h70)))
                go_wp2
                go_ret
                exact ⟨ret_bool HG.out.symm, rfl⟩
            · obtain rfl : q = news.length := by omega
              rw [List.take_length] at HQ
              have HN := Lib.hid (all_snoc HA.out HDK.out (by simp only [okD, HQ.out, Bool.and_true]; exact decide_eq_true hr))
              clear HQ hqn hq
              go_wp2
              go_round
              case rel => exact ⟨k + 1, by omega, by omega, by go_num, HN⟩
              case measure => simp [intOf]; omega
        · have t1 : decide ((news.length : Int) > 20) = true := decide_eq_true (by omega)
          have HG := Lib.hid (great_hit HDK.out h8 (show okD (db, di, news) = false by simp only [okD, decide_eq_false hr, Bool.false_and]))
          go_wp2
          go_ret
          exact ⟨ret_bool HG.out.symm, rfl⟩
      · have i1 : (k : Int) < (ds.length : Int) := by omega
        obtain rfl : k = 40 := by omega
        have HG := Lib.hid (great_end HA.out (.inr rfl) hk)
        go_wp2
        go_ret
        exact ⟨ret_bool (by rw [HG.out]; first | rfl | exact (decide_eq_true (by omega)).symm | (rw [decide_eq_decide]; omega) | (simp; omega)), rfl⟩
    · obtain rfl : k = ds.length := by omega
      have HG := Lib.hid (great_end HA.out (.inl rfl) hk)
      go_wp2
      go_ret
      exact ⟨ret_bool (by rw [HG.out]; first | rfl | exact (decide_eq_true (by omega)).symm | (rw [decide_eq_decide]; omega) | (simp; omega)), rfl⟩
end Go.Proofs.Ytakoehgjgdcmmaa.Tp
