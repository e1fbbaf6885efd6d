/-
  Layer 17, token: rifflelaw17.TokenBlanks. Condition: the two tables of unicode/utf8 hold what their text lays.
-/
import Derived.Test.YtbanegjmapgkdaaDoorTkAlike
import Derived.Test.YtbanegjmapgkdaaDoorTkRises0
import Derived.Deep.RegionHeld3
set_option maxRecDepth 100000
namespace Go.Proofs.YtbanegjmapgkdaaDoor.Tk
open Go.Proofs.YtbanegjmapgkdaaDoor.Sh Go.Proofs.YtbanegjmapgkdaaDoor.St
open Go.RowKit
set_option linter.unusedVariables false

theorem cell_next {w w' : World} {b o : Nat} {v : Value} (h : w.cell? ⟨b, o, none⟩ = some v) (hl : b < w.heap.size) (hb : Below w.heap.size w w') : w'.cell? ⟨b, o, none⟩ = some v := (hb.cell (p := ⟨b, o, none⟩) hl).trans h
theorem pos_le {s : ByteArray} {qs : List Qt} (hf : Fine s.data.toList.length (.inl (qs.map Prod.fst))) {q : Qt} (hq : q ∈ qs) : q.1.pos ≤ s.size := by
  obtain ⟨b, hi⟩ := hf
  have h1 := (hi.1 q.1 (List.mem_map_of_mem hq)).1.1
  have h2 : s.data.toList.length = s.size := by simp
  omega
/-- Both results of Lex in one form. -/
theorem retX_two {s : ByteArray} {w w' : World} {e : Ending} (h : RetX s w e w') : ∃ R A c qs, ∃ E P : Nat, LexIs s.data.toList R ∧ e = .returned (.tuple #[.slice A (List.length qs) c, .agg #[.int .i64 (E : Int), .int .i64 (P : Int)]]) ∧ Live w.heap.size w' (.slice A qs.length c) qs ∧ Below w.heap.size w w' ∧ qs.length ≤ 400 ∧ (∀ q ∈ qs, q.1.nums.length ≤ 64) ∧ (∀ q ∈ qs, q.1.pos ≤ s.size) ∧ P ≤ s.size ∧ ((R = .inl (qs.map Prod.fst) ∧ E = 0) ∨ (qs = [] ∧ R = .inr (E, P) ∧ E ≠ 0)) := by
  obtain ⟨R, hR, h⟩ := h
  have hf := lexIs_facts hR
  cases R with
  | inl ts =>
    obtain ⟨V, qs, rfl, hl, rfl, hok, hb⟩ := h
    obtain ⟨A, c, rfl, -⟩ := hl.view
    exact ⟨_, A, c, qs, 0, 0, hR, rfl, hl, hb, by simpa using hok.1, fun q hq => hok.2 q.1 (List.mem_map_of_mem hq), fun q hq => pos_le hf hq, Nat.zero_le _, .inl ⟨rfl, rfl⟩⟩
  | inr ep =>
    obtain ⟨e0, p⟩ := ep
    obtain ⟨rfl, hb⟩ := h
    exact ⟨_, none, 0, [], e0, p, hR, rfl, Live.nil' _ _, hb, by simp, fun q hq => by simp at hq, fun q hq => by simp at hq, by have := hf.2; simpa using this, .inr ⟨rfl, rfl, hf.1⟩⟩
def moreN (n : Nat) : List Int := [((n : Int)) % 10, 200 + ((n : Int)) % 9, 40]
def moreB (s : ByteArray) (n : Nat) : ByteArray := { data := #[32] } ++ s ++ { data := #[9, 35, 32] } ++ strOfNums (moreN n)
def moreZ (n : Nat) : List UInt8 := [9, 35, 32] ++ (moreN n).map fun n => UInt8.ofNat n.toNat
theorem more_list (s : ByteArray) (n : Nat) : (moreB s n).data.toList = 32 :: (s.data.toList ++ moreZ n) := by
  unfold moreB moreZ strOfNums
  simp [ByteArray.data_append]
theorem more_tail (n : Nat) : Tail (moreZ n) := by
  refine ⟨⟨_, rfl⟩, fun x hx => ?_⟩
  unfold moreZ moreN at hx
  simp at hx
  rcases hx with rfl | rfl | rfl | rfl | rfl | rfl
  · decide
  · decide
  · decide
  · intro h
    have h1 : (UInt8.ofNat (((n : Int) % 10).toNat)).toNat = 10 := by rw [h]; rfl
    simp at h1; omega
  · intro h
    have h1 : (UInt8.ofNat ((200 + (n : Int) % 9).toNat)).toNat = 10 := by rw [h]; rfl
    simp at h1; omega
  · decide
theorem more_size (s : ByteArray) (n : Nat) : (moreB s n).size = s.size + 7 := by
  have h := congrArg List.length (more_list s n)
  simp [moreZ, moreN] at h
  omega
set_option maxHeartbeats 16000000 in
theorem blanks_walk (s : ByteArray) (n : Nat) (hn : n < 256) (hs : s.size ≤ 1900) (w : World) (hT : Gl.Tabs w) :
    Calls Tryd.prog 9 #[.string s, .int .u8 (n : Int)] w (RetB true w) := by
  have HX := Lib.hid (lex_any s w (by unfold maxLen; omega) hT)
  have HT := Lib.hid hT
  have HS := Lib.hid hs
  have i1 : ¬ (1900 : Int) < (s.size : Int) := by omega
  clear hT
  go_enter Tryd.func9, Tryd.ntmps9
  go_wp2_with fail
  refine (HX.out).mono ?_
  intro e w2 h
  obtain ⟨R, A, c, qs, E, P, hR, rfl, hl, hb, h4, h6, h7, hP, hRR⟩ := retX_two h
  clear h HX
  have LB1 := Lib.hid (hb.alloc hb.size (.cells #[.int .i64 (E : Int), .int .i64 (P : Int)] 46))
  have e1 : (w2.alloc (.cells #[.int .i64 (E : Int), .int .i64 (P : Int)] 46)).heap.size = w2.heap.size + 1 := by simp
  have BF := Lib.hid ((Bk.new 46 w2 [.int .i64 (E : Int), .int .i64 (P : Int)]).alloc (.cells #[.int .u8 ((n : Int) % 10), .int .u8 (200 + (n : Int) % 9), .int .u8 40] 5))
  have BU := Bk.new 5 (w2.alloc (.cells #[.int .i64 (E : Int), .int .i64 (P : Int)] 46)) [.int .u8 ((n : Int) % 10), .int .u8 (200 + (n : Int) % 9), .int .u8 40]
  rw [e1] at BU
  have LB2 := Lib.hid (LB1.out.alloc LB1.out.size (.cells #[.int .u8 ((n : Int) % 10), .int .u8 (200 + (n : Int) % 9), .int .u8 40] 5))
  have LV2 := Lib.hid ((hl.next (below_new w2 (.cells #[.int .i64 (E : Int), .int .i64 (P : Int)] 46))).next (below_new _ (.cells #[.int .u8 ((n : Int) % 10), .int .u8 (200 + (n : Int) % 9), .int .u8 40] 5)))
  have HCV := run_convert_bytes_arg (P := Tryd.prog) ((w2.alloc (.cells #[.int .i64 (E : Int), .int .i64 (P : Int)] 46)).alloc (.cells #[.int .u8 ((n : Int) % 10), .int .u8 (200 + (n : Int) % 9), .int .u8 40] 5)) 54 5 Tryd.underlying54 Tryd.underlying5 (w2.heap.size + 1) 0 3 3 (moreN n) rfl (fun i hi => by
    rw [BU.c]
    rcases (show i = 0 ∨ i = 1 ∨ i = 2 by omega) with rfl | rfl | rfl <;> rfl) 9 Tryd.underlying9
  have HX2 := Lib.hid (lex_any (moreB s n) _ (by rw [more_size]; unfold maxLen; omega) (HT.out.below LB2.out))
  unfold moreB at HX2
  clear hb hl e1 BU
  have hmz : (strOfNums (moreN n)).size = 3 := strOfNums_size _
  generalize hmn : strOfNums (moreN n) = mn at *
  go_wp2_with fail
  refine (HX2.out).mono ?_
  generalize hw3 : (w2.alloc (.cells #[.int .i64 (E : Int), .int .i64 (P : Int)] 46)).alloc (.cells #[.int .u8 ((n : Int) % 10), .int .u8 (200 + (n : Int) % 9), .int .u8 40] 5) = w3 at *
  intro e w4 h
  rw [← hmn] at h
  obtain ⟨R', A', c', qs', E', P', hR', rfl, hl', hb', -, -, -, -, hRR'⟩ := retX_two (s := moreB s n) h
  have hu : R' = upR R := lexIs_same hR' (by rw [more_list]; exact lex_up (more_tail n) (by simpa using hs) (by simp [moreZ, moreN]) hR)
  have hmap : qs'.map Prod.fst = (qs.map Prod.fst).map up ∧ E' = E ∧ (E ≠ 0 → P' = P + 1) := by
    rcases hRR with ⟨rfl, rfl⟩ | ⟨rfl, rfl, hE⟩
    · rcases hRR' with ⟨h1, rfl⟩ | ⟨h1, h2, h3⟩
      · rw [hu] at h1
        injection h1 with h1
        exact ⟨h1.symm, rfl, fun h => absurd rfl h⟩
      · rw [hu] at h2; cases h2
    · rcases hRR' with ⟨h1, rfl⟩ | ⟨rfl, h2, h3⟩
      · rw [hu] at h1; cases h1
      · rw [hu] at h2
        injection h2 with h2
        injection h2 with h2 h3'
        exact ⟨rfl, h2.symm, fun _ => h3'.symm⟩
  obtain ⟨hm, rfl, hPP⟩ := hmap
  have hln : qs'.length = qs.length := by have := congrArg List.length hm; simpa using this
  rw [hln] at hl' ⊢
  have LB3 := Lib.hid (Gl.below_next LB2.out hb')
  have LB4 := Lib.hid (LB3.out.alloc LB3.out.size (.cells #[.int .i64 (E' : Int), .int .i64 (P' : Int)] 46))
  have F1 := Lib.hid ((BF.out.next hb').alloc (.cells #[.int .i64 (E' : Int), .int .i64 (P' : Int)] 46))
  have F2 := Lib.hid (Bk.new 46 w4 [.int .i64 (E' : Int), .int .i64 (P' : Int)])
  have V1 := Lib.hid ((LV2.out.next hb').next (below_new w4 (.cells #[.int .i64 (E' : Int), .int .i64 (P' : Int)] 46)))
  have V2 := Lib.hid (hl'.next (below_new w4 (.cells #[.int .i64 (E' : Int), .int .i64 (P' : Int)] 46)))
  have f0 : (w4.alloc (.cells #[.int .i64 (E' : Int), .int .i64 (P' : Int)] 46)).cell? ⟨w2.heap.size, 0, none⟩ = some (.int .i64 (E' : Int)) := F1.out.c 0
  have f1 : (w4.alloc (.cells #[.int .i64 (E' : Int), .int .i64 (P' : Int)] 46)).cell? ⟨w2.heap.size, 1, none⟩ = some (.int .i64 (P : Int)) := F1.out.c 1
  have f2 : w4.cell? ⟨w2.heap.size, 0, none⟩ = some (.int .i64 (E' : Int)) := (BF.out.next hb').c 0
  have f3 : w4.cell? ⟨w2.heap.size, 1, none⟩ = some (.int .i64 (P : Int)) := (BF.out.next hb').c 1
  have n1 : ¬ w2.heap.size = w4.heap.size := by have := (BF.out.next hb').lt; omega
  have HM := Lib.hid hm
  have g1 : IntKind.i64.wrap ((P : Int) + 1) = (P : Int) + 1 := IntWalk.i64_in _ (by omega)
  have HL4 := Lib.hid h4
  have HL6 := Lib.hid h6
  have HPS := Lib.hid h7
  have HLN := Lib.hid hln
  clear h hb' hl' hR hR' hRR hRR' hu hm h4 h6 h7 hP HCV hw3 HX2 BF LB1 LB2 LV2
  by_cases hE : E' = 0
  · have hz : (E' : Int) = 0 := by rw [hE]; rfl
    clear hPP hE
    generalize (E' : Int) = ei at *
    generalize (P' : Int) = pj at *
    subst hz
    go_wp2_with fail
    generalize hW0 : w4.alloc (.cells #[.int .i64 0, .int .i64 pj] 46) = W0 at *
    clear hW0 f0 f1 f2 f3 n1
    go_loopw [61] (fun i wr => ∃ k : Nat, k ≤ qs.length ∧ i = .int .i64 (k : Int) ∧ Hid (Below W0.heap.size W0 wr)) (fun i _ => qs.length - (intOf i).toNat)
    case atStart => exact ⟨0, Nat.zero_le _, rfl, Lib.hid (Below.refl _ _)⟩
    case round =>
      obtain ⟨k, hk, rfl, HB⟩ := hrel
      have HW := Lib.hid (Gl.below_next LB4.out HB.out)
      by_cases hlt : k < qs.length
      · obtain ⟨q, hq⟩ : ∃ q, qs[k]? = some q := ⟨_, List.getElem?_eq_getElem hlt⟩
        obtain ⟨q2, hq2⟩ : ∃ q, qs'[k]? = some q := ⟨_, List.getElem?_eq_getElem (by rw [HLN.out]; exact hlt)⟩
        have hup : q2.1 = up q.1 := by
          have h1 : (qs'.map Prod.fst)[k]? = some q2.1 := by rw [List.getElem?_map, hq2]; rfl
          rw [HM.out, List.map_map, List.getElem?_map, hq] at h1
          injection h1 with h1
          exact h1.symm
        obtain ⟨b1, cc1, hV1, hl1, hcc1, hcs1⟩ := tok_cells (V1.out.next HB.out) hq
        have V2r := V2.out.next HB.out
        rw [← HLN.out] at V2r
        obtain ⟨b2, cc2, hV2, hl2, hcc2, hcs2⟩ := tok_cells V2r hq2
        obtain ⟨rfl, rfl⟩ : A = some ⟨b1, 0, none⟩ ∧ c = cc1 := by injection hV1 with h1 h2 h3; exact ⟨h1, h3⟩
        obtain ⟨rfl, rfl⟩ : A' = some ⟨b2, 0, none⟩ ∧ c' = cc2 := by injection hV2 with h1 h2 h3; exact ⟨h1, h3⟩
        obtain ⟨x0, x1, x2, x3, x4⟩ := hcs1 k q hq
        obtain ⟨y0, y1, y2, y3, y4⟩ := hcs2 k q2 hq2
        obtain ⟨A1, c1, e1, I1⟩ := MineT.ints ((V1.out.next HB.out).2 q (List.mem_of_getElem? hq))
        obtain ⟨A2, c2, e2, I2⟩ := MineT.ints (V2r.2 q2 (List.mem_of_getElem? hq2))
        rw [e1] at x3
        rw [e2] at y3
        rw [hup] at y0 y1 y2 y3 y4 I2
        have hll := HL6.out q (List.mem_of_getElem? hq)
        rw [show (up q.1).kind = q.1.kind from rfl] at y0
        rw [show (up q.1).pos = q.1.pos + 1 from rfl] at y1
        rw [show (up q.1).code = q.1.code from rfl] at y2
        rw [show (up q.1).nums = q.1.nums from rfl] at y3 I2
        rw [show (up q.1).name = q.1.name from rfl] at y4
        rw [Int.natCast_add] at y1
        have hps := HPS.out q (List.mem_of_getElem? hq)
        have g3 : IntKind.i64.wrap ((q.1.pos : Int) + 1) = (q.1.pos : Int) + 1 := IntWalk.i64_in _ (by omega)
        rw [HLN.out] at hcc2
        have HAL := Lib.hid (alike_any (q.1.kind : Int) (q.1.pos : Int) ((q.1.pos : Int) + 1) (q.1.code : Int) (nm q.1.name) A1 A2 c1 c2 q.1.nums wr.drew (by unfold maxLen; omega) (ints_next I1 (Below.refl _ _).drew) (ints_next I2 (Below.refl _ _).drew))
        have k4 : k < 400 := by have := HL4.out; omega
        clear hV1 hV2 hcs1 hcs2 e1 e2 V2r hq hq2 hup hps I1 I2
        generalize (q.1.kind : Int) = kd at *
        generalize (q.1.pos : Int) = pos at *
        generalize (q.1.code : Int) = cd at *
        generalize nm q.1.name = N at *
        generalize q.1.nums.length = nl at *
        go_wp2_with fail
        have KW := Lib.hid (show wr.drew.cell? ⟨b1, k * 5, none⟩ = some (.int .i64 kd) ∧ wr.drew.cell? ⟨b1, k * 5 + 1, none⟩ = some (.int .i64 pos) ∧ wr.drew.cell? ⟨b1, k * 5 + 2, none⟩ = some (.int .i64 cd) ∧ wr.drew.cell? ⟨b1, k * 5 + 3, none⟩ = some (.slice A1 nl c1) ∧ wr.drew.cell? ⟨b1, k * 5 + 4, none⟩ = some (.string N) ∧ wr.drew.cell? ⟨b2, k * 5, none⟩ = some (.int .i64 kd) ∧ wr.drew.cell? ⟨b2, k * 5 + 1, none⟩ = some (.int .i64 (pos + 1)) ∧ wr.drew.cell? ⟨b2, k * 5 + 2, none⟩ = some (.int .i64 cd) ∧ wr.drew.cell? ⟨b2, k * 5 + 3, none⟩ = some (.slice A2 nl c2) ∧ wr.drew.cell? ⟨b2, k * 5 + 4, none⟩ = some (.string N) from ⟨x0, x1, x2, x3, x4, y0, y1, y2, y3, y4⟩)
        go_region_held3 (fun w' => w'.cell? ⟨b1, k * 5, none⟩ = some (.int .i64 kd) ∧ w'.cell? ⟨b1, k * 5 + 1, none⟩ = some (.int .i64 pos) ∧ w'.cell? ⟨b1, k * 5 + 2, none⟩ = some (.int .i64 cd) ∧ w'.cell? ⟨b1, k * 5 + 3, none⟩ = some (.slice A1 nl c1) ∧ w'.cell? ⟨b1, k * 5 + 4, none⟩ = some (.string N) ∧ w'.cell? ⟨b2, k * 5, none⟩ = some (.int .i64 kd) ∧ w'.cell? ⟨b2, k * 5 + 1, none⟩ = some (.int .i64 (pos + 1)) ∧ w'.cell? ⟨b2, k * 5 + 2, none⟩ = some (.int .i64 cd) ∧ w'.cell? ⟨b2, k * 5 + 3, none⟩ = some (.slice A2 nl c2) ∧ w'.cell? ⟨b2, k * 5 + 4, none⟩ = some (.string N))
          (first
            | with_reducible exact KK.out
            | with_reducible exact KW.out
            | go_keep)
          (first
            | (go_at_call 27; (with_reducible refine (HAL.out).mono ?_); rintro r w7 ⟨rfl, hbd⟩; have KK := Lib.hid (show w7.cell? ⟨b1, k * 5, none⟩ = some (.int .i64 kd) ∧ w7.cell? ⟨b1, k * 5 + 1, none⟩ = some (.int .i64 pos) ∧ w7.cell? ⟨b1, k * 5 + 2, none⟩ = some (.int .i64 cd) ∧ w7.cell? ⟨b1, k * 5 + 3, none⟩ = some (.slice A1 nl c1) ∧ w7.cell? ⟨b1, k * 5 + 4, none⟩ = some (.string N) ∧ w7.cell? ⟨b2, k * 5, none⟩ = some (.int .i64 kd) ∧ w7.cell? ⟨b2, k * 5 + 1, none⟩ = some (.int .i64 (pos + 1)) ∧ w7.cell? ⟨b2, k * 5 + 2, none⟩ = some (.int .i64 cd) ∧ w7.cell? ⟨b2, k * 5 + 3, none⟩ = some (.slice A2 nl c2) ∧ w7.cell? ⟨b2, k * 5 + 4, none⟩ = some (.string N) from ⟨cell_next (w := wr.drew) x0 hl1 hbd, cell_next (w := wr.drew) x1 hl1 hbd, cell_next (w := wr.drew) x2 hl1 hbd, cell_next (w := wr.drew) x3 hl1 hbd, cell_next (w := wr.drew) x4 hl1 hbd, cell_next (w := wr.drew) y0 hl2 hbd, cell_next (w := wr.drew) y1 hl2 hbd, cell_next (w := wr.drew) y2 hl2 hbd, cell_next (w := wr.drew) y3 hl2 hbd, cell_next (w := wr.drew) y4 hl2 hbd⟩); have HB7 := Lib.hid (Gl.below_next (Gl.below_next HB.out (Below.refl _ _).drew) hbd); clear hbd))
        all_goals
          go_wp2
          go_round
          case rel => exact ⟨k + 1, by omega, by go_num, HB7⟩
          case measure => simp [intOf]; omega
      · have hke : k = qs.length := by omega
        subst hke
        have HL := Lib.hid (lives_any _ (HT.out.below HW.out))
        go_wp2_with fail
        refine (HL.out).mono ?_
        rintro e w5 ⟨rfl, hb5⟩
        have L5 := Lib.hid (Gl.below_next HW.out hb5)
        clear hb5
        go_wp2
        go_ret
        exact ⟨rfl, L5.out⟩
  · have b1 : ((E' : Int) != 0) = true := by simp; omega
    have b3 : ((P' : Int) != (P : Int) + 1) = false := by rw [hPP hE]; simp
    clear hPP hE
    generalize (E' : Int) = ei at *
    generalize (P' : Int) = pj at *
    go_wp2_with fail
    generalize hW0 : w4.alloc (.cells #[.int .i64 ei, .int .i64 pj] 46) = W0 at *
    clear hW0 f0 f1 f2 f3 n1
    go_loopw [61] (fun i wr => ∃ k : Nat, k ≤ qs.length ∧ i = .int .i64 (k : Int) ∧ Hid (Below W0.heap.size W0 wr)) (fun i _ => qs.length - (intOf i).toNat)
    case atStart => exact ⟨0, Nat.zero_le _, rfl, Lib.hid (Below.refl _ _)⟩
    case round =>
      obtain ⟨k, hk, rfl, HB⟩ := hrel
      have HW := Lib.hid (Gl.below_next LB4.out HB.out)
      by_cases hlt : k < qs.length
      · obtain ⟨q, hq⟩ : ∃ q, qs[k]? = some q := ⟨_, List.getElem?_eq_getElem hlt⟩
        obtain ⟨q2, hq2⟩ : ∃ q, qs'[k]? = some q := ⟨_, List.getElem?_eq_getElem (by rw [HLN.out]; exact hlt)⟩
        have hup : q2.1 = up q.1 := by
          have h1 : (qs'.map Prod.fst)[k]? = some q2.1 := by rw [List.getElem?_map, hq2]; rfl
          rw [HM.out, List.map_map, List.getElem?_map, hq] at h1
          injection h1 with h1
          exact h1.symm
        obtain ⟨b1, cc1, hV1, hl1, hcc1, hcs1⟩ := tok_cells (V1.out.next HB.out) hq
        have V2r := V2.out.next HB.out
        rw [← HLN.out] at V2r
        obtain ⟨b2, cc2, hV2, hl2, hcc2, hcs2⟩ := tok_cells V2r hq2
        obtain ⟨rfl, rfl⟩ : A = some ⟨b1, 0, none⟩ ∧ c = cc1 := by injection hV1 with h1 h2 h3; exact ⟨h1, h3⟩
        obtain ⟨rfl, rfl⟩ : A' = some ⟨b2, 0, none⟩ ∧ c' = cc2 := by injection hV2 with h1 h2 h3; exact ⟨h1, h3⟩
        obtain ⟨x0, x1, x2, x3, x4⟩ := hcs1 k q hq
        obtain ⟨y0, y1, y2, y3, y4⟩ := hcs2 k q2 hq2
        obtain ⟨A1, c1, e1, I1⟩ := MineT.ints ((V1.out.next HB.out).2 q (List.mem_of_getElem? hq))
        obtain ⟨A2, c2, e2, I2⟩ := MineT.ints (V2r.2 q2 (List.mem_of_getElem? hq2))
        rw [e1] at x3
        rw [e2] at y3
        rw [hup] at y0 y1 y2 y3 y4 I2
        have hll := HL6.out q (List.mem_of_getElem? hq)
        rw [show (up q.1).kind = q.1.kind from rfl] at y0
        rw [show (up q.1).pos = q.1.pos + 1 from rfl] at y1
        rw [show (up q.1).code = q.1.code from rfl] at y2
        rw [show (up q.1).nums = q.1.nums from rfl] at y3 I2
        rw [show (up q.1).name = q.1.name from rfl] at y4
        rw [Int.natCast_add] at y1
        have hps := HPS.out q (List.mem_of_getElem? hq)
        have g3 : IntKind.i64.wrap ((q.1.pos : Int) + 1) = (q.1.pos : Int) + 1 := IntWalk.i64_in _ (by omega)
        rw [HLN.out] at hcc2
        have HAL := Lib.hid (alike_any (q.1.kind : Int) (q.1.pos : Int) ((q.1.pos : Int) + 1) (q.1.code : Int) (nm q.1.name) A1 A2 c1 c2 q.1.nums wr.drew (by unfold maxLen; omega) (ints_next I1 (Below.refl _ _).drew) (ints_next I2 (Below.refl _ _).drew))
        have k4 : k < 400 := by have := HL4.out; omega
        clear hV1 hV2 hcs1 hcs2 e1 e2 V2r hq hq2 hup hps I1 I2
        generalize (q.1.kind : Int) = kd at *
        generalize (q.1.pos : Int) = pos at *
        generalize (q.1.code : Int) = cd at *
        generalize nm q.1.name = N at *
        generalize q.1.nums.length = nl at *
        go_wp2_with fail
        have KW := Lib.hid (show wr.drew.cell? ⟨b1, k * 5, none⟩ = some (.int .i64 kd) ∧ wr.drew.cell? ⟨b1, k * 5 + 1, none⟩ = some (.int .i64 pos) ∧ wr.drew.cell? ⟨b1, k * 5 + 2, none⟩ = some (.int .i64 cd) ∧ wr.drew.cell? ⟨b1, k * 5 + 3, none⟩ = some (.slice A1 nl c1) ∧ wr.drew.cell? ⟨b1, k * 5 + 4, none⟩ = some (.string N) ∧ wr.drew.cell? ⟨b2, k * 5, none⟩ = some (.int .i64 kd) ∧ wr.drew.cell? ⟨b2, k * 5 + 1, none⟩ = some (.int .i64 (pos + 1)) ∧ wr.drew.cell? ⟨b2, k * 5 + 2, none⟩ = some (.int .i64 cd) ∧ wr.drew.cell? ⟨b2, k * 5 + 3, none⟩ = some (.slice A2 nl c2) ∧ wr.drew.cell? ⟨b2, k * 5 + 4, none⟩ = some (.string N) from ⟨x0, x1, x2, x3, x4, y0, y1, y2, y3, y4⟩)
        go_region_held3 (fun w' => w'.cell? ⟨b1, k * 5, none⟩ = some (.int .i64 kd) ∧ w'.cell? ⟨b1, k * 5 + 1, none⟩ = some (.int .i64 pos) ∧ w'.cell? ⟨b1, k * 5 + 2, none⟩ = some (.int .i64 cd) ∧ w'.cell? ⟨b1, k * 5 + 3, none⟩ = some (.slice A1 nl c1) ∧ w'.cell? ⟨b1, k * 5 + 4, none⟩ = some (.string N) ∧ w'.cell? ⟨b2, k * 5, none⟩ = some (.int .i64 kd) ∧ w'.cell? ⟨b2, k * 5 + 1, none⟩ = some (.int .i64 (pos + 1)) ∧ w'.cell? ⟨b2, k * 5 + 2, none⟩ = some (.int .i64 cd) ∧ w'.cell? ⟨b2, k * 5 + 3, none⟩ = some (.slice A2 nl c2) ∧ w'.cell? ⟨b2, k * 5 + 4, none⟩ = some (.string N))
          (first
            | with_reducible exact KK.out
            | with_reducible exact KW.out
            | go_keep)
          (first
            | (go_at_call 27; (with_reducible refine (HAL.out).mono ?_); rintro r w7 ⟨rfl, hbd⟩; have KK := Lib.hid (show w7.cell? ⟨b1, k * 5, none⟩ = some (.int .i64 kd) ∧ w7.cell? ⟨b1, k * 5 + 1, none⟩ = some (.int .i64 pos) ∧ w7.cell? ⟨b1, k * 5 + 2, none⟩ = some (.int .i64 cd) ∧ w7.cell? ⟨b1, k * 5 + 3, none⟩ = some (.slice A1 nl c1) ∧ w7.cell? ⟨b1, k * 5 + 4, none⟩ = some (.string N) ∧ w7.cell? ⟨b2, k * 5, none⟩ = some (.int .i64 kd) ∧ w7.cell? ⟨b2, k * 5 + 1, none⟩ = some (.int .i64 (pos + 1)) ∧ w7.cell? ⟨b2, k * 5 + 2, none⟩ = some (.int .i64 cd) ∧ w7.cell? ⟨b2, k * 5 + 3, none⟩ = some (.slice A2 nl c2) ∧ w7.cell? ⟨b2, k * 5 + 4, none⟩ = some (.string N) from ⟨cell_next (w := wr.drew) x0 hl1 hbd, cell_next (w := wr.drew) x1 hl1 hbd, cell_next (w := wr.drew) x2 hl1 hbd, cell_next (w := wr.drew) x3 hl1 hbd, cell_next (w := wr.drew) x4 hl1 hbd, cell_next (w := wr.drew) y0 hl2 hbd, cell_next (w := wr.drew) y1 hl2 hbd, cell_next (w := wr.drew) y2 hl2 hbd, cell_next (w := wr.drew) y3 hl2 hbd, cell_next (w := wr.drew) y4 hl2 hbd⟩); have HB7 := Lib.hid (Gl.below_next (Gl.below_next HB.out (Below.refl _ _).drew) hbd); clear hbd))
        all_goals
          go_wp2
          go_round
          case rel => exact ⟨k + 1, by omega, by go_num, HB7⟩
          case measure => simp [intOf]; omega
      · have hke : k = qs.length := by omega
        subst hke
        have HL := Lib.hid (lives_any _ (HT.out.below HW.out))
        go_wp2_with fail
        refine (HL.out).mono ?_
        rintro e w5 ⟨rfl, hb5⟩
        have L5 := Lib.hid (Gl.below_next HW.out hb5)
        clear hb5
        go_wp2
        go_ret
        exact ⟨rfl, L5.out⟩
end Go.Proofs.YtbanegjmapgkdaaDoor.Tk
