/-
  Proved: for any function, any list of numbers and any cell rifflelaw09.ProductItems returns true, and each argument reads afterwards as it read before. The card is tied to the text that lays scalar.traits; it speaks of the pruned copy of the project that this seat's roots load. No other condition.
-/
import Derived.Test.YtbanegjmapgkdaaDoorPrItemM
set_option maxRecDepth 100000
namespace Go.Proofs.YtbanegjmapgkdaaDoor.productItems
open Go.Proofs.YtbanegjmapgkdaaDoor.Sh Go.Proofs.YtbanegjmapgkdaaDoor.Fd Go.Proofs.YtbanegjmapgkdaaDoor.Pr
open Go.Joins Go.ChangeShapes Go.WideShapes Go.ChangeAt Go.RowKit Go.Deep
set_option linter.unusedVariables false

theorem fn_box (w : World) (c : Int) (s : Bool) (X Y : Value) : FnAt ((w.alloc (.cells #[.int .i64 c, .bool s] 23)).alloc (.cells #[X, Y] 29)) w.heap.size c s ∧ Box ((w.alloc (.cells #[.int .i64 c, .bool s] 23)).alloc (.cells #[X, Y] 29)) (w.heap.size + 1) X Y ∧ Below w.heap.size w ((w.alloc (.cells #[.int .i64 c, .bool s] 23)).alloc (.cells #[X, Y] 29)) :=
  ⟨bx2 ((Bx.new 23 w #[.int .i64 c, .bool s]).alloc _), box_sz w _ X Y, below_next (below_new w _) (below_new _ _)⟩
set_option maxHeartbeats 4000000 in
theorem walk_1 (c : Int) (s : Bool) (A : Option Addr) (c1 : Nat) (l : List Int) (A' : Option Addr) (c1' : Nat) (e : List Int) (B' : Option Addr) (c2' : Nat) (u : List Int) (w : World) (hT : Sc.Tab w) (il : Ints w A l) (ie : Ints w A' e) (iu : Ints w B' u) (rl : AllR l) (ru : AllR u) (hll : l.length ≤ maxLen) (h1 : 64 < l.length) :
    Calls Tryd.prog 5 #[.agg #[.int .i64 c, .bool s], .slice A l.length c1, .agg #[.slice A' e.length c1', .slice B' u.length c2']] w fun r w' => r = .returned (.bool true) ∧ Below w.heap.size w w' := by
  unfold maxLen at hll
  have fb := fn_box w c s (.slice A' e.length c1') (.slice B' u.length c2')
  have FN := Lib.hid fb.1
  have BB := Lib.hid fb.2.1
  have L := Lib.hid fb.2.2
  have T := Lib.hid (hT.below L.out)
  have IL := Lib.hid (il.below L.out)
  have IE := Lib.hid (ie.below L.out)
  have IU := Lib.hid (iu.below L.out)
  have RL := Lib.hid rl
  have RU := Lib.hid ru
  clear fb hT il ie iu rl ru
  go_enter Tryd.func5, Tryd.ntmps5
  go_upto_region 1 with (fail)
  generalize hW : ((w.alloc (.cells #[.int .i64 c, .bool s] 23)).alloc (.cells #[.slice A' e.length c1', .slice B' u.length c2'] 29)) = W at *
  clear hW
  have h64 : (64 : Int) < (l.length : Int) := by omega
  go_wp2_with fail
  refine (lives_any _ T.out).mono ?_
  rintro r wl ⟨rfl, hb⟩
  replace L := Lib.hid (below_next L.out hb)
  clear hb
  go_wp2
  go_ret
  exact ⟨rfl, L.out⟩
set_option maxHeartbeats 4000000 in
theorem walk_2 (c : Int) (s : Bool) (A : Option Addr) (c1 : Nat) (l : List Int) (A' : Option Addr) (c1' : Nat) (e : List Int) (B' : Option Addr) (c2' : Nat) (u : List Int) (w : World) (hT : Sc.Tab w) (il : Ints w A l) (ie : Ints w A' e) (iu : Ints w B' u) (rl : AllR l) (ru : AllR u) (hll : l.length ≤ maxLen) (h1 : l.length ≤ 64) (h2 : ¬ (e.length ≤ 10 ∧ u.length ≤ 200)) :
    Calls Tryd.prog 5 #[.agg #[.int .i64 c, .bool s], .slice A l.length c1, .agg #[.slice A' e.length c1', .slice B' u.length c2']] w fun r w' => r = .returned (.bool true) ∧ Below w.heap.size w w' := by
  have H2 := Lib.hid h2
  clear h2
  unfold maxLen at hll
  have fb := fn_box w c s (.slice A' e.length c1') (.slice B' u.length c2')
  have FN := Lib.hid fb.1
  have BB := Lib.hid fb.2.1
  have L := Lib.hid fb.2.2
  have T := Lib.hid (hT.below L.out)
  have IL := Lib.hid (il.below L.out)
  have IE := Lib.hid (ie.below L.out)
  have IU := Lib.hid (iu.below L.out)
  have RL := Lib.hid rl
  have RU := Lib.hid ru
  clear fb hT il ie iu rl ru
  go_enter Tryd.func5, Tryd.ntmps5
  go_upto_region 1 with (fail)
  generalize hW : ((w.alloc (.cells #[.int .i64 c, .bool s] 23)).alloc (.cells #[.slice A' e.length c1', .slice B' u.length c2'] 29)) = W at *
  clear hW
  have h64 : ¬ (64 : Int) < (l.length : Int) := by omega
  have h65 : (l.length : Int) ≤ 64 := by omega
  obtain ⟨b0, b1, -, -⟩ := BB.out.all
  go_wp2_with fail
  refine (great_yes _ _ _ _ _ _ _ H2.out).mono ?_
  rintro r w1 ⟨rfl, hb⟩
  replace FN := Lib.hid (FN.out.below hb)
  replace BB := Lib.hid (BB.out.next hb)
  replace L := Lib.hid (below_next L.out hb)
  replace T := Lib.hid (T.out.below hb)
  replace IL := Lib.hid (IL.out.below hb)
  replace IE := Lib.hid (IE.out.below hb)
  replace IU := Lib.hid (IU.out.below hb)
  clear hb b0 b1
  go_wp2_with fail
  refine (lives_any _ T.out).mono ?_
  rintro r wl ⟨rfl, hb⟩
  replace L := Lib.hid (below_next L.out hb)
  clear hb
  go_wp2
  go_ret
  exact ⟨rfl, L.out⟩
set_option maxHeartbeats 8000000 in
theorem walk_3 (c : Int) (s : Bool) (A : Option Addr) (c1 : Nat) (l : List Int) (A' : Option Addr) (c1' : Nat) (e : List Int) (B' : Option Addr) (c2' : Nat) (u : List Int) (w : World) (hT : Sc.Tab w) (il : Ints w A l) (ie : Ints w A' e) (iu : Ints w B' u) (rl : AllR l) (ru : AllR u) (hll : l.length ≤ maxLen) (h1 : l.length ≤ 64) (h2 : e.length ≤ 10 ∧ u.length ≤ 200) (E : Int) (hE : outE c s [(l.length : Int)] l.length e u.length = E) (D V : List Int) (hD : (if E = 0 then [(l.length : Int)] ++ e else []) = D) (hV : (if E = 0 then outV c s l u else []) = V) (hN : E ≠ 0) :
    Calls Tryd.prog 5 #[.agg #[.int .i64 c, .bool s], .slice A l.length c1, .agg #[.slice A' e.length c1', .slice B' u.length c2']] w fun r w' => r = .returned (.bool true) ∧ Below w.heap.size w w' := by
  have HE := Lib.hid hE
  have HD := Lib.hid hD
  have HV := Lib.hid hV
  clear hE hD hV
  have HN := Lib.hid hN
  clear hN
  unfold maxLen at hll
  have fb := fn_box w c s (.slice A' e.length c1') (.slice B' u.length c2')
  have FN := Lib.hid fb.1
  have BB := Lib.hid fb.2.1
  have L := Lib.hid fb.2.2
  have T := Lib.hid (hT.below L.out)
  have IL := Lib.hid (il.below L.out)
  have IE := Lib.hid (ie.below L.out)
  have IU := Lib.hid (iu.below L.out)
  have RL := Lib.hid rl
  have RU := Lib.hid ru
  clear fb hT il ie iu rl ru
  go_enter Tryd.func5, Tryd.ntmps5
  go_upto_region 1 with (fail)
  generalize hW : ((w.alloc (.cells #[.int .i64 c, .bool s] 23)).alloc (.cells #[.slice A' e.length c1', .slice B' u.length c2'] 29)) = W at *
  clear hW
  have h64 : ¬ (64 : Int) < (l.length : Int) := by omega
  have h65 : (l.length : Int) ≤ 64 := by omega
  obtain ⟨b0, b1, -, -⟩ := BB.out.all
  go_wp2_with fail
  refine (great_no _ _ _ _ _ _ _ h2.1 h2.2).mono ?_
  rintro r w1 ⟨rfl, hb⟩
  replace FN := Lib.hid (FN.out.below hb)
  replace BB := Lib.hid (BB.out.next hb)
  replace L := Lib.hid (below_next L.out hb)
  replace T := Lib.hid (T.out.below hb)
  replace IL := Lib.hid (IL.out.below hb)
  replace IE := Lib.hid (IE.out.below hb)
  replace IU := Lib.hid (IU.out.below hb)
  clear hb b0 b1
  obtain ⟨f0, f1⟩ := FN.out
  obtain ⟨b0, b1, -, -⟩ := BB.out.all
  have LA := Lib.hid (fun W => list_any A l.length c1 W (by omega))
  have OC := Lib.hid (fun bl W (hB : Below w1.heap.size w1 W) (i : Ints W (some ⟨bl, 0, none⟩) [(l.length : Int)]) => outer_o c s (some ⟨bl, 0, none⟩) 1 [(l.length : Int)] A c1 l A' c1' e B' c2' u W 1 rfl l.length rfl D V E HE.out HD.out HV.out (T.out.below hB) i (IE.out.below hB) (by simp) (by omega) RL.out RU.out (IL.out.below hB) (IU.out.below hB))
  have DR := Lib.hid (Below.refl w1.heap.size w1).drew
  have DC := Lib.hid (below_new w1 (.cells #[.slice none 0 0, .slice none 0 0] 29)).drew
  have XC := Lib.hid (Box.new w1 (.slice none 0 0) (.slice none 0 0)).drew
  go_upto_region 3 with (fail)
  go_cut [7, 8] (fun s7 s8 wx => CutO w1 D V (fun k => E = 0 → V.length ≤ k ∧ k ≤ maxLen) (.int .i64 E) s7 s8 wx)
  case first =>
    go_region_held3 (fun w' => w'.cell? ⟨w.heap.size, 0, none⟩ = some (.int .i64 c) ∧ w'.cell? ⟨w.heap.size, 1, none⟩ = some (.bool s) ∧ w'.cell? ⟨w.heap.size + 1, 0, none⟩ = some (.slice A' e.length c1') ∧ w'.cell? ⟨w.heap.size + 1, 1, none⟩ = some (.slice B' u.length c2'))
      (first
        | with_reducible exact K11.out
        | with_reducible exact KK.out
        | exact ⟨f0, f1, b0, b1⟩
        | exact ⟨keepB DC.out f0, keepB DC.out f1, keepB DC.out b0, keepB DC.out b1⟩
        | exact ⟨keepB (below_next L10.out (below_new w10 _)) f0, keepB (below_next L10.out (below_new w10 _)) f1, keepB (below_next L10.out (below_new w10 _)) b0, keepB (below_next L10.out (below_new w10 _)) b1⟩
        | exact ⟨keepB (below_next L11.out (below_new w11 _)) f0, keepB (below_next L11.out (below_new w11 _)) f1, keepB (below_next L11.out (below_new w11 _)) b0, keepB (below_next L11.out (below_new w11 _)) b1⟩
        | exact ⟨keepB ((L11.out.setCell (Nat.le_refl _) _).setCell (Nat.le_refl _) _) f0, keepB ((L11.out.setCell (Nat.le_refl _) _).setCell (Nat.le_refl _) _) f1, keepB ((L11.out.setCell (Nat.le_refl _) _).setCell (Nat.le_refl _) _) b0, keepB ((L11.out.setCell (Nat.le_refl _) _).setCell (Nat.le_refl _) _) b1⟩
        | exact ⟨keepB ((L11.out.setCell L10.out.size _).setCell L10.out.size _) f0, keepB ((L11.out.setCell L10.out.size _).setCell L10.out.size _) f1, keepB ((L11.out.setCell L10.out.size _).setCell L10.out.size _) b0, keepB ((L11.out.setCell L10.out.size _).setCell L10.out.size _) b1⟩
        | exact ⟨keepB (below_new w1 _) f0, keepB (below_new w1 _) f1, keepB (below_new w1 _) b0, keepB (below_new w1 _) b1⟩
        | go_keep)
      (first
        | (go_at_call 17; (with_reducible refine (LA.out w1.drew).mono ?_); rintro r w10 ⟨bl, rfl, i10, hb10⟩; have L10 := Lib.hid (below_next DR.out hb10); have I10 := Lib.hid i10; have KK := Lib.hid (show w10.cell? ⟨w.heap.size, 0, none⟩ = some (.int .i64 c) ∧ w10.cell? ⟨w.heap.size, 1, none⟩ = some (.bool s) ∧ w10.cell? ⟨w.heap.size + 1, 0, none⟩ = some (.slice A' e.length c1') ∧ w10.cell? ⟨w.heap.size + 1, 1, none⟩ = some (.slice B' u.length c2') from ⟨keepB L10.out f0, keepB L10.out f1, keepB L10.out b0, keepB L10.out b1⟩); clear i10 hb10)
        | (go_at_call 17; (with_reducible refine (LA.out (w1.alloc (.cells #[.slice none 0 0, .slice none 0 0] 29)).drew).mono ?_); rintro r w10 ⟨bl, rfl, i10, hb10⟩; have L10 := Lib.hid (below_next DC.out hb10); have I10 := Lib.hid i10; have X10 := Lib.hid (XC.out.next hb10); have KK := Lib.hid (show w10.cell? ⟨w.heap.size, 0, none⟩ = some (.int .i64 c) ∧ w10.cell? ⟨w.heap.size, 1, none⟩ = some (.bool s) ∧ w10.cell? ⟨w.heap.size + 1, 0, none⟩ = some (.slice A' e.length c1') ∧ w10.cell? ⟨w.heap.size + 1, 1, none⟩ = some (.slice B' u.length c2') from ⟨keepB L10.out f0, keepB L10.out f1, keepB L10.out b0, keepB L10.out b1⟩); clear i10 hb10)
        | (go_at_call 15; (with_reducible refine (OC.out _ _ L10.out I10.out).mono ?_); rintro r w11 ⟨A7, c7, B7, k7, rfl, j1, j2, j3, hb11⟩; have L11 := Lib.hid (below_next L10.out hb11); have J1 := Lib.hid j1; have J2 := Lib.hid j2; have J3 := Lib.hid j3; have X11 := Lib.hid (X10.out.next hb11); obtain ⟨n0, n1, n2, n3⟩ := X11.out.all; have K11 := Lib.hid (show w11.cell? ⟨w.heap.size, 0, none⟩ = some (.int .i64 c) ∧ w11.cell? ⟨w.heap.size, 1, none⟩ = some (.bool s) ∧ w11.cell? ⟨w.heap.size + 1, 0, none⟩ = some (.slice A' e.length c1') ∧ w11.cell? ⟨w.heap.size + 1, 1, none⟩ = some (.slice B' u.length c2') from ⟨keepB L11.out f0, keepB L11.out f1, keepB L11.out b0, keepB L11.out b1⟩); clear j1 j2 j3 hb11)
        | (go_at_call 15; (with_reducible refine (OC.out _ _ L10.out I10.out).mono ?_); rintro r w11 ⟨A7, c7, B7, k7, rfl, j1, j2, j3, hb11⟩; have L11 := Lib.hid (below_next L10.out hb11); have J1 := Lib.hid j1; have J2 := Lib.hid j2; have J3 := Lib.hid j3; have K11 := Lib.hid (show w11.cell? ⟨w.heap.size, 0, none⟩ = some (.int .i64 c) ∧ w11.cell? ⟨w.heap.size, 1, none⟩ = some (.bool s) ∧ w11.cell? ⟨w.heap.size + 1, 0, none⟩ = some (.slice A' e.length c1') ∧ w11.cell? ⟨w.heap.size + 1, 1, none⟩ = some (.slice B' u.length c2') from ⟨keepB L11.out f0, keepB L11.out f1, keepB L11.out b0, keepB L11.out b1⟩); clear j1 j2 j3 hb11)
        | (go_at_call 15; (with_reducible refine (OC.out _ _ (below_next L10.out (below_new w10 (.cells #[.slice none 0 0, .slice none 0 0] 29))) (I10.out.below (below_new w10 (.cells #[.slice none 0 0, .slice none 0 0] 29)))).mono ?_); rintro r w11 ⟨A7, c7, B7, k7, rfl, j1, j2, j3, hb11⟩; have L11 := Lib.hid (below_next (below_next L10.out (below_new w10 (.cells #[.slice none 0 0, .slice none 0 0] 29))) hb11); have J1 := Lib.hid j1; have J2 := Lib.hid j2; have J3 := Lib.hid j3; have X11 := Lib.hid ((Box.new w10 (.slice none 0 0) (.slice none 0 0)).next hb11); obtain ⟨n0, n1, n2, n3⟩ := X11.out.all; have K11 := Lib.hid (show w11.cell? ⟨w.heap.size, 0, none⟩ = some (.int .i64 c) ∧ w11.cell? ⟨w.heap.size, 1, none⟩ = some (.bool s) ∧ w11.cell? ⟨w.heap.size + 1, 0, none⟩ = some (.slice A' e.length c1') ∧ w11.cell? ⟨w.heap.size + 1, 1, none⟩ = some (.slice B' u.length c2') from ⟨keepB L11.out f0, keepB L11.out f1, keepB L11.out b0, keepB L11.out b1⟩); clear j1 j2 j3 hb11))
    all_goals (go_wp2_with fail; go_meet)
    all_goals first
      | exact co1 L11.out J1.out J2.out J3.out rfl rfl _
      | exact co2 L11.out J1.out J2.out J3.out rfl rfl _ X11.out (Nat.le_refl _)
      | exact co2 L11.out J1.out J2.out J3.out rfl rfl _ X11.out L10.out.size
  case rest =>
    obtain ⟨g7, A7, k7, B7, e7, rfl, rfl, hbx, j1, j2, j3, hg7, hL7⟩ := hcut
    have KX := Lib.hid hbx
    have ID := Lib.hid j1
    have IV := Lib.hid j2
    have CP := Lib.hid j3
    replace FN := Lib.hid (FN.out.below hL7)
    replace BB := Lib.hid (BB.out.next hL7)
    replace L := Lib.hid (below_next L.out hL7)
    replace T := Lib.hid (T.out.below hL7)
    replace IL := Lib.hid (IL.out.below hL7)
    replace IE := Lib.hid (IE.out.below hL7)
    replace IU := Lib.hid (IU.out.below hL7)
    clear hbx j1 j2 j3 hL7 f0 f1 b0 b1 LA OC DR DC XC
    have hne : (E != 0) = true := by simpa using HN.out
    have HV0 := Lib.hid (show V = [] by rw [← HV.out, if_neg HN.out])
    rw [HV0.out] at KX IV
    obtain ⟨x0, x1, -, -⟩ := KX.out.all
    go_wp2_with fail
    refine (lives_any _ T.out).mono ?_
    rintro r wl ⟨rfl, hb⟩
    replace L := Lib.hid (below_next L.out hb)
    clear hb
    go_wp2
    go_ret
    exact ⟨rfl, L.out⟩
set_option maxHeartbeats 16000000 in
theorem walk_0 (c : Int) (s : Bool) (A : Option Addr) (c1 : Nat) (l : List Int) (A' : Option Addr) (c1' : Nat) (e : List Int) (B' : Option Addr) (c2' : Nat) (u : List Int) (w : World) (hT : Sc.Tab w) (il : Ints w A l) (ie : Ints w A' e) (iu : Ints w B' u) (rl : AllR l) (ru : AllR u) (hll : l.length ≤ maxLen) (h1 : l.length ≤ 64) (h2 : e.length ≤ 10 ∧ u.length ≤ 200) (E : Int) (hE : outE c s [(l.length : Int)] l.length e u.length = E) (D V : List Int) (hD : (if E = 0 then [(l.length : Int)] ++ e else []) = D) (hV : (if E = 0 then outV c s l u else []) = V) (hN : E = 0) :
    Calls Tryd.prog 5 #[.agg #[.int .i64 c, .bool s], .slice A l.length c1, .agg #[.slice A' e.length c1', .slice B' u.length c2']] w fun r w' => r = .returned (.bool true) ∧ Below w.heap.size w w' := by
  have HE := Lib.hid hE
  have HD := Lib.hid hD
  have HV := Lib.hid hV
  clear hE hD hV
  have HN := Lib.hid hN
  clear hN
  unfold maxLen at hll
  have fb := fn_box w c s (.slice A' e.length c1') (.slice B' u.length c2')
  have FN := Lib.hid fb.1
  have BB := Lib.hid fb.2.1
  have L := Lib.hid fb.2.2
  have T := Lib.hid (hT.below L.out)
  have IL := Lib.hid (il.below L.out)
  have IE := Lib.hid (ie.below L.out)
  have IU := Lib.hid (iu.below L.out)
  have RL := Lib.hid rl
  have RU := Lib.hid ru
  clear fb hT il ie iu rl ru
  go_enter Tryd.func5, Tryd.ntmps5
  go_upto_region 1 with (fail)
  generalize hW : ((w.alloc (.cells #[.int .i64 c, .bool s] 23)).alloc (.cells #[.slice A' e.length c1', .slice B' u.length c2'] 29)) = W at *
  clear hW
  have h64 : ¬ (64 : Int) < (l.length : Int) := by omega
  have h65 : (l.length : Int) ≤ 64 := by omega
  obtain ⟨b0, b1, -, -⟩ := BB.out.all
  go_wp2_with fail
  refine (great_no _ _ _ _ _ _ _ h2.1 h2.2).mono ?_
  rintro r w1 ⟨rfl, hb⟩
  replace FN := Lib.hid (FN.out.below hb)
  replace BB := Lib.hid (BB.out.next hb)
  replace L := Lib.hid (below_next L.out hb)
  replace T := Lib.hid (T.out.below hb)
  replace IL := Lib.hid (IL.out.below hb)
  replace IE := Lib.hid (IE.out.below hb)
  replace IU := Lib.hid (IU.out.below hb)
  clear hb b0 b1
  obtain ⟨f0, f1⟩ := FN.out
  obtain ⟨b0, b1, -, -⟩ := BB.out.all
  have LA := Lib.hid (fun W => list_any A l.length c1 W (by omega))
  have OC := Lib.hid (fun bl W (hB : Below w1.heap.size w1 W) (i : Ints W (some ⟨bl, 0, none⟩) [(l.length : Int)]) => outer_o c s (some ⟨bl, 0, none⟩) 1 [(l.length : Int)] A c1 l A' c1' e B' c2' u W 1 rfl l.length rfl D V E HE.out HD.out HV.out (T.out.below hB) i (IE.out.below hB) (by simp) (by omega) RL.out RU.out (IL.out.below hB) (IU.out.below hB))
  have DR := Lib.hid (Below.refl w1.heap.size w1).drew
  have DC := Lib.hid (below_new w1 (.cells #[.slice none 0 0, .slice none 0 0] 29)).drew
  have XC := Lib.hid (Box.new w1 (.slice none 0 0) (.slice none 0 0)).drew
  go_upto_region 3 with (fail)
  go_cut [7, 8] (fun s7 s8 wx => CutO w1 D V (fun k => E = 0 → V.length ≤ k ∧ k ≤ maxLen) (.int .i64 E) s7 s8 wx)
  case first =>
    go_region_held3 (fun w' => w'.cell? ⟨w.heap.size, 0, none⟩ = some (.int .i64 c) ∧ w'.cell? ⟨w.heap.size, 1, none⟩ = some (.bool s) ∧ w'.cell? ⟨w.heap.size + 1, 0, none⟩ = some (.slice A' e.length c1') ∧ w'.cell? ⟨w.heap.size + 1, 1, none⟩ = some (.slice B' u.length c2'))
      (first
        | with_reducible exact K11.out
        | with_reducible exact KK.out
        | exact ⟨f0, f1, b0, b1⟩
        | exact ⟨keepB DC.out f0, keepB DC.out f1, keepB DC.out b0, keepB DC.out b1⟩
        | exact ⟨keepB (below_next L10.out (below_new w10 _)) f0, keepB (below_next L10.out (below_new w10 _)) f1, keepB (below_next L10.out (below_new w10 _)) b0, keepB (below_next L10.out (below_new w10 _)) b1⟩
        | exact ⟨keepB (below_next L11.out (below_new w11 _)) f0, keepB (below_next L11.out (below_new w11 _)) f1, keepB (below_next L11.out (below_new w11 _)) b0, keepB (below_next L11.out (below_new w11 _)) b1⟩
        | exact ⟨keepB ((L11.out.setCell (Nat.le_refl _) _).setCell (Nat.le_refl _) _) f0, keepB ((L11.out.setCell (Nat.le_refl _) _).setCell (Nat.le_refl _) _) f1, keepB ((L11.out.setCell (Nat.le_refl _) _).setCell (Nat.le_refl _) _) b0, keepB ((L11.out.setCell (Nat.le_refl _) _).setCell (Nat.le_refl _) _) b1⟩
        | exact ⟨keepB ((L11.out.setCell L10.out.size _).setCell L10.out.size _) f0, keepB ((L11.out.setCell L10.out.size _).setCell L10.out.size _) f1, keepB ((L11.out.setCell L10.out.size _).setCell L10.out.size _) b0, keepB ((L11.out.setCell L10.out.size _).setCell L10.out.size _) b1⟩
        | exact ⟨keepB (below_new w1 _) f0, keepB (below_new w1 _) f1, keepB (below_new w1 _) b0, keepB (below_new w1 _) b1⟩
        | go_keep)
      (first
        | (go_at_call 17; (with_reducible refine (LA.out w1.drew).mono ?_); rintro r w10 ⟨bl, rfl, i10, hb10⟩; have L10 := Lib.hid (below_next DR.out hb10); have I10 := Lib.hid i10; have KK := Lib.hid (show w10.cell? ⟨w.heap.size, 0, none⟩ = some (.int .i64 c) ∧ w10.cell? ⟨w.heap.size, 1, none⟩ = some (.bool s) ∧ w10.cell? ⟨w.heap.size + 1, 0, none⟩ = some (.slice A' e.length c1') ∧ w10.cell? ⟨w.heap.size + 1, 1, none⟩ = some (.slice B' u.length c2') from ⟨keepB L10.out f0, keepB L10.out f1, keepB L10.out b0, keepB L10.out b1⟩); clear i10 hb10)
        | (go_at_call 17; (with_reducible refine (LA.out (w1.alloc (.cells #[.slice none 0 0, .slice none 0 0] 29)).drew).mono ?_); rintro r w10 ⟨bl, rfl, i10, hb10⟩; have L10 := Lib.hid (below_next DC.out hb10); have I10 := Lib.hid i10; have X10 := Lib.hid (XC.out.next hb10); have KK := Lib.hid (show w10.cell? ⟨w.heap.size, 0, none⟩ = some (.int .i64 c) ∧ w10.cell? ⟨w.heap.size, 1, none⟩ = some (.bool s) ∧ w10.cell? ⟨w.heap.size + 1, 0, none⟩ = some (.slice A' e.length c1') ∧ w10.cell? ⟨w.heap.size + 1, 1, none⟩ = some (.slice B' u.length c2') from ⟨keepB L10.out f0, keepB L10.out f1, keepB L10.out b0, keepB L10.out b1⟩); clear i10 hb10)
        | (go_at_call 15; (with_reducible refine (OC.out _ _ L10.out I10.out).mono ?_); rintro r w11 ⟨A7, c7, B7, k7, rfl, j1, j2, j3, hb11⟩; have L11 := Lib.hid (below_next L10.out hb11); have J1 := Lib.hid j1; have J2 := Lib.hid j2; have J3 := Lib.hid j3; have X11 := Lib.hid (X10.out.next hb11); obtain ⟨n0, n1, n2, n3⟩ := X11.out.all; have K11 := Lib.hid (show w11.cell? ⟨w.heap.size, 0, none⟩ = some (.int .i64 c) ∧ w11.cell? ⟨w.heap.size, 1, none⟩ = some (.bool s) ∧ w11.cell? ⟨w.heap.size + 1, 0, none⟩ = some (.slice A' e.length c1') ∧ w11.cell? ⟨w.heap.size + 1, 1, none⟩ = some (.slice B' u.length c2') from ⟨keepB L11.out f0, keepB L11.out f1, keepB L11.out b0, keepB L11.out b1⟩); clear j1 j2 j3 hb11)
        | (go_at_call 15; (with_reducible refine (OC.out _ _ L10.out I10.out).mono ?_); rintro r w11 ⟨A7, c7, B7, k7, rfl, j1, j2, j3, hb11⟩; have L11 := Lib.hid (below_next L10.out hb11); have J1 := Lib.hid j1; have J2 := Lib.hid j2; have J3 := Lib.hid j3; have K11 := Lib.hid (show w11.cell? ⟨w.heap.size, 0, none⟩ = some (.int .i64 c) ∧ w11.cell? ⟨w.heap.size, 1, none⟩ = some (.bool s) ∧ w11.cell? ⟨w.heap.size + 1, 0, none⟩ = some (.slice A' e.length c1') ∧ w11.cell? ⟨w.heap.size + 1, 1, none⟩ = some (.slice B' u.length c2') from ⟨keepB L11.out f0, keepB L11.out f1, keepB L11.out b0, keepB L11.out b1⟩); clear j1 j2 j3 hb11)
        | (go_at_call 15; (with_reducible refine (OC.out _ _ (below_next L10.out (below_new w10 (.cells #[.slice none 0 0, .slice none 0 0] 29))) (I10.out.below (below_new w10 (.cells #[.slice none 0 0, .slice none 0 0] 29)))).mono ?_); rintro r w11 ⟨A7, c7, B7, k7, rfl, j1, j2, j3, hb11⟩; have L11 := Lib.hid (below_next (below_next L10.out (below_new w10 (.cells #[.slice none 0 0, .slice none 0 0] 29))) hb11); have J1 := Lib.hid j1; have J2 := Lib.hid j2; have J3 := Lib.hid j3; have X11 := Lib.hid ((Box.new w10 (.slice none 0 0) (.slice none 0 0)).next hb11); obtain ⟨n0, n1, n2, n3⟩ := X11.out.all; have K11 := Lib.hid (show w11.cell? ⟨w.heap.size, 0, none⟩ = some (.int .i64 c) ∧ w11.cell? ⟨w.heap.size, 1, none⟩ = some (.bool s) ∧ w11.cell? ⟨w.heap.size + 1, 0, none⟩ = some (.slice A' e.length c1') ∧ w11.cell? ⟨w.heap.size + 1, 1, none⟩ = some (.slice B' u.length c2') from ⟨keepB L11.out f0, keepB L11.out f1, keepB L11.out b0, keepB L11.out b1⟩); clear j1 j2 j3 hb11))
    all_goals (go_wp2_with fail; go_meet)
    all_goals first
      | exact co1 L11.out J1.out J2.out J3.out rfl rfl _
      | exact co2 L11.out J1.out J2.out J3.out rfl rfl _ X11.out (Nat.le_refl _)
      | exact co2 L11.out J1.out J2.out J3.out rfl rfl _ X11.out L10.out.size
  case rest =>
    obtain ⟨g7, A7, k7, B7, e7, rfl, rfl, hbx, j1, j2, j3, hg7, hL7⟩ := hcut
    have KX := Lib.hid hbx
    have ID := Lib.hid j1
    have IV := Lib.hid j2
    have CP := Lib.hid j3
    replace FN := Lib.hid (FN.out.below hL7)
    replace BB := Lib.hid (BB.out.next hL7)
    replace L := Lib.hid (below_next L.out hL7)
    replace T := Lib.hid (T.out.below hL7)
    replace IL := Lib.hid (IL.out.below hL7)
    replace IE := Lib.hid (IE.out.below hL7)
    replace IU := Lib.hid (IU.out.below hL7)
    clear hbx j1 j2 j3 hL7 f0 f1 b0 b1 LA OC DR DC XC
    have hne : (E != 0) = false := by simp [HN.out]
    have HDD := Lib.hid (show D = (l.length : Int) :: e by rw [← HD.out, if_pos HN.out]; rfl)
    obtain ⟨p2, p3, p4, p5, p6, p7⟩ := out_parts (HN.out ▸ HE.out)
    have HV0 := Lib.hid (show outV c s l u = V by rw [← HV.out, if_pos HN.out])
    rw [HV0.out] at p5 p6
    have HRD := Lib.hid (show rightB D = true by rw [HDD.out]; exact p4)
    have HVL := Lib.hid p5
    have HSZ := Lib.hid (show sizeI D = (V.length : Int) by rw [HDD.out]; exact p6)
    have HSE := Lib.hid p7
    have H2 := Lib.hid p2
    have HC := Lib.hid p3
    have HPV := Lib.hid (show ∀ k, k < l.length → piece V k u.length = u.map fun y => Sc.doI c s (l.getD k 0) y from fun k hk => by rw [← HV0.out]; exact piece_out c s l u hk)
    have HCP := Lib.hid (CP.out HN.out)
    have LB0 := Lib.hid (Below.refl wc.heap.size wc)
    clear p2 p3 p4 p5 p6 p7 CP
    go_wp2
    go_loopw [9] (fun j wr => ∃ k : Nat, k ≤ l.length ∧ j = .int .i64 (k : Int) ∧ Below wc.heap.size wc wr) (fun j _ => l.length - (intOf j).toNat)
    case atStart => exact ⟨0, Nat.zero_le _, rfl, LB0.out⟩
    case round =>
      obtain ⟨k, hk, rfl, hB⟩ := hrel
      replace FN := Lib.hid (FN.out.below hB)
      replace BB := Lib.hid (BB.out.next hB)
      replace L := Lib.hid (below_next L.out hB)
      replace T := Lib.hid (T.out.below hB)
      replace IL := Lib.hid (IL.out.below hB)
      replace IE := Lib.hid (IE.out.below hB)
      replace IU := Lib.hid (IU.out.below hB)
      replace KX := Lib.hid (KX.out.next hB)
      replace ID := Lib.hid (ID.out.below hB)
      replace IV := Lib.hid (IV.out.below hB)
      have LB := Lib.hid hB
      clear hB LB0
      by_cases hlt : k < l.length
      · obtain ⟨x, hx0⟩ : ∃ x, l.getD k 0 = x := ⟨_, rfl⟩
        obtain ⟨pv, hpv⟩ : ∃ q, (u.map fun y => Sc.doI c s x y) = q := ⟨_, rfl⟩
        have HP := Lib.hid (show piece V k u.length = pv by rw [HPV.out k hlt, hx0, hpv])
        have HPX := Lib.hid hpv
        have RX := Lib.hid (show Sc.InR x from hx0 ▸ RL.out.at k)
        have HX0 := Lib.hid hx0
        have HPL := Lib.hid (show pv.length ≤ 200 by rw [← hpv, List.length_map]; omega)
        clear hpv hx0
        have k0 : (0 : Int) ≤ (k : Int) := by omega
        have k1 : (k : Int) < (l.length : Int) := by omega
        obtain ⟨x0, x1, -, -⟩ := KX.out.all
        go_wp2_with fail
        refine (item_w _ _ D _ _ V (k : Int) k l.length u.length e pv _ rfl HDD.out HRD.out hlt HVL.out HSZ.out HSE.out HP.out HCP.out ID.out IV.out).mono ?_
        rintro r w20 ⟨A9, c9, B9, e9, rfl, j1, j2, hb⟩
        have KB := Lib.hid (below_next hb (below_new w20 (.cells #[.slice A9 e.length c9, .slice B9 pv.length e9] 29)))
        have K9 := Lib.hid (Box.new w20 (.slice A9 e.length c9) (.slice B9 pv.length e9))
        have P9 := Lib.hid (j1.below (below_new w20 (.cells #[.slice A9 e.length c9, .slice B9 pv.length e9] 29)))
        have Q9 := Lib.hid (j2.below (below_new w20 (.cells #[.slice A9 e.length c9, .slice B9 pv.length e9] 29)))
        replace FN := Lib.hid (FN.out.below KB.out)
        replace BB := Lib.hid (BB.out.next KB.out)
        replace L := Lib.hid (below_next L.out KB.out)
        replace LB := Lib.hid (below_next LB.out KB.out)
        replace T := Lib.hid (T.out.below KB.out)
        replace IL := Lib.hid (IL.out.below KB.out)
        replace IE := Lib.hid (IE.out.below KB.out)
        replace IU := Lib.hid (IU.out.below KB.out)
        clear j1 j2 hb x0 x1 KB
        go_upto_region 10 with (fail)
        generalize hW : w20.alloc (.cells #[.slice A9 e.length c9, .slice B9 pv.length e9] 29) = wq at *
        clear hW
        generalize w20.heap.size = g9 at *
        obtain ⟨bl, ol, rfl, -, hcl⟩ := IL.out (by omega)
        have hx := hcl k hlt
        rw [HX0.out] at hx
        clear hcl
        have TW := Lib.hid (fun W A (hB : Below wq.heap.size wq W) (i : Ints W A [x]) => two_x c s A x A' c1' e B' c2' u pv W H2.out HC.out HPX.out (T.out.below hB) i (IE.out.below hB) (IU.out.below hB) (by omega) (by omega) RX.out RU.out)
        have BA := Lib.hid (below_new wq (.cells #[.int .i64 x] 2)).drew
        have BBB := Lib.hid (below_next (below_new wq (.cells #[.slice none 0 0, .slice none 0 0] 29)) (below_new _ (.cells #[.int .i64 x] 2))).drew
        have BC := Lib.hid (below_next (below_new wq (.cells #[.int .i64 x] 2)) (below_new _ (.cells #[.slice none 0 0, .slice none 0 0] 29))).drew
        have IA := Lib.hid (show Ints (wq.alloc (.cells #[.int .i64 x] 2)).drew (some ⟨wq.heap.size, 0, none⟩) [x] from one_new wq x)
        have IB := Lib.hid (show Ints ((wq.alloc (.cells #[.slice none 0 0, .slice none 0 0] 29)).alloc (.cells #[.int .i64 x] 2)).drew (some ⟨wq.heap.size + 1, 0, none⟩) [x] from by have := one_new (wq.alloc (.cells #[.slice none 0 0, .slice none 0 0] 29)) x; rw [show (wq.alloc (.cells #[.slice none 0 0, .slice none 0 0] 29)).heap.size = wq.heap.size + 1 from by simp] at this; exact this)
        have IC := Lib.hid (show Ints ((wq.alloc (.cells #[.int .i64 x] 2)).alloc (.cells #[.slice none 0 0, .slice none 0 0] 29)).drew (some ⟨wq.heap.size, 0, none⟩) [x] from (one_new wq x).below (below_new (wq.alloc (.cells #[.int .i64 x] 2)) (.cells #[.slice none 0 0, .slice none 0 0] 29)).drew)
        have XB := Lib.hid ((Box.new wq (.slice none 0 0) (.slice none 0 0)).alloc (.cells #[.int .i64 x] 2)).drew
        have XC := Lib.hid (box_sz wq (.cells #[.int .i64 x] 2) (.slice none 0 0) (.slice none 0 0)).drew
        obtain ⟨f0, f1⟩ := FN.out
        obtain ⟨b0, b1, -, -⟩ := BB.out.all
        go_cut [12, 13] (fun s12 s13 wx => CutO wq e pv (fun _ => True) (.int .i64 0) s12 s13 wx)
        case first =>
          go_region_held3 (fun w' => w'.cell? ⟨w.heap.size, 0, none⟩ = some (.int .i64 c) ∧ w'.cell? ⟨w.heap.size, 1, none⟩ = some (.bool s) ∧ w'.cell? ⟨w.heap.size + 1, 0, none⟩ = some (.slice A' e.length c1') ∧ w'.cell? ⟨w.heap.size + 1, 1, none⟩ = some (.slice B' u.length c2') ∧ w'.cell? ⟨bl, ol + k, none⟩ = some (.int .i64 x))
            (first
              | with_reducible exact K31.out
              | exact ⟨f0, f1, b0, b1, hx⟩
              | exact ⟨keepB (below_new wq (.cells #[.int .i64 x] 2)) f0, keepB (below_new wq (.cells #[.int .i64 x] 2)) f1, keepB (below_new wq (.cells #[.int .i64 x] 2)) b0, keepB (below_new wq (.cells #[.int .i64 x] 2)) b1, keepB (below_new wq (.cells #[.int .i64 x] 2)) hx⟩
              | exact ⟨keepB (below_new wq (.cells #[.slice none 0 0, .slice none 0 0] 29)) f0, keepB (below_new wq (.cells #[.slice none 0 0, .slice none 0 0] 29)) f1, keepB (below_new wq (.cells #[.slice none 0 0, .slice none 0 0] 29)) b0, keepB (below_new wq (.cells #[.slice none 0 0, .slice none 0 0] 29)) b1, keepB (below_new wq (.cells #[.slice none 0 0, .slice none 0 0] 29)) hx⟩
              | exact ⟨keepB (below_next (below_new wq (.cells #[.int .i64 x] 2)) (below_new _ (.cells #[.slice none 0 0, .slice none 0 0] 29))) f0, keepB (below_next (below_new wq (.cells #[.int .i64 x] 2)) (below_new _ (.cells #[.slice none 0 0, .slice none 0 0] 29))) f1, keepB (below_next (below_new wq (.cells #[.int .i64 x] 2)) (below_new _ (.cells #[.slice none 0 0, .slice none 0 0] 29))) b0, keepB (below_next (below_new wq (.cells #[.int .i64 x] 2)) (below_new _ (.cells #[.slice none 0 0, .slice none 0 0] 29))) b1, keepB (below_next (below_new wq (.cells #[.int .i64 x] 2)) (below_new _ (.cells #[.slice none 0 0, .slice none 0 0] 29))) hx⟩
              | exact ⟨keepB (below_next (below_new wq (.cells #[.slice none 0 0, .slice none 0 0] 29)) (below_new _ (.cells #[.int .i64 x] 2))) f0, keepB (below_next (below_new wq (.cells #[.slice none 0 0, .slice none 0 0] 29)) (below_new _ (.cells #[.int .i64 x] 2))) f1, keepB (below_next (below_new wq (.cells #[.slice none 0 0, .slice none 0 0] 29)) (below_new _ (.cells #[.int .i64 x] 2))) b0, keepB (below_next (below_new wq (.cells #[.slice none 0 0, .slice none 0 0] 29)) (below_new _ (.cells #[.int .i64 x] 2))) b1, keepB (below_next (below_new wq (.cells #[.slice none 0 0, .slice none 0 0] 29)) (below_new _ (.cells #[.int .i64 x] 2))) hx⟩
              | exact ⟨keepB (below_next L31.out (below_new w31 _)) f0, keepB (below_next L31.out (below_new w31 _)) f1, keepB (below_next L31.out (below_new w31 _)) b0, keepB (below_next L31.out (below_new w31 _)) b1, keepB (below_next L31.out (below_new w31 _)) hx⟩
              | exact ⟨keepB ((L31.out.setCell (Nat.le_refl _) _).setCell (Nat.le_refl _) _) f0, keepB ((L31.out.setCell (Nat.le_refl _) _).setCell (Nat.le_refl _) _) f1, keepB ((L31.out.setCell (Nat.le_refl _) _).setCell (Nat.le_refl _) _) b0, keepB ((L31.out.setCell (Nat.le_refl _) _).setCell (Nat.le_refl _) _) b1, keepB ((L31.out.setCell (Nat.le_refl _) _).setCell (Nat.le_refl _) _) hx⟩
              | exact ⟨keepB ((L31.out.setCell (Nat.le_succ _) _).setCell (Nat.le_succ _) _) f0, keepB ((L31.out.setCell (Nat.le_succ _) _).setCell (Nat.le_succ _) _) f1, keepB ((L31.out.setCell (Nat.le_succ _) _).setCell (Nat.le_succ _) _) b0, keepB ((L31.out.setCell (Nat.le_succ _) _).setCell (Nat.le_succ _) _) b1, keepB ((L31.out.setCell (Nat.le_succ _) _).setCell (Nat.le_succ _) _) hx⟩
              | exact ⟨keepB ((below_new wq (.cells #[.int .i64 x] 2)).drew) f0, keepB ((below_new wq (.cells #[.int .i64 x] 2)).drew) f1, keepB ((below_new wq (.cells #[.int .i64 x] 2)).drew) b0, keepB ((below_new wq (.cells #[.int .i64 x] 2)).drew) b1, keepB ((below_new wq (.cells #[.int .i64 x] 2)).drew) hx⟩
              | go_keep)
            (first
              | (go_at_call 19; (with_reducible refine (TW.out _ _ BA.out IA.out).mono ?_); rintro r w31 ⟨A8, c8, B8, e8, rfl, j1, j2, hb31⟩; have L31 := Lib.hid (below_next BA.out hb31); have J1 := Lib.hid j1; have J2 := Lib.hid j2; have K31 := Lib.hid (show w31.cell? ⟨w.heap.size, 0, none⟩ = some (.int .i64 c) ∧ w31.cell? ⟨w.heap.size, 1, none⟩ = some (.bool s) ∧ w31.cell? ⟨w.heap.size + 1, 0, none⟩ = some (.slice A' e.length c1') ∧ w31.cell? ⟨w.heap.size + 1, 1, none⟩ = some (.slice B' u.length c2') ∧ w31.cell? ⟨bl, ol + k, none⟩ = some (.int .i64 x) from ⟨keepB L31.out f0, keepB L31.out f1, keepB L31.out b0, keepB L31.out b1, keepB L31.out hx⟩); clear j1 j2 hb31)
              | (go_at_call 19; (with_reducible refine (TW.out _ _ BBB.out IB.out).mono ?_); rintro r w31 ⟨A8, c8, B8, e8, rfl, j1, j2, hb31⟩; have L31 := Lib.hid (below_next BBB.out hb31); have J1 := Lib.hid j1; have J2 := Lib.hid j2; have X31 := Lib.hid (XB.out.next hb31); obtain ⟨n0, n1, n2, n3⟩ := X31.out.all; have K31 := Lib.hid (show w31.cell? ⟨w.heap.size, 0, none⟩ = some (.int .i64 c) ∧ w31.cell? ⟨w.heap.size, 1, none⟩ = some (.bool s) ∧ w31.cell? ⟨w.heap.size + 1, 0, none⟩ = some (.slice A' e.length c1') ∧ w31.cell? ⟨w.heap.size + 1, 1, none⟩ = some (.slice B' u.length c2') ∧ w31.cell? ⟨bl, ol + k, none⟩ = some (.int .i64 x) from ⟨keepB L31.out f0, keepB L31.out f1, keepB L31.out b0, keepB L31.out b1, keepB L31.out hx⟩); clear j1 j2 hb31)
              | (go_at_call 19; (with_reducible refine (TW.out _ _ BC.out IC.out).mono ?_); rintro r w31 ⟨A8, c8, B8, e8, rfl, j1, j2, hb31⟩; have L31 := Lib.hid (below_next BC.out hb31); have J1 := Lib.hid j1; have J2 := Lib.hid j2; have X31 := Lib.hid (XC.out.next hb31); obtain ⟨n0, n1, n2, n3⟩ := X31.out.all; have K31 := Lib.hid (show w31.cell? ⟨w.heap.size, 0, none⟩ = some (.int .i64 c) ∧ w31.cell? ⟨w.heap.size, 1, none⟩ = some (.bool s) ∧ w31.cell? ⟨w.heap.size + 1, 0, none⟩ = some (.slice A' e.length c1') ∧ w31.cell? ⟨w.heap.size + 1, 1, none⟩ = some (.slice B' u.length c2') ∧ w31.cell? ⟨bl, ol + k, none⟩ = some (.int .i64 x) from ⟨keepB L31.out f0, keepB L31.out f1, keepB L31.out b0, keepB L31.out b1, keepB L31.out hx⟩); clear j1 j2 hb31))
          all_goals (go_wp2_with fail; go_meet)
          all_goals first
            | exact co1 L31.out J1.out J2.out trivial rfl rfl _
            | exact co2 L31.out J1.out J2.out trivial rfl rfl _ X31.out (Nat.le_refl _)
            | exact co2 L31.out J1.out J2.out trivial rfl rfl _ X31.out (Nat.le_succ _)
        case rest =>
          obtain ⟨g12, A7, k7, B7, e7, rfl, rfl, hbx, j1, j2, -, hg12, hL12⟩ := hcut
          replace L := Lib.hid (below_next L.out hL12)
          replace LB := Lib.hid (below_next LB.out hL12)
          replace T := Lib.hid (T.out.below hL12)
          replace K9 := Lib.hid (K9.out.next hL12)
          replace P9 := Lib.hid (P9.out.below hL12)
          replace Q9 := Lib.hid (Q9.out.below hL12)
          have K12 := Lib.hid hbx
          have P12 := Lib.hid j1
          have Q12 := Lib.hid j2
          clear hbx j1 j2 hL12 f0 f1 b0 b1 hx TW BA BBB BC IA IB IC XB XC
          obtain ⟨x0, x1, -, -⟩ := K9.out.all
          obtain ⟨y0, y1, -, -⟩ := K12.out.all
          have hpl := HPL.out
          go_wp2_with fail
          refine (rsame_eq _ _ e _ _ pv _ _ _ _ _ (by omega) (by omega) P9.out Q9.out P12.out Q12.out).mono ?_
          rintro r w40 ⟨rfl, hb⟩
          replace LB := Lib.hid (below_next LB.out hb)
          clear hb x0 x1 y0 y1
          go_wp2
          go_roundw
          case rel => exact ⟨k + 1, by omega, by go_num, LB.out⟩
          case measure => simp [intOf]; omega
      · have hk2 : ¬ (k : Int) < (l.length : Int) := by omega
        go_wp2_with fail
        refine (lives_any _ T.out).mono ?_
        rintro r wl ⟨rfl, hb⟩
        replace L := Lib.hid (below_next L.out hb)
        clear hb
        go_wp2
        go_ret
        exact ⟨rfl, L.out⟩
theorem walk (c : Int) (s : Bool) (A : Option Addr) (c1 : Nat) (l : List Int) (A' : Option Addr) (c1' : Nat) (e : List Int) (B' : Option Addr) (c2' : Nat) (u : List Int) (w : World) (hT : Sc.Tab w) (il : Ints w A l) (ie : Ints w A' e) (iu : Ints w B' u) (rl : AllR l) (ru : AllR u) (hll : l.length ≤ maxLen) :
    Calls Tryd.prog 5 #[.agg #[.int .i64 c, .bool s], .slice A l.length c1, .agg #[.slice A' e.length c1', .slice B' u.length c2']] w fun r w' => r = .returned (.bool true) ∧ Below w.heap.size w w' := by
  by_cases h1 : l.length ≤ 64
  · by_cases h2 : e.length ≤ 10 ∧ u.length ≤ 200
    · by_cases hN : outE c s [(l.length : Int)] l.length e u.length = 0
      · exact walk_0 c s A c1 l A' c1' e B' c2' u w hT il ie iu rl ru hll h1 h2 _ rfl _ _ rfl rfl hN
      · exact walk_3 c s A c1 l A' c1' e B' c2' u w hT il ie iu rl ru hll h1 h2 _ rfl _ _ rfl rfl hN
    · exact walk_2 c s A c1 l A' c1' e B' c2' u w hT il ie iu rl ru hll h1 h2
  · exact walk_1 c s A c1 l A' c1' e B' c2' u w hT il ie iu rl ru hll (by omega)

theorem contract (H : Type) (enc : TypeId × Value → H) (W : World) (base : Nat) (args : Array Value) (ds gs : List (DataW H)) (before : List MemPlace)
    (hval : ∀ (j : Nat) t v, Tryd.f5.params[j]? = some t → args[j]? = some v → Value.okWide Tryd.prog W .any base t v)
    (hW : DataW.Whole enc Tryd.prog Tryd.f5.params.toList Rows.productItemsSpec.vars false W args.toList ds gs before) (hL : laidMetH Tryd.prog Rows.productInnersRow.laid W) :
    Calls Tryd.prog 5 args W fun e W' => ∃ v, e = .returned v ∧ Rows.productItemsSpec.post enc Tryd.prog Tryd.f5 false true false false W args v W' := by
  have hW' := hW
  obtain ⟨p, q, hA0, hV, rfl, hfz, hnd⟩ := hW
  have hA : DataW.TrodAll enc Tryd.prog W 0 (fun _ => true) true Tryd.f5.params.toList args.toList ds p := hA0
  rw [Tryd.params5] at hA hval
  obtain ⟨v0, vs0, dd0, ds0, p0, q0, hargs, rfl, rfl, h0, r0⟩ := trodAll_cons hA
  obtain ⟨v1, vs1, dd1, ds1, p1, q1, rfl, rfl, rfl, h1, r1⟩ := trodAll_cons r0
  obtain ⟨v2, vs2, dd2, ds2, p2, q2, rfl, rfl, rfl, h2, r2⟩ := trodAll_cons r1
  obtain ⟨rfl, rfl, rfl⟩ := trodAll_nil r2
  obtain rfl : args = #[v0, v1, v2] := by cases args; simp_all
  obtain ⟨rfl, rfl⟩ := trodVars_none hV
  have k0 := h0
  have lt0 : ∀ x ∈ p0, x.block < W.heap.size := by obtain ⟨m, hm⟩ := k0; exact DataW.trod_lt m _ _ _ hm
  obtain ⟨c0, s0, rfl, wf0⟩ := fn_arg (hval 0 23 v0 rfl rfl) h0
  have k1 := h1
  have lt1 : ∀ x ∈ p1, x.block < W.heap.size := by obtain ⟨m, hm⟩ := k1; exact DataW.trod_lt m _ _ _ hm
  obtain ⟨A1, c1, l1, rfl, hl1⟩ := ints_arg Tryd.underlying27 Tryd.underlying2 (by kernel_rfl) (hval 1 27 v1 rfl rfl) h1
  have k2 := h2
  have lt2 : ∀ x ∈ p2, x.block < W.heap.size := by obtain ⟨m, hm⟩ := k2; exact DataW.trod_lt m _ _ _ hm
  obtain ⟨A2, c2, l2, B2, e2, m2, rfl, hl2, hm2⟩ := cell_arg (hval 2 29 v2 rfl rfl) h2
  clear hA0
  refine (walk c0 s0 A1 c1 l1 A2 c2 l2 B2 e2 m2 W (tab_met hL) hl1.1 hl2.1 hm2.1 (allR_of hl1.2.2.2.2) (allR_of hm2.2.2.2.2) hl1.2.2.2.1).mono fun e W' ⟨he, bel⟩ => ?_
  subst he
  exact ⟨_, rfl, _, _, _, [], _, [], hW', trodAll_mk1 (shut_bool Tryd.underlying4 _), (trodAll_cons_mk (Below.trod laidOut (by kernel_rfl) (of_decide_eq_true (by kernel_rfl)) k0 bel lt0) (trodAll_cons_mk (Below.trod laidOut (by kernel_rfl) (of_decide_eq_true (by kernel_rfl)) k1 bel lt1) (trodAll_cons_mk (Below.trod laidOut (by kernel_rfl) (of_decide_eq_true (by kernel_rfl)) k2 bel lt2) trodAll_mk0))), rfl, bel.frame _, fun h => by cases h⟩

theorem witness (os : Os) {H : Type} (enc : TypeId × Value → H) :
    (OpenSpec.ofChange Rows.productItemsSpec).preRow enc Tryd.prog Tryd.f5 Rows.productItemsRow.domain false Rows.productItemsRow.laid ((laidWorld os).forCall (fun _ _ => 0) ⟨#[], #[.agg #[.int .i64 0, .bool false], .slice none 0 0, .agg #[.slice none 0 0, .slice none 0 0]], []⟩).memory #[.agg #[.int .i64 0, .bool false], .slice none 0 0, .agg #[.slice none 0 0, .slice none 0 0]] := by
  have hw : (DataW.whole enc Tryd.prog ((laidWorld os).forCall (fun _ _ => 0) ⟨#[], #[.agg #[.int .i64 0, .bool false], .slice none 0 0, .agg #[.slice none 0 0, .slice none 0 0]], []⟩).memory Tryd.f5.params.toList Rows.productItemsSpec.vars false (#[.agg #[.int .i64 0, .bool false], .slice none 0 0, .agg #[.slice none 0 0, .slice none 0 0]] : Array Value).toList 8).map (fun x => (x.1, x.2.1)) =
      some ([.agg [.lit (.int .i64 0), .lit (.bool false)], .nil, .agg [.nil, .nil]], []) := by kernel_rfl
  obtain ⟨⟨x1, x2, x3⟩, hx, hx1⟩ := Option.map_eq_some_iff.1 hw
  simp only [Prod.mk.injEq] at hx1
  obtain ⟨rfl, rfl⟩ := hx1
  exact OpenSpec.preRow_of_cond 8 hx (by kernel_rfl) (fun k hk => by cases hk) (by kernel_rfl) (laid_met os _)

set_option maxRecDepth 100000 in
theorem lifted (os : Os) (started : os.Started) (H : Type) (enc : TypeId × Value → H) (F : Stop.Interp) :
    ReturnsInHanded {} Tryd.checked os 5 .any ((OpenSpec.ofChange Rows.productItemsSpec).preRow enc Tryd.prog Tryd.f5 Rows.productItemsRow.domain false Rows.productItemsRow.laid) (((OpenSpec.ofChange Rows.productItemsSpec).at F).post enc Tryd.prog Tryd.f5 false true false false) := by
  refine returnsInHanded_of_row (C := Tryd.checked) (s := OpenSpec.ofChange Rows.productItemsSpec) own started (by kernel_rfl) Tryd.func5
    (witness_row_atRef (enc := enc) (C := Tryd.checked) false (laidWorld os) #[.agg #[.int .i64 0, .bool false], .slice none 0 0, .agg #[.slice none 0 0, .slice none 0 0]] rfl (by kernel_rfl) (by kernel_rfl) (by kernel_rfl) (witness os enc)) ?_
  intro W base args ds gs before hval hW _ _ _ hL _ _
  exact contract H enc W base args ds gs before hval hW hL

theorem said : Rows.ProductItemsSaid :=
  OpenClaim.holds_of_cond 5 Tryd.f5 rfl rfl rfl rfl rfl rfl rfl ⟨rfl, rfl, rfl, rfl, rfl⟩ rfl rfl rfl rfl rfl (by kernel_rfl) Tryd.func5 (by kernel_rfl)
    (of_decide_eq_true (by kernel_rfl)) (by unfold Func.isWrapper; first | (rw [if_pos (by decide +kernel)]; kernel_rfl) | (rw [if_neg (by decide +kernel)]; exact ⟨rfl, rfl⟩))
    (fun os started H enc _ F => by rw [OpenClaim.pre_eq_preRow]; exact lifted os started H enc F)

theorem plain (f : FuncId) (fn : Func) (hf : Tryd.pinned.checked.prog.funcNamed Rows.productItemsRow.func = some f) (hfn : Tryd.pinned.checked.prog.funcs[f]? = some fn) :
    true = Tryd.pinned.checked.prog.looks [] ∧ ∀ (j : Nat) t, fn.params[j]? = some t → Tryd.pinned.checked.prog.wantsStandIn t = false := by
  obtain rfl : f = 5 := Option.some.inj ((show Tryd.prog.funcNamed Rows.productItemsRow.func = some 5 by kernel_rfl).symm.trans hf) |>.symm
  obtain rfl : fn = Tryd.f5 := (Option.some.inj (Tryd.func5.symm.trans hfn)).symm
  refine ⟨by kernel_rfl, fun j t ht => ?_⟩
  rw [Tryd.params5] at ht
  have hm := Array.mem_of_getElem? ht
  simp only [List.mem_toArray, List.mem_cons, List.not_mem_nil, or_false] at hm
  rcases hm with rfl | rfl | rfl
  · exact (show Tryd.prog.wantsStandIn 23 = false by kernel_rfl)
  · exact (show Tryd.prog.wantsStandIn 27 = false by kernel_rfl)
  · exact (show Tryd.prog.wantsStandIn 29 = false by kernel_rfl)

theorem proved : Rows.ProductItemsCardSaid :=
  Claim7.holds_tied_plain_at .later [] _ _ _ _ said (fun _ h => by cases h) (by kernel_rfl) (fun _ h => by cases h) productItems_row_tie rfl ⟨rfl, rfl⟩ (by kernel_rfl) rfl plain (by kernel_rfl)
end Go.Proofs.YtbanegjmapgkdaaDoor.productItems
