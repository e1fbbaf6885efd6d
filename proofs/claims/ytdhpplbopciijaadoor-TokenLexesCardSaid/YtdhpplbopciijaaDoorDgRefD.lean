/-
  What riffleref10.digits answers. Condition: the number fits into 64 bits.
-/
import Derived.Test.YtdhpplbopciijaaDoorDgRead2
import Derived.Laws.BytesArg
set_option maxRecDepth 100000
namespace Go.Proofs.YtdhpplbopciijaaDoor.Dg
open Go.RowKit Go.Proofs.YtdhpplbopciijaaDoor.Sh
set_option linter.unusedVariables false

theorem conv_one (x : Int) (w : World) (t : TypeId) : (convert 75 9 (.slice (some ⟨w.heap.size, 0, none⟩) 1 1)).run Tryd.prog (w.alloc (.cells #[.int .u8 x] t)) = .ok (.string ⟨#[UInt8.ofNat x.toNat]⟩) (w.alloc (.cells #[.int .u8 x] t)) := by
  have h := run_convert_bytes_arg (P := Tryd.prog) (w.alloc (.cells #[.int .u8 x] t)) 75 5 Tryd.underlying75 Tryd.underlying5 w.heap.size 0 1 1 [x] rfl (fun i hi => by
    obtain rfl : i = 0 := by omega
    rw [World.cell?_alloc_at _ _ _ _ (by simp)]; rfl) 9 Tryd.underlying9
  rw [h]
  rfl
theorem dec_step {m : Nat} (h : ¬ m < 10) : (⟨(Lib.decDigits (m / 10)).toArray⟩ : ByteArray) ++ ⟨#[UInt8.ofNat (48 + m % 10)]⟩ = ⟨(Lib.decDigits m).toArray⟩ := by
  rw [ByteArray.mk_append_mk]
  conv => rhs; rw [Lib.decDigits, dif_neg h]
set_option maxHeartbeats 2000000 in
theorem rdigits_any : ∀ (m : Nat) (n : Int), InR n → n.natAbs = m → ∀ (w : World), Calls Tryd.prog 56 #[.int .i64 n] w fun e w' => e = .returned (.string ⟨(Lib.decDigits m).toArray⟩) ∧ Below w.heap.size w w' := by
  intro m
  induction m using Nat.strongRecOn with
  | _ m ih =>
    intro n hn hm w
    have i1 := hn.1
    have i2 := hn.2
    obtain ⟨q, hq⟩ : ∃ q, n.tdiv 10 = q := ⟨_, rfl⟩
    obtain ⟨d, hd⟩ : ∃ d, n.tmod 10 = d := ⟨_, rfl⟩
    have hqa : q.natAbs = m / 10 := by rw [← hq, Int.natAbs_tdiv, hm]; rfl
    have hda : d.natAbs = m % 10 := by rw [← hd, Int.natAbs_tmod, hm]; rfl
    have hqR : InR q := by unfold InR; omega
    have iq : IntKind.i64.wrap q = q := IntWalk.i64_in _ (by unfold InR at hqR; omega)
    have IH := Lib.hid (fun (h : m / 10 < m) (W : World) => ih (m / 10) h q hqR hqa W)
    clear ih
    obtain ⟨x, hx⟩ : ∃ x : Int, 48 + (if d < 0 then -d else d) = x := ⟨_, rfl⟩
    have hxn : x.toNat = 48 + m % 10 := by rw [← hx]; split <;> omega
    have HC := fun t => conv_one x w t
    rw [hxn] at HC
    have DS := Lib.hid (fun h => dec_step (m := m) h)
    have hlen : (Lib.decDigits (m / 10)).length ≤ 19 := dec_len20 (by omega)
    have hsum : ¬ ((⟨(Lib.decDigits (m / 10)).toArray⟩ : ByteArray).size + (⟨#[UInt8.ofNat (48 + m % 10)]⟩ : ByteArray).size > 9223372036854775807) := by
      show ¬ ((Lib.decDigits (m / 10)).toArray.size + 1 > _)
      simp; omega
    have D1 : Hid (m < 10 → (⟨#[UInt8.ofNat (48 + m % 10)]⟩ : ByteArray) = ⟨(Lib.decDigits m).toArray⟩) := Lib.hid (fun h => by rw [Lib.decDigits, dif_pos h, Nat.mod_eq_of_lt h])
    obtain ⟨X, hX⟩ : ∃ X : ByteArray, (⟨#[UInt8.ofNat (48 + m % 10)]⟩ : ByteArray) = X := ⟨_, rfl⟩
    obtain ⟨Y, hY⟩ : ∃ Y : ByteArray, (⟨(Lib.decDigits (m / 10)).toArray⟩ : ByteArray) = Y := ⟨_, rfl⟩
    rw [hX] at HC DS hsum D1
    rw [hY] at IH DS hsum
    clear hX hY hlen
    have HBa := Lib.hid (fun t => (Below.refl w.heap.size w).alloc (Nat.le_refl _) (.cells #[.int .u8 x] t))
    have ix : IntKind.u8.wrap x = x := by rw [← hx]; split <;> (apply IntWalk.u8_in; omega)
    have hz : q = 0 ↔ m < 10 := by omega
    have HZ := Lib.hid hz
    clear hz
    go_enter Tryd.func56, Tryd.ntmps56
    by_cases h0 : d < 0
    · have t0 : decide (d < 0) = true := decide_eq_true h0
      rw [if_pos h0] at hx
      by_cases hq0 : q = 0
      · have D2 := Lib.hid (D1.out (HZ.out.1 hq0))
        clear D1 DS IH HZ
        subst hq0
        go_wp2_with fail
        go_ret
        exact ⟨by rw [← D2.out]; rfl, HBa.out _⟩
      · have t5 : decide (q = 0) = false := decide_eq_false hq0
        have hm10 : ¬ m < 10 := fun h => hq0 (HZ.out.2 h)
        have DS2 := Lib.hid (DS.out hm10)
        have IH2 := Lib.hid (IH.out (by omega))
        clear DS IH D1 hm10
        go_wp2_with fail
        refine (IH2.out _).mono ?_
        rintro r w1 ⟨rfl, hb⟩
        have L := Lib.hid (below_next (HBa.out _) hb)
        clear hb
        go_wp2
        go_ret
        exact ⟨by rw [← DS2.out]; rfl, L.out⟩
    · have t0 : decide (d < 0) = false := decide_eq_false h0
      rw [if_neg h0] at hx
      by_cases hq0 : q = 0
      · have D2 := Lib.hid (D1.out (HZ.out.1 hq0))
        clear D1 DS IH HZ
        subst hq0
        go_wp2_with fail
        go_ret
        exact ⟨by rw [← D2.out]; rfl, HBa.out _⟩
      · have t5 : decide (q = 0) = false := decide_eq_false hq0
        have hm10 : ¬ m < 10 := fun h => hq0 (HZ.out.2 h)
        have DS2 := Lib.hid (DS.out hm10)
        have IH2 := Lib.hid (IH.out (by omega))
        clear DS IH D1 hm10
        go_wp2_with fail
        refine (IH2.out _).mono ?_
        rintro r w1 ⟨rfl, hb⟩
        have L := Lib.hid (below_next (HBa.out _) hb)
        clear hb
        go_wp2
        go_ret
        exact ⟨by rw [← DS2.out]; rfl, L.out⟩
theorem cat_pre (p l : List UInt8) : (⟨p.toArray⟩ : ByteArray) ++ ⟨l.toArray⟩ = ⟨(p ++ l).toArray⟩ := by
  rw [ByteArray.mk_append_mk]
end Go.Proofs.YtdhpplbopciijaaDoor.Dg
