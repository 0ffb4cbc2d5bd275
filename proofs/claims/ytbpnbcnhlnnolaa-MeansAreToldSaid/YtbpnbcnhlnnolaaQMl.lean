/-
  MeansAreTold: the law.
-/
import Derived.Test.YtbpnbcnhlnnolaaQMean
namespace Go.Proofs.Ytbpnbcnhlnnolaa
open Go.RowKit
open Ieee (Datum Format signed)

theorem gives_lit {v : Nat} {w : World} {e : Ending} {w' : World} (h : GivesF .f64 v w e w') (hv : isN .f64 v = false ∧ v ≠ qnan .f64) : e = .returned (.float .f64 v) ∧ ∃ n, w' = w.drewN n := by
  obtain ⟨r, n, rfl, hr, rfl⟩ := h
  have : r = v := by
    unfold cn at hr
    split at hr
    · exact absurd hr.symm hv.2
    · exact hr
  rw [this]
  exact ⟨rfl, n, rfl⟩

/-- A level's step, of 2^-22. -/
theorem ldexp_mx {d : Int} (h : 1 ≤ d ∧ d ≤ 16) : ∃ L, (∀ w, Calls Try.prog 22 #[.float .f64 (floatOfInt .f64 (mx d)), .int .i64 (-22)] w fun e w' => e = .returned (.float .f64 L) ∧ ∃ n, w' = w.drewN n) ∧ Fv .f64 L ((mx d : Rat) * pw (-22)) := by
  have key : ∀ (D : Int) (L : Nat) (E : Int) (m : Nat) (p : Int), mx d = D → Norm (floatOfInt .f64 D) → wrap64 (wrap64 (-22) + wrap64 (bits BinOp.and IntKind.i64 (wrap64 (((floatOfInt .f64 D : Nat) : Int) / 4503599627370496)) 2047 - 1023)) = E → -1022 ≤ E → E ≤ 1023 →
      cop .mul .f64 4607182418800017408 (cn .f64 (ldB (floatOfInt .f64 D) E)) = L → isN .f64 L = false ∧ L ≠ qnan .f64 → FloatKind.f64.format.read L = .number false m p → (D : Rat) * pw (-22) = dv false m p →
      ∃ L, (∀ w, Calls Try.prog 22 #[.float .f64 (floatOfInt .f64 (mx d)), .int .i64 (-22)] w fun e w' => e = .returned (.float .f64 L) ∧ ∃ n, w' = w.drewN n) ∧ Fv .f64 L ((mx d : Rat) * pw (-22)) := by
    intro D L E m p hD hN hE e1 e2 hL hn hr hv
    refine ⟨L, fun w => ?_, ?_⟩
    · rw [hD]
      exact (ldexp_lit _ _ E L hN hE e1 e2 hL w).mono fun e w' h => gives_lit h hn
    · rw [hD]; exact ⟨_, _, _, hr, hv⟩
  rcases dep16 h with rfl | rfl | rfl | rfl | rfl | rfl | rfl | rfl | rfl | rfl | rfl | rfl | rfl | rfl | rfl | rfl
  · exact key 1 4508103226997866496 (-22) 4503599627370496 (-74) rfl ⟨by decide +kernel, by decide +kernel, by decide +kernel, by decide +kernel⟩ (by decide +kernel) (by decide) (by decide) (by decide +kernel) ⟨by decide +kernel, by decide +kernel⟩ (by decide +kernel) (by unfold dv pw; decide +kernel)
  · exact key 3 4514858626438922240 (-21) 6755399441055744 (-73) rfl ⟨by decide +kernel, by decide +kernel, by decide +kernel, by decide +kernel⟩ (by decide +kernel) (by decide) (by decide) (by decide +kernel) ⟨by decide +kernel, by decide +kernel⟩ (by decide +kernel) (by unfold dv pw; decide +kernel)
  · exact key 7 4520488125973135360 (-20) 7881299347898368 (-72) rfl ⟨by decide +kernel, by decide +kernel, by decide +kernel, by decide +kernel⟩ (by decide +kernel) (by decide) (by decide) (by decide +kernel) ⟨by decide +kernel, by decide +kernel⟩ (by decide +kernel) (by unfold dv pw; decide +kernel)
  · exact key 15 4525554675553927168 (-19) 8444249301319680 (-71) rfl ⟨by decide +kernel, by decide +kernel, by decide +kernel, by decide +kernel⟩ (by decide +kernel) (by decide) (by decide) (by decide +kernel) ⟨by decide +kernel, by decide +kernel⟩ (by decide +kernel) (by unfold dv pw; decide +kernel)
  · exact key 31 4530339750158008320 (-18) 8725724278030336 (-70) rfl ⟨by decide +kernel, by decide +kernel, by decide +kernel, by decide +kernel⟩ (by decide +kernel) (by decide) (by decide) (by decide +kernel) ⟨by decide +kernel, by decide +kernel⟩ (by decide +kernel) (by unfold dv pw; decide +kernel)
  · exact key 63 4534984087273734144 (-17) 8866461766385664 (-69) rfl ⟨by decide +kernel, by decide +kernel, by decide +kernel, by decide +kernel⟩ (by decide +kernel) (by decide) (by decide) (by decide +kernel) ⟨by decide +kernel, by decide +kernel⟩ (by decide +kernel) (by unfold dv pw; decide +kernel)
  · exact key 127 4539558055645282304 (-16) 8936830510563328 (-68) rfl ⟨by decide +kernel, by decide +kernel, by decide +kernel, by decide +kernel⟩ (by decide +kernel) (by decide) (by decide) (by decide +kernel) ⟨by decide +kernel, by decide +kernel⟩ (by decide +kernel) (by unfold dv pw; decide +kernel)
  · exact key 255 4544096839644741632 (-15) 8972014882652160 (-67) rfl ⟨by decide +kernel, by decide +kernel, by decide +kernel, by decide +kernel⟩ (by decide +kernel) (by decide) (by decide) (by decide +kernel) ⟨by decide +kernel, by decide +kernel⟩ (by decide +kernel) (by unfold dv pw; decide +kernel)
  · exact key 511 4548618031458156544 (-14) 8989607068696576 (-66) rfl ⟨by decide +kernel, by decide +kernel, by decide +kernel, by decide +kernel⟩ (by decide +kernel) (by decide) (by decide) (by decide +kernel) ⟨by decide +kernel, by decide +kernel⟩ (by decide +kernel) (by unfold dv pw; decide +kernel)
  · exact key 1023 4553130427178549248 (-13) 8998403161718784 (-65) rfl ⟨by decide +kernel, by decide +kernel, by decide +kernel, by decide +kernel⟩ (by decide +kernel) (by decide) (by decide) (by decide +kernel) ⟨by decide +kernel, by decide +kernel⟩ (by decide +kernel) (by unfold dv pw; decide +kernel)
  · exact key 2047 4557638424852430848 (-12) 9002801208229888 (-64) rfl ⟨by decide +kernel, by decide +kernel, by decide +kernel, by decide +kernel⟩ (by decide +kernel) (by decide) (by decide) (by decide +kernel) ⟨by decide +kernel, by decide +kernel⟩ (by decide +kernel) (by unfold dv pw; decide +kernel)
  · exact key 4095 4562144223503056896 (-11) 9005000231485440 (-63) rfl ⟨by decide +kernel, by decide +kernel, by decide +kernel, by decide +kernel⟩ (by decide +kernel) (by decide) (by decide) (by decide +kernel) ⟨by decide +kernel, by decide +kernel⟩ (by decide +kernel) (by unfold dv pw; decide +kernel)
  · exact key 8191 4566648922642055168 (-10) 9006099743113216 (-62) rfl ⟨by decide +kernel, by decide +kernel, by decide +kernel, by decide +kernel⟩ (by decide +kernel) (by decide) (by decide) (by decide +kernel) ⟨by decide +kernel, by decide +kernel⟩ (by decide +kernel) (by unfold dv pw; decide +kernel)
  · exact key 16383 4571153072025239552 (-9) 9006649498927104 (-61) rfl ⟨by decide +kernel, by decide +kernel, by decide +kernel, by decide +kernel⟩ (by decide +kernel) (by decide) (by decide) (by decide +kernel) ⟨by decide +kernel, by decide +kernel⟩ (by decide +kernel) (by unfold dv pw; decide +kernel)
  · exact key 32767 4575656946530516992 (-8) 9006924376834048 (-60) rfl ⟨by decide +kernel, by decide +kernel, by decide +kernel, by decide +kernel⟩ (by decide +kernel) (by decide) (by decide) (by decide +kernel) ⟨by decide +kernel, by decide +kernel⟩ (by decide +kernel) (by unfold dv pw; decide +kernel)
  · exact key 65535 4580160683596840960 (-7) 9007061815787520 (-59) rfl ⟨by decide +kernel, by decide +kernel, by decide +kernel, by decide +kernel⟩ (by decide +kernel) (by decide) (by decide) (by decide +kernel) ⟨by decide +kernel, by decide +kernel⟩ (by decide +kernel) (by unfold dv pw; decide +kernel)

theorem lv_lt {x y r : Nat} {op : BinOp} (h : floatBits op .f64 x y = some r) : r < 18446744073709551616 := by
  unfold floatBits at h
  split at h
  · obtain ⟨a, _, rfl⟩ := Option.map_eq_some_iff.1 h; exact Ieee.Format.write_lt Ieee.double _
  · obtain ⟨a, _, rfl⟩ := Option.map_eq_some_iff.1 h; exact Ieee.Format.write_lt Ieee.double _
  · obtain ⟨a, _, rfl⟩ := Option.map_eq_some_iff.1 h; exact Ieee.Format.write_lt Ieee.double _
  · obtain ⟨a, _, rfl⟩ := Option.map_eq_some_iff.1 h; exact Ieee.Format.write_lt Ieee.double _
  · cases h

/-- The end of the law, by its numbers. -/
theorem mean_end {v : Nat} {a : Rat} {d S : Int} (hv : Fv .f32 v a) (a0 : 0 ≤ a) (a1 : a ≤ 1) (h : 1 ≤ d ∧ d ≤ 16) (s0 : 0 ≤ S) (s1 : S ≤ 4194240)
    (hS : 200000 * (S : Rat) ≤ 12800000 * (a * (mx d : Rat)) + 170000 + (mx d : Rat) ∧ 12800000 * (a * (mx d : Rat)) ≤ 200000 * (S : Rat) + 170000 + (mx d : Rat)) {L : Nat} (hL : Fv .f64 L ((mx d : Rat) * pw (-22))) :
    ∃ Q1 Q2 Q3 Q4 : Nat, floatBits .quo .f64 (floatOfInt .f64 S) 4634204016564240384 = some Q1 ∧ floatBits .mul .f64 (wid v) (floatOfInt .f64 (mx d)) = some Q2 ∧ floatBits .sub .f64 Q1 Q2 = some Q3 ∧
      floatBits .add .f64 4580160821035794432 L = some Q4 ∧ (FloatKind.f64.format.order (absB Q3) Q4 = some .lt ∨ FloatKind.f64.format.order (absB Q3) Q4 = some .eq) := by
  have hb := mx_bound h
  have hM : (1 : Rat) ≤ (mx d : Rat) := by
    have := Rat.intCast_le_intCast.2 (show (1 : Int) ≤ mx d by omega)
    simpa using this
  have hM2 : (mx d : Rat) ≤ 65535 := by
    have := Rat.intCast_le_intCast.2 (show mx d ≤ (65535 : Int) by omega)
    simpa using this
  have hS0 : (0 : Rat) ≤ (S : Rat) := by
    have := Rat.intCast_le_intCast.2 s0
    simpa using this
  have hS1 : (S : Rat) ≤ 4194240 := by
    have := Rat.intCast_le_intCast.2 s1
    simpa using this
  have haM : a * (mx d : Rat) ≤ (mx d : Rat) := by
    have := Rat.mul_le_mul_of_nonneg_right a1 (show (0 : Rat) ≤ (mx d : Rat) by grind)
    grind
  have haM0 : 0 ≤ a * (mx d : Rat) := Rat.mul_nonneg a0 (by grind)
  have p1000 : (100000000 : Rat) < pw 1000 := by unfold pw; decide +kernel
  have e22 : pw (-22) = 1 / 4194304 := by unfold pw; decide +kernel
  have fS := ofInt64_fv (n := S) (by omega)
  have fM := ofInt64_fv (n := mx d) (by omega)
  have f64 : Fv .f64 4580160821035794432 (1 / 64) := ⟨false, 4503599627370496, -58, by decide +kernel, by unfold dv pw; decide +kernel⟩
  obtain ⟨Q1, m1, m2⟩ := quo64_eq _ fS.not_nan
  obtain ⟨q1, hq1, n1⟩ := dmul fS f64 (by grind) (by grind)
  rw [cop_some m1] at hq1
  obtain ⟨q2, hq2, n2⟩ := dmul (wid_fv hv) fM (by grind) (by grind)
  have b1 := n1 65536 (by grind) (by grind)
  have b2 := n2 65536 (by grind) (by grind)
  obtain ⟨q3, hq3, n3⟩ := dsub hq1 hq2 (by grind) (by grind)
  have b3 := n3 65536 (by grind) (by grind)
  rw [e22] at hL
  obtain ⟨q4, hq4, n4⟩ := dadd f64 hL (by grind) (by grind)
  have b4 := n4 65536 (by grind) (by grind)
  refine ⟨Q1, _, _, _, m2, some_of_fv hq2, some_of_fv hq3, some_of_fv hq4, ?_⟩
  have ha := abs_fv (lv_lt (some_of_fv hq3)) hq3
  have ho := forder ha hq4
  generalize a * (mx d : Rat) = T at *
  generalize (mx d : Rat) = M at *
  have fin : (if q3 < 0 then -q3 else q3) ≤ q4 := by
    split <;> grind
  rw [ho]
  by_cases hc : (if q3 < 0 then -q3 else q3) < q4
  · rw [if_pos hc]; exact Or.inl rfl
  · rw [if_neg hc, if_neg (by grind)]; exact Or.inr rfl
end Go.Proofs.Ytbpnbcnhlnnolaa
