/-
  Colours: hues lead back: how far the rounded hue may be from the exact one.
-/
import Derived.Test.YtcmakibomdinbaaCSix
import Derived.Test.YtcmakibomdinbaaRatQ
import Derived.Test.YtcmakibomdinbaaCBackP
namespace Go.Proofs.Ytcmakibomdinbaa

theorem nonneg_of_mul {t D : Rat} (hD : 0 < D) (h : 0 ≤ t * D) : 0 ≤ t := by
  rcases (Rat.le_total : t ≤ 0 ∨ 0 ≤ t) with h1 | h1
  · by_cases h0 : t = 0
    · grind
    · have := Rat.mul_lt_mul_of_pos_right (show t < 0 by grind) hD
      grind
  · exact h1
theorem pw100 : pw 100 = 1267650600228229401496703205376 := by unfold pw; decide +kernel

theorem chain_x {nn dd : Nat} {nq dq N D X : Rat} (hn : Fv .f32 nn nq) (hd : Fv .f32 dd dq) (hnN : Near 0 nq N) (hdD : Near 0 dq D) (hD : 0 < D) (hN1 : -D ≤ N) (hN2 : N ≤ D) (hX : X * D = N) :
    ∃ x, Fv .f32 (cop .quo .f32 nn dd) x ∧ 1677721600 * (x - X) ≤ 361 ∧ 1677721600 * (X - x) ≤ 361 ∧ (0 ≤ N → 0 ≤ x) ∧ (N ≤ 0 → x ≤ 0) ∧ -1 ≤ X ∧ X ≤ 1 := by
  obtain ⟨d1, d2⟩ := hdD.1 D (by grind) (by grind)
  obtain ⟨n1, n2⟩ := hnN.1 D hN1 hN2
  have dq0 : 0 < dq := by grind
  have x1 : 0 ≤ 1 - X := nonneg_of_mul hD (by grind)
  have x2 : 0 ≤ 1 + X := nonneg_of_mul hD (by grind)
  have hne : dq ≠ 0 := by grind
  obtain ⟨Z, hZ⟩ : ∃ Z : Rat, Z * dq = nq := ⟨nq / dq, Rat.div_mul_cancel hne⟩
  have p1 := Rat.mul_nonneg x1 (show 0 ≤ D + 16777216 * (D - dq) by grind)
  have p2 := Rat.mul_nonneg x2 (show 0 ≤ D - 16777216 * (D - dq) by grind)
  have p3 := Rat.mul_nonneg x1 (show 0 ≤ D - 16777216 * (D - dq) by grind)
  have p4 := Rat.mul_nonneg x2 (show 0 ≤ D + 16777216 * (D - dq) by grind)
  have z1 : 0 ≤ 33554432 - 16777215 * 16777216 * (Z - X) := nonneg_of_mul dq0 (by grind)
  have z2 : 0 ≤ 33554432 - 16777215 * 16777216 * (X - Z) := nonneg_of_mul dq0 (by grind)
  have hp := pw100
  have ht := pwm126
  obtain ⟨x, hx, hb, s1, s2⟩ := fquo hn hd hne hZ (by grind) (by grind)
  obtain ⟨b1, b2⟩ := hb (1001 / 1000) (by grind) (by grind)
  refine ⟨x, hx, by grind, by grind, fun h => s1 ?_, fun h => s2 ?_, by grind, by grind⟩
  · have := hnN.2.1 h
    exact nonneg_of_mul dq0 (by grind)
  · have := hnN.2.2 h
    have := nonneg_of_mul (t := -Z) dq0 (by grind)
    grind

/-- A hue's part of the circle: no turn. -/
theorem chain_h0 {t : Nat} {tq T e : Rat} (ht : Fv .f32 t tq) (_he : 0 ≤ e) (h1 : 1677721600 * (tq - T) ≤ e) (h2 : 1677721600 * (T - tq) ≤ e) (he2 : e ≤ 900) (hT1 : -1 ≤ T) (hT2 : T ≤ 5) (B : Rat) (hB : 6 * B = 1 ∨ 6 * B = 3 ∨ 6 * B = 5) (hb1 : -(6 * B) ≤ T) (hb2 : T ≤ 6 * B) :
    ∃ h, Fv .f32 (cop .quo .f32 t 1086324736) h ∧ 1677721600 * (6 * h - T) ≤ e + 961 * B ∧ 1677721600 * (T - 6 * h) ≤ e + 961 * B ∧ (0 ≤ tq → 0 ≤ h) ∧ (tq ≤ 0 → h ≤ 0) := by
  have hp := pw100
  have hm := pwm126
  have hZ : (tq / 6) * 6 = tq := Rat.div_mul_cancel (by decide)
  generalize tq / 6 = Z at *
  obtain ⟨h, hh, hb, s1, s2⟩ := fquo ht fv6 (by decide) hZ (by grind) (by grind)
  obtain ⟨b1, b2⟩ := hb (B + 1 / 100000) (by grind) (by grind)
  refine ⟨h, hh, by grind, by grind, fun h => s1 (by grind), fun h => s2 (by grind)⟩
end Go.Proofs.Ytcmakibomdinbaa
