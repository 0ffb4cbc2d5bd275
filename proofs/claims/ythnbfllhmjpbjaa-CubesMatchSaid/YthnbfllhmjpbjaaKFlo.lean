/-
  Cubes: the whole part of a single above 0 and below 17, as an integer, in two ways.
-/
import Derived.Test.YthnbfllhmjpbjaaKLeaf
namespace Go.Proofs.Ythnbfllhmjpbjaa
open Ieee (Datum Format signed)

theorem zero_cut (s : Bool) (d k : Nat) : Ieee.Toward.zero.cut s k d = k / 2 ^ d := by
  unfold Ieee.Toward.cut
  simp only [Nat.one_shiftLeft, Bool.toNat_false, Nat.add_zero]
  by_cases h : d ≤ k.log2 + 2
  · rw [Nat.min_eq_left h]
  · have hn : k < 2 ^ (k.log2 + 1) := Nat.lt_log2_self
    have h1 : 2 ^ (k.log2 + 2) = 2 * 2 ^ (k.log2 + 1) := by rw [Nat.pow_succ']
    have h2 : 2 ^ (k.log2 + 2) ≤ 2 ^ d := Nat.pow_le_pow_right (by decide) (by omega)
    rw [Nat.min_eq_right (by omega), Nat.div_eq_of_lt (a := k) (b := 2 ^ (k.log2 + 2)) (by omega), Nat.div_eq_of_lt (a := k) (b := 2 ^ d) (by omega)]

theorem Fv.uniq {k : FloatKind} {b : Nat} {p q : Rat} (h : Fv k b p) (h' : Fv k b q) : p = q := by
  obtain ⟨s, m, e, hr, rfl⟩ := h
  obtain ⟨s', m', e', hr', rfl⟩ := h'
  rw [hr] at hr'
  injection hr' with h1 h2 h3
  rw [h1, h2, h3]

theorem floor_nat {x : Nat} {a : Rat} (hx : Fv .f32 x a) (h0 : 0 < a) (h1 : a < 17) :
    ∃ n : Nat, a.floor = (n : Int) ∧ n < 17 ∧ floorB (wid x) = FloatKind.f64.encode (.number false n 0) ∧ floatToIntVal .f32 x .i64 = some (n : Int) := by
  obtain ⟨_, _, hf⟩ := ffloor_all hx
  have hlt : a.floor < 17 := Rat.floor_lt_iff.2 (by exact_mod_cast h1)
  have hge : 0 ≤ a.floor := Rat.le_floor_iff.2 (by have : ((0 : Int) : Rat) = 0 := rfl; rw [this]; exact Rat.le_of_lt h0)
  obtain ⟨s, m, p, hr, rfl⟩ := hx
  obtain ⟨hm, hp1, hp2⟩ := read32_num hr
  obtain ⟨q, p', hw, hpp⟩ := wid_num hr
  have hn0 := mag_nonneg m p
  cases s with
  | true =>
    exfalso
    unfold dv at h0
    simp only [if_true] at h0
    grind
  | false =>
  have hm0 : m ≠ 0 := by
    intro e
    subst e
    rw [dv_zero] at h0
    exact absurd h0 (by decide)
  obtain rfl := hpp hm0
  have hfl : floorB (wid x) = FloatKind.f64.encode (.number false (Ieee.Toward.down.cut false (m <<< p'.toNat) (-p').toNat) 0) := by
    unfold floorB
    have hd : FloatKind.f64.decode (wid x) = .number false (m * 2 ^ q) (p' - q) := hw
    rw [hd, ← cut_scaled false m q p']
    rfl
  have hc : Ieee.Toward.down.cut false (m <<< p'.toNat) (-p').toNat = (m <<< p'.toNat) / 2 ^ (-p').toNat := by rw [cut_down]; simp
  obtain ⟨K, hK⟩ : ∃ K, K = (m <<< p'.toNat) / 2 ^ (-p').toNat := ⟨_, rfl⟩
  rw [hc, ← hK] at hfl
  have hK24 : K < 16777216 := by
    by_cases hp : 0 ≤ p'
    · have e := pw_shift m 0 p'.toNat
      rw [pw_zero, Rat.mul_one, show (0 : Int) + (p'.toNat : Int) = p' by omega] at e
      have e1 : K = m * 2 ^ p'.toNat := by rw [hK, show (-p').toNat = 0 by omega, Nat.pow_zero, Nat.div_one, Nat.shiftLeft_eq]
      rw [← e1] at e
      have e2 : (K : Rat) < ((17 : Nat) : Rat) := by
        rw [e]
        unfold dv at h1
        simpa using h1
      have := Rat.natCast_lt_natCast.1 e2
      omega
    · have : K ≤ m := by rw [hK, show p'.toNat = 0 by omega, Nat.shiftLeft_zero]; exact Nat.div_le_self _ _
      omega
  obtain ⟨r, _, _, h3⟩ := through false K 0 hK24 (by omega) (by omega)
  have h3' : Fv .f64 (floorB (wid x)) (dv false K 0) := by rw [hfl]; exact h3
  have hv : dv false K 0 = (K : Rat) := by unfold dv; rw [pw_zero, Rat.mul_one]; simp
  rw [hv] at h3'
  have hu := hf.uniq h3'
  have hfk : (dv false m p').floor = (K : Int) := by
    have : (((dv false m p').floor : Int) : Rat) = ((K : Int) : Rat) := by rw [hu, Rat.intCast_natCast]
    exact Rat.intCast_inj.1 this
  refine ⟨K, hfk, by omega, hfl, ?_⟩
  have ht : (FloatKind.f32.decode x).toInt .zero = some (K : Int) := by
    have hd : FloatKind.f32.decode x = .number false m p' := hr
    rw [hd]
    show some (Ieee.signed false (Ieee.Toward.zero.cut false (m <<< p'.toNat) (-p').toNat) 0) = _
    rw [zero_cut, ← hK]
    unfold Ieee.signed
    simp
  unfold floatToIntVal
  rw [ht]
  simp only
  rw [if_pos ⟨by simp [IntKind.min, IntKind.signed, IntKind.bits], by simp [IntKind.max, IntKind.signed, IntKind.bits]; omega⟩]

theorem of_floor : ∀ n : Nat, n < 17 → floatToIntVal .f64 (FloatKind.f64.encode (.number false n 0)) .i64 = some (n : Int) ∧ (floatToFloatBits .f64 (FloatKind.f64.encode (.number false n 0)) .f32) = some (floatOfInt .f32 n) ∧ Fv .f32 (floatOfInt .f32 n) ((n : Nat) : Rat) := by
  intro n hn
  obtain ⟨r, h1, h2, h3⟩ := through false n 0 (by omega) (by omega) (by omega)
  have hv : dv false n 0 = (n : Rat) := by unfold dv; rw [pw_zero, Rat.mul_one]; simp
  rw [hv] at h2 h3
  have e : floatToFloatBits .f64 (FloatKind.f64.encode (.number false n 0)) .f32 = some (floatOfInt .f32 n) := by
    have : n = 0 ∨ n = 1 ∨ n = 2 ∨ n = 3 ∨ n = 4 ∨ n = 5 ∨ n = 6 ∨ n = 7 ∨ n = 8 ∨ n = 9 ∨ n = 10 ∨ n = 11 ∨ n = 12 ∨ n = 13 ∨ n = 14 ∨ n = 15 ∨ n = 16 := by omega
    rcases this with rfl | rfl | rfl | rfl | rfl | rfl | rfl | rfl | rfl | rfl | rfl | rfl | rfl | rfl | rfl | rfl | rfl <;> decide +kernel
  have h1' : floatToFloatBits .f64 (FloatKind.f64.encode (.number false n 0)) .f32 = some r := h1
  rw [e] at h1'
  injection h1' with h1'
  refine ⟨to_int (by rw [Rat.intCast_natCast]; exact h3) (by omega), e, ?_⟩
  rw [h1']; exact h2
end Go.Proofs.Ythnbfllhmjpbjaa
