/-
  The law of moved windows.
-/
import Derived.Test.YtfeabmdioeelhaaYWm
import Derived.Test.YtfeabmdioeelhaaYTra
namespace Go.Proofs.Ytfeabmdioeelhaa
open Go.RowKit Go.Shelf
open Ieee (Datum Format signed)
attribute [local go_sem] run_store_float

theorem one_cl : cl 1065353216 = 1065353216 := by decide +kernel
theorem landed_any (w : World) : Calls Try.prog 13 #[] w fun e w' => e = .returned (.bool true) ∧ w = w' := by
  have h1 := one_cl
  go_enter Try.func13, Try.ntmps13
  go_wp2_with (go_at_call 69; refine (bits_any _ _).mono ?_; rintro e w' ⟨rfl, rfl⟩)
  go_ret
  exact ⟨rfl, rfl⟩

theorem and15 (w : Int) : 0 ≤ bits .and .i64 w 15 ∧ bits .and .i64 w 15 ≤ 15 := by
  have e : bits .and .i64 w 15 = IntKind.i64.wrap ((BitVec.ofInt 64 w &&& BitVec.ofInt 64 15).toNat : Int) := rfl
  have h : (BitVec.ofInt 64 w &&& BitVec.ofInt 64 15).toNat ≤ 15 := by
    rw [BitVec.toNat_and]
    exact Nat.and_le_right
  rw [e, IntKind.wrap_i64]
  omega

/-- A number within 100000 as an integer. -/
theorem to_whole {v : Nat} {q : Rat} (h : Fv .f32 v q) (h1 : -100000 ≤ q) (h2 : q ≤ 100000) : ∃ z : Int, floatToIntVal .f32 v .i64 = some z ∧ z.natAbs ≤ 100000 := by
  obtain ⟨s, m, p, hr, rfl⟩ := h
  obtain ⟨K, hK⟩ : ∃ K, K = (m <<< p.toNat) / 2 ^ (-p).toNat := ⟨_, rfl⟩
  have hmag : (m : Rat) * pw p ≤ 100000 := by
    unfold dv at h1 h2
    cases s
    · simpa using h2
    · simp at h1; grind
  have hle : (K : Rat) ≤ (m : Rat) * pw p := by
    by_cases hp : 0 ≤ p
    · obtain ⟨k, rfl⟩ : ∃ k : Nat, p = (k : Int) := ⟨p.toNat, by omega⟩
      have : K = m * 2 ^ k := by rw [hK, show (-(k : Int)).toNat = 0 by omega, Nat.pow_zero, Nat.div_one, Int.toNat_natCast, Nat.shiftLeft_eq]
      rw [this, Rat.natCast_mul, pw_nat]; exact Rat.le_refl
    · obtain ⟨k, rfl⟩ : ∃ k : Nat, p = -(k : Int) := ⟨(-p).toNat, by omega⟩
      have e : K = m / 2 ^ k := by rw [hK, show (-(k : Int)).toNat = 0 by omega, Nat.shiftLeft_zero, show (- -(k : Int)).toNat = k by omega]
      have h3 : K * 2 ^ k ≤ m := by rw [e]; exact Nat.div_mul_le_self _ _
      have h4 : ((K * 2 ^ k : Nat) : Rat) ≤ (m : Rat) := Rat.natCast_le_natCast.2 h3
      have h5 := Rat.mul_le_mul_of_nonneg_right h4 (Rat.le_of_lt (pw_pos (-(k : Int))))
      rw [Rat.natCast_mul, Rat.mul_assoc, ← pw_nat, ← pw_add, show (k : Int) + -(k : Int) = 0 by omega, pw_zero, Rat.mul_one] at h5
      exact h5
  have hK2 : K ≤ 100000 := by
    have : (K : Rat) ≤ ((100000 : Nat) : Rat) := Rat.le_trans hle hmag
    exact Rat.natCast_le_natCast.1 this
  have hz : ∀ d k, Ieee.Toward.zero.cut s k d = k / 2 ^ d := by
    intro d k
    unfold Ieee.Toward.cut
    simp only [Nat.one_shiftLeft, Bool.toNat_false, Nat.add_zero]
    by_cases h : d ≤ k.log2 + 2
    · rw [Nat.min_eq_left h]
    · have hn : k < 2 ^ (k.log2 + 1) := Nat.lt_log2_self
      have h1 : 2 ^ (k.log2 + 2) = 2 * 2 ^ (k.log2 + 1) := by rw [Nat.pow_succ']
      have h2 : 2 ^ (k.log2 + 2) ≤ 2 ^ d := Nat.pow_le_pow_right (by decide) (by omega)
      rw [Nat.min_eq_right (by omega), Nat.div_eq_of_lt (a := k) (b := 2 ^ (k.log2 + 2)) (by omega), Nat.div_eq_of_lt (a := k) (b := 2 ^ d) (by omega)]
  have ht : (FloatKind.f32.decode v).toInt .zero = some (signed s K 0) := by
    have hd : FloatKind.f32.decode v = .number s m p := hr
    rw [hd]
    show some (Ieee.signed s (Ieee.Toward.zero.cut s (m <<< p.toNat) (-p).toNat) 0) = _
    rw [hz, ← hK]
  have hs : (signed s K 0).natAbs = K := by unfold signed; cases s <;> simp
  refine ⟨signed s K 0, ?_, by omega⟩
  unfold floatToIntVal
  rw [ht]
  simp only
  rw [if_pos ⟨by simp [IntKind.min, IntKind.signed, IntKind.bits]; omega, by simp [IntKind.max, IntKind.signed, IntKind.bits]; omega⟩]

/-- Is it a whole number within 100000? -/
def WholeF (v : Nat) : Prop := ∃ z : Int, Fv .f32 v (z : Rat) ∧ z.natAbs ≤ 100000

theorem fv_a : Fv .f32 3351465984 (-100000) := by
  have h := ofInt_fv (n := -100000) (by decide)
  have e : floatOfInt .f32 (-100000) = 3351465984 := by decide +kernel
  rw [e] at h; exact h
theorem fv_b : Fv .f32 1203982336 100000 := by
  have h := ofInt_fv (n := 100000) (by decide)
  have e : floatOfInt .f32 100000 = 1203982336 := by decide +kernel
  rw [e] at h; exact h
/-- Within the bounds: a number. -/
theorem in_num {v : Nat} (h : inB 3351465984 1203982336 v = true) : ∃ q, Fv .f32 v q ∧ -100000 ≤ q ∧ q ≤ 100000 := by
  obtain ⟨h1, h2⟩ := inB_yes h
  obtain ⟨sa, ma, pa, ra, _⟩ := fv_a
  obtain ⟨sb, mb, pb, rb, _⟩ := fv_b
  cases hr : FloatKind.f32.format.read v with
  | nan s t => unfold Format.order at h1; rw [hr] at h1; simp [Datum.order] at h1
  | infinity s =>
    exfalso
    unfold Format.order at h1 h2
    rw [hr, ra] at h1
    rw [hr, rb] at h2
    cases s
    · simp [Datum.order] at h2
    · simp [Datum.order] at h1
  | number s m p => exact ⟨_, ⟨s, m, p, hr, rfl⟩, inB_fv fv_a fv_b ⟨s, m, p, hr, rfl⟩ h⟩
/-- Alike with the integer: it is that whole number. -/
theorem whole_of {v : Nat} {z : Int} {q : Rat} (hv : Fv .f32 v q) (hz : z.natAbs ≤ 100000) (h : (FloatKind.f32.format.order v (floatOfInt .f32 z) == some .eq) = true) : WholeF v := by
  have e := forder hv (ofInt_fv (n := z) (by omega))
  rw [e] at h
  have : q = (z : Rat) := by
    by_cases h1 : q < z
    · rw [if_pos h1] at h; simp at h
    · rw [if_neg h1] at h
      by_cases h2 : (z : Rat) < q
      · rw [if_pos h2] at h; simp at h
      · have a1 := Rat.not_lt.1 h1
        have a2 := Rat.not_lt.1 h2
        exact Rat.le_antisymm a2 a1
  rw [this] at hv
  exact ⟨z, hv, hz⟩
end Go.Proofs.Ytfeabmdioeelhaa
