/-
  The nearest whole number of a single, by its value.
-/
import Derived.Test.YthoiiccecneefaaQNear
import Derived.Test.YthoiiccecneefaaRatQ
import Derived.Test.YthoiiccecneefaaRatL
namespace Go.Proofs.Ythoiiccecneefaa
open Go.RowKit
open Ieee (Datum Format signed)

theorem dv_nat (s : Bool) (m : Nat) : dv s m 0 = if s = true then -(m : Rat) else (m : Rat) := by unfold dv; rw [pw_zero, Rat.mul_one]
theorem dv_shift (s : Bool) (m : Nat) (p : Int) (d : Nat) : dv s (m * 2 ^ d) p = dv s m (p + d) := by unfold dv; rw [pw_shift]
theorem int_abs (n : Int) : (if decide (n < 0) = true then -(n.natAbs : Rat) else (n.natAbs : Rat)) = (n : Rat) := by
  by_cases h : n < 0
  · rw [if_pos (by simpa using h)]
    have : n = -((n.natAbs : Nat) : Int) := by omega
    conv => rhs; rw [this, Rat.intCast_neg, Rat.intCast_natCast]
  · rw [if_neg (by simpa using h)]
    have : n = ((n.natAbs : Nat) : Int) := by omega
    conv => rhs; rw [this, Rat.intCast_natCast]

theorem cut_scaled_even (s : Bool) (m q : Nat) (p : Int) : Ieee.Toward.even.cut s ((m * 2 ^ q) <<< (p - q).toNat) (-(p - q)).toNat = Ieee.Toward.even.cut s (m <<< p.toNat) (-p).toNat := by
  rw [Nat.shiftLeft_eq, Nat.shiftLeft_eq]
  by_cases hp : 0 ≤ p
  · rw [show (-p).toNat = 0 by omega]
    by_cases hq : (q : Int) ≤ p
    · rw [show (-(p - (q : Int))).toNat = 0 by omega, Nat.mul_assoc, ← Nat.pow_add]
      congr 3; omega
    · rw [show (p - (q : Int)).toNat = 0 by omega, Nat.pow_zero, Nat.mul_one]
      have e : m * 2 ^ q = (m * 2 ^ p.toNat) * 2 ^ (-(p - (q : Int))).toNat := by
        rw [Nat.mul_assoc, ← Nat.pow_add]; congr 2; omega
      rw [e]
      have := cut_shift .even s (m * 2 ^ p.toNat) 0 (-(p - (q : Int))).toNat
      rw [Nat.zero_add] at this
      exact this
  · rw [show p.toNat = 0 by omega, show (p - (q : Int)).toNat = 0 by omega, Nat.pow_zero, Nat.mul_one, Nat.mul_one, show (-(p - (q : Int))).toNat = (-p).toNat + q by omega]
    exact cut_shift ..

theorem dv_int (s : Bool) (K : Nat) : dv s K 0 = ((if s = true then -(K : Int) else (K : Int) : Int) : Rat) := by
  unfold dv
  rw [pw_zero, Rat.mul_one]
  cases s
  · simp only [Bool.false_eq_true, if_false]; exact (Rat.intCast_natCast _).symm
  · simp only [if_true]; rw [Rat.intCast_neg, Rat.intCast_natCast]

/-- The nearest whole number. -/
theorem frte {x : Nat} {a : Rat} (hx : Fv .f32 x a) : ∃ n : Int, Fv .f64 (rteB (wid x)) (n : Rat) ∧ 2 * (n : Rat) ≤ 2 * a + 1 ∧ 2 * a ≤ 2 * (n : Rat) + 1 := by
  obtain ⟨s, m, p, hr, rfl⟩ := hx
  obtain ⟨hm, hp1, hp2⟩ := read32_num hr
  obtain ⟨q, p', hw, hpp⟩ := wid_num hr
  have hfl : rteB (wid x) = FloatKind.f64.encode (.number s (Ieee.Toward.even.cut s (m <<< p'.toNat) (-p').toNat) 0) := by
    unfold rteB
    have hd : FloatKind.f64.decode (wid x) = .number s (m * 2 ^ q) (p' - q) := hw
    rw [hd, ← cut_scaled_even s m q p']
    rfl
  by_cases h0 : m = 0
  · subst h0
    rw [hfl]
    have hc : Ieee.Toward.even.cut s (0 <<< p'.toNat) (-p').toNat = 0 := by rw [cut_even]; simp
    rw [hc]
    obtain ⟨r, h1, h2, h3⟩ := through s 0 0 (by omega) (by omega) (by omega)
    rw [dv_zero] at h3
    refine ⟨0, h3, ?_⟩
    rw [dv_zero]
    constructor <;> decide +kernel
  · obtain rfl := hpp h0
    rw [hfl]
    by_cases hp : 0 ≤ p'
    · have hc : Ieee.Toward.even.cut s (m <<< p'.toNat) (-p').toNat = m * 2 ^ p'.toNat := by
        rw [show (-p').toNat = 0 by omega, cut_zero, Nat.shiftLeft_eq]
      rw [hc]
      have hn : FloatKind.f64.encode (.number s (m * 2 ^ p'.toNat) 0) = FloatKind.f64.format.nearest s m p' := by
        have := nearest_shift FloatKind.f64.format s m p' p'.toNat
        rw [show p' - (p'.toNat : Int) = 0 by omega] at this
        exact this
      rw [hn]
      obtain ⟨r, h1, h2, h3⟩ := through s m p' hm hp1 hp2
      have hv : dv s m p' = ((if s = true then -((m * 2 ^ p'.toNat : Nat) : Int) else ((m * 2 ^ p'.toNat : Nat) : Int) : Int) : Rat) := by
        rw [← dv_int, dv_shift]
        congr 1; omega
      refine ⟨_, by rw [← hv]; exact h3, ?_⟩
      rw [← hv]
      constructor <;> grind
    · obtain ⟨d, hd⟩ : ∃ d : Nat, d = (-p').toNat := ⟨_, rfl⟩
      have hpd : p' = -(d : Int) := by omega
      rw [show p'.toNat = 0 by omega, Nat.shiftLeft_zero, ← hd]
      obtain ⟨K, hK⟩ : ∃ K, K = Ieee.Toward.even.cut s m d := ⟨_, rfl⟩
      obtain ⟨n1, n2⟩ := cut_near s m d
      rw [← hK] at n1 n2 ⊢
      have hd1 : 2 ≤ 2 ^ d := by
        obtain ⟨c, rfl⟩ : ∃ c, d = c + 1 := ⟨d - 1, by omega⟩
        have := two_pos c
        rw [Nat.pow_succ]; omega
      have hKl : K < 16777216 := by
        rcases Nat.lt_or_ge K 16777216 with h | h
        · exact h
        · have : K * 2 ≤ K * 2 ^ d := Nat.mul_le_mul_left K hd1
          have h2 : 16777216 * 2 ^ d ≤ K * 2 ^ d := Nat.mul_le_mul_right _ h
          omega
      obtain ⟨r, h1, h2, h3⟩ := through s K 0 hKl (by omega) (by omega)
      refine ⟨(if s = true then -(K : Int) else (K : Int) : Int), by rw [← dv_int]; exact h3, ?_⟩
      rw [← dv_int]
      have hmv : (m : Rat) = ((2 ^ d : Nat) : Rat) * ((m : Rat) * pw p') := by
        have : pw (d : Int) * pw p' = 1 := by rw [← pw_add, hpd, show (d : Int) + -(d : Int) = 0 by omega, pw_zero]
        rw [pw_nat] at this
        grind
      have hD : (0 : Rat) < ((2 ^ d : Nat) : Rat) := Rat.natCast_pos.2 (two_pos d)
      unfold dv
      rw [pw_zero, Rat.mul_one]
      generalize (m : Rat) * pw p' = A at *
      generalize 2 ^ d = D at *
      have n1' : ((2 * (K * D) : Nat) : Rat) ≤ ((2 * m + D : Nat) : Rat) := Rat.natCast_le_natCast.2 n1
      have n2' : ((2 * m : Nat) : Rat) ≤ ((2 * (K * D) + D : Nat) : Rat) := Rat.natCast_le_natCast.2 n2
      rw [Rat.natCast_mul, Rat.natCast_mul, Rat.natCast_add, Rat.natCast_mul] at n1'
      rw [Rat.natCast_mul, Rat.natCast_add, Rat.natCast_mul, Rat.natCast_mul] at n2'
      rw [hmv] at n1' n2'
      have pos : ∀ z : Rat, 0 ≤ (D : Rat) * z → 0 ≤ z := fun z hz => by
        rcases (Rat.le_total : z ≤ 0 ∨ 0 ≤ z) with h | h
        · have : ¬ z < 0 := fun hz2 => by
            have := Rat.mul_lt_mul_of_pos_left hz2 hD
            grind
          grind
        · exact h
      have q1 := pos (2 * A + 1 - 2 * (K : Rat)) (by grind)
      have q2 := pos (2 * (K : Rat) + 1 - 2 * A) (by grind)
      cases s
      · simp only [Bool.false_eq_true, if_false]; constructor <;> grind
      · simp only [if_true]; constructor <;> grind

theorem ofInt64_fv {n : Int} (h : n.natAbs < 9007199254740992) : Fv .f64 (floatOfInt .f64 n) (n : Rat) := by
  obtain ⟨q, hq⟩ := ofInt_read64 n h
  refine ⟨_, _, _, hq, ?_⟩
  have := dv_shift (decide (n < 0)) n.natAbs (0 - (q : Int)) q
  rw [this, show 0 - (q : Int) + q = 0 by omega, dv_nat, int_abs]

/-- Near, by the value. -/
theorem near_fv {v : Nat} {a : Rat} (hv : Fv .f32 v a) (M : Int) (h0 : 0 ≤ M) (hM : M ≤ 16777216) : ∃ n : Int, 2 * (n : Rat) ≤ 2 * a + 1 ∧ 2 * a ≤ 2 * (n : Rat) + 1 ∧ (nearC v 0 M).1 = max 0 (min n M) := by
  obtain ⟨n, hn, b1, b2⟩ := frte hv
  refine ⟨n, b1, b2, ?_⟩
  have o1 := forder hn (ofInt64_fv (n := 0) (by decide))
  have o2 := forder hn (ofInt64_fv (n := M) (by omega))
  unfold nearC
  rw [if_neg (by rw [hv.not_nan]; simp), o1, o2]
  by_cases c1 : n < 0
  · have : (n : Rat) < ((0 : Int) : Rat) := Rat.intCast_lt_intCast.2 c1
    rw [if_pos this]
    simp only [beq_self_eq_true, if_true]
    omega
  · have hc1 : ¬ (n : Rat) < ((0 : Int) : Rat) := fun h => c1 (Rat.intCast_lt_intCast.1 h)
    rw [if_neg hc1]
    rw [if_neg (by split <;> simp)]
    by_cases c2 : M < n
    · have h2 : (M : Rat) < (n : Rat) := Rat.intCast_lt_intCast.2 c2
      have h3 : ¬ (n : Rat) < (M : Rat) := fun h => by have := Rat.intCast_lt_intCast.1 h; omega
      rw [if_neg h3, if_pos h2]
      simp only [beq_self_eq_true, if_true]
      omega
    · have h2 : ¬ (M : Rat) < (n : Rat) := fun h => c2 (Rat.intCast_lt_intCast.1 h)
      rw [if_neg h2]
      rw [if_neg (by split <;> simp)]
      have hnn : ((n.toNat : Int)) = n := by omega
      have := to_int (b := rteB (wid v)) (n := n.toNat) (by rw [hnn]; exact hn) (by omega)
      rw [this, hnn]
      show n = _
      omega
end Go.Proofs.Ythoiiccecneefaa
