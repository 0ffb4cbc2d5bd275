/-
  Binary floating point: what is written does not hang on how a number is given ('m * 2 ^ p' and 'm * 2 ^ k * 2 ^ (p - k)').
-/
import Ieee.Arith
namespace Go.Proofs.Ythoiiccecneefaa
open Ieee

theorem log2_shift (n k : Nat) (h : n ≠ 0) : (n * 2 ^ k).log2 = n.log2 + k := by
  have h2 : n * 2 ^ k ≠ 0 := Nat.mul_ne_zero h (Nat.pos_iff_ne_zero.1 (Nat.two_pow_pos k))
  rw [Nat.log2_eq_iff h2]
  have a := Nat.log2_self_le h
  have b := Nat.lt_log2_self (n := n)
  refine ⟨?_, ?_⟩
  · rw [Nat.pow_add]; exact Nat.mul_le_mul_right _ a
  · rw [show n.log2 + k + 1 = (n.log2 + 1) + k by omega, Nat.pow_add]
    exact Nat.mul_lt_mul_of_pos_right b (Nat.two_pow_pos k)

theorem cut_shift (way : Toward) (neg : Bool) (n d k : Nat) : way.cut neg (n * 2 ^ k) (d + k) = way.cut neg n d := by
  by_cases h0 : n = 0
  · subst h0
    rw [Nat.zero_mul]
    unfold Toward.cut
    cases way <;> simp [Nat.one_shiftLeft]
  · unfold Toward.cut
    have hp := Nat.two_pow_pos k
    have hg : 1 <<< min (d + k) ((n * 2 ^ k).log2 + 2) = (1 <<< min d (n.log2 + 2)) * 2 ^ k := by
      rw [log2_shift n k h0, Nat.one_shiftLeft, Nat.one_shiftLeft, ← Nat.pow_add]
      congr 1; omega
    rw [hg]
    generalize 1 <<< min d (n.log2 + 2) = g
    have e1 : n * 2 ^ k / (g * 2 ^ k) = n / g := Nat.mul_div_mul_right _ _ hp
    have e2 : n * 2 ^ k % (g * 2 ^ k) = n % g * 2 ^ k := Nat.mul_mod_mul_right _ _ _
    dsimp only
    rw [e1, e2]
    have e3 : (g * 2 ^ k < 2 * (n % g * 2 ^ k)) = (g < 2 * (n % g)) := by
      rw [← Nat.mul_assoc]; exact propext (Nat.mul_lt_mul_right hp)
    have e4 : (g * 2 ^ k == 2 * (n % g * 2 ^ k)) = (g == 2 * (n % g)) := by
      rw [← Nat.mul_assoc, Bool.eq_iff_iff, beq_iff_eq, beq_iff_eq]
      exact Nat.mul_left_inj (Nat.pos_iff_ne_zero.1 hp)
    have e5 : (n % g * 2 ^ k != 0) = (n % g != 0) := by
      rw [Bool.eq_iff_iff, bne_iff_ne, bne_iff_ne, ne_eq, ne_eq, Nat.mul_eq_zero]
      simp
    cases way <;> simp only [e3, e4, e5]

theorem cut_zero (way : Toward) (neg : Bool) (n : Nat) : way.cut neg n 0 = n := by
  unfold Toward.cut
  cases way <;> simp [Nat.mod_one]

theorem nearest_shift (f : Format) (neg : Bool) (m : Nat) (p : Int) (k : Nat) : f.nearest neg (m * 2 ^ k) (p - k) = f.nearest neg m p := by
  by_cases h0 : m = 0
  · subst h0; simp [Format.nearest]
  · have hm : m * 2 ^ k ≠ 0 := Nat.mul_ne_zero h0 (Nat.pos_iff_ne_zero.1 (Nat.two_pow_pos k))
    unfold Format.nearest
    rw [if_neg hm, if_neg h0, log2_shift m k h0]
    dsimp only
    have el : max (p - (k : Int) + ((m.log2 + k : Nat) : Int) - (f.fractionBits : Int)) f.leastPlace = max (p + (m.log2 : Int) - (f.fractionBits : Int)) f.leastPlace := by
      congr 1; push_cast; omega
    rw [el]
    generalize max (p + (m.log2 : Int) - (f.fractionBits : Int)) f.leastPlace = last
    have key : Toward.even.cut neg ((m * 2 ^ k) <<< (p - (k : Int) - last).toNat) (last - (p - (k : Int))).toNat = Toward.even.cut neg (m <<< (p - last).toNat) (last - p).toNat := by
      rw [Nat.shiftLeft_eq, Nat.shiftLeft_eq]
      by_cases h1 : last ≤ p - k
      · rw [show (last - (p - (k : Int))).toNat = 0 by omega, show (last - p).toNat = 0 by omega, cut_zero, cut_zero, Nat.mul_assoc, ← Nat.pow_add]
        congr 2; omega
      · rw [show (p - (k : Int) - last).toNat = 0 by omega, Nat.pow_zero, Nat.mul_one]
        by_cases h2 : last ≤ p
        · rw [show (last - p).toNat = 0 by omega, cut_zero]
          have e : m * 2 ^ k = (m * 2 ^ (p - last).toNat) * 2 ^ (last - (p - (k : Int))).toNat := by
            rw [Nat.mul_assoc, ← Nat.pow_add]; congr 2; omega
          rw [e]
          have := cut_shift .even neg (m * 2 ^ (p - last).toNat) 0 (last - (p - (k : Int))).toNat
          rw [Nat.zero_add] at this
          rw [this, cut_zero]
        · rw [show (p - last).toNat = 0 by omega, Nat.pow_zero, Nat.mul_one, show (last - (p - (k : Int))).toNat = (last - p).toNat + k by omega]
          exact cut_shift ..
    rw [key]
end Go.Proofs.Ythoiiccecneefaa
