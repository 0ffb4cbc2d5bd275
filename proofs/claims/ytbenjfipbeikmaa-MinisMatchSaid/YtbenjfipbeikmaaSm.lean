/-
  Small floats: their values grow with their numbers; between two of them the nearer one.
-/
import Derived.Test.YtbenjfipbeikmaaDbl
namespace Go.Proofs.Ytbenjfipbeikmaa
open Ieee (Datum Format)

/-- The digits of the small float n, with F fraction bits; and its value, in units of the least one. -/
def svK (F n : Nat) : Nat := if n / 2 ^ F = 0 then n % 2 ^ F else 2 ^ F + n % 2 ^ F
def svU (F n : Nat) : Nat := svK F n * 2 ^ (n / 2 ^ F - 1)

theorem svU_step (F n : Nat) : svU F (n + 1) = svU F n + 2 ^ (n / 2 ^ F - 1) := by
  have hB := two_pos F
  unfold svU svK
  generalize 2 ^ F = B at *
  have hn := Nat.div_add_mod n B
  have hm := Nat.mod_lt n hB
  by_cases hc : n % B + 1 < B
  · have e1 : (n + 1) / B = n / B := by
      rw [show n + 1 = (n % B + 1) + B * (n / B) by omega, Nat.add_mul_div_left _ _ hB, Nat.div_eq_of_lt hc]; omega
    have e2 : (n + 1) % B = n % B + 1 := by
      rw [show n + 1 = (n % B + 1) + B * (n / B) by omega, Nat.add_mul_mod_self_left, Nat.mod_eq_of_lt hc]
    rw [e1, e2]
    split
    · rw [Nat.add_mul, Nat.one_mul]
    · rw [← Nat.add_assoc, Nat.add_mul (B + n % B), Nat.one_mul]
  · have hc' : n % B = B - 1 := by omega
    have e0 : n + 1 = B * (n / B + 1) := by rw [Nat.mul_add]; omega
    have e1 : (n + 1) / B = n / B + 1 := by rw [e0, Nat.mul_div_cancel_left _ hB]
    have e2 : (n + 1) % B = 0 := by rw [e0, Nat.mul_mod_right]
    rw [e1, e2, hc', if_neg (Nat.succ_ne_zero (n / B))]
    by_cases h0 : n / B = 0
    · rw [if_pos h0, h0]; simp; omega
    · rw [if_neg h0]
      obtain ⟨e, he⟩ := Nat.exists_eq_succ_of_ne_zero h0
      rw [Nat.succ_eq_add_one] at he
      rw [he, show e + 1 + 1 - 1 = e + 1 from rfl, show e + 1 - 1 = e from rfl, Nat.pow_succ, Nat.add_zero]
      have : B + (B - 1) + 1 = 2 * B := by omega
      have h2 : (B + (B - 1)) * 2 ^ e + 2 ^ e = (B + (B - 1) + 1) * 2 ^ e := by rw [Nat.add_mul (B + (B - 1)), Nat.one_mul]
      rw [h2, this, Nat.mul_comm 2 B, Nat.mul_assoc, Nat.mul_comm 2 (2 ^ e)]

theorem svU_lt_succ (F n : Nat) : svU F n < svU F (n + 1) := by rw [svU_step]; have := two_pos (n / 2 ^ F - 1); omega

theorem svU_mono (F : Nat) {a b : Nat} (h : a ≤ b) : svU F a ≤ svU F b := by
  obtain ⟨k, rfl⟩ := Nat.exists_eq_add_of_le h
  induction k with
  | zero => exact Nat.le_refl _
  | succ k ih => exact Nat.le_trans (ih (by omega)) (Nat.le_of_lt (svU_lt_succ F (a + k)))

theorem svU_unique (F A : Nat) {l l' : Nat} (h1 : svU F l ≤ A) (h2 : A < svU F (l + 1)) (h3 : svU F l' ≤ A) (h4 : A < svU F (l' + 1)) : l = l' := by
  rcases Nat.lt_trichotomy l l' with h | h | h
  · have := svU_mono F (show l + 1 ≤ l' by omega); omega
  · exact h
  · have := svU_mono F (show l' + 1 ≤ l by omega); omega

/-- The small float whose digits are t0, t binades above the least ones. -/
theorem svU_at (F t t0 : Nat) (h2 : t0 < 2 * 2 ^ F) (h1 : t = 0 ∨ 2 ^ F ≤ t0) : svU F (t * 2 ^ F + t0) = t0 * 2 ^ t ∧ (t * 2 ^ F + t0) / 2 ^ F - 1 = t := by
  have hB := two_pos F
  unfold svU svK
  generalize 2 ^ F = B at *
  by_cases hs : t0 < B
  · have ht : t = 0 := by omega
    subst ht
    rw [Nat.zero_mul, Nat.zero_add, Nat.div_eq_of_lt hs, Nat.mod_eq_of_lt hs]
    simp
  · have e1 : (t * B + t0) / B = t + 1 := by
      rw [show t * B + t0 = (t0 - B) + B * (t + 1) by rw [Nat.mul_add, Nat.mul_comm t B]; omega, Nat.add_mul_div_left _ _ hB, Nat.div_eq_of_lt (by omega)]; omega
    have e2 : (t * B + t0) % B = t0 - B := by
      rw [show t * B + t0 = (t0 - B) + B * (t + 1) by rw [Nat.mul_add, Nat.mul_comm t B]; omega, Nat.add_mul_mod_self_left, Nat.mod_eq_of_lt (by omega)]
    rw [e1, e2, if_neg (by omega)]
    refine ⟨?_, rfl⟩
    rw [show B + (t0 - B) = t0 by omega]; rfl

/-- At least half of a number stays behind rounding. -/
theorem dN_half (D : Nat) (h0 : D ≠ 0) (hl : D.log2 ≤ 2000) : ∃ V, Pos (dN D) V ∧ D ≤ 2 * V := by
  by_cases hs : D.log2 ≤ 52
  · have := Nat.lt_log2_self (n := D)
    have h2 : D < 2 ^ 53 := Nat.lt_of_lt_of_le this (Nat.pow_le_pow_right (by decide) (by omega))
    exact ⟨D, dN_exact D D 0 (by simp) (by omega) (by omega), by omega⟩
  · obtain ⟨r, hr⟩ : ∃ r, D.log2 = 52 + r := ⟨D.log2 - 52, by omega⟩
    have hfb : FloatKind.f64.format.fractionBits = 52 := rfl
    have hlp : FloatKind.f64.format.leastPlace = -1074 := rfl
    have hb : FloatKind.f64.format.binade = 4503599627370496 := rfl
    have hi : FloatKind.f64.format.infRung = 2047 * 4503599627370496 := rfl
    have d1 := Nat.log2_self_le h0
    have d2 := Nat.lt_log2_self (n := D)
    rw [hr] at d1 d2
    have q1 : 4503599627370496 ≤ D / 2 ^ r := by
      rw [Nat.le_div_iff_mul_le (two_pos r)]
      rw [Nat.pow_add] at d1; exact d1
    have q2 : D / 2 ^ r < 9007199254740992 := by
      rw [Nat.div_lt_iff_lt_mul (two_pos r)]
      rw [show 52 + r + 1 = 53 + r by omega, Nat.pow_add] at d2; exact d2
    obtain ⟨kept, hkept⟩ : ∃ kept, kept = Ieee.Toward.even.cut false D r := ⟨_, rfl⟩
    have hk := cut_even false D r
    rw [← hkept] at hk
    have hk1 : D / 2 ^ r ≤ kept := by omega
    have hk2 : kept ≤ D / 2 ^ r + 1 := by
      rw [hk]; have := Bool.toNat_le (decide (2 ^ r < 2 * (D % 2 ^ r)) || (decide (2 ^ r = 2 * (D % 2 ^ r)) && decide (D / 2 ^ r % 2 = 1))); omega
    obtain ⟨k, c, hread, hkc⟩ := nearest_read FloatKind.f64.format false D (-1074) h0 (-1074 + (r : Int)) kept (by rw [hfb, hlp, hr]; omega)
      (by rw [hkept, show (-1074 - (-1074 + (r : Int))).toNat = 0 by omega, Nat.shiftLeft_zero, show (-1074 + (r : Int) - -1074).toNat = r by omega]) (by rw [hb]; omega) (Or.inr (by rw [hb]; omega))
      (by rw [hlp, hb, hi, show (-1074 + (r : Int) - -1074).toNat = r by omega]; omega)
    refine ⟨kept * 2 ^ r, ⟨k, r + c, ?_, ?_⟩, ?_⟩
    · unfold dN; rw [hread]; congr 1; omega
    · rw [← hkc, Nat.mul_assoc, ← Nat.pow_add, Nat.add_comm c r]
    · have e := Nat.div_add_mod D (2 ^ r)
      have m := Nat.mod_lt D (two_pos r)
      have : 2 ^ r * (D / 2 ^ r) ≤ kept * 2 ^ r := by rw [Nat.mul_comm]; exact Nat.mul_le_mul_right _ hk1
      have l : 2 ^ r ≤ 2 ^ r * (D / 2 ^ r) := Nat.le_mul_of_pos_right _ (by omega)
      omega

/-- The two gaps beside a single's value, as doubles, stand to each other as they are. -/
theorem gaps (M u S g : Nat) (hM : M < 16777216) (hu : u ≤ 1800) (hg : g ≤ 1800) (h1 : S * 2 ^ g ≤ M * 2 ^ u) (h2 : M * 2 ^ u < (S + 1) * 2 ^ g) :
    FloatKind.f64.format.order (dN ((S + 1) * 2 ^ g - M * 2 ^ u)) (dN (M * 2 ^ u - S * 2 ^ g)) = some (compare ((S + 1) * 2 ^ g - M * 2 ^ u) (M * 2 ^ u - S * 2 ^ g)) := by
  by_cases hgu : g ≤ u
  · -- the value is a multiple of the gap: it is the lower one itself
    obtain ⟨c, rfl⟩ := Nat.exists_eq_add_of_le hgu
    have e : M * 2 ^ (g + c) = (M * 2 ^ c) * 2 ^ g := by rw [Nat.pow_add, Nat.mul_comm (2 ^ g), Nat.mul_assoc]
    rw [e] at h1 h2 ⊢
    have a1 := Nat.le_of_mul_le_mul_right h1 (two_pos g)
    have a2 := Nat.lt_of_mul_lt_mul_right h2
    have : M * 2 ^ c = S := by omega
    rw [this, Nat.sub_self, show (S + 1) * 2 ^ g - S * 2 ^ g = 1 * 2 ^ g by rw [← Nat.sub_mul]; congr 1; omega]
    exact pos_order (dN_exact _ 1 g rfl (by decide) (by omega)) (dN_exact 0 0 0 rfl (by decide) (by decide))
  · obtain ⟨c, hc⟩ := Nat.exists_eq_add_of_le (show u ≤ g by omega)
    subst hc
    have e : ∀ s, s * 2 ^ (u + c) = (s * 2 ^ c) * 2 ^ u := fun s => by rw [Nat.pow_add, Nat.mul_comm (2 ^ u), Nat.mul_assoc]
    rw [e, e] at *
    have a1 := Nat.le_of_mul_le_mul_right h1 (two_pos u)
    have a2 := Nat.lt_of_mul_lt_mul_right h2
    rw [← Nat.sub_mul, ← Nat.sub_mul]
    obtain ⟨k1, hk1⟩ : ∃ k1, k1 = M - S * 2 ^ c := ⟨_, rfl⟩
    have ek2 : (S + 1) * 2 ^ c - M = 2 ^ c - k1 := by rw [Nat.add_mul, Nat.one_mul]; omega
    have hk1c : k1 < 2 ^ c := by rw [Nat.add_mul, Nat.one_mul] at a2; omega
    rw [← hk1, ek2]
    have p1 : Pos (dN (k1 * 2 ^ u)) (k1 * 2 ^ u) := dN_exact _ k1 u rfl (by omega) (by omega)
    by_cases hc53 : c ≤ 52
    · have : 2 ^ c ≤ 2 ^ 52 := Nat.pow_le_pow_right (by decide) hc53
      exact pos_order (dN_exact _ (2 ^ c - k1) u rfl (by omega) (by omega)) p1
    · have hbig : 2 ^ 53 ≤ 2 ^ c := Nat.pow_le_pow_right (by decide) (by omega)
      have hk2 : 4503599627370496 ≤ 2 ^ c - k1 := by omega
      have hne : (2 ^ c - k1) * 2 ^ u ≠ 0 := Nat.mul_ne_zero (by omega) (Nat.pos_iff_ne_zero.1 (two_pos u))
      have hlog : ((2 ^ c - k1) * 2 ^ u).log2 ≤ 2000 := by
        obtain ⟨K, hK⟩ : ∃ K, K = 2000 := ⟨_, rfl⟩
        have b1 : (2 ^ c - k1) * 2 ^ u < 2 ^ (K + 1) := by
          have c1 : (2 ^ c - k1) * 2 ^ u ≤ 2 ^ (c + u) := by rw [Nat.pow_add]; exact Nat.mul_le_mul_right _ (Nat.sub_le _ _)
          exact Nat.lt_of_le_of_lt c1 (Nat.pow_lt_pow_right (by decide) (by omega))
        have := log2_le_of_lt (k := K) b1
        omega
      obtain ⟨V, hV, hV2⟩ := dN_half _ hne hlog
      rw [pos_order hV p1]
      have big : 4503599627370496 * 2 ^ u ≤ (2 ^ c - k1) * 2 ^ u := Nat.mul_le_mul_right _ hk2
      have small : k1 * 2 ^ u ≤ 16777216 * 2 ^ u := Nat.mul_le_mul_right _ (by omega)
      have pu := two_pos u
      rw [Nat.compare_eq_gt.2 (by omega), Nat.compare_eq_gt.2 (by omega)]
end Go.Proofs.Ytbenjfipbeikmaa
