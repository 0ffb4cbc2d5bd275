/-
  Singles as rational numbers: the greatest whole number that is not greater.
-/
import Derived.Test.YthoiiccecneefaaRatO
namespace Go.Proofs.Ythoiiccecneefaa
open Ieee (Datum Format signed)

def floorB (x : Nat) : Nat := FloatKind.f64.encode ((FloatKind.f64.decode x).integral .down)
/-- Floor of a single, back to a single. -/
def flC (x : Nat) : Nat := (floatToFloatBits .f64 (floorB (wid x)) .f32).getD 0

theorem floor_eq {a : Rat} {n : Int} (h1 : (n : Rat) ≤ a) (h2 : a < (n : Rat) + 1) : a.floor = n := by
  have a1 := Rat.le_floor_iff.2 h1
  have a2 : a.floor < n + 1 := Rat.floor_lt_iff.2 (by rw [Rat.intCast_add]; exact h2)
  omega

theorem cut_scaled (s : Bool) (m q : Nat) (p : Int) : Ieee.Toward.down.cut s ((m * 2 ^ q) <<< (p - q).toNat) (-(p - q)).toNat = Ieee.Toward.down.cut s (m <<< p.toNat) (-p).toNat := by
  rw [Nat.shiftLeft_eq, Nat.shiftLeft_eq]
  by_cases hp : 0 ≤ p
  · rw [show (-p).toNat = 0 by omega]
    by_cases hq : (q : Int) ≤ p
    · rw [show (-(p - (q : Int))).toNat = 0 by omega, Nat.mul_assoc, ← Nat.pow_add]
      congr 3; omega
    · rw [show (p - (q : Int)).toNat = 0 by omega, Nat.pow_zero, Nat.mul_one]
      have e : m * 2 ^ q = (m * 2 ^ p.toNat) * 2 ^ (-(p - (q : Int))).toNat := by
        rw [Nat.mul_assoc, ← Nat.pow_add]; congr 2; omega
      rw [e]
      have := cut_shift .down s (m * 2 ^ p.toNat) 0 (-(p - (q : Int))).toNat
      rw [Nat.zero_add] at this
      exact this
  · rw [show p.toNat = 0 by omega, show (p - (q : Int)).toNat = 0 by omega, Nat.pow_zero, Nat.mul_one, Nat.mul_one, show (-(p - (q : Int))).toNat = (-p).toNat + q by omega]
    exact cut_shift ..

theorem cut_down (s : Bool) (m d : Nat) : Ieee.Toward.down.cut s m d = m / 2 ^ d + (s && decide (m % 2 ^ d ≠ 0)).toNat := by
  unfold Ieee.Toward.cut
  simp only [Nat.one_shiftLeft]
  by_cases h : d ≤ m.log2 + 2
  · rw [Nat.min_eq_left h]
    congr 2
    by_cases h2 : m % 2 ^ d = 0 <;> simp [h2]
  · have hn : m < 2 ^ (m.log2 + 1) := Nat.lt_log2_self
    have h1 : 2 ^ (m.log2 + 2) = 2 * 2 ^ (m.log2 + 1) := by rw [Nat.pow_succ']
    have h2 : 2 ^ (m.log2 + 2) ≤ 2 ^ d := Nat.pow_le_pow_right (by decide) (by omega)
    rw [Nat.min_eq_right (by omega), Nat.div_eq_of_lt (a := m) (b := 2 ^ (m.log2 + 2)) (by omega), Nat.div_eq_of_lt (a := m) (b := 2 ^ d) (by omega), Nat.mod_eq_of_lt (a := m) (b := 2 ^ (m.log2 + 2)) (by omega), Nat.mod_eq_of_lt (a := m) (b := 2 ^ d) (by omega)]
    congr 2
    by_cases h3 : m = 0 <;> simp [h3]

/-- A whole number of few digits goes through a double to a single. -/
theorem through (s : Bool) (K : Nat) (p : Int) (hK : K < 16777216) (hp : -149 ≤ p) (hp2 : p ≤ 104) :
    ∃ r, floatToFloatBits .f64 (FloatKind.f64.format.nearest s K p) .f32 = some r ∧ Fv .f32 r (dv s K p) ∧ Fv .f64 (FloatKind.f64.format.nearest s K p) (dv s K p) := by
  by_cases h0 : K = 0
  · subst h0
    have e : ∀ f : Format, f.nearest s 0 p = f.word s 0 := fun f => by simp [Format.nearest]
    refine ⟨FloatKind.f32.format.word s 0, ?_, ⟨s, 0, -149, ?_, ?_⟩, ⟨s, 0, -1074, ?_, ?_⟩⟩
    · rw [e]; cases s <;> decide +kernel
    · rw [read_zero _ _ (by decide)]; rfl
    · rw [dv_zero, dv_zero]
    · rw [e, read_zero _ _ (by decide)]; rfl
    · rw [dv_zero, dv_zero]
  · have hl := log2_le_of_lt (k := 23) hK
    have hfb : FloatKind.f64.format.fractionBits = 52 := rfl
    have hlp : FloatKind.f64.format.leastPlace = -1074 := rfl
    have heb : (2 : Int) ^ FloatKind.f64.format.exponentBits = 2048 := rfl
    have hfb' : FloatKind.f32.format.fractionBits = 23 := rfl
    have hlp' : FloatKind.f32.format.leastPlace = -149 := rfl
    have heb' : (2 : Int) ^ FloatKind.f32.format.exponentBits = 256 := rfl
    obtain ⟨q, hq⟩ := nearest_exact FloatKind.f64.format s K p h0 (by rw [hfb]; omega) (by rw [hlp]; omega) (by decide) (by rw [hfb, hlp, heb]; omega)
    obtain ⟨q2, hq2⟩ := nearest_exact FloatKind.f32.format s K p h0 (by rw [hfb']; omega) (by rw [hlp']; omega) (by decide) (by rw [hfb', hlp', heb']; omega)
    refine ⟨FloatKind.f32.format.nearest s K p, ?_, ⟨s, K * 2 ^ q2, p - q2, hq2, ?_⟩, ⟨s, K * 2 ^ q, p - q, hq, ?_⟩⟩
    · unfold floatToFloatBits
      rw [if_neg (by decide)]
      have hd : FloatKind.f64.decode (FloatKind.f64.format.nearest s K p) = .number s (K * 2 ^ q) (p - q) := hq
      rw [hd]
      have he : FloatKind.f32.encode (.number s (K * 2 ^ q) (p - q)) = FloatKind.f32.format.nearest s K p := nearest_shift FloatKind.f32.format s K p q
      have hi : (FloatKind.f32.decode (FloatKind.f32.encode (.number s (K * 2 ^ q) (p - q)))).isInfinity = false := by
        rw [he]
        show (FloatKind.f32.format.read _).isInfinity = false
        rw [hq2]; rfl
      simp only [he] at hi ⊢
      rw [if_neg (by rw [hi]; simp)]
    · unfold dv
      rw [pw_shift, show p - (q2 : Int) + q2 = p by omega]
    · unfold dv
      rw [pw_shift, show p - (q : Int) + q = p by omega]

theorem ffloor_all {x : Nat} {a : Rat} (hx : Fv .f32 x a) : floatToFloatBits .f64 (floorB (wid x)) .f32 = some (flC x) ∧ Fv .f32 (flC x) (a.floor : Rat) ∧ Fv .f64 (floorB (wid x)) (a.floor : Rat) := by
  have key : ∃ r, floatToFloatBits .f64 (floorB (wid x)) .f32 = some r ∧ Fv .f32 r (a.floor : Rat) ∧ Fv .f64 (floorB (wid x)) (a.floor : Rat) := by
    obtain ⟨s, m, p, hr, rfl⟩ := hx
    obtain ⟨hm, hp1, hp2⟩ := read32_num hr
    obtain ⟨q, p', hw, hpp⟩ := wid_num hr
    have hfl : floorB (wid x) = FloatKind.f64.encode (.number s (Ieee.Toward.down.cut s (m <<< p'.toNat) (-p').toNat) 0) := by
      unfold floorB
      have hd : FloatKind.f64.decode (wid x) = .number s (m * 2 ^ q) (p' - q) := hw
      rw [hd, ← cut_scaled s m q p']
      rfl
    by_cases h0 : m = 0
    · subst h0
      rw [hfl]
      have hc : Ieee.Toward.down.cut s (0 <<< p'.toNat) (-p').toNat = 0 := by rw [cut_down]; simp
      rw [hc]
      obtain ⟨r, h1, h2, h3⟩ := through s 0 0 (by omega) (by omega) (by omega)
      refine ⟨r, h1, ?_⟩
      rw [dv_zero] at h2 h3 ⊢
      have : (((0 : Rat).floor : Int) : Rat) = 0 := by decide +kernel
      rw [this]; exact ⟨h2, h3⟩
    · obtain rfl := hpp h0
      rw [hfl]
      by_cases hp : 0 ≤ p'
      · have hc : Ieee.Toward.down.cut s (m <<< p'.toNat) (-p').toNat = m * 2 ^ p'.toNat := by
          rw [show (-p').toNat = 0 by omega, cut_zero, Nat.shiftLeft_eq]
        rw [hc]
        have hn : FloatKind.f64.encode (.number s (m * 2 ^ p'.toNat) 0) = FloatKind.f64.format.nearest s m p' := by
          have := nearest_shift FloatKind.f64.format s m p' p'.toNat
          rw [show p' - (p'.toNat : Int) = 0 by omega] at this
          exact this
        rw [hn]
        obtain ⟨r, h1, h2, h3⟩ := through s m p' hm hp1 hp2
        refine ⟨r, h1, ?_⟩
        have hv : dv s m p' = ((if s = true then -((m * 2 ^ p'.toNat : Nat) : Int) else ((m * 2 ^ p'.toNat : Nat) : Int) : Int) : Rat) := by
          have e := pw_shift m 0 p'.toNat
          rw [pw_zero, Rat.mul_one, show (0 : Int) + (p'.toNat : Int) = p' by omega] at e
          unfold dv
          rw [← e]
          cases s
          · simp only [Bool.false_eq_true, if_false]; exact (Rat.intCast_natCast _).symm
          · simp only [if_true]; rw [Rat.intCast_neg, Rat.intCast_natCast]
        rw [hv] at h2 h3 ⊢
        rw [Rat.floor_intCast]
        exact ⟨h2, h3⟩
      · obtain ⟨d, hd⟩ : ∃ d : Nat, d = (-p').toNat := ⟨_, rfl⟩
        have hpd : p' = -(d : Int) := by omega
        rw [show p'.toNat = 0 by omega, Nat.shiftLeft_zero, ← hd]
        obtain ⟨K, hK⟩ : ∃ K, K = Ieee.Toward.down.cut s m d := ⟨_, rfl⟩
        have hc := cut_down s m d
        rw [← hK] at hc ⊢
        have hd1 : 2 ≤ 2 ^ d := by
          obtain ⟨c, rfl⟩ : ∃ c, d = c + 1 := ⟨d - 1, by omega⟩
          have := two_pos c
          rw [Nat.pow_succ]; omega
        have e := Nat.div_add_mod m (2 ^ d)
        have l := Nat.mod_lt m (two_pos d)
        have hb := Bool.toNat_le (s && decide (m % 2 ^ d ≠ 0))
        have hq : m / 2 ^ d ≤ m / 2 := Nat.div_le_div_left hd1 (by decide)
        obtain ⟨r, h1, h2, h3⟩ := through s K 0 (by omega) (by omega) (by omega)
        refine ⟨r, h1, ?_⟩
        have hfloor : (dv s m p').floor = (if s = true then -(K : Int) else (K : Int)) := by
          have hmv : (m : Rat) = ((2 ^ d : Nat) : Rat) * ((m : Rat) * pw p') := by
            have : pw (d : Int) * pw p' = 1 := by rw [← pw_add, hpd, show (d : Int) + -(d : Int) = 0 by omega, pw_zero]
            rw [pw_nat] at this
            grind
          have hD : (0 : Rat) < ((2 ^ d : Nat) : Rat) := Rat.natCast_pos.2 (two_pos d)
          unfold dv
          generalize (m : Rat) * pw p' = A at *
          generalize hG : 2 ^ d = D at *
          generalize hQ : m / D = Q at *
          generalize hR : m % D = R at *
          have e' : ((D * Q + R : Nat) : Rat) = (m : Rat) := by rw [e]
          rw [Rat.natCast_add, Rat.natCast_mul] at e'
          have hR0 : (0 : Rat) ≤ (R : Rat) := Rat.natCast_nonneg
          have hRD : (R : Rat) < (D : Rat) := Rat.natCast_lt_natCast.2 l
          have pos : ∀ z : Rat, 0 ≤ (D : Rat) * z → 0 ≤ z := fun z hz => by
            rcases (Rat.le_total : z ≤ 0 ∨ 0 ≤ z) with h | h
            · have : ¬ z < 0 := fun hz2 => by
                have := Rat.mul_lt_mul_of_pos_left hz2 hD
                grind
              grind
            · exact h
          have pos' : ∀ z : Rat, 0 < (D : Rat) * z → 0 < z := fun z hz => by
            have h1 := pos z (Rat.le_of_lt hz)
            have h2 : z ≠ 0 := fun h => by rw [h, Rat.mul_zero] at hz; exact absurd hz (by decide)
            grind
          cases s
          · simp only [Bool.false_eq_true, if_false]
            simp only [Bool.false_and, Bool.toNat_false, Nat.add_zero] at hc
            rw [hc]
            apply floor_eq
            · rw [Rat.intCast_natCast]
              have := pos (A - Q) (by grind)
              grind
            · rw [Rat.intCast_natCast]
              have := pos' ((Q : Rat) + 1 - A) (by grind)
              grind
          · simp only [if_true]
            simp only [Bool.true_and] at hc
            apply floor_eq
            · rw [Rat.intCast_neg, Rat.intCast_natCast]
              by_cases hz : R = 0
              · rw [hz] at hc e'
                simp at hc
                rw [hc]
                have := pos ((Q : Rat) - A) (by grind)
                grind
              · rw [decide_eq_true hz, Bool.toNat_true] at hc
                rw [hc, Rat.natCast_add]
                have := pos ((Q : Rat) + 1 - A) (by grind)
                grind
            · rw [Rat.intCast_neg, Rat.intCast_natCast]
              by_cases hz : R = 0
              · rw [hz] at hc e'
                simp at hc
                rw [hc]
                have := pos' (A - Q + 1) (by grind)
                grind
              · rw [decide_eq_true hz, Bool.toNat_true] at hc
                rw [hc, Rat.natCast_add]
                have hR1 : (0 : Rat) < (R : Rat) := Rat.natCast_pos.2 (by omega)
                have := pos' (A - Q) (by grind)
                grind
        have hv : dv s K 0 = ((if s = true then -(K : Int) else (K : Int) : Int) : Rat) := by
          unfold dv
          rw [pw_zero, Rat.mul_one]
          cases s
          · simp only [Bool.false_eq_true, if_false]; exact (Rat.intCast_natCast _).symm
          · simp only [if_true]; rw [Rat.intCast_neg, Rat.intCast_natCast]
        rw [hfloor, ← hv]
        exact ⟨h2, h3⟩
  obtain ⟨r, h1, h2, h3⟩ := key
  have hr : flC x = r := by unfold flC; rw [h1]; rfl
  rw [hr]
  exact ⟨h1, h2, h3⟩
theorem ffloor {x : Nat} {a : Rat} (hx : Fv .f32 x a) : floatToFloatBits .f64 (floorB (wid x)) .f32 = some (flC x) ∧ Fv .f32 (flC x) (a.floor : Rat) := ⟨(ffloor_all hx).1, (ffloor_all hx).2.1⟩

/-- A whole number of a double, as an integer. -/
theorem to_int {b : Nat} {n : Nat} (h : Fv .f64 b ((n : Int) : Rat)) (hn : n < 9223372036854775808) : floatToIntVal .f64 b .i64 = some (n : Int) := by
  obtain ⟨s, m, p, hr, hv⟩ := h
  have hd : FloatKind.f64.decode b = .number s m p := hr
  have hc : ∀ d k, Ieee.Toward.zero.cut s k d = k / 2 ^ d := by
    intro d k
    unfold Ieee.Toward.cut
    simp only [Nat.one_shiftLeft, Bool.toNat_false, Nat.add_zero]
    by_cases h : d ≤ k.log2 + 2
    · rw [Nat.min_eq_left h]
    · have hn : k < 2 ^ (k.log2 + 1) := Nat.lt_log2_self
      have h1 : 2 ^ (k.log2 + 2) = 2 * 2 ^ (k.log2 + 1) := by rw [Nat.pow_succ']
      have h2 : 2 ^ (k.log2 + 2) ≤ 2 ^ d := Nat.pow_le_pow_right (by decide) (by omega)
      rw [Nat.min_eq_right (by omega), Nat.div_eq_of_lt (a := k) (b := 2 ^ (k.log2 + 2)) (by omega), Nat.div_eq_of_lt (a := k) (b := 2 ^ d) (by omega)]
  have hm0 := mag_nonneg m p
  have hn0 : (0 : Rat) ≤ ((n : Int) : Rat) := by rw [Rat.intCast_natCast]; exact Rat.natCast_nonneg
  have key : (m : Rat) * pw p = (n : Rat) ∧ (s = true → n = 0) := by
    rw [Rat.intCast_natCast] at hv hn0
    unfold dv at hv
    cases s
    · simp at hv; exact ⟨hv.symm, fun h => by cases h⟩
    · simp only [if_true] at hv
      have : (n : Rat) = 0 := by grind
      refine ⟨by grind, fun _ => ?_⟩
      exact Rat.natCast_eq_zero_iff.1 this
  obtain ⟨k1, k2⟩ := key
  have hcut : Ieee.Toward.zero.cut s (m <<< p.toNat) (-p).toNat = n := by
    rw [hc, Nat.shiftLeft_eq]
    by_cases hp : 0 ≤ p
    · rw [show (-p).toNat = 0 by omega, Nat.pow_zero, Nat.div_one]
      have e := pw_shift m 0 p.toNat
      rw [pw_zero, Rat.mul_one, show (0 : Int) + (p.toNat : Int) = p by omega, k1] at e
      exact Rat.natCast_inj.1 e
    · rw [show p.toNat = 0 by omega, Nat.pow_zero, Nat.mul_one]
      have e : ((n * 2 ^ (-p).toNat : Nat) : Rat) * pw p = (m : Rat) * pw p := by
        rw [pw_shift, show p + ((-p).toNat : Int) = 0 by omega, pw_zero, Rat.mul_one, k1]
      have e2 : ((n * 2 ^ (-p).toNat : Nat) : Rat) = (m : Rat) := by
        have hp := pw_pos p
        have h0 : pw p ≠ 0 := by grind
        have := congrArg (· / pw p) e
        simp only [Rat.mul_div_cancel h0] at this
        exact this
      rw [← Rat.natCast_inj.1 e2, Nat.mul_div_cancel _ (two_pos _)]
  have ht : (FloatKind.f64.decode b).toInt .zero = some (n : Int) := by
    rw [hd]
    show some (Ieee.signed s (Ieee.Toward.zero.cut s (m <<< p.toNat) (-p).toNat) 0) = _
    rw [hcut]
    unfold Ieee.signed
    cases s
    · simp
    · rw [k2 rfl]; rfl
  unfold floatToIntVal
  rw [ht]
  simp only
  rw [if_pos ⟨by simp [IntKind.min, IntKind.signed, IntKind.bits], by simp [IntKind.max, IntKind.signed, IntKind.bits]; omega⟩]
end Go.Proofs.Ythoiiccecneefaa
