/-
  Singles as rational numbers: sums, differences, products and quotients of finite singles, and how far each may be from the exact one.
-/
import Derived.Test.YthoiiccecneefaaRat
namespace Go.Proofs.Ythoiiccecneefaa
open Ieee (Datum Format signed)

/-- Word b is a number, of value q. -/
def Fv (k : FloatKind) (b : Nat) (q : Rat) : Prop := ∃ s m p, k.format.read b = .number s m p ∧ q = dv s m p

theorem Fv.not_nan {k : FloatKind} {b : Nat} {q : Rat} (h : Fv k b q) : isN k b = false := by
  obtain ⟨s, m, p, hr, _⟩ := h; exact isN_of_read hr
theorem Fv.cn {k : FloatKind} {b : Nat} {q : Rat} (h : Fv k b q) : cn k b = b := cn_of_not h.not_nan

/-- q is x, rounded: within 2^-24 of what x is bounded by, and a told rest. -/
def Near (t q x : Rat) : Prop := (∀ B : Rat, -B ≤ x → x ≤ B → 16777216 * (q - x) ≤ B + t ∧ 16777216 * (x - q) ≤ B + t) ∧ (0 ≤ x → 0 ≤ q) ∧ (x ≤ 0 → q ≤ 0)

theorem log2_bound {m : Nat} {p e : Int} (h0 : m ≠ 0) (h : (m : Rat) * pw p < pw e) : p + m.log2 < e := by
  have h1 : ((2 ^ m.log2 : Nat) : Rat) ≤ (m : Rat) := Rat.natCast_le_natCast.2 (Nat.log2_self_le h0)
  have h2 := Rat.mul_le_mul_of_nonneg_right h1 (Rat.le_of_lt (pw_pos p))
  have h3 : ((2 ^ m.log2 : Nat) : Rat) * pw p = pw (p + m.log2) := by rw [pw_add, pw_nat]; grind
  rw [h3] at h2
  apply lt_of_pw
  grind

theorem pw_m126 : pw (-126) = 8388608 * pw (-149) := by
  have : pw (-126) = pw 23 * pw (-149) := by rw [← pw_add]; rfl
  rw [this]
  have : pw 23 = 8388608 := by unfold pw; decide +kernel
  rw [this]

/-- Rounding to a single. -/
theorem near32 (neg : Bool) (m : Nat) (p : Int) (h : (m : Rat) * pw p < pw 127) :
    ∃ k e, FloatKind.f32.format.read (FloatKind.f32.format.nearest neg m p) = .number neg k e ∧ 16777216 * ((k : Rat) * pw e - (m : Rat) * pw p) ≤ (m : Rat) * pw p + pw (-126) ∧ 16777216 * ((m : Rat) * pw p - (k : Rat) * pw e) ≤ (m : Rat) * pw p + pw (-126) ∧
      (-149 ≤ p → 16777216 * ((k : Rat) * pw e - (m : Rat) * pw p) ≤ (m : Rat) * pw p ∧ 16777216 * ((m : Rat) * pw p - (k : Rat) * pw e) ≤ (m : Rat) * pw p) := by
  by_cases h0 : m = 0
  · subst h0
    have e : FloatKind.f32.format.nearest neg 0 p = FloatKind.f32.format.word neg 0 := by simp [Format.nearest]
    refine ⟨0, -149, ?_, ?_⟩
    · rw [e, read_zero _ _ (by decide)]; rfl
    · have := pw_pos (-126)
      simp only [Rat.natCast_ofNat, Rat.zero_mul]
      grind
  · have hfb : FloatKind.f32.format.fractionBits = 23 := rfl
    have hlp : FloatKind.f32.format.leastPlace = -149 := rfl
    have heb : (2 : Int) ^ FloatKind.f32.format.exponentBits = 256 := rfl
    have hl := log2_bound h0 h
    obtain ⟨last, hlast⟩ : ∃ last, last = max (p + (m.log2 : Int) - (FloatKind.f32.format.fractionBits : Int)) FloatKind.f32.format.leastPlace := ⟨_, rfl⟩
    obtain ⟨k, e, hread, h1, h2, h3⟩ := near_gen FloatKind.f32.format neg m p last h0 hlast (by rw [heb, hfb, hlp]; omega) (by rw [heb]; decide)
    rw [hfb, hlp] at hlast
    have hm : (8388608 : Rat) * pw (p + m.log2 - 23) ≤ (m : Rat) * pw p := by
      have a1 : ((2 ^ m.log2 : Nat) : Rat) ≤ (m : Rat) := Rat.natCast_le_natCast.2 (Nat.log2_self_le h0)
      have a2 := Rat.mul_le_mul_of_nonneg_right a1 (Rat.le_of_lt (pw_pos p))
      have a3 : ((2 ^ m.log2 : Nat) : Rat) * pw p = pw 23 * pw (p + m.log2 - 23) := by
        rw [← pw_add, show (23 : Int) + (p + m.log2 - 23) = p + m.log2 by omega, pw_add, pw_nat]; grind
      have a4 : pw 23 = 8388608 := by unfold pw; decide +kernel
      rw [a3, a4] at a2
      exact a2
    have hp := pw_pos (-149)
    have hq := pw_pos (p + m.log2 - 23)
    have hz := mag_nonneg m p
    refine ⟨k, e, hread, ?_⟩
    rw [pw_m126]
    by_cases hc : p + (m.log2 : Int) - 23 ≤ -149
    · have : last = -149 := by omega
      subst this
      refine ⟨by grind, by grind, fun hp2 => ?_⟩
      have := h3 hp2
      rw [this]
      grind
    · have : last = p + (m.log2 : Int) - 23 := by omega
      rw [this] at h1 h2
      refine ⟨by grind, by grind, fun _ => by grind⟩

/-- A rounded number with its sign. -/
theorem fv32 (neg : Bool) (m : Nat) (p : Int) (h1 : -pw 127 < dv neg m p) (h2 : dv neg m p < pw 127) :
    ∃ q, Fv .f32 (FloatKind.f32.format.nearest neg m p) q ∧ Near (pw (-126)) q (dv neg m p) ∧ (-149 ≤ p → Near 0 q (dv neg m p)) := by
  have hm := mag_nonneg m p
  have hlt : (m : Rat) * pw p < pw 127 := by
    unfold dv at h1 h2
    cases neg
    · simpa using h2
    · simp at h1 h2
      grind
  obtain ⟨k, e, hread, a1, a2, a3⟩ := near32 neg m p hlt
  have hk := mag_nonneg k e
  refine ⟨dv neg k e, ⟨_, _, _, hread, rfl⟩, ?_⟩
  have ht := pw_pos (-126)
  have hzero : (m : Rat) * pw p = 0 → (k : Rat) * pw e = 0 ∨ m ≠ 0 := by
    intro hz
    by_cases hm0 : m = 0
    · left
      subst hm0
      have er : FloatKind.f32.format.nearest neg 0 p = FloatKind.f32.format.word neg 0 := by simp [Format.nearest]
      rw [er, read_zero _ _ (by decide)] at hread
      cases hread
      simp
    · exact Or.inr hm0
  have hmz : (m : Rat) * pw p = 0 → (k : Rat) * pw e = 0 := by
    intro hz
    rcases hzero hz with h | h
    · exact h
    · exfalso
      have : (0 : Rat) < (m : Rat) := Rat.natCast_pos.2 (by omega)
      have := Rat.mul_pos this (pw_pos p)
      grind
  unfold dv
  generalize (m : Rat) * pw p = M at *
  generalize (k : Rat) * pw e = K at *
  cases neg
  · simp only [Bool.false_eq_true, if_false]
    refine ⟨⟨fun B b1 b2 => by grind, fun _ => hk, fun h => ?_⟩, fun hp => ?_⟩
    · have : M = 0 := by grind
      have := hmz this
      grind
    · obtain ⟨c1, c2⟩ := a3 hp
      refine ⟨fun B b1 b2 => by grind, fun _ => hk, fun h => ?_⟩
      have : M = 0 := by grind
      have := hmz this
      grind
  · simp only [if_true]
    refine ⟨⟨fun B b1 b2 => by grind, fun h => ?_, fun _ => by grind⟩, fun hp => ?_⟩
    · have : M = 0 := by grind
      have := hmz this
      grind
    · obtain ⟨c1, c2⟩ := a3 hp
      refine ⟨fun B b1 b2 => by grind, fun h => ?_, fun _ => by grind⟩
      have : M = 0 := by grind
      have := hmz this
      grind
end Go.Proofs.Ythoiiccecneefaa
