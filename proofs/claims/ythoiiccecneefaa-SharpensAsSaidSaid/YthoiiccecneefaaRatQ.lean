/-
  Singles as rational numbers: quotients; differences that are exact.
-/
import Derived.Test.YthoiiccecneefaaRatO
namespace Go.Proofs.Ythoiiccecneefaa
open Ieee (Datum Format signed)

/-- A number less nothing is itself. -/
theorem fsub_zero {x y : Nat} {a : Rat} (hx : Fv .f32 x a) (hy : Fv .f32 y 0) : Fv .f32 (cop .sub .f32 x y) a := by
  obtain ⟨s, m, i, hr, rfl⟩ := hx
  obtain ⟨t, n, j, hr', h0⟩ := hy
  have hn0 : n = 0 := by
    by_cases h : n = 0
    · exact h
    · exfalso
      have : (0 : Rat) < (n : Rat) := Rat.natCast_pos.2 (by omega)
      have := Rat.mul_pos this (pw_pos j)
      unfold dv at h0
      cases t <;> simp at h0 <;> grind
  subst hn0
  obtain ⟨hm, hp1, hp2⟩ := read32_num hr
  have hb : floatBits .sub .f32 x y = some (FloatKind.f32.format.nearest (if signed s m (i - min i j).toNat + signed (!t) 0 (j - min i j).toNat = 0 then s && !t else decide (signed s m (i - min i j).toNat + signed (!t) 0 (j - min i j).toNat < 0)) (signed s m (i - min i j).toNat + signed (!t) 0 (j - min i j).toNat).natAbs (min i j)) := by
    show FloatKind.f32.format.sub x y = _
    unfold Format.sub
    rw [hr, hr']; rfl
  rw [cop_some hb]
  have hz : signed (!t) 0 (j - min i j).toNat = 0 := by unfold signed; cases t <;> simp
  rw [hz, Int.add_zero]
  have hs : (signed s m (i - min i j).toNat).natAbs = m * 2 ^ (i - min i j).toNat := by
    unfold signed; rw [Nat.shiftLeft_eq]
    cases s
    · exact Int.natAbs_natCast _
    · exact (Int.natAbs_neg _).trans (Int.natAbs_natCast _)
  by_cases hm0 : m = 0
  · subst hm0
    have e : ∀ neg p, FloatKind.f32.format.nearest neg 0 p = FloatKind.f32.format.word neg 0 := fun neg p => by simp [Format.nearest]
    rw [hs, Nat.zero_mul, e, dv_zero]
    exact ⟨_, 0, -149, by rw [read_zero _ _ (by decide)]; rfl, by rw [dv_zero]⟩
  · have hne : ¬ signed s m (i - min i j).toNat = 0 := by
      intro h
      rw [h] at hs
      have h1 : 0 < m * 2 ^ (i - min i j).toNat := Nat.mul_pos (by omega) (two_pos _)
      have h2 : (0 : Int).natAbs = 0 := rfl
      omega
    rw [if_neg hne, hs]
    have hsg : decide (signed s m (i - min i j).toNat < 0) = s := by
      unfold signed; rw [Nat.shiftLeft_eq]
      have : 0 < m * 2 ^ (i - min i j).toNat := Nat.mul_pos (by omega) (two_pos _)
      cases s
      · exact decide_eq_false (by show ¬ ((m * 2 ^ (i - min i j).toNat : Nat) : Int) < 0; omega)
      · exact decide_eq_true (by show -((m * 2 ^ (i - min i j).toNat : Nat) : Int) < 0; omega)
    rw [hsg]
    have hsh := nearest_shift FloatKind.f32.format s m i (i - min i j).toNat
    rw [show i - ((i - min i j).toNat : Int) = min i j by omega] at hsh
    rw [hsh]
    have hl := log2_le_of_lt (k := 23) hm
    have hfb' : FloatKind.f32.format.fractionBits = 23 := rfl
    have hlp' : FloatKind.f32.format.leastPlace = -149 := rfl
    have heb' : (2 : Int) ^ FloatKind.f32.format.exponentBits = 256 := rfl
    obtain ⟨q2, hq2⟩ := nearest_exact FloatKind.f32.format s m i hm0 (by rw [hfb']; omega) (by rw [hlp']; omega) (by decide) (by rw [hfb', hlp', heb']; omega)
    exact ⟨s, m * 2 ^ q2, i - q2, hq2, by unfold dv; rw [pw_shift, show i - (q2 : Int) + q2 = i by omega]⟩

/-- q is x, rounded as a quotient: within 1.6 parts of 2^24. -/
def NearQ (q x : Rat) : Prop := (∀ B : Rat, -B ≤ x → x ≤ B → 83886080 * (q - x) ≤ 8 * B + 5 * pw (-126) ∧ 83886080 * (x - q) ≤ 8 * B + 5 * pw (-126)) ∧ (0 ≤ x → 0 ≤ q) ∧ (x ≤ 0 → q ≤ 0)

/-- The quotient's digits, with what is left over told. -/
theorem quo_digits (m n : Nat) (hm : m ≠ 0) (hn : n ≠ 0) (more : Nat) (hmore : more = 25 + n.log2 - m.log2) (h24 : m.log2 ≤ 23) :
    ∃ Q, Q = 2 * ((m <<< more) / n) + ((m <<< more) % n != 0).toNat ∧ 2 * (m <<< more) ≤ (Q + 1) * n ∧ Q * n ≤ 2 * (m <<< more) + n ∧ 33554432 ≤ Q := by
  obtain ⟨T, hT⟩ : ∃ T, T = m <<< more := ⟨_, rfl⟩
  rw [← hT]
  have e := Nat.div_add_mod T n
  have l := Nat.mod_lt T (show 0 < n by omega)
  have hT2 : T = m * 2 ^ more := by rw [hT, Nat.shiftLeft_eq]
  have hml := Nat.log2_self_le hm
  have hnl := Nat.lt_log2_self (n := n)
  have hbig : 33554432 * n ≤ 2 * T := by
    have h1 : 2 ^ (m.log2 + more) ≤ T := by rw [hT2, Nat.pow_add]; exact Nat.mul_le_mul_right _ hml
    have h2 : 33554432 * n ≤ 2 ^ (25 + (n.log2 + 1)) := by
      rw [Nat.pow_add]
      exact Nat.mul_le_mul_left _ (Nat.le_of_lt hnl)
    have h3 : 2 ^ (25 + (n.log2 + 1)) ≤ 2 * 2 ^ (m.log2 + more) := by
      rw [← Nat.pow_succ']
      exact Nat.pow_le_pow_right (by decide) (by omega)
    omega
  obtain ⟨q, hq⟩ : ∃ q, q = T / n := ⟨_, rfl⟩
  obtain ⟨R, hR⟩ : ∃ R, R = T % n := ⟨_, rfl⟩
  rw [← hq, ← hR] at e
  rw [← hR] at l
  rw [← hq, ← hR]
  have hcomm : n * q = q * n := Nat.mul_comm _ _
  have h33 : 33554432 ≤ 2 * q + (R != 0).toNat := by
    by_cases hz : R = 0
    · subst hz
      simp
      have : 33554432 * n ≤ (2 * q) * n := by rw [Nat.mul_assoc, ← hcomm]; omega
      exact Nat.le_of_mul_le_mul_right this (by omega)
    · have : (R != 0).toNat = 1 := by simp [hz]
      rw [this]
      have : 33554432 * n < (2 * q + 2) * n := by rw [Nat.add_mul, Nat.mul_assoc, ← hcomm]; omega
      have := Nat.lt_of_mul_lt_mul_right this
      omega
  refine ⟨2 * q + (R != 0).toNat, rfl, ?_, ?_, h33⟩
  · by_cases hz : R = 0
    · subst hz; simp; rw [Nat.add_mul, Nat.mul_assoc, ← hcomm]; omega
    · have : (R != 0).toNat = 1 := by simp [hz]
      rw [this, Nat.add_mul, Nat.add_mul, Nat.mul_assoc, ← hcomm]; omega
  · by_cases hz : R = 0
    · subst hz; simp; rw [Nat.mul_assoc, ← hcomm]; omega
    · have : (R != 0).toNat = 1 := by simp [hz]
      rw [this, Nat.add_mul, Nat.mul_assoc, ← hcomm]; omega

theorem fquo {x y : Nat} {a b X : Rat} (hx : Fv .f32 x a) (hy : Fv .f32 y b) (hb : b ≠ 0) (hX : X * b = a) (h1 : -pw 100 < X) (h2 : X < pw 100) : ∃ q, Fv .f32 (cop .quo .f32 x y) q ∧ NearQ q X := by
  obtain ⟨s, m, i, hr, rfl⟩ := hx
  obtain ⟨t, n, j, hr', rfl⟩ := hy
  have hn0 : n ≠ 0 := fun h => hb (by subst h; rw [dv_zero])
  obtain ⟨hm24, -, -⟩ := read32_num hr
  have hl := log2_le_of_lt (k := 23) hm24
  have ht := pw_pos (-126)
  by_cases hm0 : m = 0
  · subst hm0
    have hX0 : X = 0 := by
      rw [dv_zero] at hX
      rcases Rat.mul_eq_zero.1 hX with h | h
      · exact h
      · exact absurd h hb
    subst hX0
    have hbits : floatBits .quo .f32 x y = some (FloatKind.f32.format.nearest (s ^^ t) (2 * ((0 <<< (25 + n.log2 - (0 : Nat).log2)) / n) + ((0 <<< (25 + n.log2 - (0 : Nat).log2)) % n != 0).toNat) (i - j - ((25 + n.log2 - (0 : Nat).log2 : Nat) : Int) - 1)) := by
      show FloatKind.f32.format.div x y = _
      unfold Format.div
      rw [hr, hr']
      show ((if n = 0 then if (0 : Nat) = 0 then none else some (Datum.infinity (s ^^ t)) else _ : Option Datum)).map _ = _
      rw [if_neg hn0]; rfl
    have e : ∀ neg p, FloatKind.f32.format.nearest neg 0 p = FloatKind.f32.format.word neg 0 := fun neg p => by simp [Format.nearest]
    refine ⟨0, ?_, ⟨fun B b1 b2 => by grind, fun _ => by grind, fun _ => by grind⟩⟩
    rw [cop_some hbits]
    simp only [Nat.zero_shiftLeft, Nat.zero_div, Nat.mul_zero, Nat.zero_mod, bne_self_eq_false, Bool.toNat_false, Nat.add_zero]
    rw [e]
    exact ⟨_, 0, -149, by rw [read_zero _ _ (by decide)]; rfl, by rw [dv_zero]⟩
  · obtain ⟨more, hmore⟩ : ∃ more, more = 25 + n.log2 - m.log2 := ⟨_, rfl⟩
    obtain ⟨Q, hQ, q1, q2, q3⟩ := quo_digits m n hm0 hn0 more hmore hl
    obtain ⟨P, hP⟩ : ∃ P : Int, P = i - j - (more : Int) - 1 := ⟨_, rfl⟩
    have hbits : floatBits .quo .f32 x y = some (FloatKind.f32.format.nearest (s ^^ t) Q P) := by
      show FloatKind.f32.format.div x y = _
      unfold Format.div
      rw [hr, hr', hQ, hP, hmore]
      show ((if n = 0 then if m = 0 then none else some (Datum.infinity (s ^^ t)) else _ : Option Datum)).map _ = _
      rw [if_neg hn0]; rfl
    have hn : (0 : Rat) < (n : Rat) := Rat.natCast_pos.2 (by omega)
    have hpj := pw_pos j
    have hpP := pw_pos P
    -- the exact magnitude
    obtain ⟨Z, hZ⟩ : ∃ Z : Rat, Z * ((n : Rat) * pw j) = (m : Rat) * pw i := by
      have : (n : Rat) * pw j ≠ 0 := by have := Rat.mul_pos hn hpj; grind
      exact ⟨(m : Rat) * pw i / ((n : Rat) * pw j), Rat.div_mul_cancel this⟩
    have hpi : pw i = 2 * ((2 ^ more : Nat) : Rat) * pw P * pw j := by
      have e1 : (i : Int) = 1 + (more : Int) + P + j := by omega
      rw [e1, pw_add, pw_add, pw_add, pw_nat]
      have : pw 1 = 2 := by unfold pw; decide +kernel
      rw [this]
    have hT : ((m <<< more : Nat) : Rat) = (m : Rat) * ((2 ^ more : Nat) : Rat) := by rw [Nat.shiftLeft_eq, Rat.natCast_mul]
    have q1' : ((2 * (m <<< more) : Nat) : Rat) ≤ (((Q + 1) * n : Nat) : Rat) := Rat.natCast_le_natCast.2 q1
    have q2' : ((Q * n : Nat) : Rat) ≤ ((2 * (m <<< more) + n : Nat) : Rat) := Rat.natCast_le_natCast.2 q2
    have q3' : ((33554432 : Nat) : Rat) ≤ (Q : Rat) := Rat.natCast_le_natCast.2 q3
    simp only [Rat.natCast_mul, Rat.natCast_add, Rat.natCast_ofNat, hT] at q1' q2' q3'
    -- Z n = 2 T P
    have hZn : Z * (n : Rat) = 2 * ((m : Rat) * ((2 ^ more : Nat) : Rat)) * pw P := by
      rw [hpi] at hZ
      have : (Z * (n : Rat) - 2 * ((m : Rat) * ((2 ^ more : Nat) : Rat)) * pw P) * pw j = 0 := by grind
      rcases Rat.mul_eq_zero.1 this with h | h
      · grind
      · exact absurd h (by grind)
    have pos : ∀ z : Rat, 0 ≤ z * (n : Rat) → 0 ≤ z := fun z hz => by
      rcases (Rat.le_total : z ≤ 0 ∨ 0 ≤ z) with h | h
      · by_cases h0 : z = 0
        · grind
        · have := Rat.mul_lt_mul_of_pos_right (show z < 0 by grind) hn
          grind
      · exact h
    have d1 := Rat.mul_le_mul_of_nonneg_right q1' (Rat.le_of_lt hpP)
    have d2 := Rat.mul_le_mul_of_nonneg_right q2' (Rat.le_of_lt hpP)
    have z1 : Z ≤ (Q : Rat) * pw P + pw P := by
      have := pos ((Q : Rat) * pw P + pw P - Z) (by grind)
      grind
    have z2 : (Q : Rat) * pw P ≤ Z + pw P := by
      have := pos (Z + pw P - (Q : Rat) * pw P) (by grind)
      grind
    have z3 : 33554432 * pw P ≤ (Q : Rat) * pw P := Rat.mul_le_mul_of_nonneg_right q3' (Rat.le_of_lt hpP)
    have hQ0 := mag_nonneg Q P
    have z0 : 0 ≤ Z := by grind
    -- the sign
    have hXZ : X = if (s ^^ t) = true then -Z else Z := by
      have hbn : dv t n j ≠ 0 := hb
      have key : (X - if (s ^^ t) = true then -Z else Z) * dv t n j = 0 := by
        rw [Rat.sub_eq_add_neg, Rat.add_mul, hX]
        unfold dv
        cases s <;> cases t <;> simp <;> grind
      rcases Rat.mul_eq_zero.1 key with h | h
      · grind
      · exact absurd h hbn
    have hp100 : pw 127 = 134217728 * pw 100 := by
      have : pw 127 = pw 27 * pw 100 := by rw [← pw_add]; rfl
      rw [this]
      have : pw 27 = 134217728 := by unfold pw; decide +kernel
      rw [this]
    have hpp := pw_pos 100
    have hZlt : Z < pw 100 := by
      cases hst : (s ^^ t) <;> rw [hst] at hXZ <;> simp at hXZ <;> grind
    have hdv : dv (s ^^ t) Q P = if (s ^^ t) = true then -((Q : Rat) * pw P) else (Q : Rat) * pw P := rfl
    obtain ⟨q, hq, hn1, -⟩ := fv32 (s ^^ t) Q P (by rw [hdv]; split <;> grind) (by rw [hdv]; split <;> grind)
    refine ⟨q, by rw [cop_some hbits]; exact hq, ?_⟩
    rw [hdv] at hn1
    obtain ⟨nb, n0, n0'⟩ := hn1
    cases hst : (s ^^ t)
    · rw [hst] at hXZ nb n0
      simp only [Bool.false_eq_true, if_false] at hXZ nb n0
      obtain ⟨c1, c2⟩ := nb ((Q : Rat) * pw P) (by grind) (by grind)
      refine ⟨fun B b1 b2 => ⟨by grind, by grind⟩, fun _ => n0 hQ0, fun hx => by exfalso; grind⟩
    · rw [hst] at hXZ nb n0'
      simp only [if_true] at hXZ nb n0'
      obtain ⟨c1, c2⟩ := nb ((Q : Rat) * pw P) (by grind) (by grind)
      refine ⟨fun B b1 b2 => ⟨by grind, by grind⟩, fun hx => by exfalso; grind, fun _ => n0' (by grind)⟩
end Go.Proofs.Ythoiiccecneefaa
