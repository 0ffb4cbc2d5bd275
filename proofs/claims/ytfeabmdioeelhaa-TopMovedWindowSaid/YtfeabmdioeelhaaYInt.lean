/-
  Whole numbers as singles: sums and differences of them are rounded once, from the whole number.
-/
import Derived.Test.YtfeabmdioeelhaaYMoved
namespace Go.Proofs.Ytfeabmdioeelhaa
open Go.RowKit Go.Shelf
open Ieee (Datum Format signed)

theorem dv_nat (s : Bool) (m : Nat) : dv s m 0 = if s = true then -(m : Rat) else (m : Rat) := by unfold dv; rw [pw_zero, Rat.mul_one]
theorem dv_shift (s : Bool) (m : Nat) (p : Int) (d : Nat) : dv s (m * 2 ^ d) p = dv s m (p + d) := by unfold dv; rw [pw_shift]
theorem int_abs (n : Int) : (if decide (n < 0) = true then -(n.natAbs : Rat) else (n.natAbs : Rat)) = (n : Rat) := by
  by_cases h : n < 0
  · rw [if_pos (by simpa using h)]
    have : n = -((n.natAbs : Nat) : Int) := by omega
    conv => rhs; rw [this, Rat.intCast_neg, Rat.intCast_natCast]
  · rw [if_neg (by simpa using h)]
    have : n = ((n.natAbs : Nat) : Int) := by omega
    conv => rhs; rw [this, Rat.intCast_natCast]

/-- A whole number below 2^24 is a single. -/
theorem ofInt_read {n : Int} (h : n.natAbs < 16777216) : ∃ m p, FloatKind.f32.format.read (floatOfInt .f32 n) = .number (decide (n < 0)) m p ∧ dv (decide (n < 0)) m p = (n : Rat) := by
  by_cases h0 : n = 0
  · subst h0
    refine ⟨0, -149, by decide +kernel, ?_⟩
    rw [dv_zero]; rfl
  · obtain ⟨q, hq⟩ := nearest_exact FloatKind.f32.format (decide (n < 0)) n.natAbs 0 (by omega) (log2_le_of_lt (k := 23) (by omega)) (by decide) (by decide)
      (by have := log2_le_of_lt (m := n.natAbs) (k := 23) (by omega)
          have e1 : FloatKind.f32.format.fractionBits = 23 := rfl
          have e2 : FloatKind.f32.format.leastPlace = -149 := rfl
          have e3 : FloatKind.f32.format.exponentBits = 8 := rfl
          rw [e1, e2, e3]
          omega)
    refine ⟨_, _, hq, ?_⟩
    rw [dv_shift, show (0 : Int) - (q : Int) + (q : Int) = 0 by omega, dv_nat]
    exact int_abs n
theorem ofInt_fv {n : Int} (h : n.natAbs < 16777216) : Fv .f32 (floatOfInt .f32 n) (n : Rat) := by
  obtain ⟨m, p, h1, h2⟩ := ofInt_read h
  exact ⟨_, m, p, h1, h2.symm⟩

/-- What is written of a whole number, at whatever place. -/
theorem nearest_int {M : Nat} {p n : Int} (h : dv (decide (n < 0)) M p = (n : Rat)) : FloatKind.f32.format.nearest (decide (n < 0)) M p = floatOfInt .f32 n := by
  have hn := int_abs n
  rw [← h] at hn
  have hm : ((n.natAbs : Nat) : Rat) = (M : Rat) * pw p := by
    unfold dv at hn
    split at hn
    · have := congrArg (fun x : Rat => -x) hn
      simpa using this
    · exact hn
  show _ = FloatKind.f32.format.nearest (decide (n < 0)) n.natAbs 0
  by_cases hp : 0 ≤ p
  · obtain ⟨k, rfl⟩ : ∃ k : Nat, p = (k : Int) := ⟨p.toNat, by omega⟩
    rw [pw_nat, ← Rat.natCast_mul] at hm
    have hm' := Rat.natCast_inj.1 hm
    rw [hm', ← nearest_shift FloatKind.f32.format (decide (n < 0)) M (k : Int) k, show (k : Int) - (k : Int) = 0 by omega]
  · obtain ⟨k, rfl⟩ : ∃ k : Nat, p = -(k : Int) := ⟨(-p).toNat, by omega⟩
    have h1 : ((n.natAbs * 2 ^ k : Nat) : Rat) = (M : Rat) := by
      rw [Rat.natCast_mul, hm, ← pw_nat, Rat.mul_assoc, ← pw_add, show -(k : Int) + (k : Int) = 0 by omega, pw_zero, Rat.mul_one]
    have h2 := Rat.natCast_inj.1 h1
    rw [← h2, ← nearest_shift FloatKind.f32.format (decide (n < 0)) n.natAbs 0 k, show (0 : Int) - (k : Int) = -(k : Int) by omega]

/-- A sum of two data, with its sign. -/
theorem sum_sign (s t : Bool) (m n : Nat) (i j : Int) (c : Int) (hc : dv s m i + dv t n j = (c : Rat)) (hz : c = 0 → (s && t) = false) :
    ∃ M, (Datum.number s m i).sum (Datum.number t n j) = some (.number (decide (c < 0)) M (min i j)) ∧ dv (decide (c < 0)) M (min i j) = (c : Rat) := by
  obtain ⟨T, hT⟩ : ∃ T : Int, T = signed s m (i - min i j).toNat + signed t n (j - min i j).toNat := ⟨_, rfl⟩
  have hv : (T : Rat) * pw (min i j) = (c : Rat) := by
    rw [← hc, hT, Rat.intCast_add, Rat.add_mul, signed_val _ _ _ _ (by omega), signed_val _ _ _ _ (by omega)]
  have hp := pw_pos (min i j)
  have hT0 : T = 0 ↔ c = 0 := by
    constructor
    · intro h; subst h
      have : (c : Rat) = ((0 : Int) : Rat) := by rw [← hv]; simp
      exact Rat.intCast_inj.1 this
    · intro h; subst h
      have h1 : (T : Rat) * pw (min i j) = 0 := hv
      rcases Rat.mul_eq_zero.1 h1 with h2 | h2
      · exact Rat.intCast_inj.1 (by rw [h2]; rfl)
      · rw [h2] at hp; exact absurd hp (by decide)
  have hTn : T < 0 ↔ c < 0 := by
    have e1 : c < 0 ↔ (c : Rat) < 0 := by
      have := Rat.intCast_lt_intCast (a := c) (b := 0)
      exact this.symm
    have e2 : T < 0 ↔ (T : Rat) < 0 := by
      have := Rat.intCast_lt_intCast (a := T) (b := 0)
      exact this.symm
    rw [e1, e2, ← hv]
    generalize pw (min i j) = P at *
    generalize (T : Rat) = t' at *
    constructor
    · intro h
      have := Rat.mul_lt_mul_of_pos_right h hp
      simpa using this
    · intro h
      rcases (Rat.le_total : (0 : Rat) ≤ t' ∨ t' ≤ 0) with h2 | h2
      · have := Rat.mul_nonneg h2 (Rat.le_of_lt hp)
        exact absurd h (Rat.not_lt.2 this)
      · by_cases h3 : t' = 0
        · subst h3
          simp at h
        · exact Rat.lt_of_le_of_ne h2 h3
  refine ⟨T.natAbs, ?_, ?_⟩
  · have e : (Datum.number s m i).sum (Datum.number t n j) = some (.number (if T = 0 then s && t else decide (T < 0)) T.natAbs (min i j)) := by rw [hT]; rfl
    rw [e]
    congr 2
    by_cases h : T = 0
    · rw [if_pos h, hz (hT0.1 h)]
      have : ¬ c < 0 := by have := hT0.1 h; omega
      simp [this]
    · rw [if_neg h]; simp [hTn]
  · rw [dv_signed T (min i j) _ (Or.inr (by simp [hTn])), hv]

theorem dv_sign {s : Bool} {m : Nat} {p c : Int} (h : dv s m p = (c : Rat)) (hc : c < 0) : s = true := by
  cases s
  · exfalso
    have h1 := mag_nonneg m p
    unfold dv at h
    simp only [Bool.false_eq_true, if_false] at h
    rw [h] at h1
    have h2 : ((0 : Int) : Rat) ≤ (c : Rat) := h1
    have := Rat.intCast_le_intCast.1 h2
    omega
  · rfl
theorem dv_sign_pos {s : Bool} {m : Nat} {p c : Int} (h : dv s m p = (c : Rat)) (hc : 0 < c) : s = false := by
  cases s
  · rfl
  · exfalso
    have h1 := mag_nonneg m p
    unfold dv at h
    simp only [if_true] at h
    have h2 : (((-c : Int)) : Rat) = (m : Rat) * pw p := by rw [Rat.intCast_neg, ← h]; simp
    rw [← h2] at h1
    have h3 : ((0 : Int) : Rat) ≤ ((-c : Int) : Rat) := h1
    have := Rat.intCast_le_intCast.1 h3
    omega

/-- A whole number less another one. -/
theorem sub_int {a b : Int} {y : Nat} (ha : a.natAbs < 16777216) (hy : Fv .f32 y (b : Rat)) : cop .sub .f32 (floatOfInt .f32 a) y = floatOfInt .f32 (a - b) := by
  obtain ⟨m, i, hr, hv⟩ := ofInt_read ha
  obtain ⟨t, n, j, hr', hv'⟩ := hy
  have hvn : dv (!t) n j = ((-b : Int) : Rat) := by rw [dv_neg, ← hv', Rat.intCast_neg]
  obtain ⟨M, hs, hd⟩ := sum_sign (decide (a < 0)) (!t) m n i j (a - b) (by rw [hv, hvn, ← Rat.intCast_add]; congr 1) (fun h => by
    by_cases h0 : a < 0
    · rw [dv_sign hv'.symm (by omega)]; simp
    · simp [h0])
  have e : floatBits .sub .f32 (floatOfInt .f32 a) y = some (FloatKind.f32.format.write (.number (decide (a - b < 0)) M (min i j))) := by
    show Option.map _ ((FloatKind.f32.format.read _).sum (FloatKind.f32.format.read y).opposite) = _
    rw [hr, hr']
    show Option.map _ ((Datum.number _ m i).sum (Datum.number (!t) n j)) = _
    rw [hs]; rfl
  rw [cop_some e]
  exact nearest_int hd
/-- A single that is a whole number, and another one. -/
theorem add_int {a b : Int} {x : Nat} (hb : b.natAbs < 16777216) (hx : Fv .f32 x (a : Rat)) : cop .add .f32 x (floatOfInt .f32 b) = floatOfInt .f32 (a + b) := by
  obtain ⟨n, j, hr', hv'⟩ := ofInt_read hb
  obtain ⟨s, m, i, hr, hv⟩ := hx
  obtain ⟨M, hs, hd⟩ := sum_sign s (decide (b < 0)) m n i j (a + b) (by rw [hv', ← hv, ← Rat.intCast_add]) (fun h => by
    by_cases h0 : b < 0
    · rw [dv_sign_pos hv.symm (by omega)]; simp
    · simp [h0])
  have e : floatBits .add .f32 x (floatOfInt .f32 b) = some (FloatKind.f32.format.write (.number (decide (a + b < 0)) M (min i j))) := by
    show Option.map _ ((FloatKind.f32.format.read x).sum (FloatKind.f32.format.read _)) = _
    rw [hr, hr', hs]; rfl
  rw [cop_some e]
  exact nearest_int hd
end Go.Proofs.Ytfeabmdioeelhaa
