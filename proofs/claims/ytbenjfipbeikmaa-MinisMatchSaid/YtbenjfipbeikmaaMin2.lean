/-
  Small floats: what Mini means, in the program and in the reference.
-/
import Derived.Test.YtbenjfipbeikmaaMini
namespace Go.Proofs.Ytbenjfipbeikmaa
open Go.RowKit
open Ieee (Datum Format)

/-- The unit of a format's values, in 2^-1074. -/
def unitN (E F : Nat) : Nat := (1074 + lowZ E - F).toNat
/-- The value of the small float n, in 2^-1074. -/
def SV (E F n : Nat) : Nat := svU F n * 2 ^ unitN E F

theorem unitN_cast {E F : Nat} (h : Fmt E F) : ((unitN E F : Nat) : Int) = 1074 + lowZ E - F ∧ 925 ≤ unitN E F ∧ unitN E F ≤ 1073 := by
  have := lowZ_bd h; have := h.f1; have := h.f2
  unfold unitN; omega

theorem svK_lt (F n : Nat) (hF : F ≤ 23) : svK F n < 16777216 := by
  have h1 := Nat.mod_lt n (two_pos F)
  have h2 : 2 ^ F ≤ 2 ^ 23 := Nat.pow_le_pow_right (by decide) hF
  unfold svK
  split <;> omega

theorem pos_svW (E F n : Nat) (h : Fmt E F) (hn : n / 2 ^ F ≤ 300) : Pos (svW E F n) (SV E F n) := by
  obtain ⟨u1, u2, u3⟩ := unitN_cast h
  obtain ⟨l1, l2⟩ := lowZ_bd h
  have hk := svK_lt F n h.f2
  have hl := log2_le_of_lt (k := 23) hk
  have f1 := h.f1; have f2 := h.f2
  have hp : svP E F n + 1074 = ((unitN E F + (n / 2 ^ F - 1) : Nat) : Int) := by
    unfold svP
    have : (2 : Int) - 2 ^ (E - 1) = lowZ E := rfl
    generalize n / 2 ^ F = q at *
    split
    · rename_i h0; rw [h0]; omega
    · omega
  have := pos_near (svK F n) (svP E F n) (by omega) (by omega) (by omega)
  unfold svW SV svU
  rw [show (svP E F n + 1074).toNat = unitN E F + (n / 2 ^ F - 1) by omega] at this
  rw [Nat.mul_assoc, ← Nat.pow_add, Nat.add_comm (n / 2 ^ F - 1)]
  exact this

/-- Whether the upper one of two is taken. -/
def upB (E F l A : Nat) : Bool := decide (SV E F (l + 1) - A < A - SV E F l) || (decide (SV E F (l + 1) - A = A - SV E F l) && decide (l % 2 = 1))

/-- r is the small float nearest to A * 2^-1074. -/
def MiniSpec (E F A r : Nat) : Prop :=
  (SV E F (allN E F) ≤ A ∧ r = allN E F) ∨ ∃ l, l < allN E F ∧ SV E F l ≤ A ∧ A < SV E F (l + 1) ∧ r = l + (upB E F l A).toNat

theorem SV_mono (E F : Nat) {a b : Nat} (h : a ≤ b) : SV E F a ≤ SV E F b := Nat.mul_le_mul_right _ (svU_mono F h)

theorem miniSpec_unique {E F A r r' : Nat} (h : MiniSpec E F A r) (h' : MiniSpec E F A r') : r = r' := by
  rcases h with ⟨a, rfl⟩ | ⟨l, l1, l2, l3, rfl⟩ <;> rcases h' with ⟨b, rfl⟩ | ⟨k, k1, k2, k3, rfl⟩
  · rfl
  · have := SV_mono E F (show k + 1 ≤ allN E F by omega); omega
  · have := SV_mono E F (show l + 1 ≤ allN E F by omega); omega
  · have hl : ¬ l + 1 ≤ k := fun h => by have := SV_mono E F h; omega
    have hk : ¬ k + 1 ≤ l := fun h => by have := SV_mono E F h; omega
    have : l = k := by omega
    rw [this]

theorem miniSpec_le {E F A r : Nat} (h : MiniSpec E F A r) : r ≤ allN E F := by
  rcases h with ⟨_, rfl⟩ | ⟨l, l1, _, _, rfl⟩
  · exact Nat.le_refl _
  · have := Bool.toNat_le (upB E F l A); omega

/-- Digits t0 kept of kk, d digits dropped, at the binade t. -/
theorem spec_at (E F t d j kk : Nat) (h : Fmt E F) (hd : unitN E F + t = d + j) (h2 : kk / 2 ^ d < 2 * 2 ^ F) (h1 : t = 0 ∨ 2 ^ F ≤ kk / 2 ^ d) :
    MiniSpec E F (kk * 2 ^ j) (packN E F (Ieee.Toward.even.cut false kk d) (t : Int)).toNat := by
  obtain ⟨s1, s2⟩ := svU_at F t (kk / 2 ^ d) h2 h1
  have hB := two_pos F
  obtain ⟨l, hl⟩ : ∃ l, l = t * 2 ^ F + kk / 2 ^ d := ⟨_, rfl⟩
  rw [← hl] at s1 s2
  have e1 : SV E F l = (kk / 2 ^ d) * 2 ^ (d + j) := by
    unfold SV; rw [s1, Nat.mul_assoc, ← Nat.pow_add, Nat.add_comm t, hd]
  have e2 : SV E F (l + 1) = (kk / 2 ^ d + 1) * 2 ^ (d + j) := by
    unfold SV; rw [svU_step, s1, s2, ← Nat.succ_mul, Nat.mul_assoc, ← Nat.pow_add, Nat.add_comm t, hd]
  have dm := Nat.div_add_mod kk (2 ^ d)
  have ml := Nat.mod_lt kk (two_pos d)
  have f1 : kk * 2 ^ j = (kk / 2 ^ d) * 2 ^ (d + j) + (kk % 2 ^ d) * 2 ^ j := by
    rw [Nat.pow_add, ← Nat.mul_assoc, ← Nat.add_mul, Nat.mul_comm (kk / 2 ^ d)]; rw [dm]
  have f2 : (kk / 2 ^ d + 1) * 2 ^ (d + j) = (kk / 2 ^ d) * 2 ^ (d + j) + 2 ^ d * 2 ^ j := by
    rw [Nat.add_mul, Nat.one_mul, Nat.pow_add]
  have hm : (kk % 2 ^ d) * 2 ^ j < 2 ^ d * 2 ^ j := Nat.mul_lt_mul_of_pos_right ml (two_pos j)
  have g1 : SV E F l ≤ kk * 2 ^ j := by omega
  have g2 : kk * 2 ^ j < SV E F (l + 1) := by omega
  have hpar : l % 2 = kk / 2 ^ d % 2 := by
    obtain ⟨F', hF'⟩ : ∃ F', F = F' + 1 := ⟨F - 1, by have := h.f1; omega⟩
    rw [hl, hF', Nat.pow_succ, ← Nat.mul_assoc]; omega
  have hup : upB E F l (kk * 2 ^ j) = (decide (2 ^ d < 2 * (kk % 2 ^ d)) || (decide (2 ^ d = 2 * (kk % 2 ^ d)) && decide (kk / 2 ^ d % 2 = 1))) := by
    unfold upB
    rw [e1, e2, hpar]
    have d1 : (kk / 2 ^ d + 1) * 2 ^ (d + j) - kk * 2 ^ j = (2 ^ d - kk % 2 ^ d) * 2 ^ j := by rw [Nat.sub_mul]; omega
    have d2 : kk * 2 ^ j - kk / 2 ^ d * 2 ^ (d + j) = (kk % 2 ^ d) * 2 ^ j := by omega
    rw [d1, d2]
    have c1 : ((2 ^ d - kk % 2 ^ d) * 2 ^ j < (kk % 2 ^ d) * 2 ^ j) ↔ 2 ^ d < 2 * (kk % 2 ^ d) := by
      rw [Nat.mul_lt_mul_right (two_pos j)]; omega
    have c2 : ((2 ^ d - kk % 2 ^ d) * 2 ^ j = (kk % 2 ^ d) * 2 ^ j) ↔ 2 ^ d = 2 * (kk % 2 ^ d) := by
      rw [Nat.mul_left_inj (Nat.pos_iff_ne_zero.1 (two_pos j))]; omega
    rw [decide_eq_decide.2 c1, decide_eq_decide.2 c2]
  have hcut := cut_even false kk d
  rw [← hup] at hcut
  have hub := Bool.toNat_le (upB E F l (kk * 2 ^ j))
  have hP : ((t : Int) * 2 ^ F) = ((t * 2 ^ F : Nat) : Int) := by push_cast; rfl
  by_cases hal : l < allN E F
  · right
    refine ⟨l, hal, g1, g2, ?_⟩
    unfold packN
    rw [hcut, hP]
    omega
  · left
    refine ⟨Nat.le_trans (SV_mono E F (by omega)) g1, ?_⟩
    unfold packN
    rw [hcut, hP]
    omega

theorem pack_spec_low (E F j kk : Nat) (h : Fmt E F) (hx : Xw j kk) (hj : (j : Int) - 1022 < lowZ E) :
    MiniSpec E F (kk * 2 ^ j) (packN E F (Ieee.Toward.even.cut false kk (1074 - ((j : Int) + F - lowZ E).toNat)) 0).toNat := by
  obtain ⟨u1, u2, u3⟩ := unitN_cast h
  obtain ⟨l1, l2⟩ := lowZ_bd h
  have f1 := h.f1; have f2 := h.f2
  obtain ⟨d, hd⟩ : ∃ d, d = 1074 - ((j : Int) + F - lowZ E).toNat := ⟨_, rfl⟩
  rw [← hd]
  have hd2 : 53 ≤ d + F := by omega
  have hlt : kk / 2 ^ d < 2 * 2 ^ F := by
    rw [Nat.div_lt_iff_lt_mul (two_pos d)]
    have a : 2 ^ 53 ≤ 2 ^ (d + F) := Nat.pow_le_pow_right (by decide) hd2
    have b : 2 * 2 ^ F * 2 ^ d = 2 * 2 ^ (d + F) := by rw [Nat.mul_assoc, ← Nat.pow_add, Nat.add_comm F]
    have := hx.hi
    omega
  exact spec_at E F 0 d j kk h (by omega) hlt (Or.inl rfl)

theorem pack_spec_high (E F j kk : Nat) (h : Fmt E F) (hx : Xw j kk) (hj : lowZ E ≤ (j : Int) - 1021 - 1) :
    MiniSpec E F (kk * 2 ^ j) (packN E F (Ieee.Toward.even.cut false kk (1074 - ((F : Int) + 1022).toNat)) ((j : Int) - 1021 - 1 - lowZ E)).toNat := by
  obtain ⟨u1, u2, u3⟩ := unitN_cast h
  obtain ⟨l1, l2⟩ := lowZ_bd h
  have f1 := h.f1; have f2 := h.f2
  obtain ⟨d, hd⟩ : ∃ d, d = 1074 - ((F : Int) + 1022).toNat := ⟨_, rfl⟩
  rw [← hd]
  have hd2 : d + F = 52 := by omega
  obtain ⟨t, ht⟩ : ∃ t : Nat, (j : Int) - 1021 - 1 - lowZ E = t := ⟨((j : Int) - 1021 - 1 - lowZ E).toNat, by omega⟩
  rw [ht]
  have b : 2 ^ F * 2 ^ d = 4503599627370496 := by rw [← Nat.pow_add, Nat.add_comm F, hd2]
  have hlt : kk / 2 ^ d < 2 * 2 ^ F := by
    rw [Nat.div_lt_iff_lt_mul (two_pos d), Nat.mul_assoc, b]
    have := hx.hi
    omega
  have hge : 2 ^ F ≤ kk / 2 ^ d := by
    rw [Nat.le_div_iff_mul_le (two_pos d), b]
    exact hx.lo
  exact spec_at E F t d j kk h (by omega) hlt (Or.inr hge)
end Go.Proofs.Ytbenjfipbeikmaa
