/-
  Values of floats as rational numbers: what is written is within half a unit of what it stands for.
-/
import Derived.Test.YthoiiccecneefaaVal
namespace Go.Proofs.Ythoiiccecneefaa
open Ieee (Datum Format signed)

/-- What is read of the word that is nearest to a number: the digits kept, at their place (a carry moves the place). -/
theorem nearest_read (f : Format) (neg : Bool) (m : Nat) (p : Int) (h0 : m ≠ 0) (last : Int) (kept : Nat) (hlast : last = max (p + (m.log2 : Int) - (f.fractionBits : Int)) f.leastPlace)
    (hkept : kept = Ieee.Toward.even.cut neg (m <<< (p - last).toNat) (last - p).toNat) (hk : kept ≤ 2 * f.binade) (hkl : last = f.leastPlace ∨ f.binade ≤ kept)
    (hfin : (last - f.leastPlace).toNat * f.binade + kept < f.infRung) :
    ∃ k : Nat, ∃ c : Nat, f.read (f.nearest neg m p) = .number neg k (last + c) ∧ k * 2 ^ c = kept := by
  have hB : 0 < f.binade := two_pos _
  have hw : f.nearest neg m p = f.word neg ((last - f.leastPlace).toNat * f.binade + kept) := by
    unfold Format.nearest
    rw [if_neg h0]
    dsimp only
    rw [← hlast, ← hkept, Nat.min_eq_left (by omega)]
  have hge : f.leastPlace ≤ last := by rw [hlast]; omega
  by_cases hc : kept = 2 * f.binade
  · have e : (last - f.leastPlace).toNat * f.binade + kept = ((last - f.leastPlace).toNat + 1) * f.binade + f.binade := by rw [hc, Nat.add_mul]; omega
    rw [e] at hw hfin
    refine ⟨f.binade, 1, ?_, by omega⟩
    rw [hw, read_word f neg _ _ (by omega) (Or.inr (Nat.le_refl _)) hfin]
    congr 1; omega
  · refine ⟨kept, 0, ?_, by omega⟩
    rw [hw, read_word f neg _ _ (by omega) (by rcases hkl with h | h; · left; omega
                                               · right; exact h) hfin]
    congr 1; omega

/-- The nearest whole number of n / 2 ^ d, between two the even one. -/
theorem cut_even (neg : Bool) (n d : Nat) : Ieee.Toward.even.cut neg n d = n / 2 ^ d + (decide (2 ^ d < 2 * (n % 2 ^ d)) || (decide (2 ^ d = 2 * (n % 2 ^ d)) && decide (n / 2 ^ d % 2 = 1))).toNat := by
  unfold Ieee.Toward.cut
  simp only [Nat.one_shiftLeft]
  have conv : ∀ D : Nat, n / D + (decide (D < 2 * (n % D)) || D == 2 * (n % D) && n / D % 2 == 1).toNat = n / D + (decide (D < 2 * (n % D)) || (decide (D = 2 * (n % D)) && decide (n / D % 2 = 1))).toNat := by
    intro D
    have e : (decide (D < 2 * (n % D)) || D == 2 * (n % D) && n / D % 2 == 1) = (decide (D < 2 * (n % D)) || (decide (D = 2 * (n % D)) && decide (n / D % 2 = 1))) := by rw [Bool.eq_iff_iff]; simp
    rw [e]
  by_cases h : d ≤ n.log2 + 2
  · rw [Nat.min_eq_left h]; exact conv _
  · have hn : n < 2 ^ (n.log2 + 1) := Nat.lt_log2_self
    have h1 : 2 ^ (n.log2 + 2) = 2 * 2 ^ (n.log2 + 1) := by rw [Nat.pow_succ', ]
    have h2 : 2 ^ (n.log2 + 2) ≤ 2 ^ d := Nat.pow_le_pow_right (by decide) (by omega)
    rw [Nat.min_eq_right (by omega)]
    rw [conv]
    rw [Nat.div_eq_of_lt (a := n) (b := 2 ^ (n.log2 + 2)) (by omega), Nat.div_eq_of_lt (a := n) (b := 2 ^ d) (by omega), Nat.mod_eq_of_lt (a := n) (b := 2 ^ (n.log2 + 2)) (by omega), Nat.mod_eq_of_lt (a := n) (b := 2 ^ d) (by omega)]
    rw [decide_eq_false (p := 2 ^ (n.log2 + 2) < 2 * n) (by omega), decide_eq_false (p := 2 ^ d < 2 * n) (by omega), decide_eq_false (p := 2 ^ (n.log2 + 2) = 2 * n) (by omega), decide_eq_false (p := 2 ^ d = 2 * n) (by omega)]


/-- Powers of two. -/
def pw (e : Int) : Rat := (2 : Rat) ^ e
theorem pw_pos (e : Int) : 0 < pw e := Rat.zpow_pos (by decide)
theorem pw_add (a b : Int) : pw (a + b) = pw a * pw b := Rat.zpow_add (by decide) a b
theorem pw_nat (n : Nat) : pw (n : Int) = ((2 ^ n : Nat) : Rat) := by
  unfold pw; rw [Rat.zpow_natCast, Rat.natCast_pow]; rfl
theorem pw_zero : pw 0 = 1 := Rat.zpow_zero _
theorem pw_le {a b : Int} (h : a ≤ b) : pw a ≤ pw b := by
  obtain ⟨n, rfl⟩ : ∃ n : Nat, b = a + n := ⟨(b - a).toNat, by omega⟩
  rw [pw_add, pw_nat]
  have h1 : (1 : Rat) ≤ ((2 ^ n : Nat) : Rat) := by
    have : ((1 : Nat) : Rat) ≤ ((2 ^ n : Nat) : Rat) := Rat.natCast_le_natCast.2 (two_pos n)
    simpa using this
  have := Rat.mul_le_mul_of_nonneg_left h1 (Rat.le_of_lt (pw_pos a))
  rwa [Rat.mul_one] at this
theorem lt_of_pw {a b : Int} (h : pw a < pw b) : a < b := by
  rcases Int.lt_or_le a b with h1 | h1
  · exact h1
  · exact absurd h (Rat.not_lt.2 (pw_le h1))
theorem pw_shift (m : Nat) (p : Int) (d : Nat) : ((m * 2 ^ d : Nat) : Rat) * pw p = (m : Rat) * pw (p + d) := by
  rw [pw_add, pw_nat, Rat.natCast_mul]
  grind

/-- The value of a number's datum. -/
def dv (s : Bool) (m : Nat) (p : Int) : Rat := if s = true then -((m : Rat) * pw p) else (m : Rat) * pw p
theorem dv_zero (s : Bool) (p : Int) : dv s 0 p = 0 := by unfold dv; cases s <;> simp
theorem mag_nonneg (m : Nat) (p : Int) : 0 ≤ (m : Rat) * pw p := Rat.mul_nonneg Rat.natCast_nonneg (Rat.le_of_lt (pw_pos p))

theorem cut_near (neg : Bool) (n d : Nat) : 2 * (Ieee.Toward.even.cut neg n d * 2 ^ d) ≤ 2 * n + 2 ^ d ∧ 2 * n ≤ 2 * (Ieee.Toward.even.cut neg n d * 2 ^ d) + 2 ^ d := by
  rw [cut_even]
  have e := Nat.div_add_mod n (2 ^ d)
  have l := Nat.mod_lt n (two_pos d)
  generalize 2 ^ d = D at *
  generalize n % D = R at *
  generalize n / D = Q at *
  rw [Nat.add_mul, Nat.mul_comm Q D]
  generalize D * Q = S at *
  by_cases h1 : D < 2 * R
  · rw [decide_eq_true h1]; simp; omega
  · by_cases h2 : D = 2 * R ∧ Q % 2 = 1
    · obtain ⟨h2, h3⟩ := h2
      rw [decide_eq_true h2, decide_eq_true h3]; simp; omega
    · have hb : (decide (D < 2 * R) || (decide (D = 2 * R) && decide (Q % 2 = 1))) = false := by
        rw [decide_eq_false h1, Bool.false_or, Bool.and_eq_false_iff]
        by_cases h3 : D = 2 * R
        · right; exact decide_eq_false fun h4 => h2 ⟨h3, h4⟩
        · left; exact decide_eq_false h3
      rw [hb]; simp; omega

theorem near_gen (f : Format) (neg : Bool) (m : Nat) (p last : Int) (h0 : m ≠ 0) (hlast : last = max (p + (m.log2 : Int) - (f.fractionBits : Int)) f.leastPlace)
    (hi : p + m.log2 + 4 ≤ 2 ^ f.exponentBits + f.fractionBits + f.leastPlace) (h4 : (4 : Int) ≤ 2 ^ f.exponentBits) :
    ∃ (k : Nat) (e : Int), f.read (f.nearest neg m p) = .number neg k e ∧ 2 * ((k : Rat) * pw e) ≤ 2 * ((m : Rat) * pw p) + pw last ∧ 2 * ((m : Rat) * pw p) ≤ 2 * ((k : Rat) * pw e) + pw last ∧
      (last ≤ p → (k : Rat) * pw e = (m : Rat) * pw p) := by
  obtain ⟨n, hn⟩ : ∃ n, n = m <<< (p - last).toNat := ⟨_, rfl⟩
  obtain ⟨d, hd⟩ : ∃ d, d = (last - p).toNat := ⟨_, rfl⟩
  obtain ⟨kept, hkept⟩ : ∃ kept, kept = Ieee.Toward.even.cut neg n d := ⟨_, rfl⟩
  have hB : f.binade = 2 ^ f.fractionBits := rfl
  have hmlo : 2 ^ m.log2 ≤ m := Nat.log2_self_le h0
  have hmhi : m < 2 ^ (m.log2 + 1) := Nat.lt_log2_self
  have hge : f.leastPlace ≤ last := by omega
  have hn2 : n = m * 2 ^ (p - last).toNat := by rw [hn, Nat.shiftLeft_eq]
  have hlt : n < 2 ^ (f.fractionBits + 1 + d) := by
    rw [hn2]
    refine Nat.lt_of_lt_of_le (Nat.mul_lt_mul_of_pos_right hmhi (two_pos _)) ?_
    rw [← Nat.pow_add]
    exact Nat.pow_le_pow_right (by decide) (by omega)
  have hlo : last = f.leastPlace ∨ 2 ^ (f.fractionBits + d) ≤ n := by
    by_cases h : last = f.leastPlace
    · exact Or.inl h
    · right
      rw [hn2]
      refine Nat.le_trans ?_ (Nat.mul_le_mul_right _ hmlo)
      rw [← Nat.pow_add]
      exact Nat.pow_le_pow_right (by decide) (by omega)
  have hc := cut_near neg n d
  have hce := cut_even neg n d
  rw [← hkept] at hc hce
  have hq : n / 2 ^ d < 2 ^ (f.fractionBits + 1) := by
    rw [Nat.div_lt_iff_lt_mul (two_pos d), ← Nat.pow_add]; exact hlt
  have hb := Bool.toNat_le (decide (2 ^ d < 2 * (n % 2 ^ d)) || (decide (2 ^ d = 2 * (n % 2 ^ d)) && decide (n / 2 ^ d % 2 = 1)))
  have hk : kept ≤ 2 * f.binade := by rw [hB, ← Nat.pow_succ']; omega
  have hkl : last = f.leastPlace ∨ f.binade ≤ kept := by
    rcases hlo with h | h
    · exact Or.inl h
    · right
      have : 2 ^ f.fractionBits ≤ n / 2 ^ d := by rw [Nat.le_div_iff_mul_le (two_pos d), ← Nat.pow_add]; exact h
      rw [hB]; omega
  have hfin : (last - f.leastPlace).toNat * f.binade + kept < f.infRung := by
    obtain ⟨j, hj⟩ : ∃ j : Nat, j = (last - f.leastPlace).toNat := ⟨_, rfl⟩
    have hj2 : j + 4 ≤ 2 ^ f.exponentBits := by
      have : ((2 : Int) ^ f.exponentBits) = ((2 ^ f.exponentBits : Nat) : Int) := by push_cast; rfl
      rw [this] at hi h4
      generalize 2 ^ f.exponentBits = X at *
      omega
    have hI : f.infRung = (2 ^ f.exponentBits - 1) * f.binade := rfl
    rw [← hj, hI]
    have h1 : j * f.binade + 2 * f.binade = (j + 2) * f.binade := by rw [Nat.add_mul]
    have h2 : (j + 3) * f.binade ≤ (2 ^ f.exponentBits - 1) * f.binade := Nat.mul_le_mul_right _ (by omega)
    have h3 : (j + 3) * f.binade = (j + 2) * f.binade + f.binade := by rw [Nat.add_mul (j + 2) 1]; omega
    have h5 : 0 < f.binade := two_pos _
    omega
  obtain ⟨k, c, hread, hkc⟩ := nearest_read f neg m p h0 last kept hlast (by rw [hkept, hn, hd]) hk hkl hfin
  have hval : (k : Rat) * pw (last + c) = (kept : Rat) * pw last := by rw [← hkc, pw_shift]
  refine ⟨k, last + c, hread, ?_⟩
  rw [hval]
  by_cases hlp : last ≤ p
  · have hd0 : d = 0 := by omega
    have hkn : kept = n := by rw [hkept, hd0]; exact cut_zero ..
    have e : (kept : Rat) * pw last = (m : Rat) * pw p := by
      rw [hkn, hn2, pw_shift]; congr 2; omega
    rw [e]
    have := pw_pos last
    refine ⟨by grind, by grind, fun _ => rfl⟩
  · have hp0 : (p - last).toNat = 0 := by omega
    have hnm : n = m := by rw [hn2, hp0]; simp
    have hl : last = p + d := by omega
    have e : (kept : Rat) * pw last = ((kept * 2 ^ d : Nat) : Rat) * pw p := by rw [pw_shift, hl]
    have e2 : pw last = ((2 ^ d : Nat) : Rat) * pw p := by rw [hl, pw_add, pw_nat]; grind
    obtain ⟨c1, c2⟩ := hc
    rw [hnm] at c1 c2
    have c1' : ((2 * (kept * 2 ^ d) : Nat) : Rat) ≤ ((2 * m + 2 ^ d : Nat) : Rat) := Rat.natCast_le_natCast.2 c1
    have c2' : ((2 * m : Nat) : Rat) ≤ ((2 * (kept * 2 ^ d) + 2 ^ d : Nat) : Rat) := Rat.natCast_le_natCast.2 c2
    have d1 := Rat.mul_le_mul_of_nonneg_right c1' (Rat.le_of_lt (pw_pos p))
    have d2 := Rat.mul_le_mul_of_nonneg_right c2' (Rat.le_of_lt (pw_pos p))
    rw [e, e2]
    simp only [Rat.natCast_mul 2, Rat.natCast_add, Rat.natCast_ofNat] at d1 d2
    generalize ((kept * 2 ^ d : Nat) : Rat) = K at *
    generalize ((2 ^ d : Nat) : Rat) = D at *
    refine ⟨by grind, by grind, fun h => absurd h hlp⟩
end Go.Proofs.Ythoiiccecneefaa
