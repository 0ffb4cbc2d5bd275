/-
  Square roots of singles, by way of doubles.
-/
import Derived.Test.YtfeabmdioeelhaaYCov
namespace Go.Proofs.Ytfeabmdioeelhaa
open Go.RowKit Go.Shelf
open Ieee (Datum Format signed)
attribute [local go_sem] run_store_float

theorem rootFrom_lt (n : Nat) : ∀ todo root, Datum.rootFrom n todo root < root + 2 ^ todo
  | 0, root => by simp [Datum.rootFrom]
  | todo + 1, root => by
    unfold Datum.rootFrom
    dsimp only
    have h1 := rootFrom_lt n todo (root + 1 <<< todo)
    have h2 := rootFrom_lt n todo root
    have e : 2 ^ (todo + 1) = 2 * 2 ^ todo := by rw [Nat.pow_succ']
    rw [Nat.one_shiftLeft] at h1 ⊢
    split <;> omega

theorem narrow_nan (b : Nat) (h : isN .f64 b = true) (w : World) : isN .f32 (fcv .f64 b .f32 w) = true := by
  have hn : floatToFloatBits .f64 b .f32 = none := by
    unfold floatToFloatBits
    rw [if_neg (by decide)]
    obtain ⟨s, t, e⟩ := read_nan (f := FloatKind.f64.format) h
    have e' : FloatKind.f64.decode b = .nan s t := e
    simp only [e']
  unfold fcv
  rw [hn, if_pos h]
  simp only [Option.getD_none]
  exact nanConvCut_isN .f32 b _

/-- Doubles below 2^66 are written as singles that are numbers. -/
theorem narrow_some {s : Bool} {M : Nat} {P : Int} (h : (M : Rat) * pw P < pw 66) : (floatToFloatBits .f64 (FloatKind.f64.format.nearest s M P) .f32).isSome = true := by
  have key : ∃ k e, FloatKind.f64.format.read (FloatKind.f64.format.nearest s M P) = .number s k e ∧ (k : Rat) * pw e < pw 127 := by
    by_cases h0 : M = 0
    · subst h0
      have e : FloatKind.f64.format.nearest s 0 P = FloatKind.f64.format.word s 0 := by simp [Format.nearest]
      refine ⟨0, _, by rw [e, read_zero _ _ (by decide)], ?_⟩
      have := pw_pos 127
      simpa using this
    · have hl := log2_bound h0 h
      have hfb : FloatKind.f64.format.fractionBits = 52 := rfl
      have hlp : FloatKind.f64.format.leastPlace = -1074 := rfl
      have heb : (2 : Int) ^ FloatKind.f64.format.exponentBits = 2048 := rfl
      obtain ⟨last, hlast⟩ : ∃ last, last = max (P + (M.log2 : Int) - (FloatKind.f64.format.fractionBits : Int)) FloatKind.f64.format.leastPlace := ⟨_, rfl⟩
      obtain ⟨k, e, hread, h1, h2, h3⟩ := near_gen FloatKind.f64.format s M P last h0 hlast (by rw [heb, hfb, hlp]; omega) (by rw [heb]; decide)
      refine ⟨k, e, hread, ?_⟩
      rw [hfb, hlp] at hlast
      have hp : pw last ≤ pw 66 := pw_le (by omega)
      have h66 : pw 127 = 2305843009213693952 * pw 66 := by
        have : pw 127 = pw 61 * pw 66 := by rw [← pw_add]; rfl
        rw [this]
        have : pw 61 = 2305843009213693952 := by unfold pw; decide +kernel
        rw [this]
      have hz := pw_pos 66
      grind
  obtain ⟨k, e, hr, hlt⟩ := key
  obtain ⟨k', e', hr', _⟩ := near32 s k e hlt
  unfold floatToFloatBits
  rw [if_neg (by decide)]
  have hd : FloatKind.f64.decode (FloatKind.f64.format.nearest s M P) = .number s k e := hr
  rw [hd]
  have hi : (FloatKind.f32.decode (FloatKind.f32.encode (.number s k e))).isInfinity = false := by
    have : FloatKind.f32.decode (FloatKind.f32.encode (.number s k e)) = .number s k' e' := hr'
    rw [this]; rfl
  simp only
  rw [if_neg (by rw [hi]; simp)]
  rfl

/-- The root of a single that is none of the open ones: it is written as a single. -/
theorem sqrt_some {v R : Nat} (hv : isN .f32 v = false) (h : FloatKind.f64.format.sqrt (wid v) = some R) : (floatToFloatBits .f64 R .f32).isSome = true := by
  unfold Format.sqrt at h
  cases hr : FloatKind.f32.format.read v with
  | nan s t => unfold isN at hv; rw [hr] at hv; cases hv
  | infinity s =>
    have e : FloatKind.f64.format.read (wid v) = .infinity s := by
      have e1 : wid v = FloatKind.f64.encode (.infinity s) := by
        unfold wid
        have : FloatKind.f32.decode v = .infinity s := hr
        rw [this]
      rw [e1]
      cases s <;> decide +kernel
    rw [e] at h
    cases s
    · have h2 : some (FloatKind.f64.format.write (.infinity false)) = some R := h
      cases h2
      decide +kernel
    · have h2 : (none : Option Nat) = some R := h
      cases h2
  | number s m p =>
    obtain ⟨hm, hp1, hp2⟩ := read32_num hr
    obtain ⟨q, p', hw, hpp⟩ := wid_num hr
    rw [hw] at h
    unfold Datum.root at h
    dsimp only at h
    by_cases h0 : m * 2 ^ q = 0
    · rw [if_pos h0] at h
      have h2 : FloatKind.f64.format.nearest s (m * 2 ^ q) (p' - q) = R := by simpa [Format.write] using h
      rw [← h2]
      refine narrow_some ?_
      rw [h0]
      have := pw_pos 66
      simpa using this
    · rw [if_neg h0] at h
      have hm0 : m ≠ 0 := fun e => h0 (by rw [e]; simp)
      obtain rfl := hpp hm0
      cases s
      · simp only [Bool.false_eq_true, if_false] at h
        have hlog : (m * 2 ^ q).log2 = m.log2 + q := log2_shift m q hm0
        have hml := log2_le_of_lt (m := m) (k := 23) (by omega)
        rw [hlog] at h
        generalize hmore : 2 * (FloatKind.f64.format.fractionBits + 2) - (m.log2 + q) + ((p' - (q : Int) - ((2 * (FloatKind.f64.format.fractionBits + 2) - (m.log2 + q) : Nat) : Int)) % 2).toNat = more at h
        obtain ⟨n, hn⟩ : ∃ n, n = (m * 2 ^ q) <<< more := ⟨_, rfl⟩
        rw [← hn] at h
        have hnl : n.log2 = m.log2 + q + more := by rw [hn, Nat.shiftLeft_eq, log2_shift _ _ h0, hlog]
        have hwl := rootFrom_lt n (n.log2 / 2 + 1) 0
        obtain ⟨W, hW⟩ : ∃ W, W = Datum.rootFrom n (n.log2 / 2 + 1) 0 := ⟨_, rfl⟩
        rw [← hW] at h hwl
        have h2 : FloatKind.f64.format.nearest false (2 * W + (W * W != n).toNat) ((p' - (q : Int) - (more : Int)) / 2 - 1) = R := by simpa [Format.write] using h
        rw [← h2]
        refine narrow_some ?_
        have hb := Bool.toNat_le (W * W != n)
        have hlt : 2 * W + (W * W != n).toNat < 2 ^ (n.log2 / 2 + 2) := by
          have e : 2 ^ (n.log2 / 2 + 2) = 2 * 2 ^ (n.log2 / 2 + 1) := by rw [Nat.pow_succ']
          omega
        generalize 2 * W + (W * W != n).toNat = M at *
        have h3 : (M : Rat) < ((2 ^ (n.log2 / 2 + 2) : Nat) : Rat) := Rat.natCast_lt_natCast.2 hlt
        have h4 := Rat.mul_lt_mul_of_pos_right h3 (pw_pos ((p' - (q : Int) - (more : Int)) / 2 - 1))
        rw [← pw_nat, ← pw_add] at h4
        have h5 : pw (((n.log2 / 2 + 2 : Nat) : Int) + ((p' - (q : Int) - (more : Int)) / 2 - 1)) ≤ pw 66 := pw_le (by rw [hnl]; omega)
        grind
      · simp at h
end Go.Proofs.Ytfeabmdioeelhaa
