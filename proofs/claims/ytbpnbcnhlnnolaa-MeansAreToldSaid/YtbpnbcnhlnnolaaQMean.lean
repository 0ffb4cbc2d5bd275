/-
  The mean of the levels of a square: the numbers.
-/
import Derived.Test.YtbpnbcnhlnnolaaQDbl
namespace Go.Proofs.Ytbpnbcnhlnnolaa
open Go.RowKit
open Ieee (Datum Format signed)

theorem od_read : ∀ t : Fin 64, FloatKind.f32.format.read (odC t.val) = .number (decide ((2 * (t.val : Int) - 63) < 0)) ((2 * (t.val : Int) - 63).natAbs * 2 ^ (23 - (2 * (t.val : Int) - 63).natAbs.log2)) (-7 - ((23 - (2 * (t.val : Int) - 63).natAbs.log2 : Nat) : Int)) := by decide +kernel
theorem od_fv {t : Nat} (h : t < 64) : Fv .f32 (odC t) (((2 * (t : Int) - 63 : Int) : Rat) * pw (-7)) := by
  have hr := od_read ⟨t, h⟩
  refine ⟨_, _, _, hr, ?_⟩
  dsimp only
  generalize 2 * (t : Int) - 63 = N
  rw [dv_shift, show -7 - ((23 - N.natAbs.log2 : Nat) : Int) + ((23 - N.natAbs.log2 : Nat) : Int) = -7 by omega, dv_signed N (-7) _ (Or.inr rfl)]

/-- Each level is near to y and its offset, for one y. -/
theorem kap {v : Nat} {a : Rat} {d : Int} (hv : Fv .f32 v a) (a0 : 0 ≤ a) (a1 : a ≤ 1) (h : 1 ≤ d ∧ d ≤ 16) :
    ∃ y : Rat, 16777216 * (y - a * (mx d : Rat)) ≤ (mx d : Rat) + 1 ∧ 16777216 * (a * (mx d : Rat) - y) ≤ (mx d : Rat) + 1 ∧ 
      ∀ t : Nat, t < 64 → (0 ≤ lvC v (odC t) d ∧ lvC v (odC t) d ≤ mx d) ∧ 100 * (64 * (lvC v (odC t) d : Rat)) ≤ 100 * (64 * y + (t : Rat)) + 82 ∧ 100 * (64 * y + (t : Rat)) ≤ 100 * (64 * (lvC v (odC t) d : Rat)) + 6382 := by
  have hb := mx_bound h
  have hy := ofInt_fv (n := mx d) (by omega)
  have hM : (1 : Rat) ≤ (mx d : Rat) := by
    have := Rat.intCast_le_intCast.2 (show (1 : Int) ≤ mx d by omega)
    simpa using this
  have hM2 : (mx d : Rat) ≤ 65535 := by
    have := Rat.intCast_le_intCast.2 (show mx d ≤ (65535 : Int) by omega)
    simpa using this
  have t126 : pw (-126) < 1 / 1000000 := by unfold pw; decide +kernel
  have p126 := pw_pos (-126)
  have p127 : (1000000 : Rat) < pw 127 := by unfold pw; decide +kernel
  have haM : a * (mx d : Rat) ≤ (mx d : Rat) := by
    have := Rat.mul_le_mul_of_nonneg_right a1 (show (0 : Rat) ≤ (mx d : Rat) by grind)
    grind
  have haM0 : 0 ≤ a * (mx d : Rat) := Rat.mul_nonneg a0 (by grind)
  obtain ⟨y, hz, hny⟩ := fmul hv hy (by grind) (by grind)
  obtain ⟨c1, c2⟩ := hny.1 (mx d : Rat) (by grind) (by grind)
  refine ⟨y, by grind, by grind, fun t ht => ?_⟩
  have ho := od_fv ht
  have e7 : pw (-7) = 1 / 128 := by unfold pw; decide +kernel
  rw [e7] at ho
  have ht0 : (0 : Rat) ≤ (t : Rat) := Rat.natCast_nonneg
  have ht1 : (t : Rat) ≤ 63 := by
    have : ((t : Nat) : Rat) ≤ ((63 : Nat) : Rat) := Rat.natCast_le_natCast.2 (by omega)
    simpa using this
  have eo : (((2 * (t : Int) - 63 : Int) : Rat) * (1 / 128)) = (2 * (t : Rat) - 63) / 128 := by
    rw [Rat.intCast_sub, Rat.intCast_mul, Rat.intCast_natCast]
    have : ((2 : Int) : Rat) = 2 := rfl
    have : ((63 : Int) : Rat) = 63 := rfl
    grind
  rw [eo] at ho
  generalize ho2 : (2 * (t : Rat) - 63) / 128 = o at ho
  have b1 : o ≤ 63 / 128 := by grind
  have b2 : -63 / 128 ≤ o := by grind
  obtain ⟨s, hs, hns⟩ := fadd hz ho (by grind) (by grind)
  obtain ⟨d1, d2⟩ := hns.1 65537 (by grind) (by grind)
  have e1 : cl v = v := hv.cn
  have e2 : cl (odC t) = odC t := ho.cn
  have hlz : lzC v (odC t) d = cop .add .f32 (cop .mul .f32 v (floatOfInt .f32 (mx d))) (odC t) := by
    unfold lzC
    rw [e1, e2]
  obtain ⟨k, k1, k2, hk⟩ := near_fv hs (mx d) (by omega) (by omega)
  have hl : lvC v (odC t) d = max 0 (min k (mx d)) := by
    unfold lvC
    rw [hlz, hk]
  have y0 : 0 ≤ y := hny.2.1 haM0
  have kg : -1 < k := by
    have : ((-1 : Int) : Rat) < (k : Rat) := by
      have e : ((-1 : Int) : Rat) = -1 := rfl
      rw [e]; grind
    exact Rat.intCast_lt_intCast.1 this
  by_cases hkM : k ≤ mx d
  · have hlk : lvC v (odC t) d = k := by rw [hl]; omega
    rw [hlk]
    refine ⟨by omega, ?_, ?_⟩ <;> grind
  · have hlk : lvC v (odC t) d = mx d := by rw [hl]; omega
    rw [hlk]
    have hkr : (mx d : Rat) + 1 ≤ (k : Rat) := by
      have e : ((mx d + 1 : Int) : Rat) = (mx d : Rat) + 1 := by rw [Rat.intCast_add]; rfl
      rw [← e]
      exact Rat.intCast_le_intCast.2 (by omega)
    refine ⟨by omega, ?_, ?_⟩ <;> grind

/-- A sum of the first n. -/
def sumZ (f : Nat → Int) : Nat → Int
  | 0 => 0
  | n + 1 => sumZ f n + f n

theorem sum_exact (f : Nat → Int) (A : Int) (h : ∀ t : Nat, t < 64 → A + t - 63 ≤ 64 * f t ∧ 64 * f t ≤ A + t) : sumZ f 64 = A := by
  have key : ∀ n : Nat, n ≤ 64 → sumZ f n - n * (A / 64) = max 0 (A % 64 + n - 64) := by
    intro n
    induction n with
    | zero => intro _; simp [sumZ]; omega
    | succ n ih =>
      intro hn
      have i := ih (by omega)
      have g := h n (by omega)
      have e : ((n + 1 : Nat) : Int) * (A / 64) = (n : Int) * (A / 64) + A / 64 := by rw [Int.natCast_add, Int.add_mul]; simp
      rw [e]
      simp only [sumZ]
      generalize (n : Int) * (A / 64) = Z at *
      have hA : A = 64 * (A / 64) + A % 64 := by omega
      have hr : 0 ≤ A % 64 ∧ A % 64 < 64 := by omega
      generalize A / 64 = a at *
      generalize A % 64 = r at *
      omega
  have := key 64 (by omega)
  omega

theorem sum_nearly (f : Nat → Int) (A : Int) (h : ∀ t : Nat, t < 64 → A + t - 64 ≤ 64 * f t ∧ 64 * f t ≤ A + t) : A - 1 ≤ sumZ f 64 ∧ sumZ f 64 ≤ A := by
  have key : ∀ n : Nat, n ≤ 64 → sumZ f n - n * (A / 64) ≤ max 0 (A % 64 + n - 64) ∧ max 0 (A % 64 + n - 65) - (if A % 64 = 0 ∧ 0 < n then 1 else 0) ≤ sumZ f n - n * (A / 64) := by
    intro n
    induction n with
    | zero => intro _; simp [sumZ]; omega
    | succ n ih =>
      intro hn
      have i := ih (by omega)
      have g := h n (by omega)
      have e : ((n + 1 : Nat) : Int) * (A / 64) = (n : Int) * (A / 64) + A / 64 := by rw [Int.natCast_add, Int.add_mul]; simp
      rw [e]
      simp only [sumZ]
      generalize (n : Int) * (A / 64) = Z at *
      have hA : A = 64 * (A / 64) + A % 64 := by omega
      have hr : 0 ≤ A % 64 ∧ A % 64 < 64 := by omega
      generalize A / 64 = a at *
      generalize A % 64 = r at *
      split at i <;> split <;> omega
  have := key 64 (by omega)
  split at this <;> omega

/-- The sum of the levels of a square, by its offsets. -/
theorem sum_kap {v : Nat} {a : Rat} {d : Int} (hv : Fv .f32 v a) (a0 : 0 ≤ a) (a1 : a ≤ 1) (h : 1 ≤ d ∧ d ≤ 16) :
    200000 * ((sumZ (fun t => lvC v (odC t) d) 64 : Int) : Rat) ≤ 12800000 * (a * (mx d : Rat)) + 170000 + (mx d : Rat) ∧ 12800000 * (a * (mx d : Rat)) ≤ 200000 * ((sumZ (fun t => lvC v (odC t) d) 64 : Int) : Rat) + 170000 + (mx d : Rat) := by
  obtain ⟨y, y1, y2, hk⟩ := kap hv a0 a1 h
  have hb := mx_bound h
  have hM2 : (mx d : Rat) ≤ 65535 := by
    have := Rat.intCast_le_intCast.2 (show mx d ≤ (65535 : Int) by omega)
    simpa using this
  have hM : (1 : Rat) ≤ (mx d : Rat) := by
    have := Rat.intCast_le_intCast.2 (show (1 : Int) ≤ mx d by omega)
    simpa using this
  obtain ⟨A, hA⟩ : ∃ A : Int, A = (64 * y + 82 / 100).floor := ⟨_, rfl⟩
  have f1 : (A : Rat) ≤ 64 * y + 82 / 100 := by rw [hA]; exact Rat.floor_le _
  have f2 : 64 * y + 82 / 100 < (A : Rat) + 1 := by
    have := (Rat.floor_lt_iff (a := 64 * y + 82 / 100) (x := A + 1)).1 (by omega)
    rw [Rat.intCast_add] at this
    exact this
  have up : ∀ t : Nat, t < 64 → 64 * lvC v (odC t) d ≤ A + t := fun t ht => by
    have := (hk t ht).2.1
    have : ((64 * lvC v (odC t) d : Int) : Rat) < ((A + t + 1 : Int) : Rat) := by
      rw [Rat.intCast_mul, Rat.intCast_add, Rat.intCast_add, Rat.intCast_natCast]
      have e1 : ((64 : Int) : Rat) = 64 := rfl
      have e2 : ((1 : Int) : Rat) = 1 := rfl
      grind
    have := Rat.intCast_lt_intCast.1 this
    omega
  by_cases hc : (A : Rat) < 64 * y + 18 / 100
  · have lo : ∀ t : Nat, t < 64 → A + t - 63 ≤ 64 * lvC v (odC t) d := fun t ht => by
      have := (hk t ht).2.2
      have : ((A + t - 64 : Int) : Rat) < ((64 * lvC v (odC t) d : Int) : Rat) := by
        rw [Rat.intCast_mul, Rat.intCast_sub, Rat.intCast_add, Rat.intCast_natCast]
        have e1 : ((64 : Int) : Rat) = 64 := rfl
        grind
      have := Rat.intCast_lt_intCast.1 this
      omega
    rw [sum_exact _ A fun t ht => ⟨lo t ht, up t ht⟩]
    constructor <;> grind
  · have lo : ∀ t : Nat, t < 64 → A + t - 64 ≤ 64 * lvC v (odC t) d := fun t ht => by
      have := (hk t ht).2.2
      have : ((A + t - 65 : Int) : Rat) < ((64 * lvC v (odC t) d : Int) : Rat) := by
        rw [Rat.intCast_mul, Rat.intCast_sub, Rat.intCast_add, Rat.intCast_natCast]
        have e1 : ((64 : Int) : Rat) = 64 := rfl
        have e2 : ((65 : Int) : Rat) = 65 := rfl
        grind
      have := Rat.intCast_lt_intCast.1 this
      omega
    obtain ⟨s1, s2⟩ := sum_nearly _ A fun t ht => ⟨lo t ht, up t ht⟩
    generalize sumZ (fun t => lvC v (odC t) d) 64 = S at *
    have s1' : ((A - 1 : Int) : Rat) ≤ (S : Rat) := Rat.intCast_le_intCast.2 s1
    have s2' : (S : Rat) ≤ (A : Rat) := Rat.intCast_le_intCast.2 s2
    rw [Rat.intCast_sub] at s1'
    have e2 : ((1 : Int) : Rat) = 1 := rfl
    constructor <;> grind

/-- The place of a pixel of a square in the order. -/
def tk (a b j : Nat) : Nat := (oC ((a + j % 8) % 8) ((b + j / 8) % 8) 3).toNat
theorem tk_perm : ∀ a b : Fin 8, ((List.range 64).map (tk a.val b.val)).isPerm (List.range 64) = true := by decide +kernel
theorem perm_sum {l l' : List Int} (h : l.Perm l') : l.sum = l'.sum := by
  induction h with
  | nil => rfl
  | cons x _ ih => simp [ih]
  | swap x y l => simp; omega
  | trans _ _ ih1 ih2 => rw [ih1, ih2]
theorem sumZ_list (f : Nat → Int) : ∀ n, sumZ f n = ((List.range n).map f).sum
  | 0 => rfl
  | n + 1 => by rw [List.range_succ, List.map_append, List.sum_append, ← sumZ_list f n]; simp [sumZ]
theorem sum_tk (f : Nat → Int) {a b : Nat} (ha : a < 8) (hb : b < 8) : sumZ (fun j => f (tk a b j)) 64 = sumZ f 64 := by
  rw [sumZ_list, sumZ_list]
  have h : ((List.range 64).map (tk a b)).Perm (List.range 64) := List.isPerm_iff.1 (tk_perm ⟨a, ha⟩ ⟨b, hb⟩)
  have h2 := perm_sum (h.map f)
  rw [List.map_map] at h2
  exact h2
theorem tk_ord {x y : Int} {j : Nat} : (ordC (x + ((j % 8 : Nat) : Int)) (y + ((j / 8 : Nat) : Int))).toNat = tk (ob x) (ob y) j := by
  unfold ordC tk
  congr 2
  · unfold ob; omega
  · unfold ob; omega
end Go.Proofs.Ytbpnbcnhlnnolaa
