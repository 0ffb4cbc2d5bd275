/-
  The law on the bits, the kinds and the NaN of singles.
-/
import Derived.Test.YtbenjfipbeikmaaOrd
import Derived.Test.YtbenjfipbeikmaaVal
namespace Go.Proofs.Ytbenjfipbeikmaa
open Go.RowKit
open Ieee (Datum)

theorem wid_lt (b : Nat) : wid b < 18446744073709551616 := Ieee.Format.write_lt Ieee.double _

theorem absB_read (b : Nat) : FloatKind.f64.format.read (absB (wid b)) = Datum.abs (FloatKind.f64.format.read (wid b)) := by
  unfold absB
  rw [andNot_top _ (wid_lt b)]
  exact read_abs Ieee.double (wid b)

theorem signed_pos (m u : Nat) : Ieee.signed false m u = ((m * 2 ^ u : Nat) : Int) := by
  unfold Ieee.signed; rw [Nat.shiftLeft_eq]; simp

theorem cmp_nat (a b : Nat) : compare (a : Int) (b : Int) = compare a b := by
  rcases Nat.lt_trichotomy a b with h | h | h
  · rw [Nat.compare_eq_lt.2 h, Int.compare_eq_lt.2 (by omega)]
  · rw [h]; simp
  · rw [Nat.compare_eq_gt.2 h, Int.compare_eq_gt.2 (by omega)]

theorem order_pos (m n : Nat) (i j b : Int) (hi : b ≤ i) (hj : b ≤ j) :
    (Datum.number false m i).order (Datum.number false n j) = some (compare (m * 2 ^ (i - b).toNat) (n * 2 ^ (j - b).toNat)) := by
  rw [order_base false false m n i j b hi hj, signed_pos, signed_pos, cmp_nat]

/-- How the double of a single, without its sign, stands to 0, to 2^-126, to the greatest single: by the single's rung. -/
theorem kind_facts (b : Nat) (h : isN .f32 b = false) :
    (FloatKind.f64.format.order (absB (wid b)) 0 == some .eq) = decide (b % 2147483648 = 0) ∧
    (FloatKind.f64.format.order (absB (wid b)) 4039728865751334912 == some .lt) = decide (b % 2147483648 < 8388608) ∧
    (FloatKind.f64.format.order (absB (wid b)) 5183643170566569984 == some .gt) = decide (b % 2147483648 = 2139095040) := by
  have c0 : FloatKind.f64.format.read 0 = .number false 0 (-1074) := by decide +kernel
  have c1 : FloatKind.f64.format.read 4039728865751334912 = .number false (8388608 * 2 ^ 29) (-149 - (29 : Nat)) := by decide +kernel
  have c2 : FloatKind.f64.format.read 5183643170566569984 = .number false (16777215 * 2 ^ 29) (104 - (29 : Nat)) := by decide +kernel
  unfold Ieee.Format.order
  rw [absB_read, c0, c1, c2]
  have hw : FloatKind.f64.format.read (wid b) = FloatKind.f64.format.read (FloatKind.f64.encode (FloatKind.f32.format.read b)) := rfl
  have hr : FloatKind.f32.format.read b = (if b % 2147483648 < 8388608 then .number (b / 2147483648 % 2 == 1) (b % 2147483648) (-149)
    else if b % 2147483648 < 2139095040 then .number (b / 2147483648 % 2 == 1) (8388608 + b % 2147483648 % 8388608) (-149 + (b % 2147483648 / 8388608 - 1 : Nat))
    else if b % 2147483648 = 2139095040 then .infinity (b / 2147483648 % 2 == 1) else .nan (b / 2147483648 % 2 == 1) (b % 2147483648 - 2139095040)) := rfl
  have hn : ∀ s m p, FloatKind.f32.format.read b = .number s m p → (m ≠ 0 → -149 ≤ p ∧ p ≤ 104) → m < 16777216 →
      ((Datum.abs (FloatKind.f64.format.read (wid b))).order (.number false 0 (-1074)) == some .eq) = decide (m = 0) ∧
      ((Datum.abs (FloatKind.f64.format.read (wid b))).order (.number false (8388608 * 2 ^ 29) (-149 - (29 : Nat))) == some .lt) = decide (m * 2 ^ (p + 149).toNat < 8388608) ∧
      ((Datum.abs (FloatKind.f64.format.read (wid b))).order (.number false (16777215 * 2 ^ 29) (104 - (29 : Nat))) == some .gt) = false := by
    intro s m p hsm hp hm
    obtain ⟨q, p', hq, hpp⟩ := wid_num hsm
    rw [hq]
    simp only [Datum.abs, order_scale_l, order_scale_r]
    by_cases h0 : m = 0
    · subst h0
      rw [order_pos 0 0 p' (-1074) (min p' (-1074)) (by omega) (by omega), order_pos 0 8388608 p' (-149) (min p' (-149)) (by omega) (by omega), order_pos 0 16777215 p' 104 (min p' 104) (by omega) (by omega)]
      have t1 : 0 < 8388608 * 2 ^ (-149 - min p' (-149)).toNat := Nat.mul_pos (by decide) (two_pos _)
      have t2 : 0 < 16777215 * 2 ^ (104 - min p' 104).toNat := Nat.mul_pos (by decide) (two_pos _)
      simp only [Nat.zero_mul, Nat.compare_eq_lt.2 t1, Nat.compare_eq_lt.2 t2]
      decide
    · obtain ⟨hp1, hp2⟩ := hp h0
      obtain rfl := hpp h0
      rw [order_pos m 0 p' (-1074) (-1074) (by omega) (by omega), order_pos m 8388608 p' (-149) (-149) (by omega) (by omega), order_pos m 16777215 p' 104 p' (by omega) (by omega)]
      have t1 : 0 < m * 2 ^ (p' - -1074).toNat := Nat.mul_pos (by omega) (two_pos _)
      have t2 : m ≤ 16777215 * 2 ^ (104 - p').toNat := Nat.le_trans (by omega : m ≤ 16777215) (Nat.le_mul_of_pos_right _ (two_pos _))
      refine ⟨?_, ?_, ?_⟩
      · rw [Nat.zero_mul, Nat.compare_eq_gt.2 t1]; simp [h0]
      · rw [show (-149 - -149 : Int).toNat = 0 from rfl, Nat.pow_zero, Nat.mul_one, show p' - -149 = p' + 149 by omega, Bool.eq_iff_iff, beq_iff_eq, decide_eq_true_eq, Option.some.injEq]
        exact Nat.compare_eq_lt
      · rw [show (p' - p').toNat = 0 by omega, Nat.pow_zero, Nat.mul_one, Bool.eq_false_iff]
        intro hc
        rw [beq_iff_eq, Option.some.injEq, Nat.compare_eq_gt] at hc
        omega
  rw [isN32, decide_eq_false_iff_not] at h
  generalize hg : b % 2147483648 = r at *
  by_cases h1 : r < 8388608
  · rw [if_pos h1] at hr
    obtain ⟨f1, f2, f3⟩ := hn _ _ _ hr (by omega) (by omega)
    rw [f1, f2, f3]
    refine ⟨rfl, ?_, ?_⟩
    · rw [show ((-149 : Int) + 149).toNat = 0 from rfl, Nat.pow_zero, Nat.mul_one]
    · simp; omega
  · rw [if_neg h1] at hr
    by_cases h2 : r < 2139095040
    · rw [if_pos h2] at hr
      obtain ⟨f1, f2, f3⟩ := hn _ _ _ hr (by omega) (by omega)
      rw [f1, f2, f3]
      refine ⟨by simp; omega, ?_, by simp; omega⟩
      have : 8388608 ≤ (8388608 + r % 8388608) * 2 ^ ((-149 + ((r / 8388608 - 1 : Nat) : Int)) + 149).toNat := Nat.le_trans (Nat.le_add_right _ _) (Nat.le_mul_of_pos_right _ (two_pos _))
      rw [decide_eq_false (by omega), decide_eq_false (by omega)]
    · rw [if_neg h2, if_pos (by omega)] at hr
      rw [hw, hr]
      have h3 : r = 2139095040 := by omega
      subst h3
      cases (b / 2147483648 % 2 == 1) <;> decide +kernel

theorem and31u (b : Nat) (h : b < 4294967296) : bits BinOp.and IntKind.u32 (b : Int) 2147483647 = ((b % 2147483648 : Nat) : Int) := by
  have := bits_mask .u32 32 (by decide) (fun n h0 h1 => by rw [IntKind.wrap_u32]; omega) 31 (by decide) b (by omega) (by omega)
  rw [show (2 : Int) ^ 31 - 1 = 2147483647 from rfl] at this
  rw [this]; omega

def kindC (r : Nat) : Int := if r = 0 then 0 else if r < 8388608 then 1 else if r < 2139095040 then 2 else if r = 2139095040 then 3 else 4

set_option maxRecDepth 100000 in
theorem kind_any (b : Nat) (hb : b < 4294967296) (w : World) : Calls Try.prog 22 #[.float .f32 b] w fun e w' => e = .returned (.int .i64 (kindC (b % 2147483648))) ∧ w = w' := by
  have ha := and31u b hb
  generalize hr : b % 2147483648 = r at *
  clear hr
  by_cases h0 : r = 0
  · subst h0
    go_enter Try.func22, Try.ntmps22
    go_wp2
    go_ret
    exact ⟨rfl, rfl⟩
  · have t0 : ((r : Int) == 0) = false := by rw [beq_eq_false_iff_ne]; omega
    by_cases h1 : r < 8388608
    · have hq : kindC r = 1 := by unfold kindC; rw [if_neg h0, if_pos h1]
      have HQ := hid hq; clear hq h0
      have t1 : (r : Int) < 8388608 := by omega
      go_enter Try.func22, Try.ntmps22
      go_wp2
      go_ret
      exact ⟨ret_int HQ.out.symm, rfl⟩
    · have t1 : ¬ (r : Int) < 8388608 := by omega
      by_cases h2 : r < 2139095040
      · have hq : kindC r = 2 := by unfold kindC; rw [if_neg h0, if_neg h1, if_pos h2]
        have HQ := hid hq; clear hq h0
        have t2 : (r : Int) < 2139095040 := by omega
        go_enter Try.func22, Try.ntmps22
        go_wp2
        go_ret
        exact ⟨ret_int HQ.out.symm, rfl⟩
      · have t2 : ¬ (r : Int) < 2139095040 := by omega
        by_cases h3 : r = 2139095040
        · subst h3
          go_enter Try.func22, Try.ntmps22
          go_wp2
          go_ret
          exact ⟨rfl, rfl⟩
        · have hq : kindC r = 4 := by unfold kindC; rw [if_neg h0, if_neg h1, if_neg h2, if_neg h3]
          have HQ := hid hq; clear hq h0
          have t3 : ((r : Int) == 2139095040) = false := by rw [beq_eq_false_iff_ne]; omega
          clear h3
          go_enter Try.func22, Try.ntmps22
          go_wp2
          go_ret
          exact ⟨ret_int HQ.out.symm, rfl⟩

theorem ldexp_m126 (w : World) : Calls Try.prog 14 #[.float .f64 4607182418800017408, .int .i64 (-126)] w (GivesF .f64 4039728865751334912 w) :=
  ldexp_lit _ _ (-126) _ norm1 (by decide +kernel) (by decide) (by decide) (by decide +kernel) w

/-- The law at a single of a kind that is told. -/
def BitsAt (v : Nat) (b : Int) (w : World) : Prop := Calls Try.prog 3 #[.float .f32 v, .int .u32 b] w fun e w' => e = .returned (.bool true) ∧ Grown w w'

set_option maxRecDepth 100000 in
theorem bits_nan (v : Nat) (b : Int) (hv : v < 4294967296) (h : isN .f32 v = true) (w : World) : BitsAt v b w := by
  unfold BitsAt
  have h1 := ne_self .f32 v
  rw [h] at h1
  have hk : kindC (v % 2147483648) = 4 := by
    rw [isN32, decide_eq_true_eq] at h
    unfold kindC; rw [if_neg (by omega), if_neg (by omega), if_neg (by omega), if_neg (by omega)]
  have HK := hid hk; clear hk h
  go_enter Try.func3, Try.ntmps3
  go_wp2_with (first | (go_at_call 13; refine (abs_any _ _).mono ?_; rintro e w' ⟨rfl, rfl⟩) | (go_at_call 14; refine (ldexp_m126 _).mono ?_; rintro e w' ⟨r9, n9, rfl, hr9, rfl⟩; obtain rfl := lit_of_cn hr9 ⟨by decide +kernel, by decide⟩; clear hr9) | (go_at_call 15; refine (counts_any _).mono ?_; rintro e w' ⟨rfl, n1, rfl⟩) | (go_at_call 17; refine (clean_any _ _).mono ?_; rintro e w' ⟨rfl, rfl⟩) | (go_at_call 18; refine (fix_any _ _).mono ?_; rintro e w' ⟨rfl, rfl⟩) | (go_at_call 16; refine (same_yes _ _ rfl _).mono ?_; rintro e w' ⟨rfl, rfl⟩) | (go_at_call 19; refine (bits_any _ _).mono ?_; rintro e w' ⟨rfl, rfl⟩) | (go_at_call 20; refine (bitsOf_any _ _).mono ?_; rintro e w' ⟨rfl, rfl⟩) | (go_at_call 21; refine (fromBits_any _ _).mono ?_; rintro e w' ⟨rfl, rfl⟩) | (go_at_call 22; refine (kind_any _ hv _).mono ?_; rintro e w' ⟨rfl, rfl⟩; rw [HK.out]))
  go_ret
  exact ⟨rfl, grown_drewN (Grown.refl _) _⟩

set_option maxRecDepth 100000 in
theorem bits_zero (v : Nat) (b : Int) (hv : v < 4294967296) (h : isN .f32 v = false) (hr : v % 2147483648 = 0) (w : World) : BitsAt v b w := by
  unfold BitsAt
  have h1 := ne_self .f32 v
  rw [h] at h1
  have c1 := fun w => fcvv (widen_some v h) w
  have c2 := fcdv (widen_some v h)
  obtain ⟨f1, f2, f3⟩ := kind_facts v h
  rw [decide_eq_true (by omega)] at f1
  rw [decide_eq_true (by omega)] at f2
  rw [decide_eq_false (by omega)] at f3
  have hk : kindC (v % 2147483648) = 0 := by unfold kindC; rw [if_pos hr]
  have HK := hid hk; clear hk h hr
  go_enter Try.func3, Try.ntmps3
  go_wp2_with (first | (go_at_call 13; refine (abs_any _ _).mono ?_; rintro e w' ⟨rfl, rfl⟩) | (go_at_call 14; refine (ldexp_m126 _).mono ?_; rintro e w' ⟨r9, n9, rfl, hr9, rfl⟩; obtain rfl := lit_of_cn hr9 ⟨by decide +kernel, by decide⟩; clear hr9) | (go_at_call 15; refine (counts_any _).mono ?_; rintro e w' ⟨rfl, n1, rfl⟩) | (go_at_call 17; refine (clean_any _ _).mono ?_; rintro e w' ⟨rfl, rfl⟩) | (go_at_call 18; refine (fix_any _ _).mono ?_; rintro e w' ⟨rfl, rfl⟩) | (go_at_call 16; refine (same_yes _ _ rfl _).mono ?_; rintro e w' ⟨rfl, rfl⟩) | (go_at_call 19; refine (bits_any _ _).mono ?_; rintro e w' ⟨rfl, rfl⟩) | (go_at_call 20; refine (bitsOf_any _ _).mono ?_; rintro e w' ⟨rfl, rfl⟩) | (go_at_call 21; refine (fromBits_any _ _).mono ?_; rintro e w' ⟨rfl, rfl⟩) | (go_at_call 22; refine (kind_any _ hv _).mono ?_; rintro e w' ⟨rfl, rfl⟩; rw [HK.out]))
  go_ret
  exact ⟨rfl, grown_drewN (Grown.refl _) _⟩

set_option maxRecDepth 100000 in
theorem bits_small (v : Nat) (b : Int) (hv : v < 4294967296) (h : isN .f32 v = false) (hr : v % 2147483648 ≠ 0 ∧ v % 2147483648 < 8388608) (w : World) : BitsAt v b w := by
  unfold BitsAt
  have h1 := ne_self .f32 v
  rw [h] at h1
  have c1 := fun w => fcvv (widen_some v h) w
  have c2 := fcdv (widen_some v h)
  obtain ⟨f1, f2, f3⟩ := kind_facts v h
  rw [decide_eq_false (by omega)] at f1
  rw [decide_eq_true (by omega)] at f2
  rw [decide_eq_false (by omega)] at f3
  have hk : kindC (v % 2147483648) = 1 := by unfold kindC; rw [if_neg hr.1, if_pos hr.2]
  have HK := hid hk; clear hk h hr
  go_enter Try.func3, Try.ntmps3
  go_wp2_with (first | (go_at_call 13; refine (abs_any _ _).mono ?_; rintro e w' ⟨rfl, rfl⟩) | (go_at_call 14; refine (ldexp_m126 _).mono ?_; rintro e w' ⟨r9, n9, rfl, hr9, rfl⟩; obtain rfl := lit_of_cn hr9 ⟨by decide +kernel, by decide⟩; clear hr9) | (go_at_call 15; refine (counts_any _).mono ?_; rintro e w' ⟨rfl, n1, rfl⟩) | (go_at_call 17; refine (clean_any _ _).mono ?_; rintro e w' ⟨rfl, rfl⟩) | (go_at_call 18; refine (fix_any _ _).mono ?_; rintro e w' ⟨rfl, rfl⟩) | (go_at_call 16; refine (same_yes _ _ rfl _).mono ?_; rintro e w' ⟨rfl, rfl⟩) | (go_at_call 19; refine (bits_any _ _).mono ?_; rintro e w' ⟨rfl, rfl⟩) | (go_at_call 20; refine (bitsOf_any _ _).mono ?_; rintro e w' ⟨rfl, rfl⟩) | (go_at_call 21; refine (fromBits_any _ _).mono ?_; rintro e w' ⟨rfl, rfl⟩) | (go_at_call 22; refine (kind_any _ hv _).mono ?_; rintro e w' ⟨rfl, rfl⟩; rw [HK.out]))
  go_ret
  exact ⟨rfl, grown_drewN (Grown.refl _) _⟩

set_option maxRecDepth 100000 in
theorem bits_normal (v : Nat) (b : Int) (hv : v < 4294967296) (h : isN .f32 v = false) (hr : 8388608 ≤ v % 2147483648 ∧ v % 2147483648 < 2139095040) (w : World) : BitsAt v b w := by
  unfold BitsAt
  have h1 := ne_self .f32 v
  rw [h] at h1
  have c1 := fun w => fcvv (widen_some v h) w
  have c2 := fcdv (widen_some v h)
  obtain ⟨f1, f2, f3⟩ := kind_facts v h
  rw [decide_eq_false (by omega)] at f1
  rw [decide_eq_false (by omega)] at f2
  rw [decide_eq_false (by omega)] at f3
  have hk : kindC (v % 2147483648) = 2 := by unfold kindC; rw [if_neg (by omega), if_neg (by omega), if_pos hr.2]
  have HK := hid hk; clear hk h hr
  go_enter Try.func3, Try.ntmps3
  go_wp2_with (first | (go_at_call 13; refine (abs_any _ _).mono ?_; rintro e w' ⟨rfl, rfl⟩) | (go_at_call 14; refine (ldexp_m126 _).mono ?_; rintro e w' ⟨r9, n9, rfl, hr9, rfl⟩; obtain rfl := lit_of_cn hr9 ⟨by decide +kernel, by decide⟩; clear hr9) | (go_at_call 15; refine (counts_any _).mono ?_; rintro e w' ⟨rfl, n1, rfl⟩) | (go_at_call 17; refine (clean_any _ _).mono ?_; rintro e w' ⟨rfl, rfl⟩) | (go_at_call 18; refine (fix_any _ _).mono ?_; rintro e w' ⟨rfl, rfl⟩) | (go_at_call 16; refine (same_yes _ _ rfl _).mono ?_; rintro e w' ⟨rfl, rfl⟩) | (go_at_call 19; refine (bits_any _ _).mono ?_; rintro e w' ⟨rfl, rfl⟩) | (go_at_call 20; refine (bitsOf_any _ _).mono ?_; rintro e w' ⟨rfl, rfl⟩) | (go_at_call 21; refine (fromBits_any _ _).mono ?_; rintro e w' ⟨rfl, rfl⟩) | (go_at_call 22; refine (kind_any _ hv _).mono ?_; rintro e w' ⟨rfl, rfl⟩; rw [HK.out]))
  go_ret
  exact ⟨rfl, grown_drewN (Grown.refl _) _⟩

set_option maxRecDepth 100000 in
theorem bits_inf (v : Nat) (b : Int) (hv : v < 4294967296) (h : isN .f32 v = false) (hr : v % 2147483648 = 2139095040) (w : World) : BitsAt v b w := by
  unfold BitsAt
  have h1 := ne_self .f32 v
  rw [h] at h1
  have c1 := fun w => fcvv (widen_some v h) w
  have c2 := fcdv (widen_some v h)
  obtain ⟨f1, f2, f3⟩ := kind_facts v h
  rw [decide_eq_false (by omega)] at f1
  rw [decide_eq_false (by omega)] at f2
  rw [decide_eq_true (by omega)] at f3
  have hk : kindC (v % 2147483648) = 3 := by unfold kindC; rw [if_neg (by omega), if_neg (by omega), if_neg (by omega), if_pos hr]
  have HK := hid hk; clear hk h hr
  go_enter Try.func3, Try.ntmps3
  go_wp2_with (first | (go_at_call 13; refine (abs_any _ _).mono ?_; rintro e w' ⟨rfl, rfl⟩) | (go_at_call 14; refine (ldexp_m126 _).mono ?_; rintro e w' ⟨r9, n9, rfl, hr9, rfl⟩; obtain rfl := lit_of_cn hr9 ⟨by decide +kernel, by decide⟩; clear hr9) | (go_at_call 15; refine (counts_any _).mono ?_; rintro e w' ⟨rfl, n1, rfl⟩) | (go_at_call 17; refine (clean_any _ _).mono ?_; rintro e w' ⟨rfl, rfl⟩) | (go_at_call 18; refine (fix_any _ _).mono ?_; rintro e w' ⟨rfl, rfl⟩) | (go_at_call 16; refine (same_yes _ _ rfl _).mono ?_; rintro e w' ⟨rfl, rfl⟩) | (go_at_call 19; refine (bits_any _ _).mono ?_; rintro e w' ⟨rfl, rfl⟩) | (go_at_call 20; refine (bitsOf_any _ _).mono ?_; rintro e w' ⟨rfl, rfl⟩) | (go_at_call 21; refine (fromBits_any _ _).mono ?_; rintro e w' ⟨rfl, rfl⟩) | (go_at_call 22; refine (kind_any _ hv _).mono ?_; rintro e w' ⟨rfl, rfl⟩; rw [HK.out]))
  go_ret
  exact ⟨rfl, grown_drewN (Grown.refl _) _⟩

theorem bitsLaw_any (v : Nat) (b : Int) (hv : (Lit.float .f32 v).wf = true) (w : World) : BitsAt v b w := by
  have hv' : v < 4294967296 := by simpa [Lit.wf] using hv
  by_cases h : isN .f32 v = true
  · exact bits_nan v b hv' h w
  · have h' : isN .f32 v = false := by simpa using h
    have hn := h'
    rw [isN32, decide_eq_false_iff_not] at hn
    by_cases h0 : v % 2147483648 = 0
    · exact bits_zero v b hv' h' h0 w
    · by_cases h1 : v % 2147483648 < 8388608
      · exact bits_small v b hv' h' ⟨h0, h1⟩ w
      · by_cases h2 : v % 2147483648 < 2139095040
        · exact bits_normal v b hv' h' ⟨by omega, h2⟩ w
        · exact bits_inf v b hv' h' (by omega) w
end Go.Proofs.Ytbenjfipbeikmaa
