/-
  Levels and values: what they are, in the program and in the reference.
-/
import Derived.Test.YthoiiccecneefaaQNv
import Derived.Test.YthoiiccecneefaaQOrd
namespace Go.Proofs.Ythoiiccecneefaa
open Go.RowKit
open Ieee (Datum Format signed)

/-- A whole number below 2^24 is a single. -/
theorem ofInt_read {n : Int} (h : n.natAbs < 16777216) : ∃ m p, FloatKind.f32.format.read (floatOfInt .f32 n) = .number (decide (n < 0)) m p ∧ dv (decide (n < 0)) m p = (n : Rat) := by
  by_cases h0 : n = 0
  · subst h0
    refine ⟨0, -149, by decide +kernel, ?_⟩
    rw [dv_zero]; rfl
  · obtain ⟨q, hq⟩ := nearest_exact FloatKind.f32.format (decide (n < 0)) n.natAbs 0 (by omega) (log2_le_of_lt (k := 23) (by omega)) (by decide) (by decide)
      (by have := log2_le_of_lt (m := n.natAbs) (k := 23) (by omega)
          have e1 : FloatKind.f32.format.fractionBits = 23 := rfl
          have e2 : FloatKind.f32.format.leastPlace = -149 := rfl
          have e3 : FloatKind.f32.format.exponentBits = 8 := rfl
          rw [e1, e2, e3]
          omega)
    refine ⟨_, _, hq, ?_⟩
    rw [dv_shift, show (0 : Int) - (q : Int) + (q : Int) = 0 by omega, dv_nat]
    exact int_abs n
theorem ofInt_fv {n : Int} (h : n.natAbs < 16777216) : Fv .f32 (floatOfInt .f32 n) (n : Rat) := by
  obtain ⟨m, p, h1, h2⟩ := ofInt_read h
  exact ⟨_, m, p, h1, h2.symm⟩

/-- A sum of numbers is none of the open ones. -/
theorem add_some {x y : Nat} {a b : Rat} (hx : Fv .f32 x a) (hy : Fv .f32 y b) : floatBits .add .f32 x y = some (cop .add .f32 x y) := by
  obtain ⟨s, m, i, hr, rfl⟩ := hx
  obtain ⟨t, n, j, hr', rfl⟩ := hy
  obtain ⟨u, M, hs, hv⟩ := sum_val s t m n i j
  have e : floatBits .add .f32 x y = some (FloatKind.f32.format.write (.number u M (min i j))) := by
    show Option.map _ ((FloatKind.f32.format.read x).sum (FloatKind.f32.format.read y)) = _
    rw [hr, hr', hs]; rfl
  rw [cop_some e, e]
theorem sub_some {x y : Nat} {a b : Rat} (hx : Fv .f32 x a) (hy : Fv .f32 y b) : floatBits .sub .f32 x y = some (cop .sub .f32 x y) := by
  obtain ⟨s, m, i, hr, rfl⟩ := hx
  obtain ⟨t, n, j, hr', rfl⟩ := hy
  obtain ⟨u, M, hs, hv⟩ := sum_val s (!t) m n i j
  have e : floatBits .sub .f32 x y = some (FloatKind.f32.format.write (.number u M (min i j))) := by
    show Option.map _ ((FloatKind.f32.format.read x).sum (FloatKind.f32.format.read y).opposite) = _
    rw [hr, hr']
    show Option.map _ ((Datum.number s m i).sum (Datum.number (!t) n j)) = _
    rw [hs]; rfl
  rw [cop_some e, e]

theorem some_of_fv {op : BinOp} {k : FloatKind} {x y : Nat} {q : Rat} (h : Fv k (cop op k x y) q) : floatBits op k x y = some (cop op k x y) := by
  cases hf : floatBits op k x y with
  | some r => rw [cop_some hf]
  | none =>
    exfalso
    have e : cop op k x y = qnan k := by unfold cop; rw [hf]; rfl
    have := h.not_nan
    rw [e, isN_qnan] at this
    cases this
theorem sub_half_some {x : Nat} (h : isN .f32 x = false) : floatBits .sub .f32 x 1056964608 = some (cop .sub .f32 x 1056964608) := by
  have key : (floatBits .sub .f32 x 1056964608).isSome = true := by
    have c1 : FloatKind.f32.format.read 1056964608 = .number false 8388608 (-24) := by decide +kernel
    show (Option.map _ ((FloatKind.f32.format.read x).sum (FloatKind.f32.format.read 1056964608).opposite)).isSome = true
    rw [c1]
    unfold isN at h
    cases hd : FloatKind.f32.format.read x with
    | nan s t => rw [hd] at h; cases h
    | infinity s => rfl
    | number s m i =>
      obtain ⟨u, M, hs, hv⟩ := sum_val s true m 8388608 i (-24)
      show (Option.map _ ((Datum.number s m i).sum (Datum.number true 8388608 (-24)))).isSome = true
      rw [hs]; rfl
  obtain ⟨r, hr⟩ := Option.isSome_iff_exists.1 key
  rw [cop_some hr, hr]

/-- May it be a depth? -/
def depB (d : Int) : Bool := decide (1 ≤ d ∧ d ≤ 16)
theorem depB_true {d : Int} : depB d = true ↔ 1 ≤ d ∧ d ≤ 16 := by simp [depB]
theorem depB_false {d : Int} : depB d = false ↔ d < 1 ∨ 16 < d := by simp [depB]; omega
/-- The highest level. -/
def mx (d : Int) : Int := 2 ^ d.toNat - 1
theorem dep16 {d : Int} (h : 1 ≤ d ∧ d ≤ 16) : d = 1 ∨ d = 2 ∨ d = 3 ∨ d = 4 ∨ d = 5 ∨ d = 6 ∨ d = 7 ∨ d = 8 ∨ d = 9 ∨ d = 10 ∨ d = 11 ∨ d = 12 ∨ d = 13 ∨ d = 14 ∨ d = 15 ∨ d = 16 := by omega
theorem mx_bound {d : Int} (h : 1 ≤ d ∧ d ≤ 16) : 1 ≤ mx d ∧ mx d ≤ 65535 := by
  rcases dep16 h with rfl | rfl | rfl | rfl | rfl | rfl | rfl | rfl | rfl | rfl | rfl | rfl | rfl | rfl | rfl | rfl <;> decide
theorem pw_mx (d : Int) : (2 : Int) ^ d.toNat = mx d + 1 := by unfold mx; omega

theorem isDepth_any (d : Int) (w : World) : Calls Try.prog 53 #[.int .i64 d] w fun e w' => e = .returned (.bool (depB d)) ∧ w = w' := by
  by_cases h1 : 1 ≤ d
  · by_cases h2 : d ≤ 16
    · go_enter Try.func53, Try.ntmps53
      go_wp2
      go_ret
      exact ⟨ret_bool (depB_true.2 ⟨h1, h2⟩).symm, rfl⟩
    · go_enter Try.func53, Try.ntmps53
      go_wp2
      go_ret
      exact ⟨ret_bool (depB_false.2 (by omega)).symm, rfl⟩
  · go_enter Try.func53, Try.ntmps53
    go_wp2
    go_ret
    exact ⟨ret_bool (depB_false.2 (by omega)).symm, rfl⟩

theorem highest_any (d : Int) (h : 1 ≤ d ∧ d ≤ 16) (w : World) : Calls Try.prog 104 #[.int .i64 d] w fun e w' => e = .returned (.int .i64 (mx d)) ∧ w = w' := by
  rcases dep16 h with rfl | rfl | rfl | rfl | rfl | rfl | rfl | rfl | rfl | rfl | rfl | rfl | rfl | rfl | rfl | rfl <;>
    (clear h
     go_enter Try.func104, Try.ntmps104
     go_wp2
     go_ret
     exact ⟨rfl, rfl⟩)

/-- Is n a level? -/
def levB (n d : Int) : Bool := decide (0 ≤ n ∧ n ≤ mx d)
theorem levB_true {n d : Int} : levB n d = true ↔ 0 ≤ n ∧ n ≤ mx d := by simp [levB]
theorem levB_false {n d : Int} : levB n d = false ↔ n < 0 ∨ mx d < n := by simp [levB]; omega

theorem isLevel_any (n d : Int) (h : 1 ≤ d ∧ d ≤ 16) (w : World) : Calls Try.prog 58 #[.int .i64 n, .int .i64 d] w fun e w' => e = .returned (.bool (levB n d)) ∧ w = w' := by
  have HM := fun w => highest_any d h w
  by_cases h1 : 0 ≤ n
  · by_cases h2 : n ≤ mx d
    · have HQ := hid (levB_true.2 ⟨h1, h2⟩)
      go_enter Try.func58, Try.ntmps58
      go_wp2_with (go_at_call 104; refine (HM _).mono ?_; rintro e w' ⟨rfl, rfl⟩)
      go_ret
      exact ⟨ret_bool HQ.out.symm, rfl⟩
    · have h3 : mx d < n := by omega
      have HQ := hid (levB_false.2 (Or.inr h3))
      clear h2
      go_enter Try.func58, Try.ntmps58
      go_wp2_with (go_at_call 104; refine (HM _).mono ?_; rintro e w' ⟨rfl, rfl⟩)
      go_ret
      exact ⟨ret_bool (by rw [HQ.out]; exact decide_eq_false (by omega)), rfl⟩
  · have HQ := hid (levB_false.2 (Or.inl (by omega : n < 0)) : levB n d = false)
    go_enter Try.func58, Try.ntmps58
    go_wp2_with (go_at_call 104; refine (HM _).mono ?_; rintro e w' ⟨rfl, rfl⟩)
    go_ret
    exact ⟨ret_bool HQ.out.symm, rfl⟩

/-- What a value and its offset come to, in levels, not yet rounded. -/
def lzC (v off : Nat) (d : Int) : Nat := cop .add .f32 (cop .mul .f32 (cl v) (floatOfInt .f32 (mx d))) (cl off)
/-- The level. -/
def lvC (v off : Nat) (d : Int) : Int := (nearC (lzC v off d) 0 (mx d)).1
theorem lz_cl (v off : Nat) (d : Int) (w1 w2 : World) : nearC (fop .add .f32 (fop .mul .f32 v (floatOfInt .f32 (mx d)) w1) off w2) 0 (mx d) = nearC (lzC v off d) 0 (mx d) := by
  rw [← nearC_cl]
  congr 1
  unfold lzC cl
  rw [cn_fop, cn_fop, cn_floatOfInt]

theorem level_bad (v off : Nat) (d : Int) (h : ¬ (1 ≤ d ∧ d ≤ 16)) (w : World) : Calls Try.prog 56 #[.float .f32 v, .float .f32 off, .int .i64 d] w fun e w' => e = .returned (.tuple #[.int .i64 0, .int .i64 3]) ∧ w = w' := by
  have hd : depB d = false := depB_false.2 (by omega)
  clear h
  go_enter Try.func56, Try.ntmps56
  go_wp2_with (go_at_call 53; refine (isDepth_any _ _).mono ?_; rintro e w' ⟨rfl, rfl⟩)
  go_ret2
  exact ⟨rfl, rfl⟩

theorem level_ok (v off : Nat) (d : Int) (h : 1 ≤ d ∧ d ≤ 16) (w : World) : Calls Try.prog 56 #[.float .f32 v, .float .f32 off, .int .i64 d] w fun e w' => e = .returned (.tuple #[.int .i64 (lvC v off d), .int .i64 0]) ∧ ∃ n, w' = w.drewN n := by
  have hd : depB d = true := depB_true.2 h
  have HM := fun w => highest_any d h w
  have hb := mx_bound h
  have HN : ∀ z w, Calls Try.prog 105 #[.float .f32 z, .int .i64 0, .int .i64 (mx d)] w fun e w' => e = .returned (.tuple #[.int .i64 (nearC z 0 (mx d)).1, .bool (nearC z 0 (mx d)).2, .int .i64 0]) ∧ ∃ n, w' = w.drewN n := fun z w => nearn_any z 0 (mx d) (by omega) w
  have HZ := hid fun w1 w2 => lz_cl v off d w1 w2
  unfold lvC
  clear hb h
  go_enter Try.func56, Try.ntmps56
  go_wp2_with (first | (go_at_call 53; refine (isDepth_any _ _).mono ?_; rintro e w' ⟨rfl, rfl⟩) | (go_at_call 104; refine (HM _).mono ?_; rintro e w' ⟨rfl, rfl⟩) | (go_at_call 105; refine (HN _ _).mono ?_; rintro e w' ⟨rfl, n1, rfl⟩))
  go_ret2
  exact ⟨by rw [HZ.out]; rfl, _, rfl⟩

theorem levelOf_any (v off : Nat) (d : Int) (h : 1 ≤ d ∧ d ≤ 16) (w : World) : Calls Try.prog 97 #[.float .f32 v, .float .f32 off, .int .i64 d] w fun e w' => e = .returned (.int .i64 (lvC v off d)) ∧ ∃ n, w' = w.drewN n := by
  have hp := pw_mx d
  have hb := mx_bound h
  have HN : ∀ z w, Calls Try.prog 124 #[.float .f32 z, .int .i64 0, .int .i64 (mx d)] w fun e w' => e = .returned (.tuple #[.int .i64 (nearC z 0 (mx d)).1, .bool (nearC z 0 (mx d)).2]) ∧ ∃ n, w' = w.drewN n := fun z w => nearr_any z 0 (mx d) (by omega) w
  have HZ := hid fun w1 w2 => lz_cl v off d w1 w2
  unfold lvC
  have h1 := h.1
  have h2 := h.2
  clear h
  go_enter Try.func97, Try.ntmps97
  go_wp2_with (go_at_call 124; refine (HN _ _).mono ?_; rintro e w' ⟨rfl, n1, rfl⟩)
  go_ret
  exact ⟨by rw [HZ.out]; rfl, _, rfl⟩

/-- The value of a level. -/
def vaC (n d : Int) : Nat := cop .quo .f32 (floatOfInt .f32 n) (floatOfInt .f32 (mx d))
theorem va_all {n d : Int} (h : 1 ≤ d ∧ d ≤ 16) (h1 : 0 ≤ n) (h2 : n ≤ mx d) : ∃ X q : Rat, X * (mx d : Rat) = (n : Rat) ∧ 0 ≤ X ∧ X ≤ 1 ∧ Fv .f32 (vaC n d) q ∧ NearQ q X := by
  have hb := mx_bound h
  have hx := ofInt_fv (n := n) (by omega)
  have hy := ofInt_fv (n := mx d) (by omega)
  have hM : (0 : Rat) < (mx d : Rat) := by
    have := Rat.intCast_lt_intCast.2 (show (0 : Int) < mx d by omega)
    simpa using this
  have hn : (0 : Rat) ≤ (n : Rat) := by
    have := Rat.intCast_le_intCast.2 h1
    simpa using this
  have hnM : (n : Rat) ≤ (mx d : Rat) := Rat.intCast_le_intCast.2 h2
  have hX : (n : Rat) / (mx d : Rat) * (mx d : Rat) = (n : Rat) := Rat.div_mul_cancel (by grind)
  generalize (n : Rat) / (mx d : Rat) = X at hX
  have pos : ∀ z : Rat, 0 ≤ z * (mx d : Rat) → 0 ≤ z := fun z hz => by
    rcases (Rat.le_total : z ≤ 0 ∨ 0 ≤ z) with h | h
    · have : ¬ z < 0 := fun hz2 => by
        have := Rat.mul_lt_mul_of_pos_right hz2 hM
        grind
      grind
    · exact h
  have x0 := pos X (by grind)
  have x1 := pos (1 - X) (by grind)
  have e100 : (1 : Rat) < pw 100 := by unfold pw; decide +kernel
  obtain ⟨q, hq, hnq⟩ := fquo hx hy (by grind) hX (by grind) (by grind)
  exact ⟨X, q, hX, x0, by grind, hq, hnq⟩
theorem va_some {n d : Int} (h : 1 ≤ d ∧ d ≤ 16) (h1 : 0 ≤ n) (h2 : n ≤ mx d) : floatBits .quo .f32 (floatOfInt .f32 n) (floatOfInt .f32 (mx d)) = some (vaC n d) := by
  obtain ⟨X, q, _, _, _, hq, _⟩ := va_all h h1 h2
  exact some_of_fv hq

theorem value_bad (n d : Int) (h : ¬ ((1 ≤ d ∧ d ≤ 16) ∧ 0 ≤ n ∧ n ≤ mx d)) (w : World) : Calls Try.prog 62 #[.int .i64 n, .int .i64 d] w fun e w' => e = .returned (.tuple #[.float .f32 0, .int .i64 3]) ∧ w = w' := by
  by_cases hd : 1 ≤ d ∧ d ≤ 16
  · have h1 := depB_true.2 hd
    have h2 : levB n d = false := levB_false.2 (by omega)
    have HL := fun w => isLevel_any n d hd w
    clear h hd
    go_enter Try.func62, Try.ntmps62
    go_wp2_with (first | (go_at_call 53; refine (isDepth_any _ _).mono ?_; rintro e w' ⟨rfl, rfl⟩) | (go_at_call 58; refine (HL _).mono ?_; rintro e w' ⟨rfl, rfl⟩))
    go_ret2
    exact ⟨rfl, rfl⟩
  · have h1 : depB d = false := depB_false.2 (by omega)
    clear h hd
    go_enter Try.func62, Try.ntmps62
    go_wp2_with (first | (go_at_call 53; refine (isDepth_any _ _).mono ?_; rintro e w' ⟨rfl, rfl⟩))
    go_ret2
    exact ⟨rfl, rfl⟩

theorem value_ok (n d : Int) (h : 1 ≤ d ∧ d ≤ 16) (h1 : 0 ≤ n) (h2 : n ≤ mx d) (w : World) : Calls Try.prog 62 #[.int .i64 n, .int .i64 d] w fun e w' => e = .returned (.tuple #[.float .f32 (vaC n d), .int .i64 0]) ∧ w = w' := by
  have hd := depB_true.2 h
  have hl : levB n d = true := levB_true.2 ⟨h1, h2⟩
  have HL := fun w => isLevel_any n d h w
  have HM := fun w => highest_any d h w
  have f1 := fun w => fopv (va_some h h1 h2) w
  have f2 := fdrv (va_some h h1 h2)
  clear h h1 h2
  go_enter Try.func62, Try.ntmps62
  go_wp2_with (first | (go_at_call 53; refine (isDepth_any _ _).mono ?_; rintro e w' ⟨rfl, rfl⟩) | (go_at_call 58; refine (HL _).mono ?_; rintro e w' ⟨rfl, rfl⟩) | (go_at_call 104; refine (HM _).mono ?_; rintro e w' ⟨rfl, rfl⟩))
  go_ret2
  exact ⟨rfl, rfl⟩

theorem valueOf_any (n d : Int) (h : 1 ≤ d ∧ d ≤ 16) (h1 : 0 ≤ n) (h2 : n ≤ mx d) (w : World) : Calls Try.prog 98 #[.int .i64 n, .int .i64 d] w fun e w' => e = .returned (.float .f32 (vaC n d)) ∧ w = w' := by
  have hp := pw_mx d
  have hb := mx_bound h
  have f1 := fun w => fopv (va_some h h1 h2) w
  have f2 := fdrv (va_some h h1 h2)
  have g1 := h.1
  have g2 := h.2
  clear h h1 h2
  go_enter Try.func98, Try.ntmps98
  go_wp2
  go_ret
  exact ⟨rfl, rfl⟩

/-- The level of the value of a level is that level. -/
theorem lv_va {n d : Int} (h : 1 ≤ d ∧ d ≤ 16) (h1 : 0 ≤ n) (h2 : n ≤ mx d) : lvC (vaC n d) 0 d = n := by
  obtain ⟨X, q, hX, x0, x1, hq, hnq⟩ := va_all h h1 h2
  have hb := mx_bound h
  have hy := ofInt_fv (n := mx d) (by omega)
  have hM : (1 : Rat) ≤ (mx d : Rat) := by
    have := Rat.intCast_le_intCast.2 (show (1 : Int) ≤ mx d by omega)
    simpa using this
  have hM2 : (mx d : Rat) ≤ 65535 := by
    have := Rat.intCast_le_intCast.2 (show mx d ≤ (65535 : Int) by omega)
    simpa using this
  generalize (mx d : Rat) = M at *
  have t126 : pw (-126) < 1 / 1000000 := by unfold pw; decide +kernel
  have p126 := pw_pos (-126)
  have p127 : (1000000 : Rat) < pw 127 := by unfold pw; decide +kernel
  obtain ⟨b1, b2⟩ := hnq.1 1 (by grind) (by grind)
  have m1 := Rat.mul_le_mul_of_nonneg_right (show q ≤ X + 1 / 8000000 by grind) (show 0 ≤ M by grind)
  have m2 := Rat.mul_le_mul_of_nonneg_right (show X - 1 / 8000000 ≤ q by grind) (show 0 ≤ M by grind)
  have hXM : X * M ≤ M := by
    have := Rat.mul_le_mul_of_nonneg_right x1 (show 0 ≤ M by grind)
    grind
  have hXM0 : 0 ≤ X * M := Rat.mul_nonneg x0 (by grind)
  obtain ⟨r, hr, hnr⟩ := fmul hq hy (by grind) (by grind)
  obtain ⟨c1, c2⟩ := hnr.1 65537 (by grind) (by grind)
  have hz : Fv .f32 0 0 := ⟨false, 0, -149, by decide +kernel, (dv_zero _ _).symm⟩
  obtain ⟨s, hs, hns⟩ := fadd hr hz (by grind) (by grind)
  obtain ⟨d1, d2⟩ := hns.1 65538 (by grind) (by grind)
  have hlz : lzC (vaC n d) 0 d = cop .add .f32 (cop .mul .f32 (vaC n d) (floatOfInt .f32 (mx d))) 0 := by
    unfold lzC
    have e1 : cl (vaC n d) = vaC n d := hq.cn
    have e2 : cl 0 = 0 := hz.cn
    rw [e1, e2]
  unfold lvC
  rw [hlz]
  obtain ⟨k, k1, k2, hk⟩ := near_fv hs (mx d) (by omega) (by omega)
  rw [hk]
  have l1 : (k : Rat) < (n : Rat) + 1 := by grind
  have l2 : (n : Rat) < (k : Rat) + 1 := by grind
  have l1' : k < n + 1 := by
    have e : ((n + 1 : Int) : Rat) = (n : Rat) + 1 := by rw [Rat.intCast_add]; rfl
    rw [← e] at l1
    exact Rat.intCast_lt_intCast.1 l1
  have l2' : n < k + 1 := by
    have e : ((k + 1 : Int) : Rat) = (k : Rat) + 1 := by rw [Rat.intCast_add]; rfl
    rw [← e] at l2
    exact Rat.intCast_lt_intCast.1 l2
  omega
end Go.Proofs.Ythoiiccecneefaa
