/-
  Contracts of math.Abs, IsNaN, IsInf, normalize, Frexp (of normal doubles), and of the double logarithm, in the program and in the reference.
-/
import Derived.Test.YtbenjfipbeikmaaLeaf
namespace Go.Proofs.Ytbenjfipbeikmaa
open Go.RowKit

def absB (x : Nat) : Nat := (bits .andNot .u64 x 9223372036854775808).toNat

theorem abs_any (x : Nat) (w : World) : Calls Try.prog 13 #[.float .f64 x] w fun e w' => e = .returned (.float .f64 (absB x)) ∧ w = w' := by
  go_enter Try.func13, Try.ntmps13
  go_wp2
  go_ret
  exact ⟨rfl, rfl⟩

theorem isNaN_any (x : Nat) (w : World) : Calls Try.prog 97 #[.float .f64 x] w fun e w' => e = .returned (.bool (isN .f64 x)) ∧ w = w' := by
  have h := hid (ne_self .f64 x)
  go_enter Try.func97, Try.ntmps97
  go_wp2
  go_ret
  exact ⟨by rw [← h.out]; rfl, rfl⟩

def infB (x : Nat) : Bool := FloatKind.f64.format.order (absB x) 9218868437227405311 == some .gt

theorem isInf_any (x : Nat) (w : World) : Calls Try.prog 96 #[.float .f64 x, .int .i64 0] w fun e w' => e = .returned (.bool (infB x)) ∧ w = w' := by
  go_enter Try.func96, Try.ntmps96
  go_wp2_with (go_at_call 13; refine (abs_any _ _).mono ?_; rintro e w' ⟨rfl, rfl⟩)
  go_ret
  exact ⟨rfl, rfl⟩

/-- A normal double: not 0, no NaN, no infinity, not subnormal. -/
structure Norm (x : Nat) : Prop where
  zero : (FloatKind.f64.format.order x 0 == some .eq) = false
  nan : isN .f64 x = false
  inf : infB x = false
  small : (FloatKind.f64.format.order (absB x) 4503599627370496 == some .lt) = false

theorem normalize_any (x : Nat) (h : Norm x) (w : World) : Calls Try.prog 98 #[.float .f64 x] w fun e w' => e = .returned (.tuple #[.float .f64 x, .int .i64 0]) ∧ w = w' := by
  have h1 := h.small
  go_enter Try.func98, Try.ntmps98
  go_wp2_with (go_at_call 13; refine (abs_any _ _).mono ?_; rintro e w' ⟨rfl, rfl⟩)
  go_ret2
  exact ⟨rfl, rfl⟩

def frM (x : Nat) : Nat := (bits .or .u64 (bits .andNot .u64 x 9218868437227405312) 4602678819172646912).toNat
def frE (x : Nat) : Int := wrap64 (wrap64 (wrap64 (wrap64 (bits .and .u64 ((x : Int) / 4503599627370496) 2047) - 1023) + 1))

theorem frexpl_any (x : Nat) (h : Norm x) (w : World) : Calls Try.prog 106 #[.float .f64 x] w fun e w' => e = .returned (.tuple #[.float .f64 (frM x), .int .i64 (frE x)]) ∧ w = w' := by
  have h0 := h.zero
  have h1 := h.nan
  have h2 := h.inf
  go_enter Try.func106, Try.ntmps106
  go_wp2_with (first | (go_at_call 96; refine (isInf_any _ _).mono ?_; rintro e w' ⟨rfl, rfl⟩) | (go_at_call 97; refine (isNaN_any _ _).mono ?_; rintro e w' ⟨rfl, rfl⟩) | (go_at_call 98; refine (normalize_any _ h _).mono ?_; rintro e w' ⟨rfl, rfl⟩))
  go_ret2
  exact ⟨rfl, rfl⟩

theorem frexp_any (x : Nat) (h : Norm x) (w : World) : Calls Try.prog 100 #[.float .f64 x] w fun e w' => e = .returned (.tuple #[.float .f64 (frM x), .int .i64 (frE x)]) ∧ w = w' := by
  go_enter Try.func100, Try.ntmps100
  go_wp2_with (go_at_call 106; refine (frexpl_any _ h _).mono ?_; rintro e w' ⟨rfl, rfl⟩)
  go_ret2
  exact ⟨rfl, rfl⟩

/-- The sum of the row, after j rounds. -/
def logP (q : Nat) : Nat → Nat
  | 0 => 4587023449039406616
  | j + 1 => cop .add .f64 (cop .mul .f64 (logP q j) q) (cop .quo .f64 4607182418800017408 (floatOfInt .f64 (19 - 2 * (j : Int))))

def logS (m : Nat) : Nat := cop .quo .f64 (cop .sub .f64 m 4607182418800017408) (cop .add .f64 m 4607182418800017408)

def logR (m : Nat) (e : Int) : Nat :=
  cop .add .f64 (floatOfInt .f64 e) (cop .quo .f64 (cop .mul .f64 (cop .mul .f64 4611686018427387904 (logS m)) (logP (cop .mul .f64 (logS m) (logS m)) 10)) 4604418534313441775)

/-- The double logarithm of a normal double, with one NaN for all. -/
def logC (x : Nat) : Nat :=
  let m := cop .mul .f64 (cn .f64 (frM x)) 4611686018427387904
  let e := wrap64 (frE x - 1)
  if FloatKind.f64.format.order m 4609047870845172685 == some .gt then logR (cop .mul .f64 m 4602678819172646912) (wrap64 (e + 1)) else logR m e

theorem lit_cn (b : Nat) (h : isN .f64 b = false) : cn .f64 b = b := cn_of_not h
theorem floatOfInt_not_nan (k : FloatKind) (n : Int) : isN k (floatOfInt k n) = false := write_not_nan k (.number (n < 0) n.natAbs 0) rfl
theorem cn_floatOfInt (k : FloatKind) (n : Int) : cn k (floatOfInt k n) = floatOfInt k n := cn_of_not (floatOfInt_not_nan k n)

/-- A run that gives a float whose bits, with one NaN for all, are v; it may have drawn. -/
def GivesF (k : FloatKind) (v : Nat) (w : World) (e : Ending) (w' : World) : Prop := ∃ r n, e = .returned (.float k r) ∧ cn k r = v ∧ w' = w.drewN n


def logQ0 (x : Nat) : Nat := cop .mul .f64 (logS (cop .mul .f64 (cn .f64 (frM x)) 4611686018427387904)) (logS (cop .mul .f64 (cn .f64 (frM x)) 4611686018427387904))
def logQ1 (x : Nat) : Nat := cop .mul .f64 (logS (cop .mul .f64 (cop .mul .f64 (cn .f64 (frM x)) 4611686018427387904) 4602678819172646912)) (logS (cop .mul .f64 (cop .mul .f64 (cn .f64 (frM x)) 4611686018427387904) 4602678819172646912))

theorem logP_succ (q j : Nat) : logP q (j + 1) = cop .add .f64 (cop .mul .f64 (logP q j) q) (cop .quo .f64 4607182418800017408 (floatOfInt .f64 (19 - 2 * (j : Int)))) := rfl

set_option maxRecDepth 100000 in
set_option maxHeartbeats 1000000 in
theorem logn_hi (x : Nat) (h : Norm x) (w : World) (hb : (FloatKind.f64.format.order (fop .mul .f64 (frM x) 4611686018427387904 w) 4609047870845172685 == some .gt) = true) :
    Calls Try.prog 70 #[.float .f64 x] w (GivesF .f64 (logC x) w) := by
  have hc : (FloatKind.f64.format.order (cop .mul .f64 (cn .f64 (frM x)) 4611686018427387904) 4609047870845172685 == some .gt) = true := by
    rw [← hb, ← order_cn .f64 (fop .mul .f64 (frM x) 4611686018427387904 w), cn_fop]; rfl
  have HC := hid hc; clear hc
  go_enter Try.func70, Try.ntmps70
  go_wp2_with (go_at_call 100; refine (frexp_any _ h _).mono ?_; rintro e w' ⟨rfl, rfl⟩)
  go_loopw [8, 9] (fun p k wr => ∃ (j pb n : Nat), j ≤ 10 ∧ k = .int .i64 (19 - 2 * (j : Int)) ∧ p = .float .f64 pb ∧ Hid (cn .f64 pb = logP (logQ1 x) j) ∧ wr = w.drewN n) (fun _ k _ => (intOf k + 1).toNat)
  case atStart => exact ⟨0, _, _, by omega, rfl, rfl, rfl, rfl⟩
  case round =>
    obtain ⟨j, pb, n, hj, rfl, rfl, hp, rfl⟩ := hrel
    by_cases hlt : j < 10
    · have ht : (1 : Int) ≤ 19 - 2 * (j : Int) := by omega
      go_wp2
      go_roundw
      case rel =>
        refine ⟨j + 1, _, _, by omega, by go_num, rfl, ?_, rfl⟩
        show cn _ _ = _
        simp only [cn_fop, cn_floatOfInt, logP_succ, hp.out]
        rfl
      case measure => simp [intOf]; omega
    · obtain rfl : j = 10 := by omega
      go_wp2
      go_ret
      refine ⟨_, _, rfl, ?_, rfl⟩
      simp only [cn_fop, cn_floatOfInt, hp.out]
      unfold logC
      simp only [HC.out]
      rfl

set_option maxRecDepth 100000 in
set_option maxHeartbeats 1000000 in
theorem logn_lo (x : Nat) (h : Norm x) (w : World) (hb : (FloatKind.f64.format.order (fop .mul .f64 (frM x) 4611686018427387904 w) 4609047870845172685 == some .gt) = false) :
    Calls Try.prog 70 #[.float .f64 x] w (GivesF .f64 (logC x) w) := by
  have hc : (FloatKind.f64.format.order (cop .mul .f64 (cn .f64 (frM x)) 4611686018427387904) 4609047870845172685 == some .gt) = false := by
    rw [← hb, ← order_cn .f64 (fop .mul .f64 (frM x) 4611686018427387904 w), cn_fop]; rfl
  have HC := hid hc; clear hc
  go_enter Try.func70, Try.ntmps70
  go_wp2_with (go_at_call 100; refine (frexp_any _ h _).mono ?_; rintro e w' ⟨rfl, rfl⟩)
  go_loopw [8, 9] (fun p k wr => ∃ (j pb n : Nat), j ≤ 10 ∧ k = .int .i64 (19 - 2 * (j : Int)) ∧ p = .float .f64 pb ∧ Hid (cn .f64 pb = logP (logQ0 x) j) ∧ wr = w.drewN n) (fun _ k _ => (intOf k + 1).toNat)
  case atStart => exact ⟨0, _, _, by omega, rfl, rfl, rfl, rfl⟩
  case round =>
    obtain ⟨j, pb, n, hj, rfl, rfl, hp, rfl⟩ := hrel
    by_cases hlt : j < 10
    · have ht : (1 : Int) ≤ 19 - 2 * (j : Int) := by omega
      go_wp2
      go_roundw
      case rel =>
        refine ⟨j + 1, _, _, by omega, by go_num, rfl, ?_, rfl⟩
        show cn _ _ = _
        simp only [cn_fop, cn_floatOfInt, logP_succ, hp.out]
        rfl
      case measure => simp [intOf]; omega
    · obtain rfl : j = 10 := by omega
      go_wp2
      go_ret
      refine ⟨_, _, rfl, ?_, rfl⟩
      simp only [cn_fop, cn_floatOfInt, hp.out]
      unfold logC
      simp only [HC.out]
      rfl

set_option maxRecDepth 100000 in
set_option maxHeartbeats 1000000 in
theorem logr_hi (x : Nat) (h : Norm x) (w : World) (hb : (FloatKind.f64.format.order (fop .mul .f64 (frM x) 4611686018427387904 w) 4609047870845172685 == some .gt) = true) :
    Calls Try.prog 82 #[.float .f64 x] w (GivesF .f64 (logC x) w) := by
  have hc : (FloatKind.f64.format.order (cop .mul .f64 (cn .f64 (frM x)) 4611686018427387904) 4609047870845172685 == some .gt) = true := by
    rw [← hb, ← order_cn .f64 (fop .mul .f64 (frM x) 4611686018427387904 w), cn_fop]; rfl
  have HC := hid hc; clear hc
  go_enter Try.func82, Try.ntmps82
  go_wp2_with (go_at_call 100; refine (frexp_any _ h _).mono ?_; rintro e w' ⟨rfl, rfl⟩)
  go_loopw [7, 8] (fun p k wr => ∃ (j pb n : Nat), j ≤ 10 ∧ k = .int .i64 (19 - 2 * (j : Int)) ∧ p = .float .f64 pb ∧ Hid (cn .f64 pb = logP (logQ1 x) j) ∧ wr = w.drewN n) (fun _ k _ => (intOf k + 1).toNat)
  case atStart => exact ⟨0, _, _, by omega, rfl, rfl, rfl, rfl⟩
  case round =>
    obtain ⟨j, pb, n, hj, rfl, rfl, hp, rfl⟩ := hrel
    by_cases hlt : j < 10
    · have ht : (1 : Int) ≤ 19 - 2 * (j : Int) := by omega
      go_wp2
      go_roundw
      case rel =>
        refine ⟨j + 1, _, _, by omega, by go_num, rfl, ?_, rfl⟩
        show cn _ _ = _
        simp only [cn_fop, cn_floatOfInt, logP_succ, hp.out]
        rfl
      case measure => simp [intOf]; omega
    · obtain rfl : j = 10 := by omega
      go_wp2
      go_ret
      refine ⟨_, _, rfl, ?_, rfl⟩
      simp only [cn_fop, cn_floatOfInt, hp.out]
      unfold logC
      simp only [HC.out]
      rfl

set_option maxRecDepth 100000 in
set_option maxHeartbeats 1000000 in
theorem logr_lo (x : Nat) (h : Norm x) (w : World) (hb : (FloatKind.f64.format.order (fop .mul .f64 (frM x) 4611686018427387904 w) 4609047870845172685 == some .gt) = false) :
    Calls Try.prog 82 #[.float .f64 x] w (GivesF .f64 (logC x) w) := by
  have hc : (FloatKind.f64.format.order (cop .mul .f64 (cn .f64 (frM x)) 4611686018427387904) 4609047870845172685 == some .gt) = false := by
    rw [← hb, ← order_cn .f64 (fop .mul .f64 (frM x) 4611686018427387904 w), cn_fop]; rfl
  have HC := hid hc; clear hc
  go_enter Try.func82, Try.ntmps82
  go_wp2_with (go_at_call 100; refine (frexp_any _ h _).mono ?_; rintro e w' ⟨rfl, rfl⟩)
  go_loopw [7, 8] (fun p k wr => ∃ (j pb n : Nat), j ≤ 10 ∧ k = .int .i64 (19 - 2 * (j : Int)) ∧ p = .float .f64 pb ∧ Hid (cn .f64 pb = logP (logQ0 x) j) ∧ wr = w.drewN n) (fun _ k _ => (intOf k + 1).toNat)
  case atStart => exact ⟨0, _, _, by omega, rfl, rfl, rfl, rfl⟩
  case round =>
    obtain ⟨j, pb, n, hj, rfl, rfl, hp, rfl⟩ := hrel
    by_cases hlt : j < 10
    · have ht : (1 : Int) ≤ 19 - 2 * (j : Int) := by omega
      go_wp2
      go_roundw
      case rel =>
        refine ⟨j + 1, _, _, by omega, by go_num, rfl, ?_, rfl⟩
        show cn _ _ = _
        simp only [cn_fop, cn_floatOfInt, logP_succ, hp.out]
        rfl
      case measure => simp [intOf]; omega
    · obtain rfl : j = 10 := by omega
      go_wp2
      go_ret
      refine ⟨_, _, rfl, ?_, rfl⟩
      simp only [cn_fop, cn_floatOfInt, hp.out]
      unfold logC
      simp only [HC.out]
      rfl

theorem logn_any (x : Nat) (h : Norm x) (w : World) : Calls Try.prog 70 #[.float .f64 x] w (GivesF .f64 (logC x) w) := by
  cases hb : (FloatKind.f64.format.order (fop .mul .f64 (frM x) 4611686018427387904 w) 4609047870845172685 == some .gt) with
  | true => exact logn_hi x h w hb
  | false => exact logn_lo x h w hb
theorem logr_any (x : Nat) (h : Norm x) (w : World) : Calls Try.prog 82 #[.float .f64 x] w (GivesF .f64 (logC x) w) := by
  cases hb : (FloatKind.f64.format.order (fop .mul .f64 (frM x) 4611686018427387904 w) 4609047870845172685 == some .gt) with
  | true => exact logr_hi x h w hb
  | false => exact logr_lo x h w hb
end Go.Proofs.Ytbenjfipbeikmaa
