/-
  Doubles as rational numbers; Abs and Ldexp.
-/
import Derived.Test.YthoiiccecneefaaQOff
namespace Go.Proofs.Ythoiiccecneefaa
open Go.RowKit
open Ieee (Datum Format signed)

@[go_sem] theorem cf_from64 (n : Int) (w : World) : (callFunc 63 #[.int .u64 n]).run Try.prog w = .ok (.value (.float .f64 n.toNat)) w :=
  (run_callFunc_extern (e := Extern.MathFloatBits.float64frombits) Try.func63 (by kernel_rfl) (by kernel_rfl) (by kernel_rfl) (by kernel_rfl) _ w).trans rfl
@[go_sem] theorem cf_bits64 (b : Nat) (w : World) : (callFunc 64 #[.float .f64 b]).run Try.prog w = .ok (.value (.int .u64 b)) w :=
  (run_callFunc_extern (e := Extern.MathFloatBits.float64bits) Try.func64 (by kernel_rfl) (by kernel_rfl) (by kernel_rfl) (by kernel_rfl) _ w).trans rfl

def absB (x : Nat) : Nat := (bits .andNot .u64 (x : Int) 9223372036854775808).toNat
set_option maxRecDepth 100000 in
theorem abs_any (x : Nat) (w : World) : Calls Try.prog 15 #[.float .f64 x] w fun e w' => e = .returned (.float .f64 (absB x)) ∧ w = w' := by
  go_enter Try.func15, Try.ntmps15
  go_wp2
  go_ret
  exact ⟨rfl, rfl⟩
theorem abs_fv {x : Nat} {a : Rat} (hx : x < 18446744073709551616) (h : Fv .f64 x a) : Fv .f64 (absB x) (if a < 0 then -a else a) := by
  obtain ⟨s, m, p, hr, rfl⟩ := h
  have e : FloatKind.f64.format.read (absB x) = Datum.abs (FloatKind.f64.format.read x) := by
    unfold absB
    rw [andNot_top _ hx]
    exact read_abs Ieee.double x
  refine ⟨false, m, p, by rw [e, hr]; rfl, ?_⟩
  have hm := mag_nonneg m p
  unfold dv
  cases s
  · simp only [Bool.false_eq_true, if_false]
    rw [if_neg (by grind)]
  · simp only [if_true, Bool.false_eq_true, if_false]
    split
    · grind
    · grind

theorem isNaN_any (x : Nat) (w : World) : Calls Try.prog 112 #[.float .f64 x] w fun e w' => e = .returned (.bool (isN .f64 x)) ∧ w = w' := by
  have h := hid (ne_self .f64 x)
  go_enter Try.func112, Try.ntmps112
  go_wp2
  go_ret
  exact ⟨by rw [← h.out]; rfl, rfl⟩

def infB (x : Nat) : Bool := FloatKind.f64.format.order (absB x) 9218868437227405311 == some .gt

theorem isInf_any (x : Nat) (w : World) : Calls Try.prog 111 #[.float .f64 x, .int .i64 0] w fun e w' => e = .returned (.bool (infB x)) ∧ w = w' := by
  go_enter Try.func111, Try.ntmps111
  go_wp2_with (go_at_call 15; refine (abs_any _ _).mono ?_; rintro e w' ⟨rfl, rfl⟩)
  go_ret
  exact ⟨rfl, rfl⟩

/-- A normal double: not 0, no NaN, no infinity, not subnormal. -/
structure Norm (x : Nat) : Prop where
  zero : (FloatKind.f64.format.order x 0 == some .eq) = false
  nan : isN .f64 x = false
  inf : infB x = false
  small : (FloatKind.f64.format.order (absB x) 4503599627370496 == some .lt) = false

theorem normalize_any (x : Nat) (h : Norm x) (w : World) : Calls Try.prog 113 #[.float .f64 x] w fun e w' => e = .returned (.tuple #[.float .f64 x, .int .i64 0]) ∧ w = w' := by
  have h1 := h.small
  go_enter Try.func113, Try.ntmps113
  go_wp2_with (go_at_call 15; refine (abs_any _ _).mono ?_; rintro e w' ⟨rfl, rfl⟩)
  go_ret2
  exact ⟨rfl, rfl⟩

/-- A run that gives a float whose bits, with one NaN for all, are v; it may have drawn. -/
def GivesF (k : FloatKind) (v : Nat) (w : World) (e : Ending) (w' : World) : Prop := ∃ r n, e = .returned (.float k r) ∧ cn k r = v ∧ w' = w.drewN n

/-- The bits of a double whose exponent is set to E. -/
def ldB (x : Nat) (E : Int) : Nat := (bits BinOp.or IntKind.u64 (bits BinOp.andNot IntKind.u64 x 9218868437227405312) ((E + 1023) * 4503599627370496)).toNat

set_option maxRecDepth 100000 in
theorem ldexpl_norm (x : Nat) (k E : Int) (h : Norm x) (hE : wrap64 (wrap64 k + wrap64 (bits BinOp.and IntKind.i64 (wrap64 (↑x / 4503599627370496)) 2047 - 1023)) = E) (hlo : -1022 ≤ E) (hhi : E ≤ 1023) (w : World) :
    Calls Try.prog 66 #[.float .f64 x, .int .i64 k] w (GivesF .f64 (cop .mul .f64 4607182418800017408 (cn .f64 (ldB x E))) w) := by
  have h0 := h.zero
  have h1 := h.nan
  have h2 := h.inf
  go_enter Try.func66, Try.ntmps66
  go_wp2_with (first | (go_at_call 111; refine (isInf_any _ _).mono ?_; rintro e w' ⟨rfl, rfl⟩) | (go_at_call 112; refine (isNaN_any _ _).mono ?_; rintro e w' ⟨rfl, rfl⟩) | (go_at_call 113; refine (normalize_any _ h _).mono ?_; rintro e w' ⟨rfl, rfl⟩))
  go_ret
  refine ⟨_, _, rfl, ?_, rfl⟩
  rw [cn_fop]
  rfl

theorem ldexp_norm (x : Nat) (k E : Int) (h : Norm x) (hE : wrap64 (wrap64 k + wrap64 (bits BinOp.and IntKind.i64 (wrap64 (↑x / 4503599627370496)) 2047 - 1023)) = E) (hlo : -1022 ≤ E) (hhi : E ≤ 1023) (w : World) :
    Calls Try.prog 16 #[.float .f64 x, .int .i64 k] w (GivesF .f64 (cop .mul .f64 4607182418800017408 (cn .f64 (ldB x E))) w) := by
  have HE := hid hE; clear hE
  go_enter Try.func16, Try.ntmps16
  go_wp2_with (go_at_call 66; refine (ldexpl_norm _ _ E h HE.out hlo hhi _).mono ?_; rintro e w' ⟨r, n, rfl, hr, rfl⟩)
  go_ret
  exact ⟨_, _, rfl, hr, rfl⟩

theorem ldexp_lit (x : Nat) (k E : Int) (v : Nat) (h : Norm x) (hE : wrap64 (wrap64 k + wrap64 (bits BinOp.and IntKind.i64 (wrap64 (↑x / 4503599627370496)) 2047 - 1023)) = E) (hlo : -1022 ≤ E) (hhi : E ≤ 1023) (hv : cop .mul .f64 4607182418800017408 (cn .f64 (ldB x E)) = v) (w : World) :
    Calls Try.prog 16 #[.float .f64 x, .int .i64 k] w (GivesF .f64 v w) := hv ▸ ldexp_norm x k E h hE hlo hhi w

theorem norm1 : Norm 4607182418800017408 := ⟨by decide +kernel, by decide +kernel, by decide +kernel, by decide +kernel⟩
theorem norm8 : Norm 4620693217682128896 := ⟨by decide +kernel, by decide +kernel, by decide +kernel, by decide +kernel⟩


/-- Within 2^-40 of what bounds it, and 2^-40. -/
def NearD (q x : Rat) : Prop := ∀ B : Rat, -B ≤ x → x ≤ B → 1099511627776 * (q - x) ≤ B + 1 ∧ 1099511627776 * (x - q) ≤ B + 1

theorem near64 (neg : Bool) (m : Nat) (p : Int) (h : (m : Rat) * pw p < pw 1000) :
    ∃ k e, FloatKind.f64.format.read (FloatKind.f64.format.nearest neg m p) = .number neg k e ∧ 1099511627776 * ((k : Rat) * pw e - (m : Rat) * pw p) ≤ (m : Rat) * pw p + 1 ∧ 1099511627776 * ((m : Rat) * pw p - (k : Rat) * pw e) ≤ (m : Rat) * pw p + 1 := by
  by_cases h0 : m = 0
  · subst h0
    have e : FloatKind.f64.format.nearest neg 0 p = FloatKind.f64.format.word neg 0 := by simp [Format.nearest]
    refine ⟨0, -1074, ?_, ?_⟩
    · rw [e, read_zero _ _ (by decide)]; rfl
    · simp only [Rat.natCast_ofNat, Rat.zero_mul]
      grind
  · have hfb : FloatKind.f64.format.fractionBits = 52 := rfl
    have hlp : FloatKind.f64.format.leastPlace = -1074 := rfl
    have heb : (2 : Int) ^ FloatKind.f64.format.exponentBits = 2048 := rfl
    have hl := log2_bound h0 h
    obtain ⟨last, hlast⟩ : ∃ last, last = max (p + (m.log2 : Int) - (FloatKind.f64.format.fractionBits : Int)) FloatKind.f64.format.leastPlace := ⟨_, rfl⟩
    obtain ⟨k, e, hread, h1, h2, h3⟩ := near_gen FloatKind.f64.format neg m p last h0 hlast (by rw [heb, hfb, hlp]; omega) (by rw [heb]; decide)
    rw [hfb, hlp] at hlast
    have hm : (4503599627370496 : Rat) * pw (p + m.log2 - 52) ≤ (m : Rat) * pw p := by
      have a1 : ((2 ^ m.log2 : Nat) : Rat) ≤ (m : Rat) := Rat.natCast_le_natCast.2 (Nat.log2_self_le h0)
      have a2 := Rat.mul_le_mul_of_nonneg_right a1 (Rat.le_of_lt (pw_pos p))
      have a3 : ((2 ^ m.log2 : Nat) : Rat) * pw p = pw 52 * pw (p + m.log2 - 52) := by
        rw [← pw_add, show (52 : Int) + (p + m.log2 - 52) = p + m.log2 by omega, pw_add, pw_nat]; grind
      have a4 : pw 52 = 4503599627370496 := by unfold pw; decide +kernel
      rw [a3, a4] at a2
      exact a2
    have hp : pw (-1074) ≤ pw (-50) := pw_le (by decide)
    have hp2 : pw (-50) * 1125899906842624 = 1 := by unfold pw; decide +kernel
    have hq := pw_pos (p + m.log2 - 52)
    have hz := mag_nonneg m p
    refine ⟨k, e, hread, ?_⟩
    by_cases hc : p + (m.log2 : Int) - 52 ≤ -1074
    · have : last = -1074 := by omega
      subst this
      refine ⟨by grind, by grind⟩
    · have : last = p + (m.log2 : Int) - 52 := by omega
      rw [this] at h1 h2
      refine ⟨by grind, by grind⟩

theorem fv64 (neg : Bool) (m : Nat) (p : Int) (h1 : -pw 1000 < dv neg m p) (h2 : dv neg m p < pw 1000) :
    ∃ q, Fv .f64 (FloatKind.f64.format.nearest neg m p) q ∧ NearD q (dv neg m p) := by
  have hm := mag_nonneg m p
  have hlt : (m : Rat) * pw p < pw 1000 := by
    unfold dv at h1 h2
    cases neg
    · simpa using h2
    · simp at h1 h2
      grind
  obtain ⟨k, e, hread, a1, a2⟩ := near64 neg m p hlt
  refine ⟨dv neg k e, ⟨_, _, _, hread, rfl⟩, ?_⟩
  unfold dv NearD
  generalize (m : Rat) * pw p = M at *
  generalize (k : Rat) * pw e = K at *
  intro B b1 b2
  cases neg
  · simp only [Bool.false_eq_true, if_false] at b1 b2 ⊢
    constructor <;> grind
  · simp only [if_true] at b1 b2 ⊢
    constructor <;> grind

theorem dadd {x y : Nat} {a b : Rat} (hx : Fv .f64 x a) (hy : Fv .f64 y b) (h1 : -pw 1000 < a + b) (h2 : a + b < pw 1000) : ∃ q, Fv .f64 (cop .add .f64 x y) q ∧ NearD q (a + b) := by
  obtain ⟨s, m, i, hr, rfl⟩ := hx
  obtain ⟨t, n, j, hr', rfl⟩ := hy
  obtain ⟨u, M, hs, hv⟩ := sum_val s t m n i j
  rw [← hv] at h1 h2 ⊢
  obtain ⟨q, hq, hn⟩ := fv64 u M (min i j) h1 h2
  refine ⟨q, ?_, hn⟩
  rw [cop_some (r := FloatKind.f64.format.nearest u M (min i j))]
  · exact hq
  · show FloatKind.f64.format.add x y = _
    unfold Format.add
    rw [hr, hr', hs]; rfl

theorem dsub {x y : Nat} {a b : Rat} (hx : Fv .f64 x a) (hy : Fv .f64 y b) (h1 : -pw 1000 < a - b) (h2 : a - b < pw 1000) : ∃ q, Fv .f64 (cop .sub .f64 x y) q ∧ NearD q (a - b) := by
  obtain ⟨s, m, i, hr, rfl⟩ := hx
  obtain ⟨t, n, j, hr', rfl⟩ := hy
  obtain ⟨u, M, hs, hv⟩ := sum_val s (!t) m n i j
  have e : dv s m i - dv t n j = dv s m i + dv (!t) n j := by rw [dv_neg]; grind
  rw [e] at h1 h2 ⊢
  rw [← hv] at h1 h2 ⊢
  obtain ⟨q, hq, hn⟩ := fv64 u M (min i j) h1 h2
  refine ⟨q, ?_, hn⟩
  rw [cop_some (r := FloatKind.f64.format.nearest u M (min i j))]
  · exact hq
  · show FloatKind.f64.format.sub x y = _
    unfold Format.sub
    rw [hr, hr']
    show ((Datum.number s m i).sum (Datum.number (!t) n j)).map _ = _
    rw [hs]; rfl

theorem dmul {x y : Nat} {a b : Rat} (hx : Fv .f64 x a) (hy : Fv .f64 y b) (h1 : -pw 1000 < a * b) (h2 : a * b < pw 1000) : ∃ q, Fv .f64 (cop .mul .f64 x y) q ∧ NearD q (a * b) := by
  obtain ⟨s, m, i, hr, rfl⟩ := hx
  obtain ⟨t, n, j, hr', rfl⟩ := hy
  have e : dv s m i * dv t n j = dv (s ^^ t) (m * n) (i + j) := by
    have e2 : ((m * n : Nat) : Rat) * pw (i + j) = ((m : Rat) * pw i) * ((n : Rat) * pw j) := by rw [pw_add, Rat.natCast_mul]; grind
    unfold dv
    rw [e2]
    cases s <;> cases t <;> simp <;> grind
  rw [e] at h1 h2 ⊢
  obtain ⟨q, hq, hn⟩ := fv64 (s ^^ t) (m * n) (i + j) h1 h2
  refine ⟨q, ?_, hn⟩
  rw [cop_some (r := FloatKind.f64.format.nearest (s ^^ t) (m * n) (i + j))]
  · exact hq
  · show FloatKind.f64.format.mul x y = _
    unfold Format.mul
    rw [hr, hr']; rfl

theorem wid_fv {v : Nat} {a : Rat} (h : Fv .f32 v a) : Fv .f64 (wid v) a := by
  obtain ⟨s, m, p, hr, rfl⟩ := h
  obtain ⟨q, p', hw, hpp⟩ := wid_num hr
  refine ⟨s, m * 2 ^ q, p' - q, hw, ?_⟩
  rw [dv_shift, show p' - (q : Int) + q = p' by omega]
  by_cases h0 : m = 0
  · subst h0; rw [dv_zero, dv_zero]
  · rw [hpp h0]

/-- A quotient by 64 is a product with 1 / 64. -/
theorem quo64_eq (u : Nat) (h : isN .f64 u = false) : ∃ r, floatBits .mul .f64 u 4580160821035794432 = some r ∧ floatBits .quo .f64 u 4634204016564240384 = some r := by
  have c1 : FloatKind.f64.format.read 4580160821035794432 = .number false 4503599627370496 (-58) := by decide +kernel
  have c2 : FloatKind.f64.format.read 4634204016564240384 = .number false 4503599627370496 (-46) := by decide +kernel
  unfold isN at h
  simp only [floatBits, Ieee.Format.mul, Ieee.Format.div, c1, c2]
  cases hd : FloatKind.f64.format.read u with
  | nan s t => rw [hd] at h; cases h
  | infinity s => exact ⟨_, rfl, rfl⟩
  | number s m i =>
    have hm : m < 9007199254740992 := read_lt _ _ hd
    refine ⟨_, rfl, ?_⟩
    have hl : m.log2 ≤ 52 := by
      by_cases h0 : m = 0
      · subst h0; decide
      · have := (Nat.log2_lt h0 (k := 53)).2 hm
        omega
    simp only [Ieee.Datum.quotient]
    rw [if_neg (by decide)]
    simp only [Option.map_some]
    congr 1
    have hfb : FloatKind.f64.format.fractionBits = 52 := rfl
    rw [hfb, show Nat.log2 4503599627370496 = 52 from by decide +kernel, Nat.shiftLeft_eq]
    obtain ⟨q, hq⟩ : ∃ q, 52 + 2 + 52 - m.log2 = q + 52 := ⟨54 - m.log2, by omega⟩
    rw [hq]
    have hdvd : m * 2 ^ (q + 52) = (m * 2 ^ q) * 4503599627370496 := by rw [Nat.pow_add, Nat.mul_assoc]
    rw [hdvd, Nat.mul_div_cancel _ (by decide), Nat.mul_mod_left]
    simp only [Ieee.Format.write]
    have e1 := nearest_shift FloatKind.f64.format (s ^^ false) m (i - 6) (q + 1)
    have e2 := nearest_shift FloatKind.f64.format (s ^^ false) m (i - 6) 52
    have g1 : 2 * (m * 2 ^ q) + (0 != 0 : Bool).toNat = m * 2 ^ (q + 1) := by rw [Nat.pow_succ]; simp; rw [Nat.mul_comm 2, Nat.mul_assoc]
    rw [g1, show i - -46 - ((q + 52 : Nat) : Int) - 1 = i - 6 - ((q + 1 : Nat) : Int) by push_cast; omega, e1, ← e2, show i - 6 - ((52 : Nat) : Int) = i + -58 by omega]
end Go.Proofs.Ythoiiccecneefaa
