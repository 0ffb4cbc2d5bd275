/-
  Colours: Ldexp of a normal double.
-/
import Derived.Test.YtcmakibomdinbaaCApart
import Derived.Test.YtcmakibomdinbaaRatQ
namespace Go.Proofs.Ytcmakibomdinbaa
open Go.RowKit
open Ieee (Datum Format signed)

theorem signed_pos (m u : Nat) : Ieee.signed false m u = ((m * 2 ^ u : Nat) : Int) := by
  unfold Ieee.signed; rw [Nat.shiftLeft_eq]; simp

theorem cmp_nat (a b : Nat) : compare (a : Int) (b : Int) = compare a b := by
  rcases Nat.lt_trichotomy a b with h | h | h
  · rw [Nat.compare_eq_lt.2 h, Int.compare_eq_lt.2 (by omega)]
  · rw [h]; simp
  · rw [Nat.compare_eq_gt.2 h, Int.compare_eq_gt.2 (by omega)]

theorem order_pos (m n : Nat) (i j b : Int) (hi : b ≤ i) (hj : b ≤ j) :
    (Datum.number false m i).order (Datum.number false n j) = some (compare (m * 2 ^ (i - b).toNat) (n * 2 ^ (j - b).toNat)) := by
  rw [order_base false false m n i j b hi hj, signed_pos, signed_pos, cmp_nat]

theorem lit_of_cn {k : FloatKind} {r v : Nat} (h : cn k r = v) (hv : isN k v = false ∧ v ≠ qnan k) : r = v := by
  unfold cn at h
  split at h
  · exact absurd h.symm hv.2
  · exact h

theorem isNaN_any (x : Nat) (w : World) : Calls Try.prog 125 #[.float .f64 x] w fun e w' => e = .returned (.bool (isN .f64 x)) ∧ w = w' := by
  have h := hid (ne_self .f64 x)
  go_enter Try.func125, Try.ntmps125
  go_wp2
  go_ret
  exact ⟨by rw [← h.out]; rfl, rfl⟩

def infB (x : Nat) : Bool := FloatKind.f64.format.order (absB x) 9218868437227405311 == some .gt

theorem isInf_any (x : Nat) (w : World) : Calls Try.prog 124 #[.float .f64 x, .int .i64 0] w fun e w' => e = .returned (.bool (infB x)) ∧ w = w' := by
  go_enter Try.func124, Try.ntmps124
  go_wp2_with (go_at_call 17; refine (abs_any _ _).mono ?_; rintro e w' ⟨rfl, rfl⟩)
  go_ret
  exact ⟨rfl, rfl⟩

/-- A normal double: not 0, no NaN, no infinity, not subnormal. -/
structure Norm (x : Nat) : Prop where
  zero : (FloatKind.f64.format.order x 0 == some .eq) = false
  nan : isN .f64 x = false
  inf : infB x = false
  small : (FloatKind.f64.format.order (absB x) 4503599627370496 == some .lt) = false

theorem normalize_any (x : Nat) (h : Norm x) (w : World) : Calls Try.prog 126 #[.float .f64 x] w fun e w' => e = .returned (.tuple #[.float .f64 x, .int .i64 0]) ∧ w = w' := by
  have h1 := h.small
  go_enter Try.func126, Try.ntmps126
  go_wp2_with (go_at_call 17; refine (abs_any _ _).mono ?_; rintro e w' ⟨rfl, rfl⟩)
  go_ret2
  exact ⟨rfl, rfl⟩

/-- A run that gives a float whose bits, with one NaN for all, are v; it may have drawn. -/
def GivesF (k : FloatKind) (v : Nat) (w : World) (e : Ending) (w' : World) : Prop := ∃ r n, e = .returned (.float k r) ∧ cn k r = v ∧ w' = w.drewN n

/-- The bits of a double whose exponent is set to E. -/
def ldB (x : Nat) (E : Int) : Nat := (bits BinOp.or IntKind.u64 (bits BinOp.andNot IntKind.u64 x 9218868437227405312) ((E + 1023) * 4503599627370496)).toNat

set_option maxRecDepth 100000 in
theorem ldexpl_norm (x : Nat) (k E : Int) (h : Norm x) (hE : wrap64 (wrap64 k + wrap64 (bits BinOp.and IntKind.i64 (wrap64 (↑x / 4503599627370496)) 2047 - 1023)) = E) (hlo : -1022 ≤ E) (hhi : E ≤ 1023) (w : World) :
    Calls Try.prog 75 #[.float .f64 x, .int .i64 k] w (GivesF .f64 (cop .mul .f64 4607182418800017408 (cn .f64 (ldB x E))) w) := by
  have h0 := h.zero
  have h1 := h.nan
  have h2 := h.inf
  go_enter Try.func75, Try.ntmps75
  go_wp2_with (first | (go_at_call 124; refine (isInf_any _ _).mono ?_; rintro e w' ⟨rfl, rfl⟩) | (go_at_call 125; refine (isNaN_any _ _).mono ?_; rintro e w' ⟨rfl, rfl⟩) | (go_at_call 126; refine (normalize_any _ h _).mono ?_; rintro e w' ⟨rfl, rfl⟩))
  go_ret
  refine ⟨_, _, rfl, ?_, rfl⟩
  rw [cn_fop]
  rfl

theorem ldexp_norm (x : Nat) (k E : Int) (h : Norm x) (hE : wrap64 (wrap64 k + wrap64 (bits BinOp.and IntKind.i64 (wrap64 (↑x / 4503599627370496)) 2047 - 1023)) = E) (hlo : -1022 ≤ E) (hhi : E ≤ 1023) (w : World) :
    Calls Try.prog 18 #[.float .f64 x, .int .i64 k] w (GivesF .f64 (cop .mul .f64 4607182418800017408 (cn .f64 (ldB x E))) w) := by
  have HE := hid hE; clear hE
  go_enter Try.func18, Try.ntmps18
  go_wp2_with (go_at_call 75; refine (ldexpl_norm _ _ E h HE.out hlo hhi _).mono ?_; rintro e w' ⟨r, n, rfl, hr, rfl⟩)
  go_ret
  exact ⟨_, _, rfl, hr, rfl⟩

/-- A normal double. -/
def xw (j kk : Nat) : Nat := j * 4503599627370496 + kk

/-- Its parts are within their bounds. -/
structure Xw (j kk : Nat) : Prop where
  lo : 4503599627370496 ≤ kk
  hi : kk < 9007199254740992
  top : j ≤ 2045

theorem xw_read {j kk : Nat} (h : Xw j kk) : FloatKind.f64.format.read (xw j kk) = .number false kk (-1074 + (j : Int)) := by
  have hb : FloatKind.f64.format.binade = 4503599627370496 := rfl
  have hi : FloatKind.f64.format.infRung = 2047 * 4503599627370496 := rfl
  have := h.lo; have := h.hi; have := h.top
  have := read_word FloatKind.f64.format false j kk (by rw [hb]; omega) (Or.inr (by rw [hb]; omega)) (by rw [hb, hi]; omega)
  rw [hb] at this
  exact this

theorem xw_lt {j kk : Nat} (h : Xw j kk) : xw j kk < 9218868437227405312 := by
  have := h.lo; have := h.hi; have := h.top
  unfold xw; omega

/-- A number of at most 53 digits, written as a double, is such a double. -/
theorem dbl_xw (k : Nat) (p : Int) (h0 : k ≠ 0) (hl : k.log2 ≤ 52) (hp1 : -1022 ≤ p + k.log2) (hp2 : p + k.log2 ≤ 1023) :
    ∃ q j : Nat, q = 52 - k.log2 ∧ p - (q : Int) = -1074 + (j : Int) ∧ Xw j (k * 2 ^ q) ∧ FloatKind.f64.format.nearest false k p = xw j (k * 2 ^ q) := by
  obtain ⟨q, hq⟩ : ∃ q, q = 52 - k.log2 := ⟨_, rfl⟩
  obtain ⟨j, hj⟩ : ∃ j : Nat, p - (q : Int) = -1074 + (j : Int) := ⟨(p - q + 1074).toNat, by omega⟩
  have hk1 : 4503599627370496 ≤ k * 2 ^ q := by
    have a := Nat.log2_self_le h0
    calc 4503599627370496 = 2 ^ (k.log2 + q) := by rw [show k.log2 + q = 52 by omega]
      _ = 2 ^ k.log2 * 2 ^ q := Nat.pow_add ..
      _ ≤ k * 2 ^ q := Nat.mul_le_mul_right _ a
  have hk2 : k * 2 ^ q < 9007199254740992 := by
    have b := Nat.lt_log2_self (n := k)
    calc k * 2 ^ q < 2 ^ (k.log2 + 1) * 2 ^ q := Nat.mul_lt_mul_of_pos_right b (two_pos q)
      _ = 2 ^ (k.log2 + 1 + q) := (Nat.pow_add ..).symm
      _ = 9007199254740992 := by rw [show k.log2 + 1 + q = 53 by omega]
  refine ⟨q, j, hq, hj, ⟨hk1, hk2, by omega⟩, ?_⟩
  have hfb : FloatKind.f64.format.fractionBits = 52 := rfl
  have hlp : FloatKind.f64.format.leastPlace = -1074 := rfl
  have hb : FloatKind.f64.format.binade = 4503599627370496 := rfl
  have hi : FloatKind.f64.format.infRung = 2047 * 4503599627370496 := rfl
  unfold Format.nearest
  rw [if_neg h0]
  dsimp only
  rw [hfb, hlp, hb, hi]
  have e1 : max (p + (k.log2 : Int) - ((52 : Nat) : Int)) (-1074) = -1074 + (j : Int) := by omega
  rw [e1, show (p - (-1074 + (j : Int))).toNat = q by omega, show (-1074 + (j : Int) - p).toNat = 0 by omega, show (-1074 + (j : Int) - -1074).toNat = j by omega, cut_zero, Nat.shiftLeft_eq]
  rw [Nat.min_eq_left (by omega)]
  unfold Format.word xw
  rw [if_neg (by simp)]

theorem and_top (x : Nat) (h : x < 9223372036854775808) : x &&& 2 ^ 63 = 0 := by
  apply Nat.eq_of_testBit_eq
  intro i
  rw [Nat.testBit_and, Nat.testBit_two_pow, Nat.zero_testBit]
  by_cases hi : 63 = i
  · subst hi
    rw [Nat.testBit_lt_two_pow (by omega : x < 2 ^ 63)]; rfl
  · simp [hi]

theorem wrap_id (n : Int) (a : -9223372036854775808 ≤ n) (b : n ≤ 9223372036854775807) : wrap64 n = n := by unfold wrap64; omega

theorem andNot_exp (x : Nat) (h : x < 9223372036854775808) : bits .andNot .u64 (x : Int) 9218868437227405312 = ((x % 4503599627370496 : Nat) : Int) := by
  have h1 : (BitVec.ofInt 64 (x : Int)) = BitVec.ofNat 64 x := BitVec.ofInt_natCast ..
  have h2 : (BitVec.ofInt 64 (9218868437227405312 : Int)) = BitVec.ofNat 64 9218868437227405312 := rfl
  have e : (BitVec.ofNat 64 x &&& ~~~BitVec.ofNat 64 9218868437227405312).toNat = x % 4503599627370496 := by
    have e1 : ~~~BitVec.ofNat 64 9218868437227405312 = BitVec.ofNat 64 (2 ^ 63 ||| (2 ^ 52 - 1)) := by decide
    have e2 : (2 ^ 63 ||| (2 ^ 52 - 1)) % 2 ^ 64 = 2 ^ 63 ||| (2 ^ 52 - 1) := by decide
    rw [e1, BitVec.toNat_and, BitVec.toNat_ofNat, BitVec.toNat_ofNat, Nat.mod_eq_of_lt (a := x) (by omega), e2, Nat.and_or_distrib_left, Nat.and_two_pow_sub_one_eq_mod, and_top x h, Nat.zero_or]
  show IntKind.u64.wrap ((BitVec.ofInt 64 (x : Int) &&& ~~~BitVec.ofInt 64 (9218868437227405312 : Int)).toNat : Int) = _
  rw [h1, h2, e, IntKind.wrap_u64]
  omega

theorem or_exp (a e : Nat) (ha : a < 4503599627370496) (he : e ≤ 2047) : (bits .or .u64 (a : Int) ((e * 4503599627370496 : Nat) : Int)).toNat = e * 4503599627370496 + a := by
  rw [bits_or_u64_nat a (e * 4503599627370496) (by omega) (by omega), Int.toNat_natCast, Nat.or_comm]
  have := Nat.two_pow_add_eq_or_of_lt (i := 52) (b := a) (by omega) e
  rw [show (2 : Nat) ^ 52 * e = e * 4503599627370496 by rw [Nat.mul_comm]] at this
  omega

theorem xw_mod {j kk : Nat} (h : Xw j kk) : xw j kk % 4503599627370496 = kk - 4503599627370496 := by
  have := h.lo; have := h.hi
  unfold xw; omega
theorem xw_div {j kk : Nat} (h : Xw j kk) : xw j kk / 4503599627370496 = j + 1 := by
  have := h.lo; have := h.hi
  unfold xw; omega

theorem ldB_xw {j kk : Nat} (h : Xw j kk) (i : Nat) (hi : i ≤ 2045) : ldB (xw j kk) ((i : Int) - 1022) = xw i kk := by
  have h0 := h.lo; have h1 := h.hi; have h2 := xw_lt h
  unfold ldB
  rw [andNot_exp _ (by omega), xw_mod h, show ((i : Int) - 1022 + 1023) * 4503599627370496 = (((i + 1) * 4503599627370496 : Nat) : Int) by omega, or_exp _ _ (by omega) (by omega)]
  unfold xw; omega

theorem xw_norm {j kk : Nat} (h : Xw j kk) : Norm (xw j kk) := by
  have h0 := h.lo; have h1 := h.hi; have h2 := xw_lt h; have h3 := h.top
  have ha : absB (xw j kk) = xw j kk := by unfold absB; rw [andNot_top _ (by omega)]; omega
  have hp := two_pos j
  refine ⟨?_, isN_of_read (xw_read h), ?_, ?_⟩
  · have c0 : FloatKind.f64.format.read 0 = .number false 0 (-1074) := by decide +kernel
    unfold Format.order
    rw [xw_read h, c0, order_pos _ _ _ _ (-1074) (by omega) (by omega), Nat.zero_mul, Nat.compare_eq_gt.2 (Nat.mul_pos (by omega) (two_pos _))]
    rfl
  · unfold infB Format.order
    have c0 : FloatKind.f64.format.read 9218868437227405311 = .number false 9007199254740991 971 := by decide +kernel
    rw [ha, xw_read h, c0, order_pos _ _ _ _ (-1074 + (j : Int)) (by omega) (by omega), Bool.eq_false_iff]
    intro hc
    rw [beq_iff_eq, Option.some.injEq, Nat.compare_eq_gt, show (-1074 + (j : Int) - (-1074 + (j : Int))).toNat = 0 by omega, Nat.pow_zero, Nat.mul_one] at hc
    have := Nat.le_mul_of_pos_right 9007199254740991 (two_pos (971 - (-1074 + (j : Int))).toNat)
    omega
  · have c0 : FloatKind.f64.format.read 4503599627370496 = .number false 4503599627370496 (-1074) := by decide +kernel
    unfold Format.order
    rw [ha, xw_read h, c0, order_pos _ _ _ _ (-1074) (by omega) (by omega), Bool.eq_false_iff]
    intro hc
    rw [beq_iff_eq, Option.some.injEq, Nat.compare_eq_lt, show (-1074 - -1074 : Int).toNat = 0 from rfl, Nat.pow_zero, Nat.mul_one] at hc
    have := Nat.le_mul_of_pos_right kk (two_pos (-1074 + (j : Int) - -1074).toNat)
    omega

theorem mul_one_xw {j kk : Nat} (h : Xw j kk) : cop .mul .f64 4607182418800017408 (cn .f64 (xw j kk)) = xw j kk := by
  have c1 : FloatKind.f64.format.read 4607182418800017408 = .number false (1 * 2 ^ 52) (0 - (52 : Nat)) := by decide +kernel
  have hn : isN .f64 (xw j kk) = false := isN_of_read (xw_read h)
  rw [cn_of_not hn]
  unfold cop floatBits Format.mul
  rw [c1, xw_read h]
  simp only [Datum.product, Option.map_some, Option.getD_some, Format.write, Bool.false_xor]
  have e := nearest_shift FloatKind.f64.format false kk (-1074 + (j : Int)) 52
  rw [show 1 * 2 ^ 52 * kk = kk * 2 ^ 52 by rw [Nat.one_mul, Nat.mul_comm], show (0 - ((52 : Nat) : Int) + (-1074 + (j : Int))) = -1074 + (j : Int) - ((52 : Nat) : Int) by omega, e]
  have hl : kk.log2 = 52 := by
    have := h.lo; have := h.hi
    exact (Nat.log2_eq_iff (by omega)).2 ⟨by omega, by omega⟩
  have h3 := h.top
  obtain ⟨q, j', hq, hj, hx, hw⟩ := dbl_xw kk (-1074 + (j : Int)) (by have := h.lo; omega) (by omega) (by omega) (by omega)
  have hq0 : q = 0 := by omega
  subst hq0
  have hjj : j' = j := by omega
  subst hjj
  rw [hw]; simp

theorem ldexp_xw {j kk : Nat} (h : Xw j kk) (k : Int) (i : Nat) (hi : i ≤ 2045) (hk : (j : Int) + k = i) (w : World) :
    Calls Try.prog 18 #[.float .f64 (xw j kk), .int .i64 k] w fun e w' => e = .returned (.float .f64 (xw i kk)) ∧ ∃ n, w' = w.drewN n := by
  have h3 := h.top
  have hE : wrap64 (wrap64 k + wrap64 (bits BinOp.and IntKind.i64 (wrap64 (((xw j kk : Nat) : Int) / 4503599627370496)) 2047 - 1023)) = (i : Int) - 1022 := by
    have e : ((xw j kk : Nat) : Int) / 4503599627370496 = ((j + 1 : Nat) : Int) := by have := xw_div h; omega
    have m : bits .and .i64 ((j + 1 : Nat) : Int) 2047 = ((j + 1 : Nat) : Int) := by
      have := bits_mask .i64 63 (by decide) (fun n h0 h1 => by rw [IntKind.wrap_i64]; omega) 11 (by decide) ((j + 1 : Nat) : Int) (by omega) (by omega)
      rw [show (2 : Int) ^ 11 - 1 = 2047 from rfl] at this
      rw [this]; omega
    rw [e, wrap_id ((j + 1 : Nat) : Int) (by omega) (by omega), m, wrap_id (((j + 1 : Nat) : Int) - 1023) (by omega) (by omega), wrap_id k (by omega) (by omega), wrap_id _ (by omega) (by omega)]
    omega
  refine (ldexp_norm (xw j kk) k ((i : Int) - 1022) (xw_norm h) hE (by omega) (by omega) w).mono ?_
  rintro e w' ⟨r, n, rfl, hr, rfl⟩
  have hx : Xw i kk := ⟨h.lo, h.hi, hi⟩
  rw [ldB_xw h i hi, mul_one_xw hx] at hr
  have hn : isN .f64 (xw i kk) = false := isN_of_read (xw_read hx)
  have hne : xw i kk ≠ qnan .f64 := by have := xw_lt hx; show xw i kk ≠ 9221120237041090560; omega
  rw [lit_of_cn hr ⟨hn, hne⟩]
  exact ⟨rfl, _, rfl⟩

end Go.Proofs.Ytcmakibomdinbaa
