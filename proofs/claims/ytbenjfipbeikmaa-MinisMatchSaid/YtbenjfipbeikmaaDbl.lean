/-
  Normal doubles as 'kk * 2 ^ (j - 1074)' with 53 digits in kk: what they are read as, Frexp and Ldexp of them; what is read of a number that was rounded.
-/
import Derived.Test.YtbenjfipbeikmaaNear
namespace Go.Proofs.Ytbenjfipbeikmaa
open Go.RowKit
open Ieee (Datum Format signed)

/-- What is read of the word that is nearest to a number: the digits kept, at their place (a carry moves the place). -/
theorem nearest_read (f : Format) (neg : Bool) (m : Nat) (p : Int) (h0 : m ≠ 0) (last : Int) (kept : Nat) (hlast : last = max (p + (m.log2 : Int) - (f.fractionBits : Int)) f.leastPlace)
    (hkept : kept = Ieee.Toward.even.cut neg (m <<< (p - last).toNat) (last - p).toNat) (hk : kept ≤ 2 * f.binade) (hkl : last = f.leastPlace ∨ f.binade ≤ kept)
    (hfin : (last - f.leastPlace).toNat * f.binade + kept < f.infRung) :
    ∃ k : Nat, ∃ c : Nat, f.read (f.nearest neg m p) = .number neg k (last + c) ∧ k * 2 ^ c = kept := by
  have hB : 0 < f.binade := two_pos _
  have hw : f.nearest neg m p = f.word neg ((last - f.leastPlace).toNat * f.binade + kept) := by
    unfold Format.nearest
    rw [if_neg h0]
    dsimp only
    rw [← hlast, ← hkept, Nat.min_eq_left (by omega)]
  have hge : f.leastPlace ≤ last := by rw [hlast]; omega
  by_cases hc : kept = 2 * f.binade
  · have e : (last - f.leastPlace).toNat * f.binade + kept = ((last - f.leastPlace).toNat + 1) * f.binade + f.binade := by rw [hc, Nat.add_mul]; omega
    rw [e] at hw hfin
    refine ⟨f.binade, 1, ?_, by omega⟩
    rw [hw, read_word f neg _ _ (by omega) (Or.inr (Nat.le_refl _)) hfin]
    congr 1; omega
  · refine ⟨kept, 0, ?_, by omega⟩
    rw [hw, read_word f neg _ _ (by omega) (by rcases hkl with h | h; · left; omega
                                               · right; exact h) hfin]
    congr 1; omega

/-- The nearest whole number of n / 2 ^ d, between two the even one. -/
theorem cut_even (neg : Bool) (n d : Nat) : Ieee.Toward.even.cut neg n d = n / 2 ^ d + (decide (2 ^ d < 2 * (n % 2 ^ d)) || (decide (2 ^ d = 2 * (n % 2 ^ d)) && decide (n / 2 ^ d % 2 = 1))).toNat := by
  unfold Ieee.Toward.cut
  simp only [Nat.one_shiftLeft]
  have conv : ∀ D : Nat, n / D + (decide (D < 2 * (n % D)) || D == 2 * (n % D) && n / D % 2 == 1).toNat = n / D + (decide (D < 2 * (n % D)) || (decide (D = 2 * (n % D)) && decide (n / D % 2 = 1))).toNat := by
    intro D
    have e : (decide (D < 2 * (n % D)) || D == 2 * (n % D) && n / D % 2 == 1) = (decide (D < 2 * (n % D)) || (decide (D = 2 * (n % D)) && decide (n / D % 2 = 1))) := by rw [Bool.eq_iff_iff]; simp
    rw [e]
  by_cases h : d ≤ n.log2 + 2
  · rw [Nat.min_eq_left h]; exact conv _
  · have hn : n < 2 ^ (n.log2 + 1) := Nat.lt_log2_self
    have h1 : 2 ^ (n.log2 + 2) = 2 * 2 ^ (n.log2 + 1) := by rw [Nat.pow_succ', ]
    have h2 : 2 ^ (n.log2 + 2) ≤ 2 ^ d := Nat.pow_le_pow_right (by decide) (by omega)
    rw [Nat.min_eq_right (by omega)]
    rw [conv]
    rw [Nat.div_eq_of_lt (a := n) (b := 2 ^ (n.log2 + 2)) (by omega), Nat.div_eq_of_lt (a := n) (b := 2 ^ d) (by omega), Nat.mod_eq_of_lt (a := n) (b := 2 ^ (n.log2 + 2)) (by omega), Nat.mod_eq_of_lt (a := n) (b := 2 ^ d) (by omega)]
    rw [decide_eq_false (p := 2 ^ (n.log2 + 2) < 2 * n) (by omega), decide_eq_false (p := 2 ^ d < 2 * n) (by omega), decide_eq_false (p := 2 ^ (n.log2 + 2) = 2 * n) (by omega), decide_eq_false (p := 2 ^ d = 2 * n) (by omega)]

/-- A normal double. -/
def xw (j kk : Nat) : Nat := j * 4503599627370496 + kk

/-- Its parts are within their bounds. -/
structure Xw (j kk : Nat) : Prop where
  lo : 4503599627370496 ≤ kk
  hi : kk < 9007199254740992
  top : j ≤ 2045

theorem xw_read {j kk : Nat} (h : Xw j kk) : FloatKind.f64.format.read (xw j kk) = .number false kk (-1074 + (j : Int)) := by
  have hb : FloatKind.f64.format.binade = 4503599627370496 := rfl
  have hi : FloatKind.f64.format.infRung = 2047 * 4503599627370496 := rfl
  have := h.lo; have := h.hi; have := h.top
  have := read_word FloatKind.f64.format false j kk (by rw [hb]; omega) (Or.inr (by rw [hb]; omega)) (by rw [hb, hi]; omega)
  rw [hb] at this
  exact this

theorem xw_lt {j kk : Nat} (h : Xw j kk) : xw j kk < 9218868437227405312 := by
  have := h.lo; have := h.hi; have := h.top
  unfold xw; omega

/-- A number of at most 53 digits, written as a double, is such a double. -/
theorem dbl_xw (k : Nat) (p : Int) (h0 : k ≠ 0) (hl : k.log2 ≤ 52) (hp1 : -1022 ≤ p + k.log2) (hp2 : p + k.log2 ≤ 1023) :
    ∃ q j : Nat, q = 52 - k.log2 ∧ p - (q : Int) = -1074 + (j : Int) ∧ Xw j (k * 2 ^ q) ∧ FloatKind.f64.format.nearest false k p = xw j (k * 2 ^ q) := by
  obtain ⟨q, hq⟩ : ∃ q, q = 52 - k.log2 := ⟨_, rfl⟩
  obtain ⟨j, hj⟩ : ∃ j : Nat, p - (q : Int) = -1074 + (j : Int) := ⟨(p - q + 1074).toNat, by omega⟩
  have hk1 : 4503599627370496 ≤ k * 2 ^ q := by
    have a := Nat.log2_self_le h0
    calc 4503599627370496 = 2 ^ (k.log2 + q) := by rw [show k.log2 + q = 52 by omega]
      _ = 2 ^ k.log2 * 2 ^ q := Nat.pow_add ..
      _ ≤ k * 2 ^ q := Nat.mul_le_mul_right _ a
  have hk2 : k * 2 ^ q < 9007199254740992 := by
    have b := Nat.lt_log2_self (n := k)
    calc k * 2 ^ q < 2 ^ (k.log2 + 1) * 2 ^ q := Nat.mul_lt_mul_of_pos_right b (two_pos q)
      _ = 2 ^ (k.log2 + 1 + q) := (Nat.pow_add ..).symm
      _ = 9007199254740992 := by rw [show k.log2 + 1 + q = 53 by omega]
  refine ⟨q, j, hq, hj, ⟨hk1, hk2, by omega⟩, ?_⟩
  have hfb : FloatKind.f64.format.fractionBits = 52 := rfl
  have hlp : FloatKind.f64.format.leastPlace = -1074 := rfl
  have hb : FloatKind.f64.format.binade = 4503599627370496 := rfl
  have hi : FloatKind.f64.format.infRung = 2047 * 4503599627370496 := rfl
  unfold Format.nearest
  rw [if_neg h0]
  dsimp only
  rw [hfb, hlp, hb, hi]
  have e1 : max (p + (k.log2 : Int) - ((52 : Nat) : Int)) (-1074) = -1074 + (j : Int) := by omega
  rw [e1, show (p - (-1074 + (j : Int))).toNat = q by omega, show (-1074 + (j : Int) - p).toNat = 0 by omega, show (-1074 + (j : Int) - -1074).toNat = j by omega, cut_zero, Nat.shiftLeft_eq]
  rw [Nat.min_eq_left (by omega)]
  unfold Format.word xw
  rw [if_neg (by simp)]

theorem and_top (x : Nat) (h : x < 9223372036854775808) : x &&& 2 ^ 63 = 0 := by
  apply Nat.eq_of_testBit_eq
  intro i
  rw [Nat.testBit_and, Nat.testBit_two_pow, Nat.zero_testBit]
  by_cases hi : 63 = i
  · subst hi
    rw [Nat.testBit_lt_two_pow (by omega : x < 2 ^ 63)]; rfl
  · simp [hi]

theorem wrap_id (n : Int) (a : -9223372036854775808 ≤ n) (b : n ≤ 9223372036854775807) : wrap64 n = n := by unfold wrap64; omega

theorem andNot_exp (x : Nat) (h : x < 9223372036854775808) : bits .andNot .u64 (x : Int) 9218868437227405312 = ((x % 4503599627370496 : Nat) : Int) := by
  have h1 : (BitVec.ofInt 64 (x : Int)) = BitVec.ofNat 64 x := BitVec.ofInt_natCast ..
  have h2 : (BitVec.ofInt 64 (9218868437227405312 : Int)) = BitVec.ofNat 64 9218868437227405312 := rfl
  have e : (BitVec.ofNat 64 x &&& ~~~BitVec.ofNat 64 9218868437227405312).toNat = x % 4503599627370496 := by
    have e1 : ~~~BitVec.ofNat 64 9218868437227405312 = BitVec.ofNat 64 (2 ^ 63 ||| (2 ^ 52 - 1)) := by decide
    have e2 : (2 ^ 63 ||| (2 ^ 52 - 1)) % 2 ^ 64 = 2 ^ 63 ||| (2 ^ 52 - 1) := by decide
    rw [e1, BitVec.toNat_and, BitVec.toNat_ofNat, BitVec.toNat_ofNat, Nat.mod_eq_of_lt (a := x) (by omega), e2, Nat.and_or_distrib_left, Nat.and_two_pow_sub_one_eq_mod, and_top x h, Nat.zero_or]
  show IntKind.u64.wrap ((BitVec.ofInt 64 (x : Int) &&& ~~~BitVec.ofInt 64 (9218868437227405312 : Int)).toNat : Int) = _
  rw [h1, h2, e, IntKind.wrap_u64]
  omega

theorem or_exp (a e : Nat) (ha : a < 4503599627370496) (he : e ≤ 2047) : (bits .or .u64 (a : Int) ((e * 4503599627370496 : Nat) : Int)).toNat = e * 4503599627370496 + a := by
  rw [bits_or_u64_nat a (e * 4503599627370496) (by omega) (by omega), Int.toNat_natCast, Nat.or_comm]
  have := Nat.two_pow_add_eq_or_of_lt (i := 52) (b := a) (by omega) e
  rw [show (2 : Nat) ^ 52 * e = e * 4503599627370496 by rw [Nat.mul_comm]] at this
  omega

theorem xw_mod {j kk : Nat} (h : Xw j kk) : xw j kk % 4503599627370496 = kk - 4503599627370496 := by
  have := h.lo; have := h.hi
  unfold xw; omega
theorem xw_div {j kk : Nat} (h : Xw j kk) : xw j kk / 4503599627370496 = j + 1 := by
  have := h.lo; have := h.hi
  unfold xw; omega

theorem frM_xw {j kk : Nat} (h : Xw j kk) : frM (xw j kk) = xw 1021 kk := by
  have h0 := h.lo; have h1 := h.hi; have h2 := xw_lt h
  unfold frM
  rw [andNot_exp _ (by omega), xw_mod h, show (4602678819172646912 : Int) = ((1022 * 4503599627370496 : Nat) : Int) from rfl, or_exp _ _ (by omega) (by decide)]
  unfold xw; omega

theorem frE_xw {j kk : Nat} (h : Xw j kk) : frE (xw j kk) = (j : Int) - 1021 := by
  have h0 := h.top
  unfold frE
  have e : ((xw j kk : Nat) : Int) / 4503599627370496 = ((j + 1 : Nat) : Int) := by have := xw_div h; omega
  have m : bits .and .u64 ((j + 1 : Nat) : Int) 2047 = ((j + 1 : Nat) : Int) := by
    have := bits_mask .u64 63 (by decide) (fun n h0 h1 => by rw [IntKind.wrap_u64]; omega) 11 (by decide) ((j + 1 : Nat) : Int) (by omega) (by omega)
    rw [show (2 : Int) ^ 11 - 1 = 2047 from rfl] at this
    rw [this]; omega
  rw [e, m]
  rw [wrap_id ((j + 1 : Nat) : Int) (by omega) (by omega), wrap_id (((j + 1 : Nat) : Int) - 1023) (by omega) (by omega), wrap_id (((j + 1 : Nat) : Int) - 1023 + 1) (by omega) (by omega), wrap_id _ (by omega) (by omega)]
  omega

theorem ldB_xw {j kk : Nat} (h : Xw j kk) (i : Nat) (hi : i ≤ 2045) : ldB (xw j kk) ((i : Int) - 1022) = xw i kk := by
  have h0 := h.lo; have h1 := h.hi; have h2 := xw_lt h
  unfold ldB
  rw [andNot_exp _ (by omega), xw_mod h, show ((i : Int) - 1022 + 1023) * 4503599627370496 = (((i + 1) * 4503599627370496 : Nat) : Int) by omega, or_exp _ _ (by omega) (by omega)]
  unfold xw; omega

theorem xw_norm {j kk : Nat} (h : Xw j kk) : Norm (xw j kk) := by
  have h0 := h.lo; have h1 := h.hi; have h2 := xw_lt h; have h3 := h.top
  have ha : absB (xw j kk) = xw j kk := by unfold absB; rw [andNot_top _ (by omega)]; omega
  have hp := two_pos j
  refine ⟨?_, isN_of_read (xw_read h), ?_, ?_⟩
  · have c0 : FloatKind.f64.format.read 0 = .number false 0 (-1074) := by decide +kernel
    unfold Format.order
    rw [xw_read h, c0, order_pos _ _ _ _ (-1074) (by omega) (by omega), Nat.zero_mul, Nat.compare_eq_gt.2 (Nat.mul_pos (by omega) (two_pos _))]
    rfl
  · unfold infB Format.order
    have c0 : FloatKind.f64.format.read 9218868437227405311 = .number false 9007199254740991 971 := by decide +kernel
    rw [ha, xw_read h, c0, order_pos _ _ _ _ (-1074 + (j : Int)) (by omega) (by omega), Bool.eq_false_iff]
    intro hc
    rw [beq_iff_eq, Option.some.injEq, Nat.compare_eq_gt, show (-1074 + (j : Int) - (-1074 + (j : Int))).toNat = 0 by omega, Nat.pow_zero, Nat.mul_one] at hc
    have := Nat.le_mul_of_pos_right 9007199254740991 (two_pos (971 - (-1074 + (j : Int))).toNat)
    omega
  · have c0 : FloatKind.f64.format.read 4503599627370496 = .number false 4503599627370496 (-1074) := by decide +kernel
    unfold Format.order
    rw [ha, xw_read h, c0, order_pos _ _ _ _ (-1074) (by omega) (by omega), Bool.eq_false_iff]
    intro hc
    rw [beq_iff_eq, Option.some.injEq, Nat.compare_eq_lt, show (-1074 - -1074 : Int).toNat = 0 from rfl, Nat.pow_zero, Nat.mul_one] at hc
    have := Nat.le_mul_of_pos_right kk (two_pos (-1074 + (j : Int) - -1074).toNat)
    omega

theorem mul_one_xw {j kk : Nat} (h : Xw j kk) : cop .mul .f64 4607182418800017408 (cn .f64 (xw j kk)) = xw j kk := by
  have c1 : FloatKind.f64.format.read 4607182418800017408 = .number false (1 * 2 ^ 52) (0 - (52 : Nat)) := by decide +kernel
  have hn : isN .f64 (xw j kk) = false := isN_of_read (xw_read h)
  rw [cn_of_not hn]
  unfold cop floatBits Format.mul
  rw [c1, xw_read h]
  simp only [Datum.product, Option.map_some, Option.getD_some, Format.write, Bool.false_xor]
  have e := nearest_shift FloatKind.f64.format false kk (-1074 + (j : Int)) 52
  rw [show 1 * 2 ^ 52 * kk = kk * 2 ^ 52 by rw [Nat.one_mul, Nat.mul_comm], show (0 - ((52 : Nat) : Int) + (-1074 + (j : Int))) = -1074 + (j : Int) - ((52 : Nat) : Int) by omega, e]
  have hl : kk.log2 = 52 := by
    have := h.lo; have := h.hi
    exact (Nat.log2_eq_iff (by omega)).2 ⟨by omega, by omega⟩
  have h3 := h.top
  obtain ⟨q, j', hq, hj, hx, hw⟩ := dbl_xw kk (-1074 + (j : Int)) (by have := h.lo; omega) (by omega) (by omega) (by omega)
  have hq0 : q = 0 := by omega
  subst hq0
  have hjj : j' = j := by omega
  subst hjj
  rw [hw]; simp

theorem frexp_xw {j kk : Nat} (h : Xw j kk) (w : World) : Calls Try.prog 100 #[.float .f64 (xw j kk)] w fun e w' => e = .returned (.tuple #[.float .f64 (xw 1021 kk), .int .i64 ((j : Int) - 1021)]) ∧ w = w' := by
  have := frexp_any (xw j kk) (xw_norm h) w
  rw [frM_xw h, frE_xw h] at this
  exact this

theorem ldexp_xw {j kk : Nat} (h : Xw j kk) (k : Int) (i : Nat) (hi : i ≤ 2045) (hk : (j : Int) + k = i) (w : World) :
    Calls Try.prog 14 #[.float .f64 (xw j kk), .int .i64 k] w fun e w' => e = .returned (.float .f64 (xw i kk)) ∧ ∃ n, w' = w.drewN n := by
  have h3 := h.top
  have hE : wrap64 (wrap64 k + wrap64 (bits BinOp.and IntKind.i64 (wrap64 (((xw j kk : Nat) : Int) / 4503599627370496)) 2047 - 1023)) = (i : Int) - 1022 := by
    have e : ((xw j kk : Nat) : Int) / 4503599627370496 = ((j + 1 : Nat) : Int) := by have := xw_div h; omega
    have m : bits .and .i64 ((j + 1 : Nat) : Int) 2047 = ((j + 1 : Nat) : Int) := by
      have := bits_mask .i64 63 (by decide) (fun n h0 h1 => by rw [IntKind.wrap_i64]; omega) 11 (by decide) ((j + 1 : Nat) : Int) (by omega) (by omega)
      rw [show (2 : Int) ^ 11 - 1 = 2047 from rfl] at this
      rw [this]; omega
    rw [e, wrap_id ((j + 1 : Nat) : Int) (by omega) (by omega), m, wrap_id (((j + 1 : Nat) : Int) - 1023) (by omega) (by omega), wrap_id k (by omega) (by omega), wrap_id _ (by omega) (by omega)]
    omega
  refine (ldexp_norm (xw j kk) k ((i : Int) - 1022) (xw_norm h) hE (by omega) (by omega) w).mono ?_
  rintro e w' ⟨r, n, rfl, hr, rfl⟩
  have hx : Xw i kk := ⟨h.lo, h.hi, hi⟩
  rw [ldB_xw h i hi, mul_one_xw hx] at hr
  have hn : isN .f64 (xw i kk) = false := isN_of_read (xw_read hx)
  have hne : xw i kk ≠ qnan .f64 := by have := xw_lt hx; show xw i kk ≠ 9221120237041090560; omega
  rw [lit_of_cn hr ⟨hn, hne⟩]
  exact ⟨rfl, _, rfl⟩

/-- x is the double of the number A * 2 ^ -1074, A not below 0. -/
def Pos (x A : Nat) : Prop := ∃ kk j : Nat, FloatKind.f64.format.read x = .number false kk (-1074 + (j : Int)) ∧ A = kk * 2 ^ j

theorem pos_not_nan {x A : Nat} (h : Pos x A) : isN .f64 x = false := by obtain ⟨kk, j, hr, _⟩ := h; exact isN_of_read hr

theorem pos_order {x y A B : Nat} (hx : Pos x A) (hy : Pos y B) : FloatKind.f64.format.order x y = some (compare A B) := by
  obtain ⟨k, i, hr, rfl⟩ := hx
  obtain ⟨n, j, hs, rfl⟩ := hy
  unfold Format.order
  rw [hr, hs, order_pos _ _ _ _ (-1074) (by omega) (by omega), show (-1074 + (i : Int) - -1074).toNat = i by omega, show (-1074 + (j : Int) - -1074).toNat = j by omega]

/-- The double that is nearest to D * 2 ^ -1074. -/
def dN (D : Nat) : Nat := FloatKind.f64.format.nearest false D (-1074)

theorem dN_zero : dN 0 = 0 := by decide +kernel

theorem pos_sub {x y A B : Nat} (hx : Pos x A) (hy : Pos y B) (h : B ≤ A) : cop .sub .f64 x y = dN (A - B) := by
  obtain ⟨k, i, hr, rfl⟩ := hx
  obtain ⟨n, j, hs, rfl⟩ := hy
  unfold cop floatBits Format.sub dN
  rw [hr, hs]
  obtain ⟨c, hc⟩ : ∃ c : Nat, min (-1074 + (i : Int)) (-1074 + (j : Int)) = -1074 + (c : Int) := ⟨min i j, by omega⟩
  simp only [Datum.opposite, Datum.sum, Option.map_some, Option.getD_some, Bool.not_false]
  rw [hc]
  have e1 : (-1074 + (i : Int) - (-1074 + (c : Int))).toNat = i - c := by omega
  have e2 : (-1074 + (j : Int) - (-1074 + (c : Int))).toNat = j - c := by omega
  have hci : c ≤ i := by omega
  have hcj : c ≤ j := by omega
  rw [e1, e2]
  have s1 : signed false k (i - c) = ((k * 2 ^ (i - c) : Nat) : Int) := signed_pos ..
  have s2 : signed true n (j - c) = -((n * 2 ^ (j - c) : Nat) : Int) := by unfold signed; rw [Nat.shiftLeft_eq]; simp
  rw [s1, s2]
  have f1 : k * 2 ^ i = k * 2 ^ (i - c) * 2 ^ c := by rw [Nat.mul_assoc, ← Nat.pow_add]; congr 2; omega
  have f2 : n * 2 ^ j = n * 2 ^ (j - c) * 2 ^ c := by rw [Nat.mul_assoc, ← Nat.pow_add]; congr 2; omega
  rw [f1, f2] at h
  rw [f1, f2, ← Nat.sub_mul]
  have hle : n * 2 ^ (j - c) ≤ k * 2 ^ (i - c) := Nat.le_of_mul_le_mul_right h (two_pos c)
  generalize k * 2 ^ (i - c) = a at *
  generalize n * 2 ^ (j - c) = b at *
  have t : ((a : Int) + -(b : Int)).natAbs = a - b := by omega
  have u : (if (a : Int) + -(b : Int) = 0 then (false && true) else decide ((a : Int) + -(b : Int) < 0)) = false := by
    split
    · rfl
    · exact decide_eq_false (by omega)
  rw [u, t]
  simp only [Format.write]
  have e := nearest_shift FloatKind.f64.format false (a - b) (-1074 + (c : Int)) c
  rw [← e]
  congr 1; omega

/-- A number of at most 53 digits, exactly. -/
theorem pos_near (k : Nat) (p : Int) (hk : k < 9007199254740992) (hp1 : -1074 ≤ p) (hp2 : p + k.log2 ≤ 1023) : Pos (FloatKind.f64.format.nearest false k p) (k * 2 ^ (p + 1074).toNat) := by
  by_cases h0 : k = 0
  · subst h0
    refine ⟨0, 0, ?_, by simp⟩
    have e : FloatKind.f64.format.nearest false 0 p = 0 := by simp [Format.nearest, Format.word]
    rw [e]; decide +kernel
  · have hl := log2_le_of_lt (k := 52) hk
    obtain ⟨q, hq⟩ := nearest_exact FloatKind.f64.format false k p h0 hl hp1 (by decide) (by
      have a : FloatKind.f64.format.fractionBits = 52 := rfl
      have b : FloatKind.f64.format.leastPlace = -1074 := rfl
      have c : (2 : Int) ^ FloatKind.f64.format.exponentBits = 2048 := rfl
      rw [a, b, c]; omega)
    by_cases hpq : (q : Int) ≤ p + 1074
    · refine ⟨k * 2 ^ q, (p - q + 1074).toNat, by rw [hq]; congr 1; omega, ?_⟩
      rw [Nat.mul_assoc, ← Nat.pow_add]; congr 2; omega
    · exfalso
      -- a place below the least one is never read
      have hread : ∀ x s m i, FloatKind.f64.format.read x = .number s m i → -1074 ≤ i := by
        intro x s m i hx
        have hL : FloatKind.f64.format.leastPlace = -1074 := rfl
        unfold Format.read at hx
        dsimp only at hx
        rw [hL] at hx
        split at hx
        · cases hx; omega
        · split at hx
          · cases hx; omega
          · split at hx <;> cases hx
      have := hread _ _ _ _ hq
      omega

theorem dN_shift (k c : Nat) : dN (k * 2 ^ c) = FloatKind.f64.format.nearest false k (-1074 + (c : Int)) := by
  unfold dN
  have e := nearest_shift FloatKind.f64.format false k (-1074 + (c : Int)) c
  rw [← e]; congr 1; omega

/-- D * 2 ^ -1074, D of at most 53 digits behind c zeros, is written exactly. -/
theorem dN_exact (D k c : Nat) (hD : D = k * 2 ^ c) (hk : k < 9007199254740992) (hc : c ≤ 1900) : Pos (dN D) D := by
  subst hD
  rw [dN_shift]
  have hl := log2_le_of_lt (k := 52) hk
  have := pos_near k (-1074 + (c : Int)) hk (by omega) (by omega)
  rw [show (-1074 + (c : Int) + 1074).toNat = c by omega] at this
  exact this

/-- The whole number that an int becomes, cut again, is the int. -/
theorem ofInt_toInt (n : Nat) (h : n < 9007199254740992) : floatToIntVal .f64 (floatOfInt .f64 (n : Int)) .i64 = some (n : Int) := by
  have hs : ∀ a : Nat, (FloatKind.f64.format.order (floatOfInt .f64 (a : Int)) (floatOfInt .f64 (a : Int)) == some .lt) = false := by
    intro a; rw [order_self _ _ (floatOfInt_not_nan _ _)]; rfl
  have hg : ∀ a : Nat, (FloatKind.f64.format.order (floatOfInt .f64 (a : Int)) (floatOfInt .f64 (a : Int)) == some .gt) = false := by
    intro a; rw [order_self _ _ (floatOfInt_not_nan _ _)]; rfl
  obtain ⟨m, h1, h2, h3⟩ := toInt_between (floatOfInt .f64 (n : Int)) n n (by omega) (by omega) (floatOfInt_not_nan _ _) (hs n) (hg n)
  rw [h1]
  congr 1; omega

theorem ofInt_near (n : Nat) : floatOfInt .f64 (n : Int) = FloatKind.f64.format.nearest false n 0 := by
  show FloatKind.f64.format.nearest (decide ((n : Int) < 0)) (n : Int).natAbs 0 = _
  rw [decide_eq_false (by omega), Int.natAbs_natCast]

/-- RoundToEven of a normal double. -/
theorem rte_xw {j kk : Nat} (h : Xw j kk) (hj : j ≤ 1074) : rteB (xw j kk) = floatOfInt .f64 ((Ieee.Toward.even.cut false kk (1074 - j) : Nat) : Int) := by
  unfold rteB
  show FloatKind.f64.encode ((FloatKind.f64.format.read (xw j kk)).integral .even) = _
  rw [xw_read h, ofInt_near]
  simp only [Datum.integral]
  show FloatKind.f64.format.nearest false _ 0 = _
  rw [show (-1074 + (j : Int)).toNat = 0 by omega, Nat.shiftLeft_zero, show (-(-1074 + (j : Int))).toNat = 1074 - j by omega]

/-- Ldexp of a whole number. -/
theorem ldexp_int (m : Nat) (s : Int) (hm : m < 9007199254740992) (h1 : -900 ≤ s) (h2 : s ≤ 900) (w : World) :
    Calls Try.prog 14 #[.float .f64 (floatOfInt .f64 (m : Int)), .int .i64 s] w fun e w' => e = .returned (.float .f64 (FloatKind.f64.format.nearest false m s)) ∧ ∃ n, w' = w.drewN n := by
  by_cases h0 : m = 0
  · subst h0
    have e : FloatKind.f64.format.nearest false 0 s = 0 := by simp [Format.nearest, Format.word]
    have e0 : floatOfInt .f64 ((0 : Nat) : Int) = 0 := by decide +kernel
    rw [e, e0]
    have o : FloatKind.f64.format.order 0 0 = some .eq := by decide +kernel
    go_enter Try.func14, Try.ntmps14
    go_wp2_with (go_at_call 62; go_in)
    go_ret
    exact ⟨rfl, 0, rfl⟩
  · have hl := log2_le_of_lt (k := 52) hm
    obtain ⟨q, j, hq, hj, hx, hw⟩ := dbl_xw m 0 h0 hl (by omega) (by omega)
    obtain ⟨q', j', hq', hj', hx', hw'⟩ := dbl_xw m s h0 hl (by omega) (by omega)
    have : q' = q := by omega
    subst this
    rw [ofInt_near, hw, hw']
    exact ldexp_xw hx s j' hx'.top (by omega) w
end Go.Proofs.Ytbenjfipbeikmaa
