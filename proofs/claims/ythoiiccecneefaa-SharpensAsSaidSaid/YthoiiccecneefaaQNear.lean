/-
  The nearest integer within bounds.
-/
import Derived.Test.YthoiiccecneefaaFMem
import Derived.Test.YthoiiccecneefaaVal
namespace Go.Proofs.Ythoiiccecneefaa
open Go.RowKit
open Ieee (Datum signed)

theorem integralRun (name : String) (way : Ieee.Toward) (x : Nat) (h : isN .f64 x = false) : Extern.MathFloor.toIntegral name way #[.float .f64 x] = pure (.float .f64 (FloatKind.f64.encode ((FloatKind.f64.decode x).integral way))) := by
  have h' : (FloatKind.f64.decode x).isNaN = false := h
  unfold Extern.MathFloor.toIntegral
  conv => lhs; whnf
  clear h
  generalize FloatKind.f64.decode x = d at *
  cases d with
  | nan s t => cases h'
  | number s m e => rfl
  | infinity s => rfl

theorem cut_zero_way (neg : Bool) (n d : Nat) : Ieee.Toward.zero.cut neg n d = n / 2 ^ d := by
  unfold Ieee.Toward.cut
  simp only [Bool.toNat_false, Nat.add_zero, Nat.one_shiftLeft]
  by_cases h : d ≤ n.log2 + 2
  · rw [Nat.min_eq_left h]
  · have hn : n < 2 ^ (n.log2 + 1) := Nat.lt_log2_self
    have h1 : 2 ^ (n.log2 + 1) ≤ 2 ^ (n.log2 + 2) := Nat.pow_le_pow_right (by decide) (by omega)
    have h2 : 2 ^ (n.log2 + 1) ≤ 2 ^ d := Nat.pow_le_pow_right (by decide) (by omega)
    rw [Nat.min_eq_right (by omega), Nat.div_eq_of_lt (by omega), Nat.div_eq_of_lt (by omega)]

theorem signed_int (N : Int) (u : Nat) : signed (decide (N < 0)) N.natAbs u = N * (2 : Int) ^ u := by
  unfold signed
  rw [Nat.shiftLeft_eq]
  by_cases h : N < 0
  · rw [decide_eq_true h, if_pos rfl]
    have : (N.natAbs : Int) = -N := by omega
    push_cast
    rw [this, Int.neg_mul, Int.neg_neg]
  · rw [decide_eq_false h, if_neg (by simp)]
    have : (N.natAbs : Int) = N := by omega
    push_cast
    rw [this]

/-- A whole number of at most 53 digits, as a double. -/
theorem ofInt_read64 (N : Int) (h : N.natAbs < 9007199254740992) : ∃ q : Nat, FloatKind.f64.format.read (floatOfInt .f64 N) = .number (decide (N < 0)) (N.natAbs * 2 ^ q) (0 - q) := by
  have hw : floatOfInt .f64 N = FloatKind.f64.format.nearest (decide (N < 0)) N.natAbs 0 := rfl
  by_cases h0 : N.natAbs = 0
  · have : N = 0 := by omega
    subst this
    exact ⟨1074, by decide +kernel⟩
  · have hl := log2_le_of_lt (k := 52) h
    rw [hw]
    exact nearest_exact FloatKind.f64.format _ _ 0 h0 hl (by decide) (by decide) (by
      have a : FloatKind.f64.format.fractionBits = 52 := rfl
      have b : FloatKind.f64.format.leastPlace = -1074 := rfl
      have c : (2 : Int) ^ FloatKind.f64.format.exponentBits = 2048 := rfl
      rw [a, b, c]; omega)

/-- What is neither below low nor above high is cut to an integer from low to high. -/
theorem toInt_between (r : Nat) (low high : Int) (hl : low.natAbs < 9007199254740992) (hh : high.natAbs < 9007199254740992) (hn : isN .f64 r = false)
    (h1 : (FloatKind.f64.format.order r (floatOfInt .f64 low) == some .lt) = false) (h2 : (FloatKind.f64.format.order r (floatOfInt .f64 high) == some .gt) = false) :
    ∃ n, floatToIntVal .f64 r .i64 = some n ∧ low ≤ n ∧ n ≤ high := by
  obtain ⟨q1, e1⟩ := ofInt_read64 low hl
  obtain ⟨q2, e2⟩ := ofInt_read64 high hh
  unfold Ieee.Format.order at h1 h2
  rw [e1] at h1
  rw [e2] at h2
  unfold isN at hn
  cases hr : FloatKind.f64.format.read r with
  | nan s t => rw [hr] at hn; cases hn
  | infinity s =>
    rw [hr] at h1 h2
    cases s
    · simp [Datum.order] at h2
    · simp [Datum.order] at h1
  | number s m p =>
    rw [hr, order_scale_r] at h1 h2
    have key : ∃ n, (Datum.number s m p).toInt .zero = some n ∧ low ≤ n ∧ n ≤ high := by
      refine ⟨_, rfl, ?_⟩
      rw [cut_zero_way]
      by_cases hp : 0 ≤ p
      · rw [order_base s _ m _ p 0 0 hp (Int.le_refl _), signed_int] at h1 h2
        rw [show (-p).toNat = 0 by omega, Nat.pow_zero, Nat.div_one, Nat.shiftLeft_eq, signed_mul, Nat.add_zero]
        simp only [Int.sub_zero, Int.toNat_zero, Int.pow_zero, Int.mul_one] at h1 h2
        generalize signed s m p.toNat = x at *
        rw [beq_eq_false_iff_ne, ne_eq, Option.some.injEq] at h1 h2
        rw [Int.compare_eq_lt] at h1
        rw [Int.compare_eq_gt] at h2
        omega
      · rw [order_base s _ m _ p 0 p (Int.le_refl _) (by omega), signed_int] at h1 h2
        rw [show p.toNat = 0 by omega, Nat.shiftLeft_zero]
        rw [show (p - p).toNat = 0 by omega, show (0 - p).toNat = (-p).toNat by omega] at h1 h2
        generalize (-p).toNat = k at *
        rw [beq_eq_false_iff_ne, ne_eq, Option.some.injEq] at h1 h2
        rw [Int.compare_eq_lt] at h1
        rw [Int.compare_eq_gt] at h2
        have hk : (0 : Int) < 2 ^ k := Int.pow_pos (by decide)
        have hd := Nat.div_add_mod m (2 ^ k)
        have hm := Nat.mod_lt m (two_pos k)
        have hdi : (m : Int) = (2 : Int) ^ k * ((m / 2 ^ k : Nat) : Int) + ((m % 2 ^ k : Nat) : Int) := by exact_mod_cast hd.symm
        have hmi : ((m % 2 ^ k : Nat) : Int) < (2 : Int) ^ k := by exact_mod_cast hm
        have hm0 : (0 : Int) ≤ ((m % 2 ^ k : Nat) : Int) := Int.natCast_nonneg _
        generalize ((m / 2 ^ k : Nat)) = d at *
        generalize ((m % 2 ^ k : Nat) : Int) = u at *
        generalize (2 : Int) ^ k = K at *
        cases s
        · have s1 : signed false m 0 = (m : Int) := by unfold signed; simp
          have s2 : signed false d 0 = (d : Int) := by unfold signed; simp
          rw [s1] at h1 h2
          rw [s2]
          constructor
          · have : ¬ ((d : Int) < low) := by
              intro hc
              have : K * ((d : Int) + 1) ≤ K * low := Int.mul_le_mul_of_nonneg_left (by omega) (by omega)
              rw [Int.mul_add, Int.mul_one, Int.mul_comm K low] at this
              omega
            omega
          · have : ¬ (high < (d : Int)) := by
              intro hc
              have : K * (high + 1) ≤ K * (d : Int) := Int.mul_le_mul_of_nonneg_left (by omega) (by omega)
              rw [Int.mul_add, Int.mul_one, Int.mul_comm K high] at this
              omega
            omega
        · have s1 : signed true m 0 = -(m : Int) := by unfold signed; simp
          have s2 : signed true d 0 = -(d : Int) := by unfold signed; simp
          rw [s1] at h1 h2
          rw [s2]
          constructor
          · have : ¬ (-(d : Int) < low) := by
              intro hc
              have : K * (1 - low) ≤ K * (d : Int) := Int.mul_le_mul_of_nonneg_left (by omega) (by omega)
              rw [Int.mul_sub, Int.mul_one, Int.mul_comm K low] at this
              omega
            omega
          · have : ¬ (high < -(d : Int)) := by
              intro hc
              have : K * (d : Int) ≤ K * (-high - 1) := Int.mul_le_mul_of_nonneg_left (by omega) (by omega)
              rw [Int.mul_sub, Int.mul_one, Int.mul_neg, Int.mul_comm K high] at this
              omega
            omega
    obtain ⟨n, hn1, hn2, hn3⟩ := key
    refine ⟨n, ?_, hn2, hn3⟩
    unfold floatToIntVal
    have e : FloatKind.f64.decode r = .number s m p := hr
    rw [e, hn1]
    simp only
    rw [if_pos]
    exact ⟨by show -9223372036854775808 ≤ n; omega, by show n ≤ 9223372036854775807; omega⟩

def rteB (x : Nat) : Nat := FloatKind.f64.encode ((FloatKind.f64.decode x).integral .even)

theorem isN_rteB (x : Nat) (h : isN .f64 x = false) : isN .f64 (rteB x) = false := by
  unfold rteB
  refine write_not_nan .f64 _ ?_
  have h' : (FloatKind.f64.decode x).isNaN = false := h
  cases hd : FloatKind.f64.decode x with
  | nan s t => rw [hd] at h'; cases h'
  | number s m e => rfl
  | infinity s => rfl

theorem cf_rte (x : Nat) (h : isN .f64 x = false) (w : World) : (callFunc 127 #[.float .f64 x]).run Try.prog w = .ok (.value (.float .f64 (rteB x))) w := by
  rw [run_callFunc_extern (e := Extern.MathFloor.toIntegral "math.RoundToEven" .even) Try.func127 (by kernel_rfl) (by kernel_rfl) (by kernel_rfl) (by kernel_rfl) _ w, integralRun _ _ _ h]
  rfl

theorem quiet_nan (s : Bool) (t : Nat) : isN .f64 (FloatKind.f64.encode (.nan s (FloatKind.f64.format.quiet t))) = true := by
  show isN .f64 (FloatKind.f64.format.word s (FloatKind.f64.format.infRung + (FloatKind.f64.format.quiet t) % FloatKind.f64.format.binade)) = true
  have hq : (FloatKind.f64.format.quiet t) % FloatKind.f64.format.binade ≠ 0 := by
    show (t ||| 2 ^ 51) % 2 ^ 52 ≠ 0
    intro hc
    have : ((t ||| 2 ^ 51) % 2 ^ 52).testBit 51 = true := by
      rw [Nat.testBit_mod_two_pow, Nat.testBit_or, Nat.testBit_two_pow_self]; simp
    rw [hc] at this
    simp at this
  have hlt : (FloatKind.f64.format.quiet t) % FloatKind.f64.format.binade < 4503599627370496 := Nat.mod_lt _ (by decide)
  rw [isN64, decide_eq_true_eq]
  have hi : FloatKind.f64.format.infRung = 9218868437227405312 := rfl
  have hs : FloatKind.f64.format.signWeight = 9223372036854775808 := rfl
  unfold Ieee.Format.word
  rw [hi, hs]
  split <;> omega

theorem choose_run (P : Program) (w : World) (q : Question) (hq : q.forced = false) (g : Nat → Nat) :
    (choose q >>= fun k => (pure (.float .f64 (g k)) : Sem Value)).run P w = .ok (.float .f64 (g (q.cut (w.tape w.drawn q)))) (w.drewN 1) := by
  rw [Sem.run_bind, run_choose_drew, hq]
  rfl

theorem integralNan (name : String) (way : Ieee.Toward) (x : Nat) (h : isN .f64 x = true) (P : Program) (w : World) :
    ∃ r n, (Extern.MathFloor.toIntegral name way #[.float .f64 x]).run P w = .ok (.float .f64 r) (w.drewN n) ∧ isN .f64 r = true := by
  obtain ⟨s, t, hd⟩ := read_nan (f := FloatKind.f64.format) h
  have hd' : FloatKind.f64.decode x = .nan s t := hd
  generalize hS : Extern.MathFloor.toIntegral name way #[.float .f64 x] = S
  unfold Extern.MathFloor.toIntegral at hS
  conv at hS => lhs; whnf
  rw [hd'] at hS
  dsimp only at hS
  by_cases hq : FloatKind.f64.format.quiet t = t
  · rw [if_pos hq] at hS
    subst hS
    exact ⟨x, 0, rfl, h⟩
  · rw [if_neg hq] at hS
    subst hS
    refine ⟨_, 1, choose_run P w _ rfl _, ?_⟩
    split
    · exact h
    · exact quiet_nan s t

theorem rte_nan (x : Nat) (h : isN .f64 x = true) (w : World) : ∃ r n, (callFunc 127 #[.float .f64 x]).run Try.prog w = .ok (.value (.float .f64 r)) (w.drewN n) ∧ isN .f64 r = true := by
  obtain ⟨r, n, hr, hN⟩ := integralNan "math.RoundToEven" .even x h Try.prog w
  refine ⟨r, n, ?_, hN⟩
  rw [run_callFunc_extern (e := Extern.MathFloor.toIntegral "math.RoundToEven" .even) Try.func127 (by kernel_rfl) (by kernel_rfl) (by kernel_rfl) (by kernel_rfl) _ w, hr]
  rfl

/-- The nearest integer within right bounds, and whether it is within them. -/
def nearC (v : Nat) (low high : Int) : Int × Bool :=
  if isN .f32 v = true then (low, false) else
  if (FloatKind.f64.format.order (rteB (wid v)) (floatOfInt .f64 low) == some .lt) = true then (low, false) else
  if (FloatKind.f64.format.order (rteB (wid v)) (floatOfInt .f64 high) == some .gt) = true then (high, false) else
  ((floatToIntVal .f64 (rteB (wid v)) .i64).getD 0, true)

set_option maxRecDepth 100000 in
theorem nearn_nan (v : Nat) (low high : Int) (g : low ≤ high ∧ -16777216 ≤ low ∧ high ≤ 16777216) (h : isN .f32 v = true) (w : World) : Calls Try.prog 105 #[.float .f32 v, .int .i64 low, .int .i64 high] w fun e w' => e = .returned (.tuple #[.int .i64 (nearC v low high).1, .bool (nearC v low high).2, .int .i64 0]) ∧ ∃ n, w' = w.drewN n := by
  have hq : nearC v low high = (low, false) := by unfold nearC; rw [if_pos h]
  have HQ := hid hq; clear hq
  have e1 := ne_self .f32 v
  rw [h] at e1
  have hx := widen_nan v h w
  obtain ⟨r, n, hrun, hN⟩ := rte_nan _ hx (w.drewN (fcd .f32 v .f64))
  have e2 := ne_self .f64 r
  rw [hN] at e2
  clear hx hN h
  obtain ⟨g1, g2, g3⟩ := g
  go_enter Try.func105, Try.ntmps105
  go_wp2
  go_ret3
  exact ⟨by rw [HQ.out]; rfl, _, rfl⟩

set_option maxRecDepth 100000 in
theorem nearn_low (v : Nat) (low high : Int) (g : low ≤ high ∧ -16777216 ≤ low ∧ high ≤ 16777216) (h : isN .f32 v = false) (h1 : (FloatKind.f64.format.order (rteB (wid v)) (floatOfInt .f64 low) == some .lt) = true) (w : World) : Calls Try.prog 105 #[.float .f32 v, .int .i64 low, .int .i64 high] w fun e w' => e = .returned (.tuple #[.int .i64 (nearC v low high).1, .bool (nearC v low high).2, .int .i64 0]) ∧ ∃ n, w' = w.drewN n := by
  have hq : nearC v low high = (low, false) := by unfold nearC; rw [if_neg (by rw [h]; simp), if_pos h1]
  have HQ := hid hq; clear hq
  have e1 := ne_self .f32 v
  rw [h] at e1
  have c1 := fun w => fcvv (widen_some v h) w
  have c2 := fcdv (widen_some v h)
  have hrun := cf_rte _ (isN_wid v h)
  have e2 := ne_self .f64 (rteB (wid v))
  rw [isN_rteB _ (isN_wid v h)] at e2
  clear h
  obtain ⟨g1, g2, g3⟩ := g
  go_enter Try.func105, Try.ntmps105
  go_wp2
  go_ret3
  exact ⟨by rw [HQ.out]; rfl, 0, rfl⟩

set_option maxRecDepth 100000 in
theorem nearn_high (v : Nat) (low high : Int) (g : low ≤ high ∧ -16777216 ≤ low ∧ high ≤ 16777216) (h : isN .f32 v = false) (h1 : (FloatKind.f64.format.order (rteB (wid v)) (floatOfInt .f64 low) == some .lt) = false) (h2 : (FloatKind.f64.format.order (rteB (wid v)) (floatOfInt .f64 high) == some .gt) = true) (w : World) : Calls Try.prog 105 #[.float .f32 v, .int .i64 low, .int .i64 high] w fun e w' => e = .returned (.tuple #[.int .i64 (nearC v low high).1, .bool (nearC v low high).2, .int .i64 0]) ∧ ∃ n, w' = w.drewN n := by
  have hq : nearC v low high = (high, false) := by unfold nearC; rw [if_neg (by rw [h]; simp), if_neg (by rw [h1]; simp), if_pos h2]
  have HQ := hid hq; clear hq
  have e1 := ne_self .f32 v
  rw [h] at e1
  have c1 := fun w => fcvv (widen_some v h) w
  have c2 := fcdv (widen_some v h)
  have hrun := cf_rte _ (isN_wid v h)
  have e2 := ne_self .f64 (rteB (wid v))
  rw [isN_rteB _ (isN_wid v h)] at e2
  clear h
  obtain ⟨g1, g2, g3⟩ := g
  go_enter Try.func105, Try.ntmps105
  go_wp2
  go_ret3
  exact ⟨by rw [HQ.out]; rfl, 0, rfl⟩

set_option maxRecDepth 100000 in
theorem nearn_in (v : Nat) (low high : Int) (g : low ≤ high ∧ -16777216 ≤ low ∧ high ≤ 16777216) (h : isN .f32 v = false) (h1 : (FloatKind.f64.format.order (rteB (wid v)) (floatOfInt .f64 low) == some .lt) = false) (h2 : (FloatKind.f64.format.order (rteB (wid v)) (floatOfInt .f64 high) == some .gt) = false)
    (hl : low.natAbs < 9007199254740992) (hh : high.natAbs < 9007199254740992) (w : World) : Calls Try.prog 105 #[.float .f32 v, .int .i64 low, .int .i64 high] w fun e w' => e = .returned (.tuple #[.int .i64 (nearC v low high).1, .bool (nearC v low high).2, .int .i64 0]) ∧ ∃ n, w' = w.drewN n := by
  obtain ⟨n, hn, hn1, hn2⟩ := toInt_between _ low high hl hh (isN_rteB _ (isN_wid v h)) h1 h2
  have hq : nearC v low high = (n, true) := by unfold nearC; rw [if_neg (by rw [h]; simp), if_neg (by rw [h1]; simp), if_neg (by rw [h2]; simp), hn]; rfl
  have HQ := hid hq; clear hq
  have e1 := ne_self .f32 v
  rw [h] at e1
  have c1 := fun w => fcvv (widen_some v h) w
  have c2 := fcdv (widen_some v h)
  have hrun := cf_rte _ (isN_wid v h)
  have e2 := ne_self .f64 (rteB (wid v))
  rw [isN_rteB _ (isN_wid v h)] at e2
  have k1 : ∀ w, (convert 39 3 (.float .f64 (rteB (wid v)))).run Try.prog w = .ok (.int .i64 n) w := fun w => run_convert_float_int w 39 3 .f64 .i64 _ n (by kernel_rfl) (by kernel_rfl) hn
  clear h hn hl hh
  obtain ⟨g1, g2, g3⟩ := g
  go_enter Try.func105, Try.ntmps105
  go_wp2
  go_ret3
  exact ⟨by rw [HQ.out]; rfl, 0, rfl⟩

theorem nearn_any (v : Nat) (low high : Int) (g : low ≤ high ∧ -16777216 ≤ low ∧ high ≤ 16777216) (w : World) : Calls Try.prog 105 #[.float .f32 v, .int .i64 low, .int .i64 high] w fun e w' => e = .returned (.tuple #[.int .i64 (nearC v low high).1, .bool (nearC v low high).2, .int .i64 0]) ∧ ∃ n, w' = w.drewN n := by
  by_cases h : isN .f32 v = true
  · exact nearn_nan v low high g h w
  · have h' : isN .f32 v = false := by simpa using h
    cases h1 : (FloatKind.f64.format.order (rteB (wid v)) (floatOfInt .f64 low) == some .lt) with
    | true => exact nearn_low v low high g h' h1 w
    | false =>
      cases h2 : (FloatKind.f64.format.order (rteB (wid v)) (floatOfInt .f64 high) == some .gt) with
      | true => exact nearn_high v low high g h' h1 h2 w
      | false => exact nearn_in v low high g h' h1 h2 (by omega) (by omega) w

set_option maxRecDepth 100000 in
theorem nearr_nan (v : Nat) (low high : Int) (g : low ≤ high ∧ -16777216 ≤ low ∧ high ≤ 16777216) (h : isN .f32 v = true) (w : World) : Calls Try.prog 124 #[.float .f32 v, .int .i64 low, .int .i64 high] w fun e w' => e = .returned (.tuple #[.int .i64 (nearC v low high).1, .bool (nearC v low high).2]) ∧ ∃ n, w' = w.drewN n := by
  have hq : nearC v low high = (low, false) := by unfold nearC; rw [if_pos h]
  have HQ := hid hq; clear hq
  have e1 := ne_self .f32 v
  rw [h] at e1
  have hx := widen_nan v h w
  obtain ⟨r, n, hrun, hN⟩ := rte_nan _ hx (w.drewN (fcd .f32 v .f64))
  have e2 := ne_self .f64 r
  rw [hN] at e2
  clear hx hN h
  obtain ⟨g1, g2, g3⟩ := g
  go_enter Try.func124, Try.ntmps124
  go_wp2
  go_ret2
  exact ⟨by rw [HQ.out]; rfl, 0, rfl⟩

set_option maxRecDepth 100000 in
theorem nearr_low (v : Nat) (low high : Int) (g : low ≤ high ∧ -16777216 ≤ low ∧ high ≤ 16777216) (h : isN .f32 v = false) (h1 : (FloatKind.f64.format.order (rteB (wid v)) (floatOfInt .f64 low) == some .lt) = true) (w : World) : Calls Try.prog 124 #[.float .f32 v, .int .i64 low, .int .i64 high] w fun e w' => e = .returned (.tuple #[.int .i64 (nearC v low high).1, .bool (nearC v low high).2]) ∧ ∃ n, w' = w.drewN n := by
  have hq : nearC v low high = (low, false) := by unfold nearC; rw [if_neg (by rw [h]; simp), if_pos h1]
  have HQ := hid hq; clear hq
  have e1 := ne_self .f32 v
  rw [h] at e1
  have c1 := fun w => fcvv (widen_some v h) w
  have c2 := fcdv (widen_some v h)
  have hrun := cf_rte _ (isN_wid v h)
  have e2 := ne_self .f64 (rteB (wid v))
  rw [isN_rteB _ (isN_wid v h)] at e2
  clear h
  obtain ⟨g1, g2, g3⟩ := g
  go_enter Try.func124, Try.ntmps124
  go_wp2
  go_ret2
  exact ⟨by rw [HQ.out]; rfl, 0, rfl⟩

set_option maxRecDepth 100000 in
theorem nearr_high (v : Nat) (low high : Int) (g : low ≤ high ∧ -16777216 ≤ low ∧ high ≤ 16777216) (h : isN .f32 v = false) (h1 : (FloatKind.f64.format.order (rteB (wid v)) (floatOfInt .f64 low) == some .lt) = false) (h2 : (FloatKind.f64.format.order (rteB (wid v)) (floatOfInt .f64 high) == some .gt) = true) (w : World) : Calls Try.prog 124 #[.float .f32 v, .int .i64 low, .int .i64 high] w fun e w' => e = .returned (.tuple #[.int .i64 (nearC v low high).1, .bool (nearC v low high).2]) ∧ ∃ n, w' = w.drewN n := by
  have hq : nearC v low high = (high, false) := by unfold nearC; rw [if_neg (by rw [h]; simp), if_neg (by rw [h1]; simp), if_pos h2]
  have HQ := hid hq; clear hq
  have e1 := ne_self .f32 v
  rw [h] at e1
  have c1 := fun w => fcvv (widen_some v h) w
  have c2 := fcdv (widen_some v h)
  have hrun := cf_rte _ (isN_wid v h)
  have e2 := ne_self .f64 (rteB (wid v))
  rw [isN_rteB _ (isN_wid v h)] at e2
  clear h
  obtain ⟨g1, g2, g3⟩ := g
  go_enter Try.func124, Try.ntmps124
  go_wp2
  go_ret2
  exact ⟨by rw [HQ.out]; rfl, 0, rfl⟩

set_option maxRecDepth 100000 in
theorem nearr_in (v : Nat) (low high : Int) (g : low ≤ high ∧ -16777216 ≤ low ∧ high ≤ 16777216) (h : isN .f32 v = false) (h1 : (FloatKind.f64.format.order (rteB (wid v)) (floatOfInt .f64 low) == some .lt) = false) (h2 : (FloatKind.f64.format.order (rteB (wid v)) (floatOfInt .f64 high) == some .gt) = false)
    (hl : low.natAbs < 9007199254740992) (hh : high.natAbs < 9007199254740992) (w : World) : Calls Try.prog 124 #[.float .f32 v, .int .i64 low, .int .i64 high] w fun e w' => e = .returned (.tuple #[.int .i64 (nearC v low high).1, .bool (nearC v low high).2]) ∧ ∃ n, w' = w.drewN n := by
  obtain ⟨n, hn, hn1, hn2⟩ := toInt_between _ low high hl hh (isN_rteB _ (isN_wid v h)) h1 h2
  have hq : nearC v low high = (n, true) := by unfold nearC; rw [if_neg (by rw [h]; simp), if_neg (by rw [h1]; simp), if_neg (by rw [h2]; simp), hn]; rfl
  have HQ := hid hq; clear hq
  have e1 := ne_self .f32 v
  rw [h] at e1
  have c1 := fun w => fcvv (widen_some v h) w
  have c2 := fcdv (widen_some v h)
  have hrun := cf_rte _ (isN_wid v h)
  have e2 := ne_self .f64 (rteB (wid v))
  rw [isN_rteB _ (isN_wid v h)] at e2
  have k1 : ∀ w, (convert 39 3 (.float .f64 (rteB (wid v)))).run Try.prog w = .ok (.int .i64 n) w := fun w => run_convert_float_int w 39 3 .f64 .i64 _ n (by kernel_rfl) (by kernel_rfl) hn
  clear h hn hl hh
  obtain ⟨g1, g2, g3⟩ := g
  go_enter Try.func124, Try.ntmps124
  go_wp2
  go_ret2
  exact ⟨by rw [HQ.out]; rfl, 0, rfl⟩

theorem nearr_any (v : Nat) (low high : Int) (g : low ≤ high ∧ -16777216 ≤ low ∧ high ≤ 16777216) (w : World) : Calls Try.prog 124 #[.float .f32 v, .int .i64 low, .int .i64 high] w fun e w' => e = .returned (.tuple #[.int .i64 (nearC v low high).1, .bool (nearC v low high).2]) ∧ ∃ n, w' = w.drewN n := by
  by_cases h : isN .f32 v = true
  · exact nearr_nan v low high g h w
  · have h' : isN .f32 v = false := by simpa using h
    cases h1 : (FloatKind.f64.format.order (rteB (wid v)) (floatOfInt .f64 low) == some .lt) with
    | true => exact nearr_low v low high g h' h1 w
    | false =>
      cases h2 : (FloatKind.f64.format.order (rteB (wid v)) (floatOfInt .f64 high) == some .gt) with
      | true => exact nearr_high v low high g h' h1 h2 w
      | false => exact nearr_in v low high g h' h1 h2 (by omega) (by omega) w


set_option maxRecDepth 100000 in

theorem nearC_cl (v : Nat) (low high : Int) : nearC (cl v) low high = nearC v low high := by
  by_cases h : isN .f32 v = true
  · unfold nearC
    have : isN .f32 (cl v) = true := by unfold cl; rw [isN_cn]; exact h
    rw [if_pos this, if_pos h]
  · have h' : isN .f32 v = false := by simpa using h
    have e : cl v = v := cn_of_not h'
    rw [e]
end Go.Proofs.Ythoiiccecneefaa
