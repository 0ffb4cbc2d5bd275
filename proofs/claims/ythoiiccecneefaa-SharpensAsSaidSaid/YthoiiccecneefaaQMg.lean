/-
  Magnitudes of singles, in the program and in the reference (as XCApart has them).
-/
import Derived.Test.YthoiiccecneefaaQDbl
import Derived.Handy
namespace Go.Proofs.Ythoiiccecneefaa
open Go.RowKit
open Ieee (Datum Format)

theorem wid_lt (b : Nat) : wid b < 18446744073709551616 := Ieee.Format.write_lt Ieee.double _
/-- What is written of a single's number: its own word. -/
theorem near_word {b : Nat} {s : Bool} {m : Nat} {p : Int} (neg : Bool) (h : FloatKind.f32.format.read b = .number s m p) : FloatKind.f32.format.nearest neg m p = FloatKind.f32.format.word neg (b % 2147483648) := by
  have hS : FloatKind.f32.format.signWeight = 2147483648 := rfl
  have hB : FloatKind.f32.format.binade = 8388608 := rfl
  have hI : FloatKind.f32.format.infRung = 2139095040 := rfl
  have hL : FloatKind.f32.format.leastPlace = -149 := rfl
  have hF : FloatKind.f32.format.fractionBits = 23 := rfl
  unfold Format.read at h
  dsimp only at h
  rw [hS, hB, hI, hL] at h
  generalize hr : b % 2147483648 = r at *
  unfold Format.nearest
  rw [hB, hI, hL, hF]
  by_cases h1 : r < 8388608
  · rw [if_pos h1] at h
    cases h
    by_cases h0 : m = 0
    · rw [if_pos h0, h0]
    · rw [if_neg h0]
      have hl := log2_le_of_lt (m := m) (k := 22) (by omega)
      dsimp only
      rw [show max (-149 + (m.log2 : Int) - ((23 : Nat) : Int)) (-149) = -149 by omega]
      rw [show ((-149 : Int) - -149).toNat = 0 from rfl, Nat.shiftLeft_zero, cut_zero, Nat.zero_mul, Nat.zero_add, Nat.min_eq_left (by omega)]
  · rw [if_neg h1] at h
    by_cases h2 : r < 2139095040
    · rw [if_pos h2] at h
      cases h
      have hlog : (8388608 + r % 8388608).log2 = 23 := by
        rw [Nat.log2_eq_iff (by omega)]
        have := Nat.mod_lt r (show 0 < 8388608 by decide)
        omega
      rw [if_neg (by omega), hlog]
      dsimp only
      have hd := Nat.div_add_mod r 8388608
      have hm := Nat.mod_lt r (show 0 < 8388608 by decide)
      have hq : 1 ≤ r / 8388608 := by omega
      generalize r / 8388608 = e at *
      generalize r % 8388608 = t at *
      rw [show max (-149 + ((e - 1 : Nat) : Int) + ((23 : Nat) : Int) - ((23 : Nat) : Int)) (-149) = -149 + ((e - 1 : Nat) : Int) by omega]
      rw [show (-149 + ((e - 1 : Nat) : Int) - (-149 + ((e - 1 : Nat) : Int))).toNat = 0 by omega, show (-149 + ((e - 1 : Nat) : Int) - -149).toNat = e - 1 by omega, Nat.shiftLeft_zero, cut_zero]
      have : (e - 1) * 8388608 + (8388608 + t) = r := by omega
      rw [this, Nat.min_eq_left (by omega)]
    · rw [if_neg h2] at h
      split at h <;> cases h

theorem absB_read (b : Nat) : FloatKind.f64.format.read (absB (wid b)) = Datum.abs (FloatKind.f64.format.read (wid b)) := by
  unfold absB
  rw [andNot_top _ (wid_lt b)]
  exact read_abs Ieee.double (wid b)

/-- The magnitude of a single, by way of a double. -/
theorem abs_some (r : Nat) (h : isN .f32 r = false) : floatToFloatBits .f64 (absB (wid r)) .f32 = some (r % 2147483648) := by
  cases hr : FloatKind.f32.format.read r with
  | nan s t => unfold isN at h; rw [hr] at h; cases h
  | infinity s =>
    have e : wid r = FloatKind.f64.encode (.infinity s) := by
      unfold wid
      have : FloatKind.f32.decode r = .infinity s := hr
      rw [this]
    have hm : r % 2147483648 = 2139095040 := by
      have hS : FloatKind.f32.format.signWeight = 2147483648 := rfl
      have hB : FloatKind.f32.format.binade = 8388608 := rfl
      have hI : FloatKind.f32.format.infRung = 2139095040 := rfl
      unfold Format.read at hr
      dsimp only at hr
      rw [hS, hB, hI] at hr
      split at hr
      · cases hr
      · split at hr
        · cases hr
        · split at hr
          · assumption
          · cases hr
    rw [e, hm]
    cases s <;> decide +kernel
  | number s m p =>
    obtain ⟨q, p', hw, hpp⟩ := wid_num hr
    have hd : FloatKind.f64.decode (absB (wid r)) = .number false (m * 2 ^ q) (p' - q) := by
      show FloatKind.f64.format.read _ = _
      rw [absB_read, hw]; rfl
    have he : FloatKind.f32.encode (.number false (m * 2 ^ q) (p' - q)) = r % 2147483648 := by
      have e1 : FloatKind.f32.encode (.number false (m * 2 ^ q) (p' - q)) = FloatKind.f32.format.nearest false m p' := nearest_shift FloatKind.f32.format false m p' q
      rw [e1]
      by_cases h0 : m = 0
      · have hw := near_word false hr
        subst h0
        have e : ∀ p, FloatKind.f32.format.nearest false 0 p = FloatKind.f32.format.word false 0 := fun p => by simp [Format.nearest]
        rw [e] at hw ⊢
        rw [hw]; simp [Format.word]
      · rw [hpp h0, near_word false hr]; simp [Format.word]
    have hrd : FloatKind.f32.format.read (r % 2147483648) = Datum.abs (FloatKind.f32.format.read r) := read_abs Ieee.single r
    unfold floatToFloatBits
    rw [if_neg (by decide), hd]
    have hi : (FloatKind.f32.decode (r % 2147483648)).isInfinity = false := by
      show (FloatKind.f32.format.read _).isInfinity = false
      rw [hrd, hr]; rfl
    simp only [he]
    rw [if_neg (by rw [hi]; simp)]

theorem isN_mod (r : Nat) : isN .f32 (r % 2147483648) = isN .f32 r := by
  rw [isN32, isN32, Nat.mod_mod]

theorem isN_absB (x : Nat) (hx : x < 18446744073709551616) : isN .f64 (absB x) = isN .f64 x := by
  unfold absB
  rw [andNot_top _ hx, isN64, isN64, Nat.mod_mod]

theorem fcv_lt (x : Nat) (w : World) (hx : isN .f32 x = true) : fcv .f32 x .f64 w < 18446744073709551616 := by
  have hn : floatToFloatBits .f32 x .f64 = none := by
    unfold floatToFloatBits
    rw [if_neg (by decide)]
    obtain ⟨s, t, e⟩ := read_nan (f := FloatKind.f32.format) hx
    have e' : FloatKind.f32.decode x = .nan s t := e
    simp only [e']
  unfold fcv
  rw [hn, if_pos hx]
  simp only [Option.getD_none]
  generalize w.tape w.drawn _ = t
  unfold Question.cut
  dsimp only
  have h1 : (t / 2) % (2 ^ 52 - 1) < 2 ^ 52 - 1 := Nat.mod_lt _ (by decide)
  have h2 : t % 2 < 2 := Nat.mod_lt _ (by decide)
  generalize (t / 2) % (2 ^ 52 - 1) = r at *
  generalize t % 2 = q at *
  omega

/-- The magnitude by way of doubles, cleaned. -/
theorem abs_cl (r : Nat) (w w' : World) : cl (fcv .f64 (absB (fcv .f32 r .f64 w)) .f32 w') = cl (r % 2147483648) := by
  by_cases h : isN .f32 r = true
  · have h1 : isN .f64 (absB (fcv .f32 r .f64 w)) = true := by rw [isN_absB _ (fcv_lt r w h)]; exact widen_nan r h w
    have h2 : cl (r % 2147483648) = qnan .f32 := cn_of_nan (by rw [isN_mod]; exact h)
    rw [h2]
    apply cn_of_nan
    generalize absB (fcv .f32 r .f64 w) = x at *
    have hn : floatToFloatBits .f64 x .f32 = none := by
      unfold floatToFloatBits
      rw [if_neg (by decide)]
      obtain ⟨s, t, e⟩ := read_nan (f := FloatKind.f64.format) h1
      have e' : FloatKind.f64.decode x = .nan s t := e
      simp only [e']
    unfold fcv
    rw [hn, if_pos h1]
    exact nanConvCut_isN .f32 x _
  · have h' : isN .f32 r = false := by simpa using h
    rw [fcvv (widen_some r h'), fcvv (abs_some r h')]

theorem cut31 (r : Nat) (h : r < 4294967296) : (bits .andNot .u32 (r : Int) 2147483648).toNat = r % 2147483648 := by
  have h1 : (BitVec.ofInt 32 (r : Int)) = BitVec.ofNat 32 r := BitVec.ofInt_natCast ..
  have h2 : (BitVec.ofInt 32 (2147483648 : Int)) = BitVec.ofNat 32 2147483648 := rfl
  have e : (BitVec.ofNat 32 r &&& ~~~BitVec.ofNat 32 2147483648).toNat = r % 2147483648 := by
    have e1 : ~~~BitVec.ofNat 32 2147483648 = BitVec.ofNat 32 2147483647 := by decide
    rw [e1, BitVec.toNat_and, BitVec.toNat_ofNat, BitVec.toNat_ofNat, Nat.mod_eq_of_lt (a := r) (by omega)]
    have := Nat.and_two_pow_sub_one_eq_mod r 31
    simpa using this
  show (IntKind.u32.wrap ((BitVec.ofInt 32 (r : Int) &&& ~~~BitVec.ofInt 32 (2147483648 : Int)).toNat : Int)).toNat = _
  rw [h1, h2, e, IntKind.wrap_u32]
  omega

theorem absr_any (r : Nat) (hr : r < 4294967296) (w : World) : Calls Try.prog 86 #[.float .f32 r] w fun e w' => e = .returned (.float .f32 (r % 2147483648)) ∧ w = w' := by
  have H := hid (cut31 r hr)
  clear hr
  go_enter Try.func86, Try.ntmps86
  go_wp2
  go_ret
  exact ⟨by rw [← H.out]; rfl, rfl⟩

theorem fop_lt (op : BinOp) (x y : Nat) (w : World) : fop op .f32 x y w < 4294967296 := by
  unfold fop
  cases hb : floatBits op .f32 x y with
  | some r =>
    simp only [Option.getD_some]
    have := floatBits_wf hb
    simpa [Lit.wf] using this
  | none =>
    simp only [Option.getD_none]
    generalize w.tape w.drawn _ = t
    unfold Question.cut
    dsimp only
    have h1 : (t / 2) % (2 ^ 23 - 1) < 2 ^ 23 - 1 := Nat.mod_lt _ (by decide)
    have h2 : t % 2 < 2 := Nat.mod_lt _ (by decide)
    generalize (t / 2) % (2 ^ 23 - 1) = r at *
    generalize t % 2 = q at *
    omega


theorem magnf_any (r : Nat) (w : World) : Calls Try.prog 85 #[.float .f32 r] w fun e w' => ∃ m, e = .returned (.float .f32 m) ∧ cl m = cl (r % 2147483648) ∧ ∃ n, w' = w.drewN n := by
  go_enter Try.func85, Try.ntmps85
  go_wp2_with (go_at_call 15; refine (abs_any _ _).mono ?_; rintro e w' ⟨rfl, rfl⟩)
  go_ret
  exact ⟨_, rfl, abs_cl .., _, rfl⟩

/-- How a magnitude stands to a bound. -/
def magB (D le : Nat) : Bool := FloatKind.f32.format.order (D % 2147483648) le == some .lt
theorem magB_of {m d D le : Nat} (hm : cl m = cl (d % 2147483648)) (hd : cl d = cl D) : (FloatKind.f32.format.order m le == some .lt) = magB D le := by
  have e1 : FloatKind.f32.format.order m le = FloatKind.f32.format.order (d % 2147483648) le := by
    have h1 := order_cn .f32 m le
    have h2 := order_cn .f32 (d % 2147483648) le
    have hm' : cn .f32 m = cn .f32 (d % 2147483648) := hm
    rw [← h1, ← h2, hm']
  unfold magB
  rw [e1]
  have hN : isN .f32 d = isN .f32 D := by
    have a1 := isN_cn .f32 d
    have a2 := isN_cn .f32 D
    have hd' : cn .f32 d = cn .f32 D := hd
    rw [hd'] at a1
    rw [← a1, a2]
  cases h : isN .f32 d with
  | true =>
    rw [order_nanl .f32 _ le (by rw [isN_mod]; exact h), order_nanl .f32 _ le (by rw [isN_mod, ← hN]; exact h)]
  | false =>
    have e : d = D := by
      have b1 : cl d = d := cn_of_not h
      have b2 : cl D = D := cn_of_not (by rw [← hN]; exact h)
      rw [← b1, hd, b2]
    rw [e]
end Go.Proofs.Ythoiiccecneefaa
