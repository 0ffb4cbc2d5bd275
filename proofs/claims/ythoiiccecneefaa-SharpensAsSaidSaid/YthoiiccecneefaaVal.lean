/-
  Binary floating point: a number of few digits is written exactly; how two numbers stand to each other does not hang on how they are given; singles as doubles; whole numbers as doubles.
-/
import Derived.Test.YthoiiccecneefaaFlo
import Derived.Test.YthoiiccecneefaaIeee
namespace Go.Proofs.Ythoiiccecneefaa
open Ieee

theorem two_pos (k : Nat) : 0 < 2 ^ k := Nat.two_pow_pos k

/-- The rung j * binade + k is read as k at the place L + j. -/
theorem read_word (f : Format) (neg : Bool) (j k : Nat) (hk : k < 2 * f.binade) (hj : j = 0 ∨ f.binade ≤ k) (hlt : j * f.binade + k < f.infRung) :
    f.read (f.word neg (j * f.binade + k)) = .number neg k (f.leastPlace + j) := by
  have hB : 0 < f.binade := two_pos _
  have hS : f.infRung < f.signWeight := f.infRung_lt
  have hS0 : 0 < f.signWeight := two_pos _
  generalize hr : j * f.binade + k = r at *
  have e1 : f.word neg r % f.signWeight = r := by
    unfold Format.word; split
    · rw [Nat.add_mod_left]; exact Nat.mod_eq_of_lt (by omega)
    · exact Nat.mod_eq_of_lt (by omega)
  have e2 : (f.word neg r / f.signWeight % 2 == 1) = neg := by
    unfold Format.word
    cases neg
    · rw [if_neg (by simp), Nat.div_eq_of_lt (by omega)]; rfl
    · rw [if_pos rfl, Nat.add_div_left _ hS0, Nat.div_eq_of_lt (by omega)]; rfl
  unfold Format.read
  dsimp only
  rw [e1, e2]
  by_cases h1 : r < f.binade
  · rw [if_pos h1]
    have hj0 : j = 0 := by
      rcases hj with h | h
      · exact h
      · omega
    subst hj0
    have : r = k := by omega
    subst this
    simp
  · rw [if_neg h1, if_pos hlt]
    have hk2 : f.binade ≤ k := by
      rcases hj with h | h
      · subst h; omega
      · exact h
    have d : r = (k - f.binade) + f.binade * (j + 1) := by
      rw [← hr, Nat.mul_add, Nat.mul_comm j]; omega
    have q1 : r / f.binade = j + 1 := by
      rw [d, Nat.add_mul_div_left _ _ hB, Nat.div_eq_of_lt (by omega)]; omega
    have q2 : r % f.binade = k - f.binade := by
      rw [d, Nat.add_mul_mod_self_left]; exact Nat.mod_eq_of_lt (by omega)
    rw [q1, q2]
    congr 1
    · omega

theorem read_zero (f : Format) (neg : Bool) (h : 0 < f.infRung) : f.read (f.word neg 0) = .number neg 0 f.leastPlace := by
  have := read_word f neg 0 0 (by have := two_pos f.fractionBits; unfold Format.binade; omega) (Or.inl rfl) (by omega)
  simpa using this

/-- What is written of a number of few digits: itself. -/
theorem nearest_exact (f : Format) (neg : Bool) (m : Nat) (p : Int) (h0 : m ≠ 0) (hl : m.log2 ≤ f.fractionBits) (hp : f.leastPlace ≤ p) (h3 : 3 ≤ 2 ^ f.exponentBits)
    (hi : p + m.log2 - f.fractionBits - f.leastPlace + 3 ≤ 2 ^ f.exponentBits) :
    ∃ q : Nat, f.read (f.nearest neg m p) = .number neg (m * 2 ^ q) (p - q) := by
  obtain ⟨last, hlast⟩ : ∃ last, last = max (p + (m.log2 : Int) - (f.fractionBits : Int)) f.leastPlace := ⟨_, rfl⟩
  have hle : last ≤ p := by rw [hlast]; omega
  have hge : f.leastPlace ≤ last := by rw [hlast]; omega
  obtain ⟨q, hq⟩ : ∃ q : Nat, last = p - q := ⟨(p - last).toNat, by omega⟩
  obtain ⟨j, hj⟩ : ∃ j : Nat, last = f.leastPlace + j := ⟨(last - f.leastPlace).toNat, by omega⟩
  have hB : f.binade = 2 ^ f.fractionBits := rfl
  have hmlo : 2 ^ m.log2 ≤ m := Nat.log2_self_le h0
  have hmhi : m < 2 ^ (m.log2 + 1) := Nat.lt_log2_self
  have hqle : m.log2 + q ≤ f.fractionBits := by omega
  have hk : m * 2 ^ q < 2 * f.binade := by
    rw [hB, ← Nat.pow_succ']
    refine Nat.lt_of_lt_of_le (Nat.mul_lt_mul_of_pos_right hmhi (two_pos q)) ?_
    rw [← Nat.pow_add]
    exact Nat.pow_le_pow_right (by decide) (by omega)
  have hj' : j = 0 ∨ f.binade ≤ m * 2 ^ q := by
    by_cases hz : j = 0
    · exact Or.inl hz
    · right
      have : m.log2 + q = f.fractionBits := by omega
      rw [hB, ← this, Nat.pow_add]
      exact Nat.mul_le_mul_right _ hmlo
  have hlt : j * f.binade + m * 2 ^ q < f.infRung := by
    unfold Format.infRung
    have h2 : j + 3 ≤ 2 ^ f.exponentBits := by
      by_cases hz : last = f.leastPlace
      · have hj0 : j = 0 := by omega
        omega
      · have h3 : ((j + 3 : Nat) : Int) ≤ ((2 ^ f.exponentBits : Nat) : Int) := by push_cast; omega
        omega
    have h3 : (j + 2) * f.binade ≤ (2 ^ f.exponentBits - 1) * f.binade := Nat.mul_le_mul_right _ (by omega)
    have h4 : (j + 2) * f.binade = j * f.binade + 2 * f.binade := Nat.add_mul ..
    omega
  refine ⟨q, ?_⟩
  have e : f.nearest neg m p = f.word neg (j * f.binade + m * 2 ^ q) := by
    unfold Format.nearest
    rw [if_neg h0]
    dsimp only
    rw [← hlast]
    have a1 : (p - last).toNat = q := by omega
    have a2 : (last - p).toNat = 0 := by omega
    have a3 : (last - f.leastPlace).toNat = j := by omega
    rw [a1, a2, a3, cut_zero, Nat.shiftLeft_eq, Nat.min_eq_left (by omega)]
  rw [e, read_word f neg j _ hk hj' hlt]
  congr 1
  omega

theorem signed_shift (s : Bool) (m u c : Nat) : signed s m (u + c) = signed s m u * (2 : Int) ^ c := by
  unfold signed
  rw [Nat.shiftLeft_eq, Nat.shiftLeft_eq, Nat.pow_add, ← Nat.mul_assoc]
  cases s <;> simp [Int.neg_mul]

theorem signed_mul (s : Bool) (m q u : Nat) : signed s (m * 2 ^ q) u = signed s m (q + u) := by
  unfold signed
  rw [Nat.shiftLeft_eq, Nat.shiftLeft_eq, Nat.pow_add, ← Nat.mul_assoc]

theorem compare_scale (a b : Int) (c : Nat) : compare (a * (2 : Int) ^ c) (b * (2 : Int) ^ c) = compare a b := by
  have hp : (0 : Int) < 2 ^ c := Int.pow_pos (by decide)
  rcases Int.lt_trichotomy a b with h | h | h
  · rw [Int.compare_eq_lt.2 h, Int.compare_eq_lt.2 (Int.mul_lt_mul_of_pos_right h hp)]
  · rw [h]; simp
  · rw [Int.compare_eq_gt.2 h, Int.compare_eq_gt.2 (Int.mul_lt_mul_of_pos_right h hp)]

/-- An order does not hang on the place from which both are counted. -/
theorem order_base (s t : Bool) (m n : Nat) (i j b : Int) (hi : b ≤ i) (hj : b ≤ j) :
    (Datum.number s m i).order (Datum.number t n j) = some (compare (signed s m (i - b).toNat) (signed t n (j - b).toNat)) := by
  show some (compare (signed s m (i - min i j).toNat) (signed t n (j - min i j).toNat)) = _
  obtain ⟨c, hc⟩ : ∃ c : Nat, min i j = b + c := ⟨(min i j - b).toNat, by omega⟩
  have e1 : (i - b).toNat = (i - min i j).toNat + c := by omega
  have e2 : (j - b).toNat = (j - min i j).toNat + c := by omega
  rw [e1, e2, signed_shift, signed_shift, compare_scale]

theorem order_scale_l (s t : Bool) (m n q : Nat) (i j : Int) : (Datum.number s (m * 2 ^ q) (i - q)).order (Datum.number t n j) = (Datum.number s m i).order (Datum.number t n j) := by
  rw [order_base s t (m * 2 ^ q) n (i - q) j (min (i - q) j) (by omega) (by omega), order_base s t m n i j (min (i - q) j) (by omega) (by omega), signed_mul]
  congr 3; omega
theorem order_scale_r (s t : Bool) (m n q : Nat) (i j : Int) : (Datum.number s m i).order (Datum.number t (n * 2 ^ q) (j - q)) = (Datum.number s m i).order (Datum.number t n j) := by
  rw [order_base s t m (n * 2 ^ q) i (j - q) (min i (j - q)) (by omega) (by omega), order_base s t m n i j (min i (j - q)) (by omega) (by omega), signed_mul]
  congr 3; omega

/-- A single's datum: of at most 24 digits, from 2^-149 on, below 2^128. -/
theorem read32_num {b : Nat} {s : Bool} {m : Nat} {p : Int} (h : FloatKind.f32.format.read b = .number s m p) : m < 16777216 ∧ -149 ≤ p ∧ p ≤ 104 := by
  have hB : FloatKind.f32.format.binade = 8388608 := rfl
  have hI : FloatKind.f32.format.infRung = 2139095040 := rfl
  have hL : FloatKind.f32.format.leastPlace = -149 := rfl
  unfold Format.read at h
  dsimp only at h
  rw [hB, hI, hL] at h
  generalize b % FloatKind.f32.format.signWeight = r at *
  by_cases h1 : r < 8388608
  · rw [if_pos h1] at h; cases h; omega
  · rw [if_neg h1] at h
    by_cases h2 : r < 2139095040
    · rw [if_pos h2] at h; cases h; omega
    · rw [if_neg h2] at h
      by_cases h3 : r = 2139095040
      · rw [if_pos h3] at h; cases h
      · rw [if_neg h3] at h; cases h

theorem log2_le_of_lt {m k : Nat} (h : m < 2 ^ (k + 1)) : m.log2 ≤ k := by
  by_cases h0 : m = 0
  · subst h0; simp
  · have := (Nat.log2_lt h0 (k := k + 1)).2 h
    omega

/-- The double of a single. -/
def wid (b : Nat) : Nat := FloatKind.f64.encode (FloatKind.f32.decode b)

/-- A single number, as a double: the same number. -/
theorem wid_num {b : Nat} {s : Bool} {m : Nat} {p : Int} (h : FloatKind.f32.format.read b = .number s m p) :
    ∃ q : Nat, ∃ p' : Int, FloatKind.f64.format.read (wid b) = .number s (m * 2 ^ q) (p' - q) ∧ (m ≠ 0 → p' = p) := by
  have hw : wid b = FloatKind.f64.format.nearest s m p := by
    show FloatKind.f64.format.write (FloatKind.f32.format.read b) = _
    rw [h]; rfl
  obtain ⟨hm, hp1, hp2⟩ := read32_num h
  have hl := log2_le_of_lt (k := 23) hm
  by_cases h0 : m = 0
  · subst h0
    refine ⟨0, -1074, ?_, by simp⟩
    rw [hw]
    have e : FloatKind.f64.format.nearest s 0 p = FloatKind.f64.format.word s 0 := by simp [Format.nearest]
    rw [e, read_zero _ _ (by decide)]
    rfl
  · have hfb : FloatKind.f64.format.fractionBits = 52 := rfl
    have hlp : FloatKind.f64.format.leastPlace = -1074 := rfl
    have heb : (2 : Int) ^ FloatKind.f64.format.exponentBits = 2048 := rfl
    obtain ⟨q, hq⟩ := nearest_exact FloatKind.f64.format s m p h0 (by rw [hfb]; omega) (by rw [hlp]; omega) (by decide) (by rw [hfb, hlp, heb]; omega)
    exact ⟨q, p, by rw [hw, hq], fun _ => rfl⟩

theorem isN_of_read {k : FloatKind} {b : Nat} {s : Bool} {m : Nat} {p : Int} (h : k.format.read b = .number s m p) : isN k b = false := by unfold isN; rw [h]; rfl

theorem widen_some (b : Nat) (h : isN .f32 b = false) : floatToFloatBits .f32 b .f64 = some (wid b) := by
  unfold floatToFloatBits
  rw [if_neg (by decide)]
  have hd : isN .f32 b = (FloatKind.f32.decode b).isNaN := rfl
  cases hr : FloatKind.f32.decode b with
  | nan s t => rw [hd, hr] at h; cases h
  | infinity s => simp only [wid, hr]
  | number s m p =>
    have hr' : FloatKind.f32.format.read b = .number s m p := hr
    obtain ⟨q, p', hw, _⟩ := wid_num hr'
    have e : FloatKind.f64.encode (.number s m p) = wid b := by unfold wid; rw [hr]
    have hi : (FloatKind.f64.decode (FloatKind.f64.encode (.number s m p))).isInfinity = false := by
      rw [e]
      show (FloatKind.f64.format.read (wid b)).isInfinity = false
      rw [hw]; rfl
    rw [e] at hi
    simp only [e]
    rw [if_neg (by rw [hi]; simp)]

theorem widen_nan (b : Nat) (h : isN .f32 b = true) (w : World) : isN .f64 (fcv .f32 b .f64 w) = true := by
  have hn : floatToFloatBits .f32 b .f64 = none := by
    unfold floatToFloatBits
    rw [if_neg (by decide)]
    obtain ⟨s, t, e⟩ := read_nan (f := FloatKind.f32.format) h
    have e' : FloatKind.f32.decode b = .nan s t := e
    simp only [e']
  unfold fcv
  rw [hn, if_pos h]
  exact nanConvCut_isN .f64 b _

theorem isN_wid (b : Nat) (h : isN .f32 b = false) : isN .f64 (wid b) = false := write_not_nan .f64 _ h

/-- The sign taken away. -/
def Datum.abs : Datum → Datum
  | .number _ m p => .number false m p
  | .infinity _ => .infinity false
  | .nan _ t => .nan false t

theorem read_abs (f : Format) (x : Nat) : f.read (x % f.signWeight) = Datum.abs (f.read x) := by
  have hS : 0 < f.signWeight := two_pos _
  have e1 : x % f.signWeight % f.signWeight = x % f.signWeight := Nat.mod_mod ..
  have e2 : x % f.signWeight / f.signWeight = 0 := Nat.div_eq_of_lt (Nat.mod_lt _ hS)
  unfold Format.read
  dsimp only
  rw [e1, e2]
  by_cases h1 : x % f.signWeight < f.binade
  · rw [if_pos h1, if_pos h1]; rfl
  · rw [if_neg h1, if_neg h1]
    by_cases h2 : x % f.signWeight < f.infRung
    · rw [if_pos h2, if_pos h2]; rfl
    · rw [if_neg h2, if_neg h2]
      by_cases h3 : x % f.signWeight = f.infRung
      · rw [if_pos h3, if_pos h3]; rfl
      · rw [if_neg h3, if_neg h3]; rfl

theorem andNot_top (x : Nat) (h : x < 18446744073709551616) : (bits .andNot .u64 (x : Int) 9223372036854775808).toNat = x % 9223372036854775808 := by
  have h1 : (BitVec.ofInt 64 (x : Int)) = BitVec.ofNat 64 x := BitVec.ofInt_natCast ..
  have h2 : (BitVec.ofInt 64 (9223372036854775808 : Int)) = BitVec.ofNat 64 9223372036854775808 := rfl
  have e : (BitVec.ofNat 64 x &&& ~~~BitVec.ofNat 64 9223372036854775808).toNat = x % 9223372036854775808 := by
    have e1 : ~~~BitVec.ofNat 64 9223372036854775808 = BitVec.ofNat 64 9223372036854775807 := by decide
    rw [e1, BitVec.toNat_and, BitVec.toNat_ofNat, BitVec.toNat_ofNat, Nat.mod_eq_of_lt (a := x) (by omega)]
    have := Nat.and_two_pow_sub_one_eq_mod x 63
    simpa using this
  show (IntKind.u64.wrap ((BitVec.ofInt 64 (x : Int) &&& ~~~BitVec.ofInt 64 (9223372036854775808 : Int)).toNat : Int)).toNat = _
  rw [h1, h2, e, IntKind.wrap_u64]
  omega
end Go.Proofs.Ythoiiccecneefaa
