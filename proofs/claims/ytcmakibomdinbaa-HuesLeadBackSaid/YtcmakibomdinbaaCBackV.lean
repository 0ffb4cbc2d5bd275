/-
  Colours: hues lead back: the whole chain, and the comparison by doubles.
-/
import Derived.Test.YtcmakibomdinbaaCBackO
import Derived.Test.YtcmakibomdinbaaCLdx
import Derived.Test.YtcmakibomdinbaaCSatR
namespace Go.Proofs.Ytcmakibomdinbaa
open Ieee (Datum Format signed)

theorem ogt {k : FloatKind} {x y : Nat} {a b : Rat} (hx : Fv k x a) (hy : Fv k y b) : ((k.format.order x y == some .gt) = true ↔ b < a) := by
  rw [forder hx hy]
  by_cases h1 : a < b
  · rw [if_pos h1]; constructor
    · intro h; cases h
    · intro h; grind
  · rw [if_neg h1]
    by_cases h2 : b < a
    · rw [if_pos h2]; constructor
      · intro _; exact h2
      · intro _; rfl
    · rw [if_neg h2]; constructor
      · intro h; cases h
      · intro h; exact absurd h h2
theorem olt {k : FloatKind} {x y : Nat} {a b : Rat} (hx : Fv k x a) (hy : Fv k y b) : ((k.format.order x y == some .lt) = true ↔ a < b) := by
  rw [forder hx hy]
  by_cases h1 : a < b
  · rw [if_pos h1]; exact ⟨fun _ => h1, fun _ => rfl⟩
  · rw [if_neg h1]
    by_cases h2 : b < a
    · rw [if_pos h2]; constructor
      · intro h; cases h
      · intro h; exact absurd h h1
    · rw [if_neg h2]; constructor
      · intro h; cases h
      · intro h; exact absurd h h1

theorem mx_val (f : Nat → Nat) {r g b : Rat} (h0 : Fv .f32 (f 0) r) (h1 : Fv .f32 (f 1) g) (h2 : Fv .f32 (f 2) b) : ∃ v, Fv .f32 (mx f 2) v ∧ r ≤ v ∧ g ≤ v ∧ b ≤ v ∧ (v = r ∨ v = g ∨ v = b) := by
  have m1 : ∃ v, Fv .f32 (mx f 1) v ∧ r ≤ v ∧ g ≤ v ∧ (v = r ∨ v = g) := by
    have e : mx f 1 = if (FloatKind.f32.format.order (f 1) (f 0) == some .gt) = true then f 1 else f 0 := rfl
    rw [e]
    by_cases hc : (FloatKind.f32.format.order (f 1) (f 0) == some .gt) = true
    · rw [if_pos hc]
      have := (ogt h1 h0).1 hc
      exact ⟨g, h1, by grind, by grind, Or.inr rfl⟩
    · rw [if_neg hc]
      have : ¬ r < g := fun h => hc ((ogt h1 h0).2 h)
      exact ⟨r, h0, by grind, by grind, Or.inl rfl⟩
  obtain ⟨v, hv, v0, v1, vv⟩ := m1
  have e : mx f 2 = if (FloatKind.f32.format.order (f 2) (mx f 1) == some .gt) = true then f 2 else mx f 1 := rfl
  rw [e]
  by_cases hc : (FloatKind.f32.format.order (f 2) (mx f 1) == some .gt) = true
  · rw [if_pos hc]
    have := (ogt h2 hv).1 hc
    exact ⟨b, h2, by grind, by grind, by grind, Or.inr (Or.inr rfl)⟩
  · rw [if_neg hc]
    have : ¬ v < b := fun h => hc ((ogt h2 hv).2 h)
    exact ⟨v, hv, v0, v1, by grind, by grind⟩

theorem mn_val (f : Nat → Nat) {r g b : Rat} (h0 : Fv .f32 (f 0) r) (h1 : Fv .f32 (f 1) g) (h2 : Fv .f32 (f 2) b) : ∃ m, Fv .f32 (mn f 2) m ∧ m ≤ r ∧ m ≤ g ∧ m ≤ b ∧ (m = r ∨ m = g ∨ m = b) := by
  have m1 : ∃ v, Fv .f32 (mn f 1) v ∧ v ≤ r ∧ v ≤ g ∧ (v = r ∨ v = g) := by
    have e : mn f 1 = if (FloatKind.f32.format.order (f 1) (f 0) == some .lt) = true then f 1 else f 0 := rfl
    rw [e]
    by_cases hc : (FloatKind.f32.format.order (f 1) (f 0) == some .lt) = true
    · rw [if_pos hc]
      have := (olt h1 h0).1 hc
      exact ⟨g, h1, by grind, by grind, Or.inr rfl⟩
    · rw [if_neg hc]
      have : ¬ g < r := fun h => hc ((olt h1 h0).2 h)
      exact ⟨r, h0, by grind, by grind, Or.inl rfl⟩
  obtain ⟨v, hv, v0, v1, vv⟩ := m1
  have e : mn f 2 = if (FloatKind.f32.format.order (f 2) (mn f 1) == some .lt) = true then f 2 else mn f 1 := rfl
  rw [e]
  by_cases hc : (FloatKind.f32.format.order (f 2) (mn f 1) == some .lt) = true
  · rw [if_pos hc]
    have := (olt h2 hv).1 hc
    exact ⟨b, h2, by grind, by grind, by grind, Or.inr (Or.inr rfl)⟩
  · rw [if_neg hc]
    have : ¬ b < v := fun h => hc ((olt h2 hv).2 h)
    exact ⟨v, hv, v0, v1, by grind, by grind⟩

/-- What comes back of a pixel of numbers from 2^-20 to 2^20. -/
theorem back_val (f : Nat → Nat) {r g b : Rat} (h0 : Fv .f32 (f 0) r) (h1 : Fv .f32 (f 1) g) (h2 : Fv .f32 (f 2) b) (l0 : 1 ≤ 1048576 * r) (l1 : 1 ≤ 1048576 * g) (l2 : 1 ≤ 1048576 * b) (u0 : r ≤ 1048576) (u1 : g ≤ 1048576) (u2 : b ≤ 1048576) :
    ∃ v, Fv .f32 (hsvV f) v ∧ 1 ≤ 1048576 * v ∧ v ≤ 1048576 ∧
      (∃ o, Fv .f32 (fromC (hsvH f) (hsvS f) (hsvV f) (f 3) 0) o ∧ 1677721600 * (o - r) ≤ 2950 * v ∧ 1677721600 * (r - o) ≤ 2950 * v) ∧
      (∃ o, Fv .f32 (fromC (hsvH f) (hsvS f) (hsvV f) (f 3) 1) o ∧ 1677721600 * (o - g) ≤ 2950 * v ∧ 1677721600 * (g - o) ≤ 2950 * v) ∧
      (∃ o, Fv .f32 (fromC (hsvH f) (hsvS f) (hsvV f) (f 3) 2) o ∧ 1677721600 * (o - b) ≤ 2950 * v ∧ 1677721600 * (b - o) ≤ 2950 * v) := by
  have hn : nanAt f = 3 := by
    unfold nanAt
    rw [if_neg (by rw [h0.not_nan]; simp), if_neg (by rw [h1.not_nan]; simp), if_neg (by rw [h2.not_nan]; simp)]
  have eH : hsvH f = hueC f (mx f 2) (cop .sub .f32 (mx f 2) (mn f 2)) := by unfold hsvH; rw [hn]; rfl
  have eS : hsvS f = cn .f32 (satC (mx f 2) (cop .sub .f32 (mx f 2) (mn f 2))) := by unfold hsvS; rw [hn]; rfl
  have eV : hsvV f = mx f 2 := by unfold hsvV; rw [hn]; rfl
  rw [eH, eS, eV]
  obtain ⟨v, hv, v0, v1, v2, vv⟩ := mx_val f h0 h1 h2
  obtain ⟨m, hm, m0, m1, m2, mm⟩ := mn_val f h0 h1 h2
  have h7 := pw127
  have hp1 := pw100
  have vl : 1 ≤ 1048576 * v := by grind
  have vu : v ≤ 1048576 := by grind
  obtain ⟨dq, hd, hdn⟩ := fsub hv hm (by grind) (by grind)
  have hvne : v ≠ 0 := by grind
  obtain ⟨S, hS⟩ : ∃ S : Rat, S * v = v - m := ⟨(v - m) / v, Rat.div_mul_cancel hvne⟩
  obtain ⟨s, hs, s0, s1, s2, S0, S1⟩ := sat_val (D := v - m) hv hd hdn (by grind) (by grind) (by grind) hS
  have hvz : ¬ (FloatKind.f32.format.order (mx f 2) 0 == some .eq) = true := fun h => by
    have := (order_val hv fv0).1 h; grind
  have eS2 : satC (mx f 2) (cop .sub .f32 (mx f 2) (mn f 2)) = cop .quo .f32 (cop .sub .f32 (mx f 2) (mn f 2)) (mx f 2) := by unfold satC; rw [if_neg hvz]
  rw [eS2, hs.cn]
  generalize hdd : cop .sub .f32 (mx f 2) (mn f 2) = dd at *
  have main : ∃ y Y hq, Fv .f32 (hueC f (mx f 2) dd) hq ∧ Fv .f32 (hexC (hueC f (mx f 2) dd)) Y ∧ Close y Y ∧ r = v - (v - m) * phR y ∧ g = v - (v - m) * phG y ∧ b = v - (v - m) * phB y := by
    by_cases hD : v - m = 0
    · have hdq : dq = 0 := by
        have a1 := hdn.2.1 (by grind)
        have a2 := hdn.2.2 (by grind)
        grind
      have e0 : hueC f (mx f 2) dd = 0 := by
        unfold hueC
        rw [if_pos ((order_val hd fv0).2 hdq)]
      rw [e0]
      obtain ⟨Y, hY, hY2⟩ := hex_low fv0 (by decide) (by decide)
      have Y0 : Y = 0 := by
        have a1 := hY2.2.1 (by grind)
        have a2 := hY2.2.2 (by grind)
        grind
      subst Y0
      refine ⟨0, 0, 0, fv0, hY, ⟨by decide, by decide, by decide, by decide, Or.inl ⟨by decide +kernel, by decide +kernel⟩⟩, ?_, ?_, ?_⟩ <;> rw [hD] <;> grind
    · exact hue_close f (mx f 2) dd h0 h1 h2 hv hd hdn (by grind) v0 v1 v2 vv (by grind) (by grind) (by grind) (by grind) (by grind) (by grind)
  obtain ⟨y, Y, hq, q1, q2, hc, e1, e2, e3⟩ := main
  have hT := three_of (al := f 3) q1 q2 hc.1 hc.2.1 hv hs s1 s2 S0 S1 vl vu
  obtain ⟨⟨r1, r2⟩, ⟨g1, g2⟩, ⟨b1, b2⟩⟩ := close_ph hc
  have D0 : 0 ≤ v - m := by grind
  have key : ∀ (P p o x : Rat), x = v - (v - m) * p → 1677721600 * (P - p) ≤ 2170 → 1677721600 * (p - P) ≤ 2170 → 1677721600 * (o - v * (1 - S * P)) ≤ 780 * v → 1677721600 * (v * (1 - S * P) - o) ≤ 780 * v →
      1677721600 * (o - x) ≤ 2950 * v ∧ 1677721600 * (x - o) ≤ 2950 * v := by
    intro P p o x hx c1 c2 c3 c4
    have k1 := Rat.mul_nonneg D0 (show 0 ≤ 2170 - 1677721600 * (P - p) by grind)
    have k2 := Rat.mul_nonneg D0 (show 0 ≤ 2170 - 1677721600 * (p - P) by grind)
    have e : v * (1 - S * P) = v - (v - m) * P := by rw [← hS]; grind
    rw [e] at c3 c4
    constructor <;> grind
  obtain ⟨o0, ho0, a0, b0⟩ := hT.r
  obtain ⟨o1, ho1, a1, b1'⟩ := hT.g
  obtain ⟨o2, ho2, a2, b2'⟩ := hT.b
  obtain ⟨x0, y0⟩ := key _ _ _ _ e1 r1 r2 a0 b0
  obtain ⟨x1, y1⟩ := key _ _ _ _ e2 g1 g2 a1 b1'
  obtain ⟨x2, y2⟩ := key _ _ _ _ e3 b1 b2 a2 b2'
  exact ⟨v, hv, vl, vu, ⟨o0, ho0, x0, y0⟩, ⟨o1, ho1, x1, y1⟩, ⟨o2, ho2, x2, y2⟩⟩

/-- A single's double has its value. -/
theorem wid_val {x : Nat} {a : Rat} (h : Fv .f32 x a) : Fv .f64 (wid x) a := by
  obtain ⟨s, m, p, hr, rfl⟩ := h
  obtain ⟨q, p', hw, hpp⟩ := wid_num hr
  refine ⟨s, m * 2 ^ q, p' - q, hw, ?_⟩
  by_cases h0 : m = 0
  · subst h0; rw [dv_zero, Nat.zero_mul, dv_zero]
  · rw [hpp h0]; unfold dv; rw [pw_shift, show p - (q : Int) + q = p by omega]

/-- The magnitude of a difference of doubles. -/
theorem gap64 {x y : Nat} {a b B : Rat} (hx : Fv .f64 x a) (hy : Fv .f64 y b) (h1 : a - b ≤ B) (h2 : b - a ≤ B) (hB : B < 1267650600228229401496703205376) :
    ∃ z c, floatBits .sub .f64 x y = some z ∧ Fv .f64 (absB z) c ∧ 1000 * c ≤ 1001 * B := by
  obtain ⟨s, m, i, hr, rfl⟩ := hx
  obtain ⟨t, n, j, hr', rfl⟩ := hy
  obtain ⟨u, M, hs, hv⟩ := sum_val s (!t) m n i j
  rw [dv_neg] at hv
  have hz : floatBits .sub .f64 x y = some (FloatKind.f64.format.nearest u M (min i j)) := by
    show FloatKind.f64.format.sub x y = _
    unfold Format.sub
    rw [hr, hr']
    show ((Datum.number s m i).sum (Datum.number (!t) n j)).map _ = _
    rw [hs]; rfl
  have hlt : FloatKind.f64.format.nearest u M (min i j) < 18446744073709551616 := by
    have := floatBits_wf hz
    simpa [Lit.wf] using this
  have hM0 := mag_nonneg M (min i j)
  have hMB : (M : Rat) * pw (min i j) ≤ B := by
    unfold dv at hv h1 h2
    cases u <;> simp at hv <;> grind
  have hread : ∃ k e, FloatKind.f64.format.read (FloatKind.f64.format.nearest u M (min i j)) = .number u k e ∧ 1000 * ((k : Rat) * pw e) ≤ 1001 * ((M : Rat) * pw (min i j)) := by
    by_cases h0 : M = 0
    · subst h0
      have e : FloatKind.f64.format.nearest u 0 (min i j) = FloatKind.f64.format.word u 0 := by simp [Format.nearest]
      refine ⟨0, -1074, ?_, ?_⟩
      · rw [e, read_zero _ _ (by decide)]; rfl
      · simp only [Rat.natCast_ofNat, Rat.zero_mul]; grind
    · have hfb : FloatKind.f64.format.fractionBits = 52 := rfl
      have hlp : FloatKind.f64.format.leastPlace = -1074 := rfl
      have heb : (2 : Int) ^ FloatKind.f64.format.exponentBits = 2048 := rfl
      have hp1 := pw100
      have hl := log2_bound (p := min i j) (e := 100) h0 (by rw [hp1]; revert hMB hB; generalize (M : Rat) * pw (min i j) = Q; intro b1 b2; grind)
      obtain ⟨last, hlast⟩ : ∃ last, last = max (min i j + (M.log2 : Int) - (FloatKind.f64.format.fractionBits : Int)) FloatKind.f64.format.leastPlace := ⟨_, rfl⟩
      obtain ⟨k, e, hrd, c1, c2, c3⟩ := near_gen FloatKind.f64.format u M (min i j) last h0 hlast (by rw [heb, hfb, hlp]; omega) (by rw [heb]; decide)
      rw [hfb, hlp] at hlast
      refine ⟨k, e, hrd, ?_⟩
      by_cases hc : last ≤ min i j
      · rw [c3 hc]; grind
      · have hpl : -1074 ≤ i ∧ -1074 ≤ j := by
          have key : ∀ {w : Nat} {s : Bool} {m : Nat} {p : Int}, FloatKind.f64.format.read w = .number s m p → -1074 ≤ p := by
            intro w s m p h
            unfold Format.read at h
            dsimp only at h
            rw [hlp] at h
            split at h
            · cases h; omega
            · split at h
              · cases h; omega
              · split at h <;> cases h
          exact ⟨key hr, key hr'⟩
        have hlast2 : last = min i j + (M.log2 : Int) - 52 := by omega
        have a1 : ((2 ^ M.log2 : Nat) : Rat) ≤ (M : Rat) := Rat.natCast_le_natCast.2 (Nat.log2_self_le h0)
        have a2 := Rat.mul_le_mul_of_nonneg_right a1 (Rat.le_of_lt (pw_pos (min i j)))
        have a3 : ((2 ^ M.log2 : Nat) : Rat) * pw (min i j) = pw 52 * pw last := by
          rw [← pw_add, hlast2, show (52 : Int) + (min i j + M.log2 - 52) = min i j + M.log2 by omega, pw_add, pw_nat]; grind
        have a4 : pw 52 = 4503599627370496 := by unfold pw; decide +kernel
        rw [a3, a4] at a2
        have := pw_pos last
        grind
  obtain ⟨k, e, hrd, hk⟩ := hread
  refine ⟨_, (k : Rat) * pw e, hz, ⟨false, k, e, ?_, rfl⟩, by grind⟩
  unfold absB
  rw [andNot_top _ hlt]
  have := read_abs Ieee.double (FloatKind.f64.format.nearest u M (min i j))
  have hrd' : Ieee.double.read (FloatKind.f64.format.nearest u M (min i j)) = .number u k e := hrd
  rw [hrd'] at this
  exact this

/-- A share of a single that is above 0. -/
theorem ldexp_val {V : Nat} {v : Rat} (hV : Fv .f32 V v) (hv : 0 < v) : ∃ L, (∀ w : World, Calls Try.prog 18 #[.float .f64 (wid V), .int .i64 (-19)] w fun e w' => e = .returned (.float .f64 L) ∧ ∃ n, w' = w.drewN n) ∧ ∃ l, Fv .f64 L l ∧ l * 524288 = v := by
  obtain ⟨s, m, p, hr, rfl⟩ := hV
  obtain ⟨hm, hp1, hp2⟩ := read32_num hr
  have hz := mag_nonneg m p
  have hs : s = false := by
    cases s
    · rfl
    · have e : dv true m p = -((m : Rat) * pw p) := rfl
      rw [e] at hv; exfalso; grind
  subst hs
  have hm0 : m ≠ 0 := fun h => by subst h; rw [dv_zero] at hv; exact absurd hv (by decide)
  have hl := log2_le_of_lt (k := 23) hm
  obtain ⟨q, j, hq, hj, hx, hw⟩ := dbl_xw m p hm0 (by omega) (by omega) (by omega)
  have hwid : wid V = xw j (m * 2 ^ q) := by
    rw [← hw]
    show FloatKind.f64.format.write (FloatKind.f32.format.read V) = _
    rw [hr]; rfl
  obtain ⟨i, hi⟩ : ∃ i : Nat, (j : Int) + (-19) = (i : Int) := ⟨j - 19, by omega⟩
  have hxi : Xw i (m * 2 ^ q) := ⟨hx.lo, hx.hi, by have := hx.top; omega⟩
  refine ⟨xw i (m * 2 ^ q), fun w => by rw [hwid]; exact ldexp_xw hx (-19) i hxi.top hi w, _, ⟨false, _, _, xw_read hxi, rfl⟩, ?_⟩
  show ((m * 2 ^ q : Nat) : Rat) * pw (-1074 + (i : Int)) * 524288 = (m : Rat) * pw p
  rw [pw_shift, show -1074 + (i : Int) + (q : Int) = p + (-19) by omega, pw_add]
  have : pw (-19) * 524288 = 1 := by unfold pw; decide +kernel
  grind

/-- The test of the law: not greater. -/
theorem not_more {x y : Nat} {a b v : Rat} (hx : Fv .f32 x a) (hy : Fv .f32 y b) (h1 : 1677721600 * (a - b) ≤ 2950 * v) (h2 : 1677721600 * (b - a) ≤ 2950 * v) (hv : 1 ≤ 1048576 * v) (hv2 : v ≤ 1048576) {L : Nat} {l : Rat} (hL : Fv .f64 L l) (hl : l * 524288 = v) :
    ∃ z, floatBits .sub .f64 (wid x) (wid y) = some z ∧ (FloatKind.f64.format.order (absB z) L == some .gt) = false := by
  obtain ⟨z, c, hz, hc, hb⟩ := gap64 (B := 3000 * v / 1677721600) (wid_val hx) (wid_val hy) (by grind) (by grind) (by grind)
  refine ⟨z, hz, ?_⟩
  have : ¬ l < c := by
    intro h
    have e : 1677721600 * (3000 * v / 1677721600) = 3000 * v := by grind
    grind
  by_cases hg : (FloatKind.f64.format.order (absB z) L == some .gt) = true
  · exact absurd ((ogt hc hL).1 hg) this
  · simpa using hg
end Go.Proofs.Ytcmakibomdinbaa
