/-
  Colours: hues lead back: how far the colours that come back may be from the first ones.
-/
import Derived.Test.YtcmakibomdinbaaCBackH
namespace Go.Proofs.Ytcmakibomdinbaa

theorem sat_val {V dd : Nat} {v dq D S : Rat} (hV : Fv .f32 V v) (hd : Fv .f32 dd dq) (hdD : Near 0 dq D) (hD : 0 ≤ D) (hv : 0 < v) (hDv : D ≤ v) (hS : S * v = D) :
    ∃ s, Fv .f32 (cop .quo .f32 dd V) s ∧ 0 ≤ s ∧ 1677721600 * (s - S) ≤ 261 ∧ 1677721600 * (S - s) ≤ 261 ∧ 0 ≤ S ∧ S ≤ 1 := by
  obtain ⟨d1, d2⟩ := hdD.1 D (by grind) (by grind)
  have d0 := hdD.2.1 hD
  have hne : v ≠ 0 := by grind
  obtain ⟨Z, hZ⟩ : ∃ Z : Rat, Z * v = dq := ⟨dq / v, Rat.div_mul_cancel hne⟩
  have s0 : 0 ≤ S := nonneg_of_mul hv (by grind)
  have s1 : 0 ≤ 1 - S := nonneg_of_mul hv (by grind)
  have z0 : 0 ≤ Z := nonneg_of_mul hv (by grind)
  have z1 : 0 ≤ S - 16777216 * (Z - S) := nonneg_of_mul hv (by grind)
  have z2 : 0 ≤ S - 16777216 * (S - Z) := nonneg_of_mul hv (by grind)
  have hp := pw100
  have hm := pwm126
  obtain ⟨s, hs, hb, t1, t2⟩ := fquo hd hV hne hZ (by grind) (by grind)
  obtain ⟨b1, b2⟩ := hb (1001 / 1000) (by grind) (by grind)
  exact ⟨s, hs, t1 z0, by grind, by grind, s0, by grind⟩

/-- The last two steps. -/
theorem tail_val {V w : Nat} {v wq A c : Rat} (hV : Fv .f32 V v) (hw : Fv .f32 w wq) (h1 : 1677721600 * (wq - A) ≤ c) (h2 : 1677721600 * (A - wq) ≤ c) (_hc0 : 0 ≤ c) (hc : c ≤ 570) (hA0 : 0 ≤ A) (hA1 : A ≤ 1) (hv : 1 ≤ 1048576 * v) (hv2 : v ≤ 1048576) :
    ∃ o, Fv .f32 (cop .mul .f32 V (cop .sub .f32 1065353216 w)) o ∧ 1677721600 * (o - v * (1 - A)) ≤ (c + 201) * v ∧ 1677721600 * (v * (1 - A) - o) ≤ (c + 201) * v := by
  have h7 := pw127
  have hm := pwm126
  have hm0 := pw_pos (-126)
  obtain ⟨u, hu, hun⟩ := fsub fv1 hw (by grind) (by grind)
  obtain ⟨u1, u2⟩ := hun.1 (1 + 1 / 1000) (by grind) (by grind)
  have hv0 : 0 < v := by grind
  have k1 := Rat.mul_nonneg (Rat.le_of_lt hv0) (show 0 ≤ (c + 100 + 1 / 5) - 1677721600 * (u - (1 - A)) by grind)
  have k2 := Rat.mul_nonneg (Rat.le_of_lt hv0) (show 0 ≤ (c + 100 + 1 / 5) - 1677721600 * ((1 - A) - u) by grind)
  have k3 := Rat.mul_nonneg (Rat.le_of_lt hv0) (show 0 ≤ (1 + 1 / 500) - u by grind)
  have k4 := Rat.mul_nonneg (Rat.le_of_lt hv0) (show 0 ≤ (1 + 1 / 500) + u by grind)
  obtain ⟨o, ho, hon⟩ := fmul hV hu (by grind) (by grind)
  obtain ⟨o1, o2⟩ := hon.1 ((1 + 1 / 500) * v) (by grind) (by grind)
  exact ⟨o, ho, by grind, by grind⟩

theorem low_val {V sB : Nat} {v s S : Rat} (hV : Fv .f32 V v) (hs : Fv .f32 sB s) (h1 : 1677721600 * (s - S) ≤ 261) (h2 : 1677721600 * (S - s) ≤ 261) (hS0 : 0 ≤ S) (hS1 : S ≤ 1) (hv : 1 ≤ 1048576 * v) (hv2 : v ≤ 1048576) :
    ∃ o, Fv .f32 (lowC sB V) o ∧ 1677721600 * (o - v * (1 - S)) ≤ 780 * v ∧ 1677721600 * (v * (1 - S) - o) ≤ 780 * v := by
  obtain ⟨o, ho, a, b⟩ := tail_val hV hs h1 h2 (by decide) (by decide) hS0 hS1 hv hv2
  exact ⟨o, ho, by grind, by grind⟩

theorem mid_val {V sB eB : Nat} {v s e S E : Rat} (hV : Fv .f32 V v) (hs : Fv .f32 sB s) (he : Fv .f32 eB e) (h1 : 1677721600 * (s - S) ≤ 261) (h2 : 1677721600 * (S - s) ≤ 261) (hS0 : 0 ≤ S) (hS1 : S ≤ 1)
    (e1 : 1677721600 * (e - E) ≤ 202) (e2 : 1677721600 * (E - e) ≤ 202) (hE0 : 0 ≤ E) (hE1 : E ≤ 1) (hv : 1 ≤ 1048576 * v) (hv2 : v ≤ 1048576) :
    ∃ o, Fv .f32 (cop .mul .f32 V (cop .sub .f32 1065353216 (cop .mul .f32 sB eB))) o ∧ 1677721600 * (o - v * (1 - S * E)) ≤ 780 * v ∧ 1677721600 * (v * (1 - S * E) - o) ≤ 780 * v := by
  have h7 := pw127
  have hm := pwm126
  have hm0 := pw_pos (-126)
  have m1 := Rat.mul_nonneg hS0 (show 0 ≤ 202 - 1677721600 * (e - E) by grind)
  have m2 := Rat.mul_nonneg hS0 (show 0 ≤ 202 - 1677721600 * (E - e) by grind)
  have m3 := Rat.mul_nonneg hE0 (show 0 ≤ 261 - 1677721600 * (s - S) by grind)
  have m4 := Rat.mul_nonneg hE0 (show 0 ≤ 261 - 1677721600 * (S - s) by grind)
  have m5 := Rat.mul_nonneg (show 0 ≤ 261 - 1677721600 * (s - S) by grind) (show 0 ≤ 202 - 1677721600 * (e - E) by grind)
  have m6 := Rat.mul_nonneg (show 0 ≤ 261 - 1677721600 * (S - s) by grind) (show 0 ≤ 202 - 1677721600 * (E - e) by grind)
  have m7 := Rat.mul_nonneg (show 0 ≤ 261 - 1677721600 * (s - S) by grind) (show 0 ≤ 202 - 1677721600 * (E - e) by grind)
  have m8 := Rat.mul_nonneg (show 0 ≤ 261 - 1677721600 * (S - s) by grind) (show 0 ≤ 202 - 1677721600 * (e - E) by grind)
  have m9 := Rat.mul_nonneg hS0 hE0
  have m10 := Rat.mul_nonneg hS0 (show 0 ≤ 1 - E by grind)
  have a1 : 1677721600 * (s * e - S * E) ≤ 464 := by grind
  have a2 : 1677721600 * (S * E - s * e) ≤ 464 := by grind
  obtain ⟨w, hw, hwn⟩ := fmul hs he (by grind) (by grind)
  obtain ⟨w1, w2⟩ := hwn.1 (1 + 1 / 1000) (by grind) (by grind)
  obtain ⟨o, ho, b1, b2⟩ := tail_val (A := S * E) (c := 565) hV hw (by grind) (by grind) (by decide) (by decide) m9 (by grind) hv hv2
  exact ⟨o, ho, by grind, by grind⟩

/-- The three colours that come back, before the place is compared. -/
structure Three (h sB V al : Nat) (v S Y : Rat) : Prop where
  r : ∃ o, Fv .f32 (fromC h sB V al 0) o ∧ 1677721600 * (o - v * (1 - S * phR Y)) ≤ 780 * v ∧ 1677721600 * (v * (1 - S * phR Y) - o) ≤ 780 * v
  g : ∃ o, Fv .f32 (fromC h sB V al 1) o ∧ 1677721600 * (o - v * (1 - S * phG Y)) ≤ 780 * v ∧ 1677721600 * (v * (1 - S * phG Y) - o) ≤ 780 * v
  b : ∃ o, Fv .f32 (fromC h sB V al 2) o ∧ 1677721600 * (o - v * (1 - S * phB Y)) ≤ 780 * v ∧ 1677721600 * (v * (1 - S * phB Y) - o) ≤ 780 * v

theorem three_of {h sB V al : Nat} {hq v s S Y : Rat} (hh : Fv .f32 h hq) (hX : Fv .f32 (hexC h) Y) (Y0 : 0 ≤ Y) (Y6 : Y ≤ 6) (hV : Fv .f32 V v) (hs : Fv .f32 sB s) (h1 : 1677721600 * (s - S) ≤ 261) (h2 : 1677721600 * (S - s) ≤ 261) (hS0 : 0 ≤ S) (hS1 : S ≤ 1) (hv : 1 ≤ 1048576 * v) (hv2 : v ≤ 1048576) :
    Three h sB V al v S Y := by
  have hf : (fin h && fin sB && fin V) = true := by rw [fv_fin hh, fv_fin hs, fv_fin hV]; rfl
  obtain ⟨n, hsx, hfl⟩ := sext_of hX Y0 (by grind)
  have hj : ∀ j, j < 3 → fromC h sB V al j = pickC (min n 5) V (lowC sB V) (fallC sB V (cop .sub .f32 (hexC h) (ixC (hexC h)))) (riseC sB V (cop .sub .f32 (hexC h) (ixC (hexC h)))) j := fun j hj => by
    unfold fromC; rw [if_pos hj, if_pos hf, hsx.sx]
  have hlo := Rat.floor_le Y
  have hhi := Rat.lt_floor_add_one Y
  rw [Rat.intCast_add] at hhi
  rw [hfl] at hlo hhi
  have e1 : ((1 : Int) : Rat) = 1 := rfl
  rw [e1] at hhi
  -- the part behind the sextant's beginning
  have hI : Fv .f32 (ixC (hexC h)) (((min n 5 : Nat) : Int) : Rat) := by
    unfold ixC
    rw [hsx.g5]
    by_cases h6 : n = 6
    · subst h6; rw [decide_eq_true rfl, if_pos rfl]; exact fv5
    · rw [decide_eq_false h6, if_neg (by simp)]
      have := (ffloor hX).2
      rw [hfl] at this
      have hmin : min n 5 = n := by have := hsx.le; omega
      rw [hmin]; exact this
  have hfr : 0 ≤ Y - (((min n 5 : Nat) : Int) : Rat) ∧ Y - (((min n 5 : Nat) : Int) : Rat) ≤ 1 := by
    by_cases h6 : n = 6
    · subst h6
      have : (((6 : Nat) : Int) : Rat) = 6 := rfl
      rw [this] at hlo
      have : (((min 6 5 : Nat) : Int) : Rat) = 5 := rfl
      rw [this]; grind
    · have hmin : min n 5 = n := by have := hsx.le; omega
      rw [hmin]; grind
  obtain ⟨i, hi⟩ : ∃ i : Rat, i = (((min n 5 : Nat) : Int) : Rat) := ⟨_, rfl⟩
  rw [← hi] at hI hfr
  obtain ⟨f0, f1⟩ := hfr
  have h7 := pw127
  obtain ⟨fq, hfq, hfn⟩ := fsub hX hI (by grind) (by grind)
  obtain ⟨g1, g2⟩ := hfn.1 1 (by grind) (by grind)
  obtain ⟨cq, hcq, hcn⟩ := fsub fv1 hfq (by grind) (by grind)
  obtain ⟨k1, k2⟩ := hcn.1 (1 + 1 / 100000) (by grind) (by grind)
  have LV := low_val hV hs h1 h2 hS0 hS1 hv hv2
  have FV := mid_val (E := Y - i) hV hs hfq h1 h2 hS0 hS1 (by grind) (by grind) f0 f1 hv hv2
  have RV := mid_val (E := 1 - (Y - i)) hV hs hcq h1 h2 hS0 hS1 (by grind) (by grind) (by grind) (by grind) hv hv2
  have hv0 : 0 ≤ v := by grind
  have VV : ∃ o, Fv .f32 V o ∧ 1677721600 * (o - v * (1 - S * 0)) ≤ 780 * v ∧ 1677721600 * (v * (1 - S * 0) - o) ≤ 780 * v := ⟨v, hV, by grind, by grind⟩
  have LV1 : ∃ o, Fv .f32 (lowC sB V) o ∧ 1677721600 * (o - v * (1 - S * 1)) ≤ 780 * v ∧ 1677721600 * (v * (1 - S * 1) - o) ≤ 780 * v := by
    obtain ⟨o, ho, a, b⟩ := LV; exact ⟨o, ho, by grind, by grind⟩
  have hn : n = 0 ∨ n = 1 ∨ n = 2 ∨ n = 3 ∨ n = 4 ∨ n = 5 ∨ n = 6 := by have := hsx.le; omega
  rcases hn with rfl | rfl | rfl | rfl | rfl | rfl | rfl
  · have ei : i = 0 := hi
    have c0 : (((0 : Nat) : Int) : Rat) = 0 := rfl
    rw [c0] at hlo hhi
    obtain ⟨p1, p2, p3⟩ := ph_0 Y Y0 (by grind)
    refine ⟨?_, ?_, ?_⟩
    · rw [hj 0 (by decide), p1]; exact VV
    · rw [hj 1 (by decide), p2, show 1 - Y = 1 - (Y - i) by grind]; exact RV
    · rw [hj 2 (by decide), p3]; exact LV1
  · have ei : i = 1 := hi
    have c0 : (((1 : Nat) : Int) : Rat) = 1 := rfl
    rw [c0] at hlo hhi
    obtain ⟨p1, p2, p3⟩ := ph_1 Y hlo (by grind)
    refine ⟨?_, ?_, ?_⟩
    · rw [hj 0 (by decide), p1, show Y - 1 = Y - i by grind]; exact FV
    · rw [hj 1 (by decide), p2]; exact VV
    · rw [hj 2 (by decide), p3]; exact LV1
  · have ei : i = 2 := hi
    have c0 : (((2 : Nat) : Int) : Rat) = 2 := rfl
    rw [c0] at hlo hhi
    obtain ⟨p1, p2, p3⟩ := ph_2 Y hlo (by grind)
    refine ⟨?_, ?_, ?_⟩
    · rw [hj 0 (by decide), p1]; exact LV1
    · rw [hj 1 (by decide), p2]; exact VV
    · rw [hj 2 (by decide), p3, show 3 - Y = 1 - (Y - i) by grind]; exact RV
  · have ei : i = 3 := hi
    have c0 : (((3 : Nat) : Int) : Rat) = 3 := rfl
    rw [c0] at hlo hhi
    obtain ⟨p1, p2, p3⟩ := ph_3 Y hlo (by grind)
    refine ⟨?_, ?_, ?_⟩
    · rw [hj 0 (by decide), p1]; exact LV1
    · rw [hj 1 (by decide), p2, show Y - 3 = Y - i by grind]; exact FV
    · rw [hj 2 (by decide), p3]; exact VV
  · have ei : i = 4 := hi
    have c0 : (((4 : Nat) : Int) : Rat) = 4 := rfl
    rw [c0] at hlo hhi
    obtain ⟨p1, p2, p3⟩ := ph_4 Y hlo (by grind)
    refine ⟨?_, ?_, ?_⟩
    · rw [hj 0 (by decide), p1, show 5 - Y = 1 - (Y - i) by grind]; exact RV
    · rw [hj 1 (by decide), p2]; exact LV1
    · rw [hj 2 (by decide), p3]; exact VV
  · have ei : i = 5 := hi
    have c0 : (((5 : Nat) : Int) : Rat) = 5 := rfl
    rw [c0] at hlo hhi
    obtain ⟨p1, p2, p3⟩ := ph_5 Y hlo Y6
    refine ⟨?_, ?_, ?_⟩
    · rw [hj 0 (by decide), p1]; exact VV
    · rw [hj 1 (by decide), p2]; exact LV1
    · rw [hj 2 (by decide), p3, show Y - 5 = Y - i by grind]; exact FV
  · have ei : i = 5 := hi
    have c0 : (((6 : Nat) : Int) : Rat) = 6 := rfl
    rw [c0] at hlo
    obtain ⟨p1, p2, p3⟩ := ph_5 Y (by grind) Y6
    refine ⟨?_, ?_, ?_⟩
    · rw [hj 0 (by decide), p1]; exact VV
    · rw [hj 1 (by decide), p2]; exact LV1
    · rw [hj 2 (by decide), p3, show Y - 5 = Y - i by grind]; exact FV
end Go.Proofs.Ytcmakibomdinbaa
