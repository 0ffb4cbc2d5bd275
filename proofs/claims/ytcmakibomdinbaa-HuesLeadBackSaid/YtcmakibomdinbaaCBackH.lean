/-
  Colours: hues lead back: the place of a rounded hue on the circle.
-/
import Derived.Test.YtcmakibomdinbaaCBackN
namespace Go.Proofs.Ytcmakibomdinbaa

theorem below_one {b : Nat} {q : Rat} (h : Fv .f32 b q) (hq : q < 1) : 16777216 * q ≤ 16777215 := by
  obtain ⟨s, m, p, hr, rfl⟩ := h
  obtain ⟨hm, -, -⟩ := read32_num hr
  have hz := mag_nonneg m p
  have hK : pw 24 = 16777216 := by unfold pw; decide +kernel
  cases s
  · have e : dv false m p = (m : Rat) * pw p := rfl
    rw [e] at hq ⊢
    have e2 : 16777216 * ((m : Rat) * pw p) = (m : Rat) * pw (24 + p) := by rw [pw_add, hK]; grind
    rw [e2]
    by_cases hp : -24 ≤ p
    · obtain ⟨k, hk⟩ : ∃ k : Nat, 24 + p = (k : Int) := ⟨(24 + p).toNat, by omega⟩
      rw [hk, pw_nat, ← Rat.natCast_mul] at e2 ⊢
      have hlt : ((m * 2 ^ k : Nat) : Rat) < ((16777216 : Nat) : Rat) := by
        rw [← e2]
        have : ((16777216 : Nat) : Rat) = 16777216 := rfl
        rw [this]; grind
      have := Rat.natCast_lt_natCast.1 hlt
      have h2 : ((m * 2 ^ k : Nat) : Rat) ≤ ((16777215 : Nat) : Rat) := Rat.natCast_le_natCast.2 (by omega)
      exact h2
    · have h1 : pw (24 + p) ≤ pw 0 := pw_le (by omega)
      rw [pw_zero] at h1
      have h2 : (m : Rat) ≤ ((16777215 : Nat) : Rat) := Rat.natCast_le_natCast.2 (by omega)
      have h3 : ((16777215 : Nat) : Rat) = 16777215 := rfl
      rw [h3] at h2
      have h4 := Rat.mul_le_mul_of_nonneg_left h1 (show (0 : Rat) ≤ (m : Rat) from Rat.natCast_nonneg)
      grind
  · have e : dv true m p = -((m : Rat) * pw p) := rfl
    rw [e]; grind

theorem floor_zero {q : Rat} (h0 : 0 ≤ q) (h1 : q < 1) : q.floor = 0 := floor_eq (n := 0) (by exact h0) (by have : ((0 : Int) : Rat) = 0 := rfl; rw [this]; grind)
theorem floor_one {q : Rat} (h0 : 1 ≤ q) (h1 : q < 2) : q.floor = 1 := floor_eq (n := 1) (by exact h0) (by have : ((1 : Int) : Rat) = 1 := rfl; rw [this]; grind)

theorem hex_low {h : Nat} {hq : Rat} (hh : Fv .f32 h hq) (h0 : 0 ≤ hq) (h1 : hq < 1) : ∃ Y, Fv .f32 (hexC h) Y ∧ Near (pw (-126)) Y (hq * 6) := by
  obtain ⟨_, hf⟩ := ffloor hh
  rw [floor_zero h0 h1] at hf
  have hp : Fv .f32 (partC h) hq := fsub_zero hh hf
  have h7 := pw127
  exact fmul hp fv6 (by grind) (by grind)
theorem hex_one {h : Nat} {hq : Rat} (hh : Fv .f32 h hq) (h0 : 1 ≤ hq) (h1 : 16777216 * hq ≤ 16777217) : ∃ Y, Fv .f32 (hexC h) Y ∧ 0 ≤ Y ∧ 1677721600 * Y ≤ 610 := by
  obtain ⟨_, hf⟩ := ffloor hh
  rw [floor_one h0 (by grind)] at hf
  have h7 := pw127
  have hm := pwm126
  have hm0 := pw_pos (-126)
  have e1 : ((1 : Int) : Rat) = 1 := rfl
  rw [e1] at hf
  obtain ⟨q, hq2, hn⟩ := fsub hh hf (by grind) (by grind)
  obtain ⟨n1, n2⟩ := hn.1 (hq - 1) (by grind) (by grind)
  have q0 := hn.2.1 (by grind)
  obtain ⟨Y, hY, hY2⟩ := fmul (show Fv .f32 (partC h) q from hq2) fv6 (by grind) (by grind)
  obtain ⟨m1, m2⟩ := hY2.1 (q * 6) (by grind) (by grind)
  exact ⟨Y, hY, hY2.2.1 (by grind), by grind⟩

/-- The rounded place is near the exact one. -/
def Close (y Y : Rat) : Prop := 0 ≤ Y ∧ Y ≤ 6 ∧ 0 ≤ y ∧ y ≤ 6 ∧ ((1677721600 * (Y - y) ≤ 2170 ∧ 1677721600 * (y - Y) ≤ 2170) ∨ (Y ≤ 1 ∧ 5 ≤ y ∧ 1677721600 * (Y + 6 - y) ≤ 2170))

theorem up_neg {h : Nat} {hq : Rat} (hh : Fv .f32 h hq) (h0 : hq < 0) : upC h = cop .add .f32 h 1065353216 := by
  unfold upC
  rw [if_pos]
  rw [forder hh fv0, if_pos h0]; rfl
theorem up_pos {h : Nat} {hq : Rat} (hh : Fv .f32 h hq) (h0 : 0 ≤ hq) : upC h = h := by
  unfold upC
  rw [if_neg]
  rw [forder hh fv0, if_neg (by grind)]
  by_cases h1 : 0 < hq
  · rw [if_pos h1]; decide
  · rw [if_neg h1]; decide

/-- Red is the greatest. -/
theorem close_red {x : Nat} {xq X N y : Rat} (hx : Fv .f32 x xq) (a1 : 1677721600 * (xq - X) ≤ 361) (a2 : 1677721600 * (X - xq) ≤ 361) (s1 : 0 ≤ N → 0 ≤ xq) (s2 : N ≤ 0 → xq ≤ 0) (b1 : -1 ≤ X) (b2 : X ≤ 1)
    (hN : 0 ≤ N ∨ N ≤ 0) (hNX : (0 ≤ N → 0 ≤ X) ∧ (N ≤ 0 → X ≤ 0)) (hN0 : X = 0 → N = 0) (hy : (0 ≤ X ∧ y = X) ∨ (X ≤ 0 ∧ y = X + 6)) (hy6 : y ≤ 6) :
    ∃ Y hq, Fv .f32 (upC (cop .quo .f32 x 1086324736)) hq ∧ Fv .f32 (hexC (upC (cop .quo .f32 x 1086324736))) Y ∧ Close y Y := by
  obtain ⟨h, hh, c1, c2, t1, t2⟩ := chain_h0 hx (by decide) a1 a2 (by decide) b1 (by grind) (1 / 6) (Or.inl (by decide +kernel)) (by grind) (by grind)
  have hm := pwm126
  have hm0 := pw_pos (-126)
  have h7 := pw127
  by_cases hneg : h < 0
  · rw [up_neg hh hneg]
    have hNneg : N ≤ 0 := by
      rcases hN with h' | h'
      · have := t1 (s1 h'); grind
      · exact h'
    have hX0 := hNX.2 hNneg
    have hyX : y = X + 6 := by
      rcases hy with ⟨h', rfl⟩ | ⟨_, h'⟩
      · exfalso
        have e : y = 0 := by grind
        have hz := hN0 e
        have := t1 (s1 (by grind))
        grind
      · exact h'
    obtain ⟨hq, hhq, hn⟩ := fadd hh fv1 (by grind) (by grind)
    obtain ⟨n1, n2⟩ := hn.1 1 (by grind) (by grind)
    have q0 := hn.2.1 (by grind)
    by_cases hlt : hq < 1
    · have hb := below_one hhq hlt
      obtain ⟨Y, hY, hY2⟩ := hex_low hhq q0 hlt
      obtain ⟨m1, m2⟩ := hY2.1 (hq * 6) (by grind) (by grind)
      have Y0 := hY2.2.1 (by grind)
      exact ⟨Y, hq, hhq, hY, Y0, by grind, by grind, hy6, Or.inl ⟨by grind, by grind⟩⟩
    · obtain ⟨Y, hY, Y0, Y1⟩ := hex_one hhq (by grind) (by grind)
      exact ⟨Y, hq, hhq, hY, Y0, by grind, by grind, hy6, Or.inr ⟨by grind, by grind, by grind⟩⟩
  · rw [up_pos hh (by grind)]
    have h1 : h < 1 := by grind
    obtain ⟨Y, hY, hY2⟩ := hex_low hh (by grind) h1
    obtain ⟨m1, m2⟩ := hY2.1 (h * 6) (by grind) (by grind)
    have Y0 := hY2.2.1 (by grind)
    rcases hy with ⟨hx0, rfl⟩ | ⟨hx0, rfl⟩
    · exact ⟨Y, h, hh, hY, Y0, by grind, hx0, hy6, Or.inl ⟨by grind, by grind⟩⟩
    · by_cases hz : X = 0
      · -- the place is 6, and the hue 0 or a little above
        subst hz
        refine ⟨Y, h, hh, hY, Y0, by grind, by grind, hy6, Or.inr ⟨by grind, by grind, ?_⟩⟩
        grind
      · have hNn : N ≤ 0 := by
          rcases hN with h' | h'
          · have := hNX.1 h'; grind
          · exact h'
        have : h ≤ 0 := t2 (s2 hNn)
        have hh0 : h = 0 := by grind
        have : Y ≤ 0 := hY2.2.2 (by grind)
        exact ⟨Y, h, hh, hY, Y0, by grind, by grind, hy6, Or.inr ⟨by grind, by grind, by grind⟩⟩

/-- Green, blue are the greatest: no turn. -/
theorem close_up {t : Nat} {tq T e : Rat} (ht : Fv .f32 t tq) (a1 : 1677721600 * (tq - T) ≤ e) (a2 : 1677721600 * (T - tq) ≤ e) (b1 : 1 ≤ T) (B : Rat) (hB : (6 * B = 3 ∧ e ≤ 662) ∨ (6 * B = 5 ∧ e ≤ 862)) (he : 0 ≤ e) (b2 : T ≤ 6 * B) :
    ∃ Y hq, Fv .f32 (upC (cop .quo .f32 t 1086324736)) hq ∧ Fv .f32 (hexC (upC (cop .quo .f32 t 1086324736))) Y ∧ Close T Y := by
  obtain ⟨h, hh, c1, c2, t1, t2⟩ := chain_h0 ht he a1 a2 (by grind) (by grind) (by grind) B (by grind) (by grind) b2
  have hm := pwm126
  have hm0 := pw_pos (-126)
  have h0 : 0 ≤ h := t1 (by grind)
  rw [up_pos hh h0]
  obtain ⟨Y, hY, hY2⟩ := hex_low hh h0 (by grind)
  obtain ⟨m1, m2⟩ := hY2.1 (h * 6) (by grind) (by grind)
  have Y0 := hY2.2.1 (by grind)
  exact ⟨Y, h, hh, hY, Y0, by grind, by grind, by grind, Or.inl ⟨by grind, by grind⟩⟩

theorem order_val {x y : Nat} {a b : Rat} (hx : Fv .f32 x a) (hy : Fv .f32 y b) : ((FloatKind.f32.format.order x y == some .eq) = true ↔ a = b) := by
  rw [forder hx hy]
  by_cases h1 : a < b
  · rw [if_pos h1]; constructor
    · intro h; cases h
    · intro h; grind
  · rw [if_neg h1]
    by_cases h2 : b < a
    · rw [if_pos h2]; constructor
      · intro h; cases h
      · intro h; grind
    · rw [if_neg h2]; constructor
      · intro _; grind
      · intro _; rfl

/-- The place of the rounded hue, whatever colour is the greatest. -/
theorem hue_close (f : Nat → Nat) (V dd : Nat) {r g b v dq D : Rat} (h0 : Fv .f32 (f 0) r) (h1 : Fv .f32 (f 1) g) (h2 : Fv .f32 (f 2) b) (hV : Fv .f32 V v) (hd : Fv .f32 dd dq) (hdD : Near 0 dq D) (hD : 0 < D)
    (hr : r ≤ v) (hg : g ≤ v) (hb : b ≤ v) (hv : v = r ∨ v = g ∨ v = b) (lr : v - D ≤ r) (lg : v - D ≤ g) (lb : v - D ≤ b) (hl : v - D = r ∨ v - D = g ∨ v - D = b) (hbig : v < pw 100) (hpos : 0 < v - D) :
    ∃ y Y hq, Fv .f32 (hueC f V dd) hq ∧ Fv .f32 (hexC (hueC f V dd)) Y ∧ Close y Y ∧ r = v - D * phR y ∧ g = v - D * phG y ∧ b = v - D * phB y := by
  have h7 := pw127
  have hp1 := pw100
  obtain ⟨d1, d2⟩ := hdD.1 D (by grind) (by grind)
  have hdz : ¬ (FloatKind.f32.format.order dd 0 == some .eq) = true := fun h => by
    have := (order_val hd fv0).1 h; grind
  have e0 : hueC f V dd = upC (cop .quo .f32 (sixC f V dd) 1086324736) := by unfold hueC; rw [if_neg hdz]
  have hDne : D ≠ 0 := by grind
  rw [e0]
  by_cases c0 : v = r
  · have e1 : sixC f V dd = cop .quo .f32 (cop .sub .f32 (f 1) (f 2)) dd := by unfold sixC; rw [if_pos ((order_val hV h0).2 c0)]
    rw [e1]
    obtain ⟨n, hn, hnn⟩ := fsub h1 h2 (by grind) (by grind)
    obtain ⟨X, hX⟩ : ∃ X : Rat, X * D = g - b := ⟨(g - b) / D, Rat.div_mul_cancel hDne⟩
    obtain ⟨x, hx, a1, a2, s1, s2, b1, b2⟩ := chain_x hn hd hnn hdD hD (by grind) (by grind) hX
    obtain ⟨y, y0, y6, hy, f1, f2, f3, -, -⟩ := place_red r g b D X hD hX (by grind) (by grind) (by grind)
    have hNX : (0 ≤ g - b → 0 ≤ X) ∧ (g - b ≤ 0 → X ≤ 0) := ⟨fun h => nonneg_of_mul hD (by grind), fun h => by have := nonneg_of_mul (t := -X) hD (by grind); grind⟩
    obtain ⟨Y, hq, q1, q2, q3⟩ := close_red hx a1 a2 s1 s2 b1 b2 (by grind) hNX (fun h => by rw [← hX, h]; grind) hy y6
    exact ⟨y, Y, hq, q1, q2, q3, by rw [c0]; exact f1, by rw [c0]; exact f2, by rw [c0]; exact f3⟩
  · by_cases c1 : v = g
    · have e1 : sixC f V dd = cop .add .f32 (cop .quo .f32 (cop .sub .f32 (f 2) (f 0)) dd) 1073741824 := by
        unfold sixC; rw [if_neg (fun h => c0 ((order_val hV h0).1 h)), if_pos ((order_val hV h1).2 c1)]
      rw [e1]
      obtain ⟨n, hn, hnn⟩ := fsub h2 h0 (by grind) (by grind)
      obtain ⟨X, hX⟩ : ∃ X : Rat, X * D = b - r := ⟨(b - r) / D, Rat.div_mul_cancel hDne⟩
      obtain ⟨x, hx, a1, a2, s1, s2, b1, b2⟩ := chain_x hn hd hnn hdD hD (by grind) (by grind) hX
      obtain ⟨p1, p2, f1, f2, f3, -, -⟩ := place_green r g b D X hD hX (by grind) (by grind) (by grind)
      obtain ⟨t, ht, htn⟩ := fadd hx fv2 (by grind) (by grind)
      obtain ⟨t1, t2⟩ := htn.1 (3001 / 1000) (by grind) (by grind)
      obtain ⟨Y, hq, q1, q2, q3⟩ := close_up (T := X + 2) (e := 662) ht (by grind) (by grind) (by grind) (1 / 2) (Or.inl ⟨by decide +kernel, by decide⟩) (by decide) (by grind)
      exact ⟨X + 2, Y, hq, q1, q2, q3, by rw [c1]; exact f1, by rw [c1]; exact f2, by rw [c1]; exact f3⟩
    · have c2 : v = b := by grind
      have e1 : sixC f V dd = cop .add .f32 (cop .quo .f32 (cop .sub .f32 (f 0) (f 1)) dd) 1082130432 := by
        unfold sixC; rw [if_neg (fun h => c0 ((order_val hV h0).1 h)), if_neg (fun h => c1 ((order_val hV h1).1 h))]
      rw [e1]
      obtain ⟨n, hn, hnn⟩ := fsub h0 h1 (by grind) (by grind)
      obtain ⟨X, hX⟩ : ∃ X : Rat, X * D = r - g := ⟨(r - g) / D, Rat.div_mul_cancel hDne⟩
      obtain ⟨x, hx, a1, a2, s1, s2, b1, b2⟩ := chain_x hn hd hnn hdD hD (by grind) (by grind) hX
      obtain ⟨p1, p2, f1, f2, f3, -, -⟩ := place_blue r g b D X hD hX (by grind) (by grind) (by grind)
      obtain ⟨t, ht, htn⟩ := fadd hx fv4 (by grind) (by grind)
      obtain ⟨t1, t2⟩ := htn.1 (5001 / 1000) (by grind) (by grind)
      obtain ⟨Y, hq, q1, q2, q3⟩ := close_up (T := X + 4) (e := 862) ht (by grind) (by grind) (by grind) (5 / 6) (Or.inr ⟨by decide +kernel, by decide⟩) (by decide) (by grind)
      exact ⟨X + 4, Y, hq, q1, q2, q3, by rw [c2]; exact f1, by rw [c2]; exact f2, by rw [c2]; exact f3⟩

theorem close_ph {y Y : Rat} (h : Close y Y) : (1677721600 * (phR Y - phR y) ≤ 2170 ∧ 1677721600 * (phR y - phR Y) ≤ 2170) ∧ (1677721600 * (phG Y - phG y) ≤ 2170 ∧ 1677721600 * (phG y - phG Y) ≤ 2170) ∧ (1677721600 * (phB Y - phB y) ≤ 2170 ∧ 1677721600 * (phB y - phB Y) ≤ 2170) := by
  obtain ⟨Y0, Y6, y0, y6, hc⟩ := h
  obtain ⟨E, hE⟩ : ∃ E : Rat, 1677721600 * E = 2170 := ⟨2170 / 1677721600, by decide +kernel⟩
  rcases hc with ⟨h1, h2⟩ | ⟨h1, h2, h3⟩
  · obtain ⟨r1, r2⟩ := lipR y Y E (by grind) (by grind)
    obtain ⟨g1, g2⟩ := lipG y Y E (by grind) (by grind)
    obtain ⟨b1, b2⟩ := lipB y Y E (by grind) (by grind)
    exact ⟨⟨by grind, by grind⟩, ⟨by grind, by grind⟩, ⟨by grind, by grind⟩⟩
  · obtain ⟨r1, r2⟩ := wrapR y Y E Y0 h1 h2 y6 (by grind)
    obtain ⟨g1, g2⟩ := wrapG y Y E Y0 h1 h2 y6 (by grind)
    obtain ⟨b1, b2⟩ := wrapB y Y E Y0 h1 h2 y6 (by grind)
    exact ⟨⟨by grind, by grind⟩, ⟨by grind, by grind⟩, ⟨by grind, by grind⟩⟩
end Go.Proofs.Ytcmakibomdinbaa
