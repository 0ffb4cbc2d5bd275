/-
  Colours: hues lead back: the plain mathematics of the six parts of the circle.
-/
import Derived.Test.YtcmakibomdinbaaRatO
namespace Go.Proofs.Ytcmakibomdinbaa

/-- How far each colour lies below the greatest one, as a share of the spread, at a place of the circle of 6. -/
def phR (y : Rat) : Rat := if y ≤ 1 then 0 else if y ≤ 2 then y - 1 else if y ≤ 4 then 1 else if y ≤ 5 then 5 - y else 0
def phG (y : Rat) : Rat := if y ≤ 1 then 1 - y else if y ≤ 3 then 0 else if y ≤ 4 then y - 3 else 1
def phB (y : Rat) : Rat := if y ≤ 2 then 1 else if y ≤ 3 then 3 - y else if y ≤ 5 then 0 else y - 5

theorem lipR (y Y e : Rat) (h1 : y - Y ≤ e) (h2 : Y - y ≤ e) : phR Y - phR y ≤ e ∧ phR y - phR Y ≤ e := by
  unfold phR
  constructor <;> (split <;> (try split) <;> (try split) <;> (try split) <;> (try split) <;> (try split) <;> (try split) <;> (try split) <;> grind)
theorem lipG (y Y e : Rat) (h1 : y - Y ≤ e) (h2 : Y - y ≤ e) : phG Y - phG y ≤ e ∧ phG y - phG Y ≤ e := by
  unfold phG
  constructor <;> (split <;> (try split) <;> (try split) <;> (try split) <;> (try split) <;> (try split) <;> grind)
theorem lipB (y Y e : Rat) (h1 : y - Y ≤ e) (h2 : Y - y ≤ e) : phB Y - phB y ≤ e ∧ phB y - phB Y ≤ e := by
  unfold phB
  constructor <;> (split <;> (try split) <;> (try split) <;> (try split) <;> (try split) <;> (try split) <;> grind)

theorem wrapR (y Y e : Rat) (a : 0 ≤ Y) (b : Y ≤ 1) (c : 5 ≤ y) (d : y ≤ 6) (h : Y + 6 - y ≤ e) : phR Y - phR y ≤ e ∧ phR y - phR Y ≤ e := by
  have e1 : phR Y = 0 := by unfold phR; rw [if_pos b]
  have e2 : phR y = 0 := by
    unfold phR
    rw [if_neg (by grind), if_neg (by grind), if_neg (by grind)]
    by_cases h5 : y ≤ 5
    · rw [if_pos h5]; grind
    · rw [if_neg h5]
  rw [e1, e2]; constructor <;> grind
theorem wrapG (y Y e : Rat) (a : 0 ≤ Y) (b : Y ≤ 1) (c : 5 ≤ y) (d : y ≤ 6) (h : Y + 6 - y ≤ e) : phG Y - phG y ≤ e ∧ phG y - phG Y ≤ e := by
  have e1 : phG Y = 1 - Y := by unfold phG; rw [if_pos b]
  have e2 : phG y = 1 := by
    unfold phG
    rw [if_neg (by grind), if_neg (by grind), if_neg (by grind)]
  rw [e1, e2]; constructor <;> grind
theorem wrapB (y Y e : Rat) (a : 0 ≤ Y) (b : Y ≤ 1) (c : 5 ≤ y) (d : y ≤ 6) (h : Y + 6 - y ≤ e) : phB Y - phB y ≤ e ∧ phB y - phB Y ≤ e := by
  have e1 : phB Y = 1 := by unfold phB; rw [if_pos (by grind)]
  have e2 : phB y = y - 5 := by
    unfold phB
    rw [if_neg (by grind), if_neg (by grind)]
    by_cases h5 : y ≤ 5
    · rw [if_pos h5]; grind
    · rw [if_neg h5]
  rw [e1, e2]; constructor <;> grind

theorem ph_range (y : Rat) (a : 0 ≤ y) (b : y ≤ 6) : (0 ≤ phR y ∧ phR y ≤ 1) ∧ (0 ≤ phG y ∧ phG y ≤ 1) ∧ (0 ≤ phB y ∧ phB y ≤ 1) := by
  unfold phR phG phB
  refine ⟨⟨?_, ?_⟩, ⟨?_, ?_⟩, ⟨?_, ?_⟩⟩ <;> (split <;> (try split) <;> (try split) <;> (try split) <;> grind)

/-- The parts of a sextant. -/
theorem ph_0 (Y : Rat) (_a : 0 ≤ Y) (b : Y < 1) : phR Y = 0 ∧ phG Y = 1 - Y ∧ phB Y = 1 := by
  unfold phR phG phB
  refine ⟨by rw [if_pos (by grind)], by rw [if_pos (by grind)], by rw [if_pos (by grind)]⟩
theorem ph_1 (Y : Rat) (a : 1 ≤ Y) (b : Y < 2) : phR Y = Y - 1 ∧ phG Y = 0 ∧ phB Y = 1 := by
  unfold phR phG phB
  refine ⟨?_, ?_, by rw [if_pos (by grind)]⟩ <;> (split <;> (try split) <;> (try split) <;> grind)
theorem ph_2 (Y : Rat) (a : 2 ≤ Y) (b : Y < 3) : phR Y = 1 ∧ phG Y = 0 ∧ phB Y = 3 - Y := by
  unfold phR phG phB
  refine ⟨?_, ?_, ?_⟩ <;> (split <;> (try split) <;> (try split) <;> (try split) <;> grind)
theorem ph_3 (Y : Rat) (a : 3 ≤ Y) (b : Y < 4) : phR Y = 1 ∧ phG Y = Y - 3 ∧ phB Y = 0 := by
  unfold phR phG phB
  refine ⟨?_, ?_, ?_⟩ <;> (split <;> (try split) <;> (try split) <;> (try split) <;> grind)
theorem ph_4 (Y : Rat) (a : 4 ≤ Y) (b : Y < 5) : phR Y = 5 - Y ∧ phG Y = 1 ∧ phB Y = 0 := by
  unfold phR phG phB
  refine ⟨?_, ?_, ?_⟩ <;> (split <;> (try split) <;> (try split) <;> (try split) <;> grind)
theorem ph_5 (Y : Rat) (a : 5 ≤ Y) (_b : Y ≤ 6) : phR Y = 0 ∧ phG Y = 1 ∧ phB Y = Y - 5 := by
  unfold phR phG phB
  refine ⟨?_, ?_, ?_⟩ <;> (split <;> (try split) <;> (try split) <;> (try split) <;> grind)

/-- The three colours, by their place on the circle: the greatest one is red, green or blue. -/
theorem place_red (r g b D X : Rat) (hD : 0 < D) (hX : X * D = g - b) (hm : (g ≤ b ∧ r - g = D) ∨ (b ≤ g ∧ r - b = D)) (hg : g ≤ r) (hb : b ≤ r) :
    ∃ y, 0 ≤ y ∧ y ≤ 6 ∧ ((0 ≤ X ∧ y = X) ∨ (X ≤ 0 ∧ y = X + 6)) ∧ r = r - D * phR y ∧ g = r - D * phG y ∧ b = r - D * phB y ∧ -1 ≤ X ∧ X ≤ 1 := by
  have pos : ∀ t : Rat, 0 ≤ t * D → 0 ≤ t := fun t ht => by
    rcases (Rat.le_total : t ≤ 0 ∨ 0 ≤ t) with h | h
    · by_cases h0 : t = 0
      · grind
      · have := Rat.mul_lt_mul_of_pos_right (show t < 0 by grind) hD
        grind
    · exact h
  have x1 := pos (1 - X) (by grind)
  have x2 := pos (1 + X) (by grind)
  by_cases hge : b ≤ g
  · have x0 := pos X (by grind)
    refine ⟨X, x0, by grind, Or.inl ⟨x0, rfl⟩, ?_, ?_, ?_, by grind, by grind⟩
    · have : phR X = 0 := by unfold phR; rw [if_pos (by grind)]
      rw [this]; grind
    · have : phG X = 1 - X := by unfold phG; rw [if_pos (by grind)]
      rw [this]; grind
    · have : phB X = 1 := by unfold phB; rw [if_pos (by grind)]
      rw [this]; grind
  · have x0 := pos (-X) (by grind)
    obtain ⟨f1, f2, f3⟩ := ph_5 (X + 6) (by grind) (by grind)
    exact ⟨X + 6, by grind, by grind, Or.inr ⟨by grind, rfl⟩, by rw [f1]; grind, by rw [f2]; grind, by rw [f3]; grind, by grind, by grind⟩

theorem place_green (r g b D X : Rat) (hD : 0 < D) (hX : X * D = b - r) (hm : (b ≤ r ∧ g - b = D) ∨ (r ≤ b ∧ g - r = D)) (hr : r ≤ g) (hb : b ≤ g) :
    0 ≤ X + 2 ∧ X + 2 ≤ 6 ∧ r = g - D * phR (X + 2) ∧ g = g - D * phG (X + 2) ∧ b = g - D * phB (X + 2) ∧ -1 ≤ X ∧ X ≤ 1 := by
  have pos : ∀ t : Rat, 0 ≤ t * D → 0 ≤ t := fun t ht => by
    rcases (Rat.le_total : t ≤ 0 ∨ 0 ≤ t) with h | h
    · by_cases h0 : t = 0
      · grind
      · have := Rat.mul_lt_mul_of_pos_right (show t < 0 by grind) hD
        grind
    · exact h
  have x1 := pos (1 - X) (by grind)
  have x2 := pos (1 + X) (by grind)
  by_cases hge : r ≤ b
  · have x0 := pos X (by grind)
    by_cases h3 : X + 2 < 3
    · obtain ⟨f1, f2, f3⟩ := ph_2 (X + 2) (by grind) h3
      exact ⟨by grind, by grind, by rw [f1]; grind, by rw [f2]; grind, by rw [f3]; grind, by grind, by grind⟩
    · obtain ⟨f1, f2, f3⟩ := ph_3 (X + 2) (by grind) (by grind)
      exact ⟨by grind, by grind, by rw [f1]; grind, by rw [f2]; grind, by rw [f3]; grind, by grind, by grind⟩
  · have x0 := pos (-X) (by grind)
    by_cases h3 : X + 2 < 2
    · obtain ⟨f1, f2, f3⟩ := ph_1 (X + 2) (by grind) h3
      exact ⟨by grind, by grind, by rw [f1]; grind, by rw [f2]; grind, by rw [f3]; grind, by grind, by grind⟩
    · obtain ⟨f1, f2, f3⟩ := ph_2 (X + 2) (by grind) (by grind)
      exact ⟨by grind, by grind, by rw [f1]; grind, by rw [f2]; grind, by rw [f3]; grind, by grind, by grind⟩

theorem place_blue (r g b D X : Rat) (hD : 0 < D) (hX : X * D = r - g) (hm : (r ≤ g ∧ b - r = D) ∨ (g ≤ r ∧ b - g = D)) (hr : r ≤ b) (hg : g ≤ b) :
    0 ≤ X + 4 ∧ X + 4 ≤ 6 ∧ r = b - D * phR (X + 4) ∧ g = b - D * phG (X + 4) ∧ b = b - D * phB (X + 4) ∧ -1 ≤ X ∧ X ≤ 1 := by
  have pos : ∀ t : Rat, 0 ≤ t * D → 0 ≤ t := fun t ht => by
    rcases (Rat.le_total : t ≤ 0 ∨ 0 ≤ t) with h | h
    · by_cases h0 : t = 0
      · grind
      · have := Rat.mul_lt_mul_of_pos_right (show t < 0 by grind) hD
        grind
    · exact h
  have x1 := pos (1 - X) (by grind)
  have x2 := pos (1 + X) (by grind)
  by_cases hge : g ≤ r
  · have x0 := pos X (by grind)
    by_cases h3 : X + 4 < 5
    · obtain ⟨f1, f2, f3⟩ := ph_4 (X + 4) (by grind) h3
      exact ⟨by grind, by grind, by rw [f1]; grind, by rw [f2]; grind, by rw [f3]; grind, by grind, by grind⟩
    · obtain ⟨f1, f2, f3⟩ := ph_5 (X + 4) (by grind) (by grind)
      exact ⟨by grind, by grind, by rw [f1]; grind, by rw [f2]; grind, by rw [f3]; grind, by grind, by grind⟩
  · have x0 := pos (-X) (by grind)
    by_cases h3 : X + 4 < 4
    · obtain ⟨f1, f2, f3⟩ := ph_3 (X + 4) (by grind) h3
      exact ⟨by grind, by grind, by rw [f1]; grind, by rw [f2]; grind, by rw [f3]; grind, by grind, by grind⟩
    · obtain ⟨f1, f2, f3⟩ := ph_4 (X + 4) (by grind) (by grind)
      exact ⟨by grind, by grind, by rw [f1]; grind, by rw [f2]; grind, by rw [f3]; grind, by grind, by grind⟩
end Go.Proofs.Ytcmakibomdinbaa
