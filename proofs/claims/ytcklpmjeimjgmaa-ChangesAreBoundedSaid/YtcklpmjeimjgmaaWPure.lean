/-
  The least region of pixels that differ: pure.
-/
import Derived.Test.YtcklpmjeimjgmaaFMem
namespace Go.Proofs.Ytcklpmjeimjgmaa

abbrev R4 := Int × Int × Int × Int
/-- The least region that has the pixels of r, if it has any, and the place x, y. -/
def extR (r : R4) (x y : Int) : R4 :=
  if r.2.2.1 = 0 then (x, y, 1, 1) else (min r.1 x, min r.2.1 y, max (r.1 + r.2.2.1) (x + 1) - min r.1 x, max (r.2.1 + r.2.2.2) (y + 1) - min r.2.1 y)
/-- That of the first t pixels that D tells of. -/
def chgR (D : Nat → Bool) (X Y : Int) (p : Nat) : Nat → R4
  | 0 => (0, 0, 0, 0)
  | t + 1 => if D t = true then extR (chgR D X Y p t) (X + (t % p : Nat)) (Y + (t / p : Nat)) else chgR D X Y p t
def chgN (D : Nat → Bool) : Nat → Nat
  | 0 => 0
  | t + 1 => if D t = true then chgN D t + 1 else chgN D t

theorem chgN_le (D : Nat → Bool) : ∀ t, chgN D t ≤ t
  | 0 => Nat.le_refl _
  | t + 1 => by
    have := chgN_le D t
    unfold chgN
    split <;> omega
theorem chgN_none (D : Nat → Bool) (h : ∀ t, D t = false) : ∀ t, chgN D t = 0
  | 0 => rfl
  | t + 1 => by unfold chgN; rw [h t]; exact chgN_none D h t
theorem chgR_none (D : Nat → Bool) (X Y : Int) (p : Nat) (h : ∀ t, D t = false) : ∀ t, chgR D X Y p t = (0, 0, 0, 0)
  | 0 => rfl
  | t + 1 => by unfold chgR; rw [h t]; exact chgR_none D X Y p h t

/-- What a region of some pixels of the frame is. -/
structure Fits (X Y : Int) (p q : Nat) (r : R4) : Prop where
  x1 : X ≤ r.1
  x2 : r.1 + r.2.2.1 ≤ X + p
  x3 : 1 ≤ r.2.2.1
  y1 : Y ≤ r.2.1
  y2 : r.2.1 + r.2.2.2 ≤ Y + q
  y3 : 1 ≤ r.2.2.2
/-- The place x, y is in the region. -/
structure HasP (r : R4) (x y : Int) : Prop where
  x1 : r.1 ≤ x
  x2 : x + 1 ≤ r.1 + r.2.2.1
  y1 : r.2.1 ≤ y
  y2 : y + 1 ≤ r.2.1 + r.2.2.2

theorem extR_fits {X Y : Int} {p q : Nat} {r : R4} {x y : Int} (h : r = (0, 0, 0, 0) ∨ Fits X Y p q r) (hx : X ≤ x) (hx2 : x + 1 ≤ X + p) (hy : Y ≤ y) (hy2 : y + 1 ≤ Y + q) : Fits X Y p q (extR r x y) := by
  rcases h with rfl | ⟨a, b, c, d, e, f⟩
  · exact ⟨hx, hx2, Int.le_refl _, hy, hy2, Int.le_refl _⟩
  · unfold extR
    rw [if_neg (by omega)]
    exact ⟨by dsimp; omega, by dsimp; omega, by dsimp; omega, by dsimp; omega, by dsimp; omega, by dsimp; omega⟩
theorem extR_new {X Y : Int} {p q : Nat} {r : R4} {x y : Int} (h : r = (0, 0, 0, 0) ∨ Fits X Y p q r) : HasP (extR r x y) x y := by
  rcases h with rfl | ⟨a, b, c, d, e, f⟩
  · exact ⟨Int.le_refl _, Int.le_refl _, Int.le_refl _, Int.le_refl _⟩
  · unfold extR
    rw [if_neg (by omega)]
    exact ⟨by dsimp; omega, by dsimp; omega, by dsimp; omega, by dsimp; omega⟩
theorem extR_old {X Y : Int} {p q : Nat} {r : R4} {x y u v : Int} (h : Fits X Y p q r) (ho : HasP r u v) : HasP (extR r x y) u v := by
  obtain ⟨a, b, c, d, e, f⟩ := h
  obtain ⟨a1, a2, a3, a4⟩ := ho
  unfold extR
  rw [if_neg (by omega)]
  exact ⟨by dsimp; omega, by dsimp; omega, by dsimp; omega, by dsimp; omega⟩

theorem place_in {p q t : Nat} (ht : t < p * q) (hp : 0 < p) : t % p < p ∧ t / p < q :=
  ⟨Nat.mod_lt _ hp, (Nat.div_lt_iff_lt_mul hp).2 (by rw [Nat.mul_comm]; exact ht)⟩

theorem chgR_fits (D : Nat → Bool) (X Y : Int) (p q : Nat) (hp : 0 < p) : ∀ t, t ≤ p * q → (chgR D X Y p t = (0, 0, 0, 0) ∧ ∀ s, s < t → D s = false) ∨ Fits X Y p q (chgR D X Y p t)
  | 0, _ => Or.inl ⟨rfl, fun s h => absurd h (by omega)⟩
  | t + 1, ht => by
    have ih := chgR_fits D X Y p q hp t (by omega)
    obtain ⟨h1, h2⟩ := place_in (p := p) (q := q) (t := t) (by omega) hp
    unfold chgR
    generalize t % p = u at *
    generalize t / p = v at *
    by_cases hd : D t = true
    · rw [if_pos hd]
      right
      refine extR_fits ?_ ?_ ?_ ?_ ?_
      · rcases ih with ⟨h, _⟩ | h
        · exact Or.inl h
        · exact Or.inr h
      all_goals omega
    · rw [if_neg hd]
      rcases ih with ⟨h, h3⟩ | h
      · refine Or.inl ⟨h, fun s hs => ?_⟩
        rcases Nat.lt_or_ge s t with h4 | h4
        · exact h3 s h4
        · obtain rfl : s = t := by omega
          simpa using hd
      · exact Or.inr h

theorem chgR_has (D : Nat → Bool) (X Y : Int) (p q : Nat) (hp : 0 < p) : ∀ t, t ≤ p * q → ∀ s, s < t → D s = true → HasP (chgR D X Y p t) (X + (s % p : Nat)) (Y + (s / p : Nat))
  | 0, _, s, hs, _ => absurd hs (by omega)
  | t + 1, ht, s, hs, hd => by
    have h0 := chgR_fits D X Y p q hp t (by omega)
    unfold chgR
    by_cases hdt : D t = true
    · rw [if_pos hdt]
      by_cases hst : s = t
      · subst hst
        refine extR_new (X := X) (Y := Y) (p := p) (q := q) ?_
        rcases h0 with ⟨h, _⟩ | h
        · exact Or.inl h
        · exact Or.inr h
      · have ih := chgR_has D X Y p q hp t (by omega) s (by omega) hd
        rcases h0 with ⟨_, h⟩ | h
        · rw [h s (by omega)] at hd; cases hd
        · exact extR_old h ih
    · rw [if_neg hdt]
      have hst : s ≠ t := fun h => hdt (h ▸ hd)
      exact chgR_has D X Y p q hp t (by omega) s (by omega) hd

/-- Whether the four singles from a place on differ. -/
def difB (F G : Nat → Nat) (t : Nat) : Bool := !(cl (F (4 * t)) == cl (G (4 * t)) && (cl (F (4 * t + 1)) == cl (G (4 * t + 1)) && (cl (F (4 * t + 2)) == cl (G (4 * t + 2)) && cl (F (4 * t + 3)) == cl (G (4 * t + 3)))))
theorem difB_self (F : Nat → Nat) (t : Nat) : difB F F t = false := by simp [difB]
/-- Whether one of the first k singles from a place on differs. -/
def difP (F G : Nat → Nat) (t : Nat) : Nat → Bool
  | 0 => false
  | k + 1 => difP F G t k || !(cl (F (4 * t + k)) == cl (G (4 * t + k)))
theorem difP_four (F G : Nat → Nat) (t : Nat) : difP F G t 4 = difB F G t := by
  unfold difB
  simp only [difP, Bool.false_or, Nat.add_zero]
  cases cl (F (4 * t)) == cl (G (4 * t)) <;> cases cl (F (4 * t + 1)) == cl (G (4 * t + 1)) <;> cases cl (F (4 * t + 2)) == cl (G (4 * t + 2)) <;> cases cl (F (4 * t + 3)) == cl (G (4 * t + 3)) <;> rfl
end Go.Proofs.Ytcklpmjeimjgmaa
