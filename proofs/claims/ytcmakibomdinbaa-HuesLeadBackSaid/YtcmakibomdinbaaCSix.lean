/-
  Colours: the sextant of a hue.
-/
import Derived.Test.YtcmakibomdinbaaCFrom
namespace Go.Proofs.Ytcmakibomdinbaa
open Go.RowKit

theorem fop_cop {op : BinOp} {k : FloatKind} {x y : Nat} (h : isN k (cop op k x y) = false) : (∀ w, fop op k x y w = cop op k x y) ∧ fdr op k x y = 0 := by
  cases hb : floatBits op k x y with
  | none =>
    have e : cop op k x y = qnan k := by simp [cop, hb]
    rw [e, isN_qnan] at h; cases h
  | some r => exact ⟨fun w => by simp [fop, cop, hb], by simp [fdr, hb]⟩

theorem pw_num (n : Nat) (a : Rat) (h : pw n = a) : pw n = a := h
theorem pw127 : pw 127 = 170141183460469231731687303715884105728 := by unfold pw; decide +kernel
theorem pwm126 : pw (-126) ≤ 1 / 1073741824 := by
  have : pw (-126) ≤ pw (-30) := pw_le (by decide)
  have e : pw (-30) = 1 / 1073741824 := by unfold pw; decide +kernel
  rw [e] at this; exact this

theorem fv0 : Fv .f32 0 0 := ⟨false, 0, -149, by decide +kernel, by rw [dv_zero]⟩
theorem fv1 : Fv .f32 1065353216 1 := ⟨false, 8388608, -23, by decide +kernel, by unfold dv pw; decide +kernel⟩
theorem fv2 : Fv .f32 1073741824 2 := ⟨false, 8388608, -22, by decide +kernel, by unfold dv pw; decide +kernel⟩
theorem fv3 : Fv .f32 1077936128 3 := ⟨false, 12582912, -22, by decide +kernel, by unfold dv pw; decide +kernel⟩
theorem fv4 : Fv .f32 1082130432 4 := ⟨false, 8388608, -21, by decide +kernel, by unfold dv pw; decide +kernel⟩
theorem fv5 : Fv .f32 1084227584 5 := ⟨false, 10485760, -21, by decide +kernel, by unfold dv pw; decide +kernel⟩
theorem fv6 : Fv .f32 1086324736 6 := ⟨false, 12582912, -21, by decide +kernel, by unfold dv pw; decide +kernel⟩

/-- The part of a hue behind its point, times 6. -/
def partC (h : Nat) : Nat := cop .sub .f32 h (flC h)
def hexC (h : Nat) : Nat := cop .mul .f32 (partC h) 1086324736

/-- A finite single is below 2^128 in magnitude. -/
theorem floor_diff (a : Rat) : 0 ≤ a - (a.floor : Rat) ∧ a - (a.floor : Rat) < 1 := by
  have h1 := Rat.floor_le a
  have h2 := Rat.lt_floor_add_one a
  rw [Rat.intCast_add] at h2
  have : ((1 : Int) : Rat) = 1 := rfl
  rw [this] at h2
  grind

theorem part_val {h : Nat} {a : Rat} (ha : Fv .f32 h a) : ∃ q, Fv .f32 (partC h) q ∧ Near 0 q (a - (a.floor : Rat)) := by
  obtain ⟨_, hf⟩ := ffloor ha
  obtain ⟨d1, d2⟩ := floor_diff a
  have hp := pw127
  exact fsub ha hf (by grind) (by grind)

theorem hex_val {h : Nat} {a : Rat} (ha : Fv .f32 h a) : ∃ q r, Fv .f32 (partC h) q ∧ Near 0 q (a - (a.floor : Rat)) ∧ 0 ≤ q ∧ 16777216 * q ≤ 16777217 ∧ Fv .f32 (hexC h) r ∧ Near (pw (-126)) r (q * 6) ∧ 0 ≤ r ∧ r < 7 := by
  obtain ⟨q, hq, hn⟩ := part_val ha
  obtain ⟨d1, d2⟩ := floor_diff a
  have q0 := hn.2.1 d1
  obtain ⟨n1, n2⟩ := hn.1 1 (by grind) (by grind)
  have hp := pw127
  obtain ⟨r, hr, hm⟩ := fmul hq fv6 (by grind) (by grind)
  have r0 := hm.2.1 (by grind)
  have ht := pwm126
  obtain ⟨m1, m2⟩ := hm.1 7 (by grind) (by grind)
  exact ⟨q, r, hq, hn, q0, by grind, hr, hm, r0, by grind⟩

/-- What a hue's sextant is, in the program's tests. -/
def sxC (X : Nat) : Nat :=
  if (FloatKind.f32.format.order (flC X) 1084227584 == some .gt) = true then 5
  else if (FloatKind.f32.format.order (flC X) 0 == some .eq) = true then 0
  else if (FloatKind.f32.format.order (flC X) 1065353216 == some .eq) = true then 1
  else if (FloatKind.f32.format.order (flC X) 1073741824 == some .eq) = true then 2
  else if (FloatKind.f32.format.order (flC X) 1077936128 == some .eq) = true then 3
  else if (FloatKind.f32.format.order (flC X) 1082130432 == some .eq) = true then 4 else 5
def ixC (X : Nat) : Nat := if (FloatKind.f32.format.order (flC X) 1084227584 == some .gt) = true then 1084227584 else flC X

theorem ord_eq {x y : Nat} {n m : Int} (hx : Fv .f32 x (n : Rat)) (hy : Fv .f32 y (m : Rat)) : (FloatKind.f32.format.order x y == some .eq) = decide (n = m) := by
  rw [forder hx hy]
  by_cases h : n = m
  · subst h; simp [Rat.lt_irrefl]
  · have : (n : Rat) < (m : Rat) ∨ (m : Rat) < (n : Rat) := by
      rcases Int.lt_or_gt_of_ne h with h | h
      · exact Or.inl (Rat.intCast_lt_intCast.2 h)
      · exact Or.inr (Rat.intCast_lt_intCast.2 h)
    rw [decide_eq_false h]
    rcases this with h1 | h1
    · rw [if_pos h1]; rfl
    · rw [if_neg (by grind), if_pos h1]; rfl
theorem ord_gt {k : FloatKind} {x y : Nat} {n m : Int} (hx : Fv k x (n : Rat)) (hy : Fv k y (m : Rat)) : (k.format.order x y == some .gt) = decide (m < n) := by
  rw [forder hx hy]
  by_cases h : m < n
  · have h1 : (m : Rat) < (n : Rat) := Rat.intCast_lt_intCast.2 h
    rw [if_neg (by grind), if_pos h1, decide_eq_true h]; rfl
  · have h1 : ¬ (m : Rat) < (n : Rat) := fun h' => h (Rat.intCast_lt_intCast.1 h')
    rw [decide_eq_false h]
    by_cases h2 : (n : Rat) < (m : Rat)
    · rw [if_pos h2]; rfl
    · rw [if_neg h2, if_neg h1]; rfl

/-- The tests on the floor of a number from 0 below 7. -/
structure Sext (X : Nat) (n : Nat) : Prop where
  le : n ≤ 6
  g5 : (FloatKind.f32.format.order (flC X) 1084227584 == some .gt) = decide (n = 6)
  e0 : (FloatKind.f32.format.order (flC X) 0 == some .eq) = decide (n = 0)
  e1 : (FloatKind.f32.format.order (flC X) 1065353216 == some .eq) = decide (n = 1)
  e2 : (FloatKind.f32.format.order (flC X) 1073741824 == some .eq) = decide (n = 2)
  e3 : (FloatKind.f32.format.order (flC X) 1077936128 == some .eq) = decide (n = 3)
  e4 : (FloatKind.f32.format.order (flC X) 1082130432 == some .eq) = decide (n = 4)

theorem sext_of {X : Nat} {r : Rat} (hX : Fv .f32 X r) (h0 : 0 ≤ r) (h7 : r < 7) : ∃ n : Nat, Sext X n ∧ r.floor = (n : Int) := by
  obtain ⟨_, hf⟩ := ffloor hX
  have l1 : (0 : Int) ≤ r.floor := Rat.le_floor_iff.2 h0
  have l2 : r.floor < 7 := Rat.floor_lt_iff.2 h7
  obtain ⟨n, hn⟩ : ∃ n : Nat, r.floor = (n : Int) := ⟨r.floor.toNat, by omega⟩
  rw [hn] at hf
  refine ⟨n, ⟨by omega, ?_, ?_, ?_, ?_, ?_, ?_⟩, hn⟩
  · rw [ord_gt hf (m := 5) fv5]; congr 1; apply propext; omega
  · rw [ord_eq hf (m := 0) fv0]; congr 1; apply propext; omega
  · rw [ord_eq hf (m := 1) fv1]; congr 1; apply propext; omega
  · rw [ord_eq hf (m := 2) fv2]; congr 1; apply propext; omega
  · rw [ord_eq hf (m := 3) fv3]; congr 1; apply propext; omega
  · rw [ord_eq hf (m := 4) fv4]; congr 1; apply propext; omega

theorem Sext.sx {X n : Nat} (h : Sext X n) : sxC X = min n 5 := by
  have hl := h.le
  unfold sxC
  rw [h.g5, h.e0, h.e1, h.e2, h.e3, h.e4]
  have : n = 0 ∨ n = 1 ∨ n = 2 ∨ n = 3 ∨ n = 4 ∨ n = 5 ∨ n = 6 := by omega
  rcases this with rfl | rfl | rfl | rfl | rfl | rfl | rfl <;> rfl

/-- Three colours of a sextant. -/
def pickC (n v p q t : Nat) (j : Nat) : Nat :=
  match n, j with
  | 0, 0 => v | 0, 1 => t | 0, _ => p
  | 1, 0 => q | 1, 1 => v | 1, _ => p
  | 2, 0 => p | 2, 1 => v | 2, _ => t
  | 3, 0 => p | 3, 1 => q | 3, _ => v
  | 4, 0 => t | 4, 1 => p | 4, _ => v
  | _, 0 => v | _, 1 => p | _, _ => q
def lowC (s v : Nat) : Nat := cop .mul .f32 v (cop .sub .f32 1065353216 s)
def fallC (s v f : Nat) : Nat := cop .mul .f32 v (cop .sub .f32 1065353216 (cop .mul .f32 s f))
def riseC (s v f : Nat) : Nat := cop .mul .f32 v (cop .sub .f32 1065353216 (cop .mul .f32 s (cop .sub .f32 1065353216 f)))
/-- The pixel of a hue, a saturation and a value. -/
def fromC (h s v al : Nat) (j : Nat) : Nat :=
  if j < 3 then
    if (fin h && fin s && fin v) = true then pickC (sxC (hexC h)) v (lowC s v) (fallC s v (cop .sub .f32 (hexC h) (ixC (hexC h)))) (riseC s v (cop .sub .f32 (hexC h) (ixC (hexC h)))) j
    else 2143289344
  else cl al

theorem pix_congr {f g : Nat → Nat} (h : ∀ k, k < 4 → f k = g k) : pix f = pix g := by
  unfold pix; rw [h 0 (by decide), h 1 (by decide), h 2 (by decide), h 3 (by decide)]
end Go.Proofs.Ytcmakibomdinbaa
