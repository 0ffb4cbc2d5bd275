/-
  Colours: hue, saturation and value of a pixel in the program.
-/
import Derived.Test.YthnbfllhmjpbjaaCHsvR
namespace Go.Proofs.Ythnbfllhmjpbjaa
open Go.RowKit

theorem nanF (w : World) : cl (fcv .f64 9221120237041090561 .f32 w) = 2143289344 := by
  have h : isN .f64 9221120237041090561 = true := by decide +kernel
  unfold cl
  apply cn_of_nan
  unfold fcv
  have hn : floatToFloatBits .f64 9221120237041090561 .f32 = none := by decide +kernel
  rw [hn]
  simp only [h, if_true, Option.getD_none]
  exact nanConvCut_isN ..

/-- Some single that is G behind Clean. -/
def Gave (w : World) (G : Nat) (e : Ending) (w' : World) : Prop := ∃ v, e = .returned (.float .f32 v) ∧ cl v = G ∧ Below w.heap.size w w'

theorem mx_step (f : Nat → Nat) (k : Nat) : mx f k = if (FloatKind.f32.format.order (f k) (mx f (k - 1)) == some .gt) = true then f k else mx f (k - 1) := by
  cases k with
  | zero => exact (ite_self _).symm
  | succ k => rfl
theorem mn_step (f : Nat → Nat) (k : Nat) : mn f k = if (FloatKind.f32.format.order (f k) (mn f (k - 1)) == some .lt) = true then f k else mn f (k - 1) := by
  cases k with
  | zero => exact (ite_self _).symm
  | succ k => rfl

/-- The first of three that is a NaN (3: none). -/
def nanAt (f : Nat → Nat) : Nat := if isN .f32 (f 0) = true then 0 else if isN .f32 (f 1) = true then 1 else if isN .f32 (f 2) = true then 2 else 3
theorem nanAt_le (f : Nat → Nat) : nanAt f ≤ 3 := by unfold nanAt; split <;> (try split) <;> (try split) <;> omega
theorem nanAt_pre (f : Nat → Nat) (k : Nat) (hk : k < nanAt f) : isN .f32 (f k) = false := by
  unfold nanAt at hk
  by_cases h0 : isN .f32 (f 0) = true
  · rw [if_pos h0] at hk; omega
  · rw [if_neg h0] at hk
    by_cases h1 : isN .f32 (f 1) = true
    · rw [if_pos h1] at hk
      obtain rfl : k = 0 := by omega
      simpa using h0
    · rw [if_neg h1] at hk
      by_cases h2 : isN .f32 (f 2) = true
      · rw [if_pos h2] at hk
        have : k = 0 ∨ k = 1 := by omega
        rcases this with rfl | rfl
        · simpa using h0
        · simpa using h1
      · rw [if_neg h2] at hk
        have : k = 0 ∨ k = 1 ∨ k = 2 := by omega
        rcases this with rfl | rfl | rfl
        · simpa using h0
        · simpa using h1
        · simpa using h2
theorem nanAt_at (f : Nat → Nat) (h : nanAt f < 3) : isN .f32 (f (nanAt f)) = true := by
  unfold nanAt at h ⊢
  by_cases h0 : isN .f32 (f 0) = true
  · rw [if_pos h0]; exact h0
  · rw [if_neg h0] at h ⊢
    by_cases h1 : isN .f32 (f 1) = true
    · rw [if_pos h1]; exact h1
    · rw [if_neg h1] at h ⊢
      by_cases h2 : isN .f32 (f 2) = true
      · rw [if_pos h2]; exact h2
      · rw [if_neg h2] at h; omega

/-- What ToHSV gives. -/
def hsvC (f : Nat → Nat) : Ending :=
  if nanAt f < 3 then ret3 2143289344 2143289344 2143289344
  else ret3 (hueC f (mx f 2) (cop .sub .f32 (mx f 2) (mn f 2))) (cn .f32 (satC (mx f 2) (cop .sub .f32 (mx f 2) (mn f 2)))) (mx f 2)

end Go.Proofs.Ythnbfllhmjpbjaa
