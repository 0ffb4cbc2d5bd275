/-
  Colours: hue, saturation and value of a pixel in the reference.
-/
import Derived.Test.YthnbfllhmjpbjaaCLeaf
namespace Go.Proofs.Ythnbfllhmjpbjaa
open Go.RowKit

def pix (f : Nat → Nat) : Value := .agg #[.float .f32 (f 0), .float .f32 (f 1), .float .f32 (f 2), .float .f32 (f 3)]
theorem pix_cells (f : Nat → Nat) : pix f = .agg #[.float .f32 (f 0), .float .f32 (f 1), .float .f32 (f 2), .float .f32 (f 3)] := rfl

/-- The greatest, the least of the first k + 1. -/
def mx (f : Nat → Nat) : Nat → Nat
  | 0 => f 0
  | k + 1 => if (FloatKind.f32.format.order (f (k + 1)) (mx f k) == some .gt) = true then f (k + 1) else mx f k
def mn (f : Nat → Nat) : Nat → Nat
  | 0 => f 0
  | k + 1 => if (FloatKind.f32.format.order (f (k + 1)) (mn f k) == some .lt) = true then f (k + 1) else mn f k

theorem ite_or {α : Type} {c : Prop} [Decidable c] {x y : α} : (if c then x else y) = x ∨ (if c then x else y) = y := by
  by_cases h : c
  · rw [if_pos h]; exact Or.inl rfl
  · rw [if_neg h]; exact Or.inr rfl
theorem mx_or (f : Nat → Nat) : mx f 2 = f 0 ∨ mx f 2 = f 1 ∨ mx f 2 = f 2 := by
  have h1 : mx f 1 = f 1 ∨ mx f 1 = f 0 := ite_or
  have h2 : mx f 2 = f 2 ∨ mx f 2 = mx f 1 := ite_or
  rcases h2 with h | h <;> rw [h]
  · simp
  · rcases h1 with h | h <;> simp [h]
theorem mn_or (f : Nat → Nat) : mn f 2 = f 0 ∨ mn f 2 = f 1 ∨ mn f 2 = f 2 := by
  have h1 : mn f 1 = f 1 ∨ mn f 1 = f 0 := ite_or
  have h2 : mn f 2 = f 2 ∨ mn f 2 = mn f 1 := ite_or
  rcases h2 with h | h <;> rw [h]
  · simp
  · rcases h1 with h | h <;> simp [h]

def sixC (f : Nat → Nat) (v d : Nat) : Nat :=
  if (FloatKind.f32.format.order v (f 0) == some .eq) = true then cop .quo .f32 (cop .sub .f32 (f 1) (f 2)) d
  else if (FloatKind.f32.format.order v (f 1) == some .eq) = true then cop .add .f32 (cop .quo .f32 (cop .sub .f32 (f 2) (f 0)) d) 1073741824
  else cop .add .f32 (cop .quo .f32 (cop .sub .f32 (f 0) (f 1)) d) 1082130432
def upC (h : Nat) : Nat := if (FloatKind.f32.format.order h 0 == some .lt) = true then cop .add .f32 h 1065353216 else h
def hueC (f : Nat → Nat) (v d : Nat) : Nat := if (FloatKind.f32.format.order d 0 == some .eq) = true then 0 else upC (cop .quo .f32 (sixC f v d) 1086324736)
def satC (v d : Nat) : Nat := if (FloatKind.f32.format.order v 0 == some .eq) = true then 0 else cop .quo .f32 d v

def ret3 (a b c : Nat) : Ending := .returned (.tuple #[.float .f32 a, .float .f32 b, .float .f32 c])
theorem ret3_eq {a b c a' b' c' : Nat} (h1 : a = a') (h2 : b = b') (h3 : c = c') : Ending.returned (.tuple #[.float .f32 a, .float .f32 b, .float .f32 c]) = ret3 a' b' c' := by rw [h1, h2, h3]; rfl

theorem order_c0 (x : Nat) : FloatKind.f32.format.order (cn .f32 x) 0 = FloatKind.f32.format.order x 0 := by
  have h : cn .f32 0 = 0 := by decide +kernel
  have := order_cn .f32 x 0
  rw [h] at this
  exact this
theorem bne_false {o : Option Ordering} (h : (o == some .eq) = true) : (o != some .eq) = false := by simp [bne, h]
theorem bne_true {o : Option Ordering} (h : (o == some .eq) = false) : (o != some .eq) = true := by simp [bne, h]

theorem cn6 : cn .f32 1086324736 = 1086324736 := by decide +kernel
theorem cn4 : cn .f32 1082130432 = 1082130432 := by decide +kernel
theorem cn2 : cn .f32 1073741824 = 1073741824 := by decide +kernel
theorem cn1 : cn .f32 1065353216 = 1065353216 := by decide +kernel
theorem cn0 : cn .f32 0 = 0 := by decide +kernel
theorem cnq : cn .f32 2143289344 = 2143289344 := by decide +kernel

/-- Some colour is a NaN: all three are the NaN. -/
def nan3 (f : Nat → Nat) : Bool := isN .f32 (f 0) || isN .f32 (f 1) || isN .f32 (f 2)

/-- What a region of tests on a difference asks. -/
theorem hsv_d0 {V M : Nat} {B : Bool} {o : Ordering} (h : (FloatKind.f32.format.order (cop .sub .f32 (cn .f32 V) (cn .f32 M)) 0 == some o) = B) (w : World) : (FloatKind.f32.format.order (fop .sub .f32 V M w) 0 == some o) = B := by
  rw [← order_c0, cn_fop]; exact h

theorem ends_below {B : Nat} {a w w' : World} (h : Below B a w) (hn : ∃ n, w' = w.drewN n) : Below B a w' := by obtain ⟨n, rfl⟩ := hn; exact below_drewN h n

end Go.Proofs.Ythnbfllhmjpbjaa
