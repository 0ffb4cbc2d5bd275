/-
  Mix and Through of the program.
-/
import Derived.Test.YtejcmlpbmoikfaaDoorFMixC
import Derived.Test.YtejcmlpbmoikfaaDoorFCheck
import Derived.Test.YtejcmlpbmoikfaaDoorFPlLaw
namespace Go.Proofs.YtejcmlpbmoikfaaDoor
open Go.RowKit Go.Shelf

/-- Two regions that are not the same. -/
def apartB (X Y p q X' Y' p' q' : Int) : Prop := ¬ (X = X' ∧ Y = Y' ∧ p = p' ∧ q = q')
/-- A frame of nothing and an error. -/
def ErrOut (w : World) (E : Int) (e : Ending) (w' : World) : Prop := e = .returned (.tuple #[.agg zfrm, .int .i64 E]) ∧ Below w.heap.size w w'
theorem neq_reg {X Y p q X' Y' p' q' : Int} (h : apartB X Y p q X' Y' p' q') : (X == X') = false ∨ (X' = X ∧ (Y == Y') = false) ∨ (X' = X ∧ Y' = Y ∧ (p == p') = false) ∨ (X' = X ∧ Y' = Y ∧ p' = p ∧ (q == q') = false) := by
  unfold apartB at h
  by_cases h1 : X = X' <;> by_cases h2 : Y = Y' <;> by_cases h3 : p = p' <;> by_cases h4 : q = q' <;> simp_all

end Go.Proofs.YtejcmlpbmoikfaaDoor
