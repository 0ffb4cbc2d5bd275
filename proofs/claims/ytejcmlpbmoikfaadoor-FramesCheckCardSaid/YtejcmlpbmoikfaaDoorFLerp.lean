/-
  Contracts of Lerp, in the program and in the reference.
-/
import Derived.Test.YtejcmlpbmoikfaaDoorFLeaf
namespace Go.Proofs.YtejcmlpbmoikfaaDoor
open Go.RowKit

theorem ret_f' {k : FloatKind} {a b : Nat} (h : a = b) : Ending.returned (.float k a) = .returned (.float k b) := by rw [h]

def lerpC (a b t : Nat) : Nat :=
  if (FloatKind.f32.format.order t 0 == some .eq) = true then cl a else if (FloatKind.f32.format.order t 1065353216 == some .eq) = true then cl b else
    cop .add .f32 (cl a) (cop .mul .f32 (cop .sub .f32 (cl b) (cl a)) (cl t))

end Go.Proofs.YtejcmlpbmoikfaaDoor
