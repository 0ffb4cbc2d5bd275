/-
  Fill, in the program.
-/
import Derived.Test.YtejcmlpbmoikfaaDoorFMix
namespace Go.Proofs.YtejcmlpbmoikfaaDoor
open Go.RowKit Go.Shelf

abbrev pixC (P : Nat → Nat) : Array Value := #[.float .f32 (P 0), .float .f32 (P 1), .float .f32 (P 2), .float .f32 (P 3)]
theorem pixC_get (P : Nat → Nat) (k : Nat) (hk : k < 4) : (pixC P)[k]? = some (.float .f32 (P k)) := by
  have : k = 0 ∨ k = 1 ∨ k = 2 ∨ k = 3 := by omega
  rcases this with h | h | h | h <;> subst h <;> rfl

end Go.Proofs.YtejcmlpbmoikfaaDoor
