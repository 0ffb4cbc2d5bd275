/-
  Cubes: threes and pixels that are alike, in the laws.
-/
import Derived.Test.YthnbfllhmjpbjaaKEach
namespace Go.Proofs.Ythnbfllhmjpbjaa
open Go.RowKit
attribute [local go_sem] run_store_float

set_option maxRecDepth 100000 in
set_option maxHeartbeats 1000000 in
theorem sameThree_any (f g : Nat → Nat) (h : ∀ k, k < 3 → f k = g k) (w : World) : Calls Try.prog 18 #[arr f, arr g] w fun e w' => e = .returned (.bool true) ∧ Below w.heap.size w w' := by
  have e : arr f = arr g := by simp only [arr]; rw [h 0 (by omega), h 1 (by omega), h 2 (by omega)]
  rw [e]
  clear e h
  go_enter Try.func18, Try.ntmps18
  go_wp2_with (go_at_call 21; refine (same_yes _ _ rfl _).mono ?_; rintro e w' ⟨rfl, rfl⟩)
  go_ret
  exact ⟨rfl, ((Below.refl _ _).alloc (Nat.le_refl _) _).alloc (by simp) _⟩

set_option maxRecDepth 100000 in
set_option maxHeartbeats 1000000 in
/-- Two pixels of the same bits. -/
theorem samePix_any (f g : Nat → Nat) (h : ∀ k, k < 4 → f k = g k) (w : World) : Calls Try.prog 22 #[pix f, pix g] w fun e w' => e = .returned (.bool true) ∧ Below w.heap.size w w' := by
  have e : pix f = pix g := by simp only [pix]; rw [h 0 (by omega), h 1 (by omega), h 2 (by omega), h 3 (by omega)]
  rw [e, pix_cells]
  clear e h
  go_enter Try.func22, Try.ntmps22
  go_wp2_with (go_at_call 21; refine (same_yes _ _ rfl _).mono ?_; rintro e w' ⟨rfl, rfl⟩)
  go_ret
  exact ⟨rfl, ((Below.refl _ _).alloc (Nat.le_refl _) _).alloc (by simp) _⟩

end Go.Proofs.Ythnbfllhmjpbjaa
