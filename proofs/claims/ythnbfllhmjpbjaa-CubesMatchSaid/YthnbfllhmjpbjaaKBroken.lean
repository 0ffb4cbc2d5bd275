/-
  Cubes in the reference: is a colour broken?
-/
import Derived.Test.YthnbfllhmjpbjaaKLook
namespace Go.Proofs.Ythnbfllhmjpbjaa
open Go.RowKit
attribute [local go_sem] run_store_float

set_option maxRecDepth 100000 in
set_option maxHeartbeats 1000000 in
theorem broken_any (p : Nat → Nat) (w : World) : Calls Try.prog 76 #[pix p] w fun e w' => e = .returned (.bool (nan3 p)) ∧ Below w.heap.size w w' := by
  have q0 := ne_self .f32 (p 0)
  have q1 := ne_self .f32 (p 1)
  have q2 := ne_self .f32 (p 2)
  rw [pix_cells]
  cases h0 : isN .f32 (p 0)
  · cases h1 : isN .f32 (p 1)
    · cases h2 : isN .f32 (p 2)
      · have HQ := hid (nan3_no (p := p) (by intro k hk; have : k = 0 ∨ k = 1 ∨ k = 2 := by omega
                                             rcases this with h | h | h <;> subst h <;> assumption))
        rw [h0] at q0
        rw [h1] at q1
        rw [h2] at q2
        go_enter Try.func76, Try.ntmps76
        go_wp2_with fail
        go_ret
        exact ⟨ret_bool HQ.out.symm, (Below.refl _ _).alloc (Nat.le_refl _) _⟩
      · have HQ := hid (nan3_yes (p := p) (k := 2) (by omega) h2)
        rw [h0] at q0
        rw [h1] at q1
        rw [h2] at q2
        go_enter Try.func76, Try.ntmps76
        go_wp2_with fail
        go_ret
        exact ⟨ret_bool HQ.out.symm, (Below.refl _ _).alloc (Nat.le_refl _) _⟩
    · have HQ := hid (nan3_yes (p := p) (k := 1) (by omega) h1)
      rw [h0] at q0
      rw [h1] at q1
      go_enter Try.func76, Try.ntmps76
      go_wp2_with fail
      go_ret
      exact ⟨ret_bool HQ.out.symm, (Below.refl _ _).alloc (Nat.le_refl _) _⟩
  · have HQ := hid (nan3_yes (p := p) (k := 0) (by omega) h0)
    rw [h0] at q0
    go_enter Try.func76, Try.ntmps76
    go_wp2_with fail
    go_ret
    exact ⟨ret_bool HQ.out.symm, (Below.refl _ _).alloc (Nat.le_refl _) _⟩

end Go.Proofs.Ythnbfllhmjpbjaa
