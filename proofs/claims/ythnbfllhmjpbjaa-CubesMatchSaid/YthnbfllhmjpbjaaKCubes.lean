/-
  Cubes: that package cube has landed, in the laws.
-/
import Derived.Test.YthnbfllhmjpbjaaKIdn
namespace Go.Proofs.Ythnbfllhmjpbjaa
open Go.RowKit Go.Shelf
attribute [local go_sem] run_store_float

theorem idG_3 : idG 2 3 = 1065353216 := by decide +kernel
theorem one_eq : (FloatKind.f32.format.order 1065353216 1065353216 == some .eq) = true := by decide +kernel

set_option maxRecDepth 100000 in
set_option maxHeartbeats 2000000 in
theorem cubes_any (w : World) : Calls Try.prog 15 #[] w fun e w' => e = .returned (.bool true) ∧ Below w.heap.size w w' := by
  have h1 := one_eq
  go_enter Try.func15, Try.ntmps15
  go_wp2_with fail
  refine (identity_any 2 (by omega) (by omega) _).mono ?_
  rintro e w1 ⟨b, c, rfl, hc, hb, hR, hbe⟩
  have d3 := hR 3 (by omega)
  rw [idG_3, Nat.zero_add] at d3
  have d3a : ∀ o, (w1.alloc o).cell? ⟨b, 3, none⟩ = some (.float .f32 1065353216) := fun o => by rw [World.cell?_alloc_some _ _ _ (by simp [d3])]; exact d3
  have HB := hid hbe
  clear hbe hR hb
  have hc' : (24 : Int) ≤ (c : Int) := by omega
  go_wp2_with fail
  go_ret
  exact ⟨rfl, HB.out.alloc HB.out.size _⟩

end Go.Proofs.Ythnbfllhmjpbjaa
