/-
  Opening a slice of singles.
-/
import Derived.Test.YtejcmlpbmoikfaaDoorFOpen
namespace Go.Proofs.YtejcmlpbmoikfaaDoor
open Go.ChangeShapes Go.WideShapes Go.ChangeAt Go.RowKit Go.Deep

section
variable {H : Type} {enc : TypeId × Value → H} {w : World} {base : Nat} {held : Bool}
set_option maxRecDepth 100000 in
/-- A slice of singles. -/
theorem open_singles {r : Reach} {b0 : Nat} {v : Value} {d : DataW H} {p : List MemPlace} (hv : Value.okWide Tryd.prog w r b0 24 v) (h : DataW.Trod enc Tryd.prog w base (fun _ => true) held 24 v d p) :
    ∃ (A : Option Addr) (n c : Nat) (F : Nat → Nat), v = .slice A n c ∧ n ≤ c ∧ c ≤ maxLen ∧ Src w A n F ∧ (∀ i, i < n → F i < 4294967296) := by
  obtain ⟨a0, len, cap, rfl⟩ := okWide_slice Tryd.underlying24 hv
  obtain ⟨fuel, hf⟩ := h
  obtain ⟨A, m, c, F, hcs, g1, g2, g3, g4⟩ := open_src Tryd.underlying24 cellsF32 Tryd.underlying30 hf
  simp [Value.cells] at hcs
  obtain ⟨rfl, rfl, rfl⟩ := hcs
  exact ⟨_, _, _, F, rfl, g1, g2, g3, g4⟩
end
end Go.Proofs.YtejcmlpbmoikfaaDoor
