/-
  Common and Inside, in the program and in the reference.
-/
import Derived.Test.YtejcmlpbmoikfaaDoorFTotal
import Derived.Lib.MinMax
import Derived.BigQuiet
import Derived.Deep.QuietTactic
import Derived.RegionTactic
import Derived.BigRegion
namespace Go.Proofs.YtejcmlpbmoikfaaDoor
open Go.RowKit

/-- Numbers of a region that are small enough. -/
structure Small (x y a b : Int) : Prop where
  x1 : -4194304 ≤ x
  x2 : x ≤ 4194304
  y1 : -4194304 ≤ y
  y2 : y ≤ 4194304
  a1 : 0 ≤ a
  a2 : a ≤ 256
  b1 : 0 ≤ b
  b2 : b ≤ 256
theorem small_of {x y a b : Int} (h : regE x y a b = 0) : Small x y a b := by
  obtain ⟨h1, h2, h3, h4, _, h5, h6, h7, h8⟩ := regE_zero h
  exact ⟨by omega, by omega, by omega, by omega, by omega, by omega, by omega, by omega⟩

def Tup (w : World) (r : Value) (ok : Bool) (e : Ending) (w' : World) : Prop := e = .returned (.tuple #[r, .bool ok]) ∧ Below w.heap.size w w'

theorem below_set4 {B : Nat} {a w : World} (h : Below B a w) {g : Nat} (hg : B ≤ g) (u0 u1 u2 u3 : Value) :
    Below B a ((((w.setCell ⟨g, 0, none⟩ u0).setCell ⟨g, 1, none⟩ u1).setCell ⟨g, 2, none⟩ u2).setCell ⟨g, 3, none⟩ u3) :=
  (((h.setCell (p := ⟨g, 0, none⟩) hg u0).setCell (p := ⟨g, 1, none⟩) hg u1).setCell (p := ⟨g, 2, none⟩) hg u2).setCell (p := ⟨g, 3, none⟩) hg u3
abbrev zreg : Value := reg 0 0 0 0

/-- Are all pixels of the first region pixels of the second one? -/
def inB (x y a b x' y' a' b' : Int) : Bool := decide (x' ≤ x ∧ x + a ≤ x' + a' ∧ y' ≤ y ∧ y + b ≤ y' + b')
theorem inB_true {x y a b x' y' a' b' : Int} : inB x y a b x' y' a' b' = true ↔ x' ≤ x ∧ x + a ≤ x' + a' ∧ y' ≤ y ∧ y + b ≤ y' + b' := by simp [inB]
theorem inB_false {x y a b x' y' a' b' : Int} : inB x y a b x' y' a' b' = false ↔ ¬ (x' ≤ x ∧ x + a ≤ x' + a' ∧ y' ≤ y ∧ y + b ≤ y' + b') := by simp [inB]

end Go.Proofs.YtejcmlpbmoikfaaDoor
