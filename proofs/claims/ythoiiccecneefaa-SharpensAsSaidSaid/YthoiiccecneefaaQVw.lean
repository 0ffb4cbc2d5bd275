/-
  Vignettes: the function values; the reference's pixel.
-/
import Derived.Test.YthoiiccecneefaaQVg
import Derived.Lib.ItoaWalk
namespace Go.Proofs.Ythoiiccecneefaa
open Go.RowKit Go.Shelf
open Ieee (Datum Format signed)
attribute [local go_sem] run_store_float

/-- A pixel under a vignette. -/
def vpx (V P : Nat → Nat) (x y : Int) : Nat → Nat := col P fun k => cop .mul .f32 (cl (P k)) (cl (ligC V x y))

end Go.Proofs.Ythoiiccecneefaa
