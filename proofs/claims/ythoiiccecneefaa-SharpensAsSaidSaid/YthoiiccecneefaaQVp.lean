/-
  Vignette, in the program.
-/
import Derived.Test.YthoiiccecneefaaQVe
import Derived.Test.YthoiiccecneefaaQVw
namespace Go.Proofs.Ythoiiccecneefaa
open Go.RowKit Go.Shelf
open Ieee (Datum Format signed)
attribute [local go_sem] run_store_float

end Go.Proofs.Ythoiiccecneefaa
