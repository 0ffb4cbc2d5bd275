/-
  The function values of Mix and Through.
-/
import Derived.Test.YtejcmlpbmoikfaaDoorFEach
import Derived.Test.YtejcmlpbmoikfaaDoorFLerp
namespace Go.Proofs.YtejcmlpbmoikfaaDoor
open Go.RowKit Go.Shelf

end Go.Proofs.YtejcmlpbmoikfaaDoor
