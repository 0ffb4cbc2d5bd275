/-
  Vignettes: the law's function value.
-/
import Derived.Test.YthoiiccecneefaaQVr
import Derived.Test.YthoiiccecneefaaQVp
import Derived.Test.YthoiiccecneefaaFSame
namespace Go.Proofs.Ythoiiccecneefaa
open Go.RowKit Go.Shelf
open Ieee (Datum Format signed)
attribute [local go_sem] run_store_float

section
variable {V : Nat → Nat} {X Y : Int} {p q n c : Nat} {A : Option Addr} {vb fb : Nat} {w wr w1 : World}
end

theorem cl_col (f g : Nat → Nat) (hg : ∀ k, cl (g k) = g k) (k : Nat) : cl (col f g k) = col f g k := by
  unfold col
  split
  · exact hg k
  · exact cl_cl _

end Go.Proofs.Ythoiiccecneefaa
