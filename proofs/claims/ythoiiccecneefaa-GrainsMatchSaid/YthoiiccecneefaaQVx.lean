/-
  VignettesMatch: the law.
-/
import Derived.Test.YthoiiccecneefaaQVl
namespace Go.Proofs.Ythoiiccecneefaa
open Go.RowKit Go.Shelf
open Ieee (Datum Format signed)
attribute [local go_sem] run_store_float

section
variable {V : Nat → Nat} {x y a b : Int} {n c : Nat} {A : Option Addr} {gb : Nat} {gv : Array Value} {w wr w1 : World}
end

section
variable {V : Nat → Nat} {X Y : Int} {p q n c : Nat} {A : Option Addr} {F : Nat → Nat} {gb g d : Nat} {w wr w1 : World}
end

section
variable {V : Nat → Nat} {X Y : Int} {p q n c : Nat} {A : Option Addr} {F : Nat → Nat} {gb g d : Nat} {w wr w1 : World}
end

end Go.Proofs.Ythoiiccecneefaa
