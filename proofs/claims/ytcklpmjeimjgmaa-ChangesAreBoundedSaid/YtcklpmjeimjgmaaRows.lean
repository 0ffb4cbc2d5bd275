/-
  No cell of these rows narrows 'for every input' (looked for: loops, veiled, ifaces, maps, wideKeys, modest, calm, conditions, laid).
  DERIVED. THE GIVEN ROWS OF THIS SEAT. 8 by the template 'for every input the law returns true; each argument reads behind the call as it read before'; 0 by the template 'total and deterministic' (their statements: YtcklpmjeimjgmaaTotals.lean).
  GIVEN WITH THE SEED: the statements are not yours to turn. If you find one false, say at which input.
  Laid BY PROGRAM, IN A SANDBOX (cutbox-rows.mjs): the forced cells as the released guide's own fill.sh prints them over the translation 6511128be5afb545… (all of the seat's roots in one cut). By AI agents, Wed Nov 11 2026. No macro, syntax, notation, axiom, sorry.
-/
import Derived.Test.YtcklpmjeimjgmaaChecked
import GoSem.Claim
import GoSem.ClaimJoined
import GoSem.ClaimMapViews
import Derived.JoinedTies
import Derived.KernelRfl
namespace Go.Proofs.Ytcklpmjeimjgmaa
/- THE CELL 'sum', in the pinned program and in every row, IS THE sha256 OF THE DUMP (.gsa) THAT YtcklpmjeimjgmaaProg.lean LOADS. Nothing in Lean hashes anything: it is a label: what it is worth is what the hold of that sum in a sandbox is worth. -/
noncomputable def Try.pinned : Pinned := { name := "ytcklpmjeimjgmaa", sum := "6511128be5afb5459fe5831d55db3ecd36beda15a46f522a15abc2c279509178", checked := Try.checked }
namespace Rows
def none {H : Type} : Left H := { results := [], args := [] }

/-- 'dyetop.TopScopesOfTiles': WHATEVER THE INPUT: true; the input reads as it did. -/
def topScopesOfTilesSpec : ChangeSpec := { name := "topScopesOfTiles", fn := fun _ => fun
  | [d1, d2, d3, d4] => { results := [.lit (.bool true)], args := [d1, d2, d3, d4] }
  | _ => none }
def topScopesOfTilesRow : OpenClaim := { program := "ytcklpmjeimjgmaa", sum := "6511128be5afb5459fe5831d55db3ecd36beda15a46f522a15abc2c279509178", func := "dyehouse/dyetop.TopScopesOfTiles", spec := "topScopesOfTiles", inPlace := ["math.Float32frombits", "math.Float32bits"], unfollowed := true, recurses := true, apart := false }
def TopScopesOfTilesSaid : Prop := topScopesOfTilesRow.holds Try.pinned (OpenSpec.ofChange topScopesOfTilesSpec)

/-- ITS FALSE NEIGHBOUR: 'it returns false'. Refute it at one input. -/
def topScopesOfTilesWrong : ChangeSpec := { name := "topScopesOfTiles", fn := fun _ => fun
  | [d1, d2, d3, d4] => { results := [.lit (.bool false)], args := [d1, d2, d3, d4] }
  | _ => none }
def TopScopesOfTilesWrongFalsely : Prop := topScopesOfTilesRow.holds Try.pinned (OpenSpec.ofChange topScopesOfTilesWrong)

/-- 'dyelaw1.BinsMatch': WHATEVER THE INPUT: true; the input reads as it did. -/
def binsMatchSpec : ChangeSpec := { name := "binsMatch", fn := fun _ => fun
  | [d1, d2] => { results := [.lit (.bool true)], args := [d1, d2] }
  | _ => none }
def binsMatchRow : OpenClaim := { program := "ytcklpmjeimjgmaa", sum := "6511128be5afb5459fe5831d55db3ecd36beda15a46f522a15abc2c279509178", func := "dyehouse/dyelaw1.BinsMatch", spec := "binsMatch", inPlace := ["math.Float32frombits", "math.Float32bits", "math.archFloor", "math.Float64bits", "math.Float64frombits", "math.archTrunc"], apart := false }
def BinsMatchSaid : Prop := binsMatchRow.holds Try.pinned (OpenSpec.ofChange binsMatchSpec)

/-- ITS FALSE NEIGHBOUR: 'it returns false'. Refute it at one input. -/
def binsMatchWrong : ChangeSpec := { name := "binsMatch", fn := fun _ => fun
  | [d1, d2] => { results := [.lit (.bool false)], args := [d1, d2] }
  | _ => none }
def BinsMatchWrongFalsely : Prop := binsMatchRow.holds Try.pinned (OpenSpec.ofChange binsMatchWrong)

/-- 'dyelaw1.CountsMatch': WHATEVER THE INPUT: true; the input reads as it did. -/
def countsMatchSpec : ChangeSpec := { name := "countsMatch", fn := fun _ => fun
  | [d1, d2, d3, d4] => { results := [.lit (.bool true)], args := [d1, d2, d3, d4] }
  | _ => none }
def countsMatchRow : OpenClaim := { program := "ytcklpmjeimjgmaa", sum := "6511128be5afb5459fe5831d55db3ecd36beda15a46f522a15abc2c279509178", func := "dyehouse/dyelaw1.CountsMatch", spec := "countsMatch", inPlace := ["math.Float32frombits", "math.Float32bits", "math.archFloor", "math.Float64bits", "math.Float64frombits", "math.archTrunc"], unfollowed := true, recurses := true, apart := false }
def CountsMatchSaid : Prop := countsMatchRow.holds Try.pinned (OpenSpec.ofChange countsMatchSpec)

/-- ITS FALSE NEIGHBOUR: 'it returns false'. Refute it at one input. -/
def countsMatchWrong : ChangeSpec := { name := "countsMatch", fn := fun _ => fun
  | [d1, d2, d3, d4] => { results := [.lit (.bool false)], args := [d1, d2, d3, d4] }
  | _ => none }
def CountsMatchWrongFalsely : Prop := countsMatchRow.holds Try.pinned (OpenSpec.ofChange countsMatchWrong)

/-- 'dyelaw1.ColoursMatch': WHATEVER THE INPUT: true; the input reads as it did. -/
def coloursMatchSpec : ChangeSpec := { name := "coloursMatch", fn := fun _ => fun
  | [d1, d2, d3, d4, d5] => { results := [.lit (.bool true)], args := [d1, d2, d3, d4, d5] }
  | _ => none }
def coloursMatchRow : OpenClaim := { program := "ytcklpmjeimjgmaa", sum := "6511128be5afb5459fe5831d55db3ecd36beda15a46f522a15abc2c279509178", func := "dyehouse/dyelaw1.ColoursMatch", spec := "coloursMatch", inPlace := ["math.Float32frombits", "math.Float32bits"], unfollowed := true, recurses := true, apart := false }
def ColoursMatchSaid : Prop := coloursMatchRow.holds Try.pinned (OpenSpec.ofChange coloursMatchSpec)

/-- ITS FALSE NEIGHBOUR: 'it returns false'. Refute it at one input. -/
def coloursMatchWrong : ChangeSpec := { name := "coloursMatch", fn := fun _ => fun
  | [d1, d2, d3, d4, d5] => { results := [.lit (.bool false)], args := [d1, d2, d3, d4, d5] }
  | _ => none }
def ColoursMatchWrongFalsely : Prop := coloursMatchRow.holds Try.pinned (OpenSpec.ofChange coloursMatchWrong)

/-- 'dyelaw1.ExtentsMatch': WHATEVER THE INPUT: true; the input reads as it did. -/
def extentsMatchSpec : ChangeSpec := { name := "extentsMatch", fn := fun _ => fun
  | [d1, d2, d3] => { results := [.lit (.bool true)], args := [d1, d2, d3] }
  | _ => none }
def extentsMatchRow : OpenClaim := { program := "ytcklpmjeimjgmaa", sum := "6511128be5afb5459fe5831d55db3ecd36beda15a46f522a15abc2c279509178", func := "dyehouse/dyelaw1.ExtentsMatch", spec := "extentsMatch", inPlace := ["math.Float32frombits", "math.Float32bits"], unfollowed := true, recurses := true, apart := false }
def ExtentsMatchSaid : Prop := extentsMatchRow.holds Try.pinned (OpenSpec.ofChange extentsMatchSpec)

/-- ITS FALSE NEIGHBOUR: 'it returns false'. Refute it at one input. -/
def extentsMatchWrong : ChangeSpec := { name := "extentsMatch", fn := fun _ => fun
  | [d1, d2, d3] => { results := [.lit (.bool false)], args := [d1, d2, d3] }
  | _ => none }
def ExtentsMatchWrongFalsely : Prop := extentsMatchRow.holds Try.pinned (OpenSpec.ofChange extentsMatchWrong)

/-- 'dyelaw1.MeasuresMatch': WHATEVER THE INPUT: true; the input reads as it did. -/
def measuresMatchSpec : ChangeSpec := { name := "measuresMatch", fn := fun _ => fun
  | [d1, d2, d3, d4] => { results := [.lit (.bool true)], args := [d1, d2, d3, d4] }
  | _ => none }
def measuresMatchRow : OpenClaim := { program := "ytcklpmjeimjgmaa", sum := "6511128be5afb5459fe5831d55db3ecd36beda15a46f522a15abc2c279509178", func := "dyehouse/dyelaw1.MeasuresMatch", spec := "measuresMatch", inPlace := ["math.Float32frombits", "math.Float32bits", "math.Float64bits", "math.Float64frombits"], unfollowed := true, recurses := true, apart := false }
def MeasuresMatchSaid : Prop := measuresMatchRow.holds Try.pinned (OpenSpec.ofChange measuresMatchSpec)

/-- ITS FALSE NEIGHBOUR: 'it returns false'. Refute it at one input. -/
def measuresMatchWrong : ChangeSpec := { name := "measuresMatch", fn := fun _ => fun
  | [d1, d2, d3, d4] => { results := [.lit (.bool false)], args := [d1, d2, d3, d4] }
  | _ => none }
def MeasuresMatchWrongFalsely : Prop := measuresMatchRow.holds Try.pinned (OpenSpec.ofChange measuresMatchWrong)

/-- 'dyelaw1.NothingChanged': WHATEVER THE INPUT: true; the input reads as it did. -/
def nothingChangedSpec : ChangeSpec := { name := "nothingChanged", fn := fun _ => fun
  | [d] => { results := [.lit (.bool true)], args := [d] }
  | _ => none }
def nothingChangedRow : OpenClaim := { program := "ytcklpmjeimjgmaa", sum := "6511128be5afb5459fe5831d55db3ecd36beda15a46f522a15abc2c279509178", func := "dyehouse/dyelaw1.NothingChanged", spec := "nothingChanged", inPlace := ["math.Float32frombits", "math.Float32bits", "math.Float64bits", "math.Float64frombits"], unfollowed := true, recurses := true, apart := false }
def NothingChangedSaid : Prop := nothingChangedRow.holds Try.pinned (OpenSpec.ofChange nothingChangedSpec)

/-- ITS FALSE NEIGHBOUR: 'it returns false'. Refute it at one input. -/
def nothingChangedWrong : ChangeSpec := { name := "nothingChanged", fn := fun _ => fun
  | [d] => { results := [.lit (.bool false)], args := [d] }
  | _ => none }
def NothingChangedWrongFalsely : Prop := nothingChangedRow.holds Try.pinned (OpenSpec.ofChange nothingChangedWrong)

/-- 'dyelaw1.ChangesAreBounded': WHATEVER THE INPUT: true; the input reads as it did. -/
def changesAreBoundedSpec : ChangeSpec := { name := "changesAreBounded", fn := fun _ => fun
  | [d1, d2] => { results := [.lit (.bool true)], args := [d1, d2] }
  | _ => none }
def changesAreBoundedRow : OpenClaim := { program := "ytcklpmjeimjgmaa", sum := "6511128be5afb5459fe5831d55db3ecd36beda15a46f522a15abc2c279509178", func := "dyehouse/dyelaw1.ChangesAreBounded", spec := "changesAreBounded", inPlace := ["math.Float32frombits", "math.Float32bits"], unfollowed := true, recurses := true, apart := false }
def ChangesAreBoundedSaid : Prop := changesAreBoundedRow.holds Try.pinned (OpenSpec.ofChange changesAreBoundedSpec)

/-- ITS FALSE NEIGHBOUR: 'it returns false'. Refute it at one input. -/
def changesAreBoundedWrong : ChangeSpec := { name := "changesAreBounded", fn := fun _ => fun
  | [d1, d2] => { results := [.lit (.bool false)], args := [d1, d2] }
  | _ => none }
def ChangesAreBoundedWrongFalsely : Prop := changesAreBoundedRow.holds Try.pinned (OpenSpec.ofChange changesAreBoundedWrong)

/- THE SECOND FORM. 'bulk': how many values and letters a reading holds, each counted each time it is reached (what is shared counts as often as it is met; a slice's spare places count too). A statement '..UptoSaid' is the law's where the arguments, and the package variables that the reading takes, are together of bulk at most 1048576: NARROWER than '..Said'. Prove '..Said' where nothing that the law and all that it calls make is longer than what came in: it says more and counts as full. Else prove '..UptoSaid'. A law counts once. -/
mutual
def uptoBulk {H : Type} : DataW H → Nat
  | .lit (.string bytes) => bytes.length + 1
  | .lit _ => 1
  | .nil => 1
  | .ptr d => uptoBulk d + 1
  | .slice elems spare => uptoBulkAll elems + uptoBulkAll spare + 1
  | .agg parts => uptoBulkAll parts + 1
  | .iface _ d => uptoBulk d + 1
  | .map entries => uptoBulkEntries entries + 1
  | .held _ => 1
def uptoBulkAll {H : Type} : List (DataW H) → Nat
  | [] => 0
  | d :: r => uptoBulk d + uptoBulkAll r
def uptoBulkEntries {H : Type} : List (Lit × DataW H) → Nat
  | [] => 0
  | x :: r => uptoBulkEntry x + uptoBulkEntries r
def uptoBulkEntry {H : Type} : Lit × DataW H → Nat
  | (.string bytes, d) => bytes.length + uptoBulk d + 1
  | (_, d) => uptoBulk d + 1
 end
def uptoSmall : (H : Type) → List (DataW H) → Bool := fun _ ds => decide (uptoBulkAll ds ≤ 1048576)
def OpenSpec.upto (s : _root_.Go.ChangeSpec) : _root_.Go.OpenSpec := { _root_.Go.OpenSpec.ofChange s with cond := some uptoSmall }

/-- 'dyetop.TopScopesOfTiles', WHERE WHAT IT READS IS OF BULK AT MOST 1048576: true; the input reads as it did. -/
def topScopesOfTilesUptoRow : OpenClaim := { program := "ytcklpmjeimjgmaa", sum := "6511128be5afb5459fe5831d55db3ecd36beda15a46f522a15abc2c279509178", func := "dyehouse/dyetop.TopScopesOfTiles", spec := "topScopesOfTiles", inPlace := ["math.Float32frombits", "math.Float32bits"], unfollowed := true, recurses := true, apart := false, narrowed := true }
def TopScopesOfTilesUptoSaid : Prop := topScopesOfTilesUptoRow.holds Try.pinned (OpenSpec.upto topScopesOfTilesSpec)

/-- 'dyelaw1.BinsMatch', WHERE WHAT IT READS IS OF BULK AT MOST 1048576: true; the input reads as it did. -/
def binsMatchUptoRow : OpenClaim := { program := "ytcklpmjeimjgmaa", sum := "6511128be5afb5459fe5831d55db3ecd36beda15a46f522a15abc2c279509178", func := "dyehouse/dyelaw1.BinsMatch", spec := "binsMatch", inPlace := ["math.Float32frombits", "math.Float32bits", "math.archFloor", "math.Float64bits", "math.Float64frombits", "math.archTrunc"], apart := false, narrowed := true }
def BinsMatchUptoSaid : Prop := binsMatchUptoRow.holds Try.pinned (OpenSpec.upto binsMatchSpec)

/-- 'dyelaw1.CountsMatch', WHERE WHAT IT READS IS OF BULK AT MOST 1048576: true; the input reads as it did. -/
def countsMatchUptoRow : OpenClaim := { program := "ytcklpmjeimjgmaa", sum := "6511128be5afb5459fe5831d55db3ecd36beda15a46f522a15abc2c279509178", func := "dyehouse/dyelaw1.CountsMatch", spec := "countsMatch", inPlace := ["math.Float32frombits", "math.Float32bits", "math.archFloor", "math.Float64bits", "math.Float64frombits", "math.archTrunc"], unfollowed := true, recurses := true, apart := false, narrowed := true }
def CountsMatchUptoSaid : Prop := countsMatchUptoRow.holds Try.pinned (OpenSpec.upto countsMatchSpec)

/-- 'dyelaw1.ColoursMatch', WHERE WHAT IT READS IS OF BULK AT MOST 1048576: true; the input reads as it did. -/
def coloursMatchUptoRow : OpenClaim := { program := "ytcklpmjeimjgmaa", sum := "6511128be5afb5459fe5831d55db3ecd36beda15a46f522a15abc2c279509178", func := "dyehouse/dyelaw1.ColoursMatch", spec := "coloursMatch", inPlace := ["math.Float32frombits", "math.Float32bits"], unfollowed := true, recurses := true, apart := false, narrowed := true }
def ColoursMatchUptoSaid : Prop := coloursMatchUptoRow.holds Try.pinned (OpenSpec.upto coloursMatchSpec)

/-- 'dyelaw1.ExtentsMatch', WHERE WHAT IT READS IS OF BULK AT MOST 1048576: true; the input reads as it did. -/
def extentsMatchUptoRow : OpenClaim := { program := "ytcklpmjeimjgmaa", sum := "6511128be5afb5459fe5831d55db3ecd36beda15a46f522a15abc2c279509178", func := "dyehouse/dyelaw1.ExtentsMatch", spec := "extentsMatch", inPlace := ["math.Float32frombits", "math.Float32bits"], unfollowed := true, recurses := true, apart := false, narrowed := true }
def ExtentsMatchUptoSaid : Prop := extentsMatchUptoRow.holds Try.pinned (OpenSpec.upto extentsMatchSpec)

/-- 'dyelaw1.MeasuresMatch', WHERE WHAT IT READS IS OF BULK AT MOST 1048576: true; the input reads as it did. -/
def measuresMatchUptoRow : OpenClaim := { program := "ytcklpmjeimjgmaa", sum := "6511128be5afb5459fe5831d55db3ecd36beda15a46f522a15abc2c279509178", func := "dyehouse/dyelaw1.MeasuresMatch", spec := "measuresMatch", inPlace := ["math.Float32frombits", "math.Float32bits", "math.Float64bits", "math.Float64frombits"], unfollowed := true, recurses := true, apart := false, narrowed := true }
def MeasuresMatchUptoSaid : Prop := measuresMatchUptoRow.holds Try.pinned (OpenSpec.upto measuresMatchSpec)

/-- 'dyelaw1.NothingChanged', WHERE WHAT IT READS IS OF BULK AT MOST 1048576: true; the input reads as it did. -/
def nothingChangedUptoRow : OpenClaim := { program := "ytcklpmjeimjgmaa", sum := "6511128be5afb5459fe5831d55db3ecd36beda15a46f522a15abc2c279509178", func := "dyehouse/dyelaw1.NothingChanged", spec := "nothingChanged", inPlace := ["math.Float32frombits", "math.Float32bits", "math.Float64bits", "math.Float64frombits"], unfollowed := true, recurses := true, apart := false, narrowed := true }
def NothingChangedUptoSaid : Prop := nothingChangedUptoRow.holds Try.pinned (OpenSpec.upto nothingChangedSpec)

/-- 'dyelaw1.ChangesAreBounded', WHERE WHAT IT READS IS OF BULK AT MOST 1048576: true; the input reads as it did. -/
def changesAreBoundedUptoRow : OpenClaim := { program := "ytcklpmjeimjgmaa", sum := "6511128be5afb5459fe5831d55db3ecd36beda15a46f522a15abc2c279509178", func := "dyehouse/dyelaw1.ChangesAreBounded", spec := "changesAreBounded", inPlace := ["math.Float32frombits", "math.Float32bits"], unfollowed := true, recurses := true, apart := false, narrowed := true }
def ChangesAreBoundedUptoSaid : Prop := changesAreBoundedUptoRow.holds Try.pinned (OpenSpec.upto changesAreBoundedSpec)

end Rows
end Go.Proofs.Ytcklpmjeimjgmaa
