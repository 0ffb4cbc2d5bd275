/-
  No cell of these rows narrows 'for every input' (looked for: loops, veiled, ifaces, maps, wideKeys, modest, calm, conditions, laid).
  DERIVED. THE GIVEN ROWS OF THIS SEAT. 10 by the template 'for every input the law returns true; each argument reads behind the call as it read before'; 0 by the template 'total and deterministic' (their statements: YtfeabmdioeelhaaTotals.lean).
  GIVEN WITH THE SEED: the statements are not yours to turn. If you find one false, say at which input.
  Laid BY PROGRAM, IN A SANDBOX (cutbox-rows.mjs): the forced cells as the released guide's own fill.sh prints them over the translation 248874be864fd77d… (all of the seat's roots in one cut). By AI agents, Wed Nov 11 2026. No macro, syntax, notation, axiom, sorry.
-/
import Derived.Test.YtfeabmdioeelhaaChecked
import GoSem.Claim
import GoSem.ClaimJoined
import GoSem.ClaimMapViews
import Derived.JoinedTies
import Derived.KernelRfl
namespace Go.Proofs.Ytfeabmdioeelhaa
/- THE CELL 'sum', in the pinned program and in every row, IS THE sha256 OF THE DUMP (.gsa) THAT YtfeabmdioeelhaaProg.lean LOADS. Nothing in Lean hashes anything: it is a label: what it is worth is what the hold of that sum in a sandbox is worth. -/
noncomputable def Try.pinned : Pinned := { name := "ytfeabmdioeelhaa", sum := "248874be864fd77db5d2c4123dc688f36c4e83a770f26ac3fe1b5e6e9d359b05", checked := Try.checked }
namespace Rows
def none {H : Type} : Left H := { results := [], args := [] }

/-- 'dyetop.TopMovedWindow': WHATEVER THE INPUT: true; the input reads as it did. -/
def topMovedWindowSpec : ChangeSpec := { name := "topMovedWindow", fn := fun _ => fun
  | [d1, d2, d3, d4] => { results := [.lit (.bool true)], args := [d1, d2, d3, d4] }
  | _ => none }
def topMovedWindowRow : OpenClaim := { program := "ytfeabmdioeelhaa", sum := "248874be864fd77db5d2c4123dc688f36c4e83a770f26ac3fe1b5e6e9d359b05", func := "dyehouse/dyetop.TopMovedWindow", spec := "topMovedWindow", inPlace := ["math.Float32frombits", "math.Float32bits", "math.Float64bits", "math.Float64frombits", "math.sqrt"], unfollowed := true, recurses := true, apart := false }
def TopMovedWindowSaid : Prop := topMovedWindowRow.holds Try.pinned (OpenSpec.ofChange topMovedWindowSpec)

/-- ITS FALSE NEIGHBOUR: 'it returns false'. Refute it at one input. -/
def topMovedWindowWrong : ChangeSpec := { name := "topMovedWindow", fn := fun _ => fun
  | [d1, d2, d3, d4] => { results := [.lit (.bool false)], args := [d1, d2, d3, d4] }
  | _ => none }
def TopMovedWindowWrongFalsely : Prop := topMovedWindowRow.holds Try.pinned (OpenSpec.ofChange topMovedWindowWrong)

/-- 'dyelaw1.RampsMatch': WHATEVER THE INPUT: true; the input reads as it did. -/
def rampsMatchSpec : ChangeSpec := { name := "rampsMatch", fn := fun _ => fun
  | [d1, d2, d3] => { results := [.lit (.bool true)], args := [d1, d2, d3] }
  | _ => none }
def rampsMatchRow : OpenClaim := { program := "ytfeabmdioeelhaa", sum := "248874be864fd77db5d2c4123dc688f36c4e83a770f26ac3fe1b5e6e9d359b05", func := "dyehouse/dyelaw1.RampsMatch", spec := "rampsMatch", inPlace := ["math.Float32frombits", "math.Float32bits"], apart := false }
def RampsMatchSaid : Prop := rampsMatchRow.holds Try.pinned (OpenSpec.ofChange rampsMatchSpec)

/-- ITS FALSE NEIGHBOUR: 'it returns false'. Refute it at one input. -/
def rampsMatchWrong : ChangeSpec := { name := "rampsMatch", fn := fun _ => fun
  | [d1, d2, d3] => { results := [.lit (.bool false)], args := [d1, d2, d3] }
  | _ => none }
def RampsMatchWrongFalsely : Prop := rampsMatchRow.holds Try.pinned (OpenSpec.ofChange rampsMatchWrong)

/-- 'dyelaw1.HuesMatch': WHATEVER THE INPUT: true; the input reads as it did. -/
def huesMatchSpec : ChangeSpec := { name := "huesMatch", fn := fun _ => fun
  | [d1, d2] => { results := [.lit (.bool true)], args := [d1, d2] }
  | _ => none }
def huesMatchRow : OpenClaim := { program := "ytfeabmdioeelhaa", sum := "248874be864fd77db5d2c4123dc688f36c4e83a770f26ac3fe1b5e6e9d359b05", func := "dyehouse/dyelaw1.HuesMatch", spec := "huesMatch", inPlace := ["math.Float32frombits", "math.Float32bits", "math.Float64frombits", "math.archFloor", "math.Float64bits", "math.archTrunc"], unfollowed := true, recurses := true, apart := false }
def HuesMatchSaid : Prop := huesMatchRow.holds Try.pinned (OpenSpec.ofChange huesMatchSpec)

/-- ITS FALSE NEIGHBOUR: 'it returns false'. Refute it at one input. -/
def huesMatchWrong : ChangeSpec := { name := "huesMatch", fn := fun _ => fun
  | [d1, d2] => { results := [.lit (.bool false)], args := [d1, d2] }
  | _ => none }
def HuesMatchWrongFalsely : Prop := huesMatchRow.holds Try.pinned (OpenSpec.ofChange huesMatchWrong)

/-- 'dyelaw1.LumasMatch': WHATEVER THE INPUT: true; the input reads as it did. -/
def lumasMatchSpec : ChangeSpec := { name := "lumasMatch", fn := fun _ => fun
  | [d1, d2, d3, d4, d5, d6] => { results := [.lit (.bool true)], args := [d1, d2, d3, d4, d5, d6] }
  | _ => none }
def lumasMatchRow : OpenClaim := { program := "ytfeabmdioeelhaa", sum := "248874be864fd77db5d2c4123dc688f36c4e83a770f26ac3fe1b5e6e9d359b05", func := "dyehouse/dyelaw1.LumasMatch", spec := "lumasMatch", inPlace := ["math.Float32frombits", "math.Float32bits", "math.sqrt"], unfollowed := true, recurses := true, apart := false }
def LumasMatchSaid : Prop := lumasMatchRow.holds Try.pinned (OpenSpec.ofChange lumasMatchSpec)

/-- ITS FALSE NEIGHBOUR: 'it returns false'. Refute it at one input. -/
def lumasMatchWrong : ChangeSpec := { name := "lumasMatch", fn := fun _ => fun
  | [d1, d2, d3, d4, d5, d6] => { results := [.lit (.bool false)], args := [d1, d2, d3, d4, d5, d6] }
  | _ => none }
def LumasMatchWrongFalsely : Prop := lumasMatchRow.holds Try.pinned (OpenSpec.ofChange lumasMatchWrong)

/-- 'dyelaw1.MattesMatch': WHATEVER THE INPUT: true; the input reads as it did. -/
def mattesMatchSpec : ChangeSpec := { name := "mattesMatch", fn := fun _ => fun
  | [d1, d2, d3, d4, d5] => { results := [.lit (.bool true)], args := [d1, d2, d3, d4, d5] }
  | _ => none }
def mattesMatchRow : OpenClaim := { program := "ytfeabmdioeelhaa", sum := "248874be864fd77db5d2c4123dc688f36c4e83a770f26ac3fe1b5e6e9d359b05", func := "dyehouse/dyelaw1.MattesMatch", spec := "mattesMatch", inPlace := ["math.Float32frombits", "math.Float32bits"], unfollowed := true, recurses := true, apart := false }
def MattesMatchSaid : Prop := mattesMatchRow.holds Try.pinned (OpenSpec.ofChange mattesMatchSpec)

/-- ITS FALSE NEIGHBOUR: 'it returns false'. Refute it at one input. -/
def mattesMatchWrong : ChangeSpec := { name := "mattesMatch", fn := fun _ => fun
  | [d1, d2, d3, d4, d5] => { results := [.lit (.bool false)], args := [d1, d2, d3, d4, d5] }
  | _ => none }
def MattesMatchWrongFalsely : Prop := mattesMatchRow.holds Try.pinned (OpenSpec.ofChange mattesMatchWrong)

/-- 'dyelaw1.MattesOpen': WHATEVER THE INPUT: true; the input reads as it did. -/
def mattesOpenSpec : ChangeSpec := { name := "mattesOpen", fn := fun _ => fun
  | [d1, d2, d3] => { results := [.lit (.bool true)], args := [d1, d2, d3] }
  | _ => none }
def mattesOpenRow : OpenClaim := { program := "ytfeabmdioeelhaa", sum := "248874be864fd77db5d2c4123dc688f36c4e83a770f26ac3fe1b5e6e9d359b05", func := "dyehouse/dyelaw1.MattesOpen", spec := "mattesOpen", inPlace := ["math.Float32frombits", "math.Float32bits"], unfollowed := true, recurses := true, apart := false }
def MattesOpenSaid : Prop := mattesOpenRow.holds Try.pinned (OpenSpec.ofChange mattesOpenSpec)

/-- ITS FALSE NEIGHBOUR: 'it returns false'. Refute it at one input. -/
def mattesOpenWrong : ChangeSpec := { name := "mattesOpen", fn := fun _ => fun
  | [d1, d2, d3] => { results := [.lit (.bool false)], args := [d1, d2, d3] }
  | _ => none }
def MattesOpenWrongFalsely : Prop := mattesOpenRow.holds Try.pinned (OpenSpec.ofChange mattesOpenWrong)

/-- 'dyelaw1.WindowsMatch': WHATEVER THE INPUT: true; the input reads as it did. -/
def windowsMatchSpec : ChangeSpec := { name := "windowsMatch", fn := fun _ => fun
  | [d1, d2, d3, d4] => { results := [.lit (.bool true)], args := [d1, d2, d3, d4] }
  | _ => none }
def windowsMatchRow : OpenClaim := { program := "ytfeabmdioeelhaa", sum := "248874be864fd77db5d2c4123dc688f36c4e83a770f26ac3fe1b5e6e9d359b05", func := "dyehouse/dyelaw1.WindowsMatch", spec := "windowsMatch", inPlace := ["math.Float32frombits", "math.Float32bits", "math.Float64bits", "math.Float64frombits", "math.sqrt"], unfollowed := true, recurses := true, apart := false }
def WindowsMatchSaid : Prop := windowsMatchRow.holds Try.pinned (OpenSpec.ofChange windowsMatchSpec)

/-- ITS FALSE NEIGHBOUR: 'it returns false'. Refute it at one input. -/
def windowsMatchWrong : ChangeSpec := { name := "windowsMatch", fn := fun _ => fun
  | [d1, d2, d3, d4] => { results := [.lit (.bool false)], args := [d1, d2, d3, d4] }
  | _ => none }
def WindowsMatchWrongFalsely : Prop := windowsMatchRow.holds Try.pinned (OpenSpec.ofChange windowsMatchWrong)

/-- 'dyelaw1.KeyFramesMatch': WHATEVER THE INPUT: true; the input reads as it did. -/
def keyFramesMatchSpec : ChangeSpec := { name := "keyFramesMatch", fn := fun _ => fun
  | [d1, d2, d3, d4] => { results := [.lit (.bool true)], args := [d1, d2, d3, d4] }
  | _ => none }
def keyFramesMatchRow : OpenClaim := { program := "ytfeabmdioeelhaa", sum := "248874be864fd77db5d2c4123dc688f36c4e83a770f26ac3fe1b5e6e9d359b05", func := "dyehouse/dyelaw1.KeyFramesMatch", spec := "keyFramesMatch", inPlace := ["math.Float32frombits", "math.Float32bits", "math.RoundToEven"], unfollowed := true, recurses := true, apart := false }
def KeyFramesMatchSaid : Prop := keyFramesMatchRow.holds Try.pinned (OpenSpec.ofChange keyFramesMatchSpec)

/-- ITS FALSE NEIGHBOUR: 'it returns false'. Refute it at one input. -/
def keyFramesMatchWrong : ChangeSpec := { name := "keyFramesMatch", fn := fun _ => fun
  | [d1, d2, d3, d4] => { results := [.lit (.bool false)], args := [d1, d2, d3, d4] }
  | _ => none }
def KeyFramesMatchWrongFalsely : Prop := keyFramesMatchRow.holds Try.pinned (OpenSpec.ofChange keyFramesMatchWrong)

/-- 'dyelaw1.TracksMatch': WHATEVER THE INPUT: true; the input reads as it did. -/
def tracksMatchSpec : ChangeSpec := { name := "tracksMatch", fn := fun _ => fun
  | [d1, d2, d3, d4, d5, d6] => { results := [.lit (.bool true)], args := [d1, d2, d3, d4, d5, d6] }
  | _ => none }
def tracksMatchRow : OpenClaim := { program := "ytfeabmdioeelhaa", sum := "248874be864fd77db5d2c4123dc688f36c4e83a770f26ac3fe1b5e6e9d359b05", func := "dyehouse/dyelaw1.TracksMatch", spec := "tracksMatch", inPlace := ["math.Float32frombits", "math.Float32bits", "math.Float64bits", "math.Float64frombits"], unfollowed := true, recurses := true, apart := false }
def TracksMatchSaid : Prop := tracksMatchRow.holds Try.pinned (OpenSpec.ofChange tracksMatchSpec)

/-- ITS FALSE NEIGHBOUR: 'it returns false'. Refute it at one input. -/
def tracksMatchWrong : ChangeSpec := { name := "tracksMatch", fn := fun _ => fun
  | [d1, d2, d3, d4, d5, d6] => { results := [.lit (.bool false)], args := [d1, d2, d3, d4, d5, d6] }
  | _ => none }
def TracksMatchWrongFalsely : Prop := tracksMatchRow.holds Try.pinned (OpenSpec.ofChange tracksMatchWrong)

/-- 'dyelaw1.TracksFind': WHATEVER THE INPUT: true; the input reads as it did. -/
def tracksFindSpec : ChangeSpec := { name := "tracksFind", fn := fun _ => fun
  | [d1, d2, d3] => { results := [.lit (.bool true)], args := [d1, d2, d3] }
  | _ => none }
def tracksFindRow : OpenClaim := { program := "ytfeabmdioeelhaa", sum := "248874be864fd77db5d2c4123dc688f36c4e83a770f26ac3fe1b5e6e9d359b05", func := "dyehouse/dyelaw1.TracksFind", spec := "tracksFind", inPlace := ["math.Float32frombits", "math.Float32bits", "math.Float64frombits", "math.Float64bits"], recurses := true, apart := false }
def TracksFindSaid : Prop := tracksFindRow.holds Try.pinned (OpenSpec.ofChange tracksFindSpec)

/-- ITS FALSE NEIGHBOUR: 'it returns false'. Refute it at one input. -/
def tracksFindWrong : ChangeSpec := { name := "tracksFind", fn := fun _ => fun
  | [d1, d2, d3] => { results := [.lit (.bool false)], args := [d1, d2, d3] }
  | _ => none }
def TracksFindWrongFalsely : Prop := tracksFindRow.holds Try.pinned (OpenSpec.ofChange tracksFindWrong)

/- THE SECOND FORM. 'bulk': how many values and letters a reading holds, each counted each time it is reached (what is shared counts as often as it is met; a slice's spare places count too). A statement '..UptoSaid' is the law's where the arguments, and the package variables that the reading takes, are together of bulk at most 1048576: NARROWER than '..Said'. Prove '..Said' where nothing that the law and all that it calls make is longer than what came in: it says more and counts as full. Else prove '..UptoSaid'. A law counts once. -/
mutual
def uptoBulk {H : Type} : DataW H → Nat
  | .lit (.string bytes) => bytes.length + 1
  | .lit _ => 1
  | .nil => 1
  | .ptr d => uptoBulk d + 1
  | .slice elems spare => uptoBulkAll elems + uptoBulkAll spare + 1
  | .agg parts => uptoBulkAll parts + 1
  | .iface _ d => uptoBulk d + 1
  | .map entries => uptoBulkEntries entries + 1
  | .held _ => 1
def uptoBulkAll {H : Type} : List (DataW H) → Nat
  | [] => 0
  | d :: r => uptoBulk d + uptoBulkAll r
def uptoBulkEntries {H : Type} : List (Lit × DataW H) → Nat
  | [] => 0
  | x :: r => uptoBulkEntry x + uptoBulkEntries r
def uptoBulkEntry {H : Type} : Lit × DataW H → Nat
  | (.string bytes, d) => bytes.length + uptoBulk d + 1
  | (_, d) => uptoBulk d + 1
 end
def uptoSmall : (H : Type) → List (DataW H) → Bool := fun _ ds => decide (uptoBulkAll ds ≤ 1048576)
def OpenSpec.upto (s : _root_.Go.ChangeSpec) : _root_.Go.OpenSpec := { _root_.Go.OpenSpec.ofChange s with cond := some uptoSmall }

/-- 'dyetop.TopMovedWindow', WHERE WHAT IT READS IS OF BULK AT MOST 1048576: true; the input reads as it did. -/
def topMovedWindowUptoRow : OpenClaim := { program := "ytfeabmdioeelhaa", sum := "248874be864fd77db5d2c4123dc688f36c4e83a770f26ac3fe1b5e6e9d359b05", func := "dyehouse/dyetop.TopMovedWindow", spec := "topMovedWindow", inPlace := ["math.Float32frombits", "math.Float32bits", "math.Float64bits", "math.Float64frombits", "math.sqrt"], unfollowed := true, recurses := true, apart := false, narrowed := true }
def TopMovedWindowUptoSaid : Prop := topMovedWindowUptoRow.holds Try.pinned (OpenSpec.upto topMovedWindowSpec)

/-- 'dyelaw1.RampsMatch', WHERE WHAT IT READS IS OF BULK AT MOST 1048576: true; the input reads as it did. -/
def rampsMatchUptoRow : OpenClaim := { program := "ytfeabmdioeelhaa", sum := "248874be864fd77db5d2c4123dc688f36c4e83a770f26ac3fe1b5e6e9d359b05", func := "dyehouse/dyelaw1.RampsMatch", spec := "rampsMatch", inPlace := ["math.Float32frombits", "math.Float32bits"], apart := false, narrowed := true }
def RampsMatchUptoSaid : Prop := rampsMatchUptoRow.holds Try.pinned (OpenSpec.upto rampsMatchSpec)

/-- 'dyelaw1.HuesMatch', WHERE WHAT IT READS IS OF BULK AT MOST 1048576: true; the input reads as it did. -/
def huesMatchUptoRow : OpenClaim := { program := "ytfeabmdioeelhaa", sum := "248874be864fd77db5d2c4123dc688f36c4e83a770f26ac3fe1b5e6e9d359b05", func := "dyehouse/dyelaw1.HuesMatch", spec := "huesMatch", inPlace := ["math.Float32frombits", "math.Float32bits", "math.Float64frombits", "math.archFloor", "math.Float64bits", "math.archTrunc"], unfollowed := true, recurses := true, apart := false, narrowed := true }
def HuesMatchUptoSaid : Prop := huesMatchUptoRow.holds Try.pinned (OpenSpec.upto huesMatchSpec)

/-- 'dyelaw1.LumasMatch', WHERE WHAT IT READS IS OF BULK AT MOST 1048576: true; the input reads as it did. -/
def lumasMatchUptoRow : OpenClaim := { program := "ytfeabmdioeelhaa", sum := "248874be864fd77db5d2c4123dc688f36c4e83a770f26ac3fe1b5e6e9d359b05", func := "dyehouse/dyelaw1.LumasMatch", spec := "lumasMatch", inPlace := ["math.Float32frombits", "math.Float32bits", "math.sqrt"], unfollowed := true, recurses := true, apart := false, narrowed := true }
def LumasMatchUptoSaid : Prop := lumasMatchUptoRow.holds Try.pinned (OpenSpec.upto lumasMatchSpec)

/-- 'dyelaw1.MattesMatch', WHERE WHAT IT READS IS OF BULK AT MOST 1048576: true; the input reads as it did. -/
def mattesMatchUptoRow : OpenClaim := { program := "ytfeabmdioeelhaa", sum := "248874be864fd77db5d2c4123dc688f36c4e83a770f26ac3fe1b5e6e9d359b05", func := "dyehouse/dyelaw1.MattesMatch", spec := "mattesMatch", inPlace := ["math.Float32frombits", "math.Float32bits"], unfollowed := true, recurses := true, apart := false, narrowed := true }
def MattesMatchUptoSaid : Prop := mattesMatchUptoRow.holds Try.pinned (OpenSpec.upto mattesMatchSpec)

/-- 'dyelaw1.MattesOpen', WHERE WHAT IT READS IS OF BULK AT MOST 1048576: true; the input reads as it did. -/
def mattesOpenUptoRow : OpenClaim := { program := "ytfeabmdioeelhaa", sum := "248874be864fd77db5d2c4123dc688f36c4e83a770f26ac3fe1b5e6e9d359b05", func := "dyehouse/dyelaw1.MattesOpen", spec := "mattesOpen", inPlace := ["math.Float32frombits", "math.Float32bits"], unfollowed := true, recurses := true, apart := false, narrowed := true }
def MattesOpenUptoSaid : Prop := mattesOpenUptoRow.holds Try.pinned (OpenSpec.upto mattesOpenSpec)

/-- 'dyelaw1.WindowsMatch', WHERE WHAT IT READS IS OF BULK AT MOST 1048576: true; the input reads as it did. -/
def windowsMatchUptoRow : OpenClaim := { program := "ytfeabmdioeelhaa", sum := "248874be864fd77db5d2c4123dc688f36c4e83a770f26ac3fe1b5e6e9d359b05", func := "dyehouse/dyelaw1.WindowsMatch", spec := "windowsMatch", inPlace := ["math.Float32frombits", "math.Float32bits", "math.Float64bits", "math.Float64frombits", "math.sqrt"], unfollowed := true, recurses := true, apart := false, narrowed := true }
def WindowsMatchUptoSaid : Prop := windowsMatchUptoRow.holds Try.pinned (OpenSpec.upto windowsMatchSpec)

/-- 'dyelaw1.KeyFramesMatch', WHERE WHAT IT READS IS OF BULK AT MOST 1048576: true; the input reads as it did. -/
def keyFramesMatchUptoRow : OpenClaim := { program := "ytfeabmdioeelhaa", sum := "248874be864fd77db5d2c4123dc688f36c4e83a770f26ac3fe1b5e6e9d359b05", func := "dyehouse/dyelaw1.KeyFramesMatch", spec := "keyFramesMatch", inPlace := ["math.Float32frombits", "math.Float32bits", "math.RoundToEven"], unfollowed := true, recurses := true, apart := false, narrowed := true }
def KeyFramesMatchUptoSaid : Prop := keyFramesMatchUptoRow.holds Try.pinned (OpenSpec.upto keyFramesMatchSpec)

/-- 'dyelaw1.TracksMatch', WHERE WHAT IT READS IS OF BULK AT MOST 1048576: true; the input reads as it did. -/
def tracksMatchUptoRow : OpenClaim := { program := "ytfeabmdioeelhaa", sum := "248874be864fd77db5d2c4123dc688f36c4e83a770f26ac3fe1b5e6e9d359b05", func := "dyehouse/dyelaw1.TracksMatch", spec := "tracksMatch", inPlace := ["math.Float32frombits", "math.Float32bits", "math.Float64bits", "math.Float64frombits"], unfollowed := true, recurses := true, apart := false, narrowed := true }
def TracksMatchUptoSaid : Prop := tracksMatchUptoRow.holds Try.pinned (OpenSpec.upto tracksMatchSpec)

/-- 'dyelaw1.TracksFind', WHERE WHAT IT READS IS OF BULK AT MOST 1048576: true; the input reads as it did. -/
def tracksFindUptoRow : OpenClaim := { program := "ytfeabmdioeelhaa", sum := "248874be864fd77db5d2c4123dc688f36c4e83a770f26ac3fe1b5e6e9d359b05", func := "dyehouse/dyelaw1.TracksFind", spec := "tracksFind", inPlace := ["math.Float32frombits", "math.Float32bits", "math.Float64frombits", "math.Float64bits"], recurses := true, apart := false, narrowed := true }
def TracksFindUptoSaid : Prop := tracksFindUptoRow.holds Try.pinned (OpenSpec.upto tracksFindSpec)

end Rows
end Go.Proofs.Ytfeabmdioeelhaa
