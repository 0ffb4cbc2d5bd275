/-
  No cell of these rows narrows 'for every input' (looked for: loops, veiled, ifaces, maps, wideKeys, modest, calm, conditions, laid).
  DERIVED. THE GIVEN ROWS OF THIS SEAT. 9 by the template 'for every input the law returns true; each argument reads behind the call as it read before'; 0 by the template 'total and deterministic' (their statements: YtcmakibomdinbaaTotals.lean).
  GIVEN WITH THE SEED: the statements are not yours to turn. If you find one false, say at which input.
  Laid BY PROGRAM, IN A SANDBOX (cutbox-rows.mjs): the forced cells as the released guide's own fill.sh prints them over the translation 311be7859c988e9a… (all of the seat's roots in one cut). By AI agents, Wed Nov 11 2026. No macro, syntax, notation, axiom, sorry.
-/
import Derived.Test.YtcmakibomdinbaaChecked
import GoSem.Claim
import GoSem.ClaimJoined
import GoSem.ClaimMapViews
import Derived.JoinedTies
import Derived.KernelRfl
namespace Go.Proofs.Ytcmakibomdinbaa
/- THE CELL 'sum', in the pinned program and in every row, IS THE sha256 OF THE DUMP (.gsa) THAT YtcmakibomdinbaaProg.lean LOADS. Nothing in Lean hashes anything: it is a label: what it is worth is what the hold of that sum in a sandbox is worth. -/
noncomputable def Try.pinned : Pinned := { name := "ytcmakibomdinbaa", sum := "311be7859c988e9a964ca7a7ae92a0f2ecb9c275c2499cae5f2d18dcb9c43821", checked := Try.checked }
namespace Rows
def none {H : Type} : Left H := { results := [], args := [] }

/-- 'dyetop.TopColours': WHATEVER THE INPUT: true; the input reads as it did. -/
def topColoursSpec : ChangeSpec := { name := "topColours", fn := fun _ => fun
  | [d1, d2, d3] => { results := [.lit (.bool true)], args := [d1, d2, d3] }
  | _ => none }
def topColoursRow : OpenClaim := { program := "ytcmakibomdinbaa", sum := "311be7859c988e9a964ca7a7ae92a0f2ecb9c275c2499cae5f2d18dcb9c43821", func := "dyehouse/dyetop.TopColours", spec := "topColours", inPlace := ["math.Float32frombits", "math.Float32bits", "math.Float64bits", "math.Float64frombits", "math.archFloor", "math.archTrunc"], unfollowed := true, recurses := true, apart := false }
def TopColoursSaid : Prop := topColoursRow.holds Try.pinned (OpenSpec.ofChange topColoursSpec)

/-- ITS FALSE NEIGHBOUR: 'it returns false'. Refute it at one input. -/
def topColoursWrong : ChangeSpec := { name := "topColours", fn := fun _ => fun
  | [d1, d2, d3] => { results := [.lit (.bool false)], args := [d1, d2, d3] }
  | _ => none }
def TopColoursWrongFalsely : Prop := topColoursRow.holds Try.pinned (OpenSpec.ofChange topColoursWrong)

/-- 'dyelaw2.MatricesMatch': WHATEVER THE INPUT: true; the input reads as it did. -/
def matricesMatchSpec : ChangeSpec := { name := "matricesMatch", fn := fun _ => fun
  | [d1, d2, d3] => { results := [.lit (.bool true)], args := [d1, d2, d3] }
  | _ => none }
def matricesMatchRow : OpenClaim := { program := "ytcmakibomdinbaa", sum := "311be7859c988e9a964ca7a7ae92a0f2ecb9c275c2499cae5f2d18dcb9c43821", func := "dyehouse/dyelaw2.MatricesMatch", spec := "matricesMatch", inPlace := ["math.Float64bits", "math.Float64frombits", "math.Float32frombits", "math.Float32bits"], unfollowed := true, recurses := true, apart := false }
def MatricesMatchSaid : Prop := matricesMatchRow.holds Try.pinned (OpenSpec.ofChange matricesMatchSpec)

/-- ITS FALSE NEIGHBOUR: 'it returns false'. Refute it at one input. -/
def matricesMatchWrong : ChangeSpec := { name := "matricesMatch", fn := fun _ => fun
  | [d1, d2, d3] => { results := [.lit (.bool false)], args := [d1, d2, d3] }
  | _ => none }
def MatricesMatchWrongFalsely : Prop := matricesMatchRow.holds Try.pinned (OpenSpec.ofChange matricesMatchWrong)

/-- 'dyelaw2.PrimariesMatch': WHATEVER THE INPUT: true; the input reads as it did. -/
def primariesMatchSpec : ChangeSpec := { name := "primariesMatch", fn := fun _ => fun
  | [d1, d2] => { results := [.lit (.bool true)], args := [d1, d2] }
  | _ => none }
def primariesMatchRow : OpenClaim := { program := "ytcmakibomdinbaa", sum := "311be7859c988e9a964ca7a7ae92a0f2ecb9c275c2499cae5f2d18dcb9c43821", func := "dyehouse/dyelaw2.PrimariesMatch", spec := "primariesMatch", inPlace := ["math.Float32bits", "math.Float64bits", "math.Float64frombits", "math.Float32frombits"], unfollowed := true, recurses := true, apart := false }
def PrimariesMatchSaid : Prop := primariesMatchRow.holds Try.pinned (OpenSpec.ofChange primariesMatchSpec)

/-- ITS FALSE NEIGHBOUR: 'it returns false'. Refute it at one input. -/
def primariesMatchWrong : ChangeSpec := { name := "primariesMatch", fn := fun _ => fun
  | [d1, d2] => { results := [.lit (.bool false)], args := [d1, d2] }
  | _ => none }
def PrimariesMatchWrongFalsely : Prop := primariesMatchRow.holds Try.pinned (OpenSpec.ofChange primariesMatchWrong)

/-- 'dyelaw2.TransfersMatch': WHATEVER THE INPUT: true; the input reads as it did. -/
def transfersMatchSpec : ChangeSpec := { name := "transfersMatch", fn := fun _ => fun
  | [d1, d2] => { results := [.lit (.bool true)], args := [d1, d2] }
  | _ => none }
def transfersMatchRow : OpenClaim := { program := "ytcmakibomdinbaa", sum := "311be7859c988e9a964ca7a7ae92a0f2ecb9c275c2499cae5f2d18dcb9c43821", func := "dyehouse/dyelaw2.TransfersMatch", spec := "transfersMatch", inPlace := ["math.Float32bits", "math.Float32frombits", "math.Float64frombits", "math.Float64bits", "math.archFloor", "math.archTrunc"], unfollowed := true, recurses := true, apart := false }
def TransfersMatchSaid : Prop := transfersMatchRow.holds Try.pinned (OpenSpec.ofChange transfersMatchSpec)

/-- ITS FALSE NEIGHBOUR: 'it returns false'. Refute it at one input. -/
def transfersMatchWrong : ChangeSpec := { name := "transfersMatch", fn := fun _ => fun
  | [d1, d2] => { results := [.lit (.bool false)], args := [d1, d2] }
  | _ => none }
def TransfersMatchWrongFalsely : Prop := transfersMatchRow.holds Try.pinned (OpenSpec.ofChange transfersMatchWrong)

/-- 'dyelaw2.TransfersLeadBack': WHATEVER THE INPUT: true; the input reads as it did. -/
def transfersLeadBackSpec : ChangeSpec := { name := "transfersLeadBack", fn := fun _ => fun
  | [d1, d2] => { results := [.lit (.bool true)], args := [d1, d2] }
  | _ => none }
def transfersLeadBackRow : OpenClaim := { program := "ytcmakibomdinbaa", sum := "311be7859c988e9a964ca7a7ae92a0f2ecb9c275c2499cae5f2d18dcb9c43821", func := "dyehouse/dyelaw2.TransfersLeadBack", spec := "transfersLeadBack", inPlace := ["math.Float32bits", "math.Float32frombits", "math.Float64frombits", "math.Float64bits", "math.archFloor", "math.archTrunc"], unfollowed := true, recurses := true, apart := false }
def TransfersLeadBackSaid : Prop := transfersLeadBackRow.holds Try.pinned (OpenSpec.ofChange transfersLeadBackSpec)

/-- ITS FALSE NEIGHBOUR: 'it returns false'. Refute it at one input. -/
def transfersLeadBackWrong : ChangeSpec := { name := "transfersLeadBack", fn := fun _ => fun
  | [d1, d2] => { results := [.lit (.bool false)], args := [d1, d2] }
  | _ => none }
def TransfersLeadBackWrongFalsely : Prop := transfersLeadBackRow.holds Try.pinned (OpenSpec.ofChange transfersLeadBackWrong)

/-- 'dyelaw2.SpacesMatch': WHATEVER THE INPUT: true; the input reads as it did. -/
def spacesMatchSpec : ChangeSpec := { name := "spacesMatch", fn := fun _ => fun
  | [d1, d2] => { results := [.lit (.bool true)], args := [d1, d2] }
  | _ => none }
def spacesMatchRow : OpenClaim := { program := "ytcmakibomdinbaa", sum := "311be7859c988e9a964ca7a7ae92a0f2ecb9c275c2499cae5f2d18dcb9c43821", func := "dyehouse/dyelaw2.SpacesMatch", spec := "spacesMatch", inPlace := ["math.Float32bits", "math.Float64bits", "math.Float64frombits"], unfollowed := true, recurses := true, apart := false }
def SpacesMatchSaid : Prop := spacesMatchRow.holds Try.pinned (OpenSpec.ofChange spacesMatchSpec)

/-- ITS FALSE NEIGHBOUR: 'it returns false'. Refute it at one input. -/
def spacesMatchWrong : ChangeSpec := { name := "spacesMatch", fn := fun _ => fun
  | [d1, d2] => { results := [.lit (.bool false)], args := [d1, d2] }
  | _ => none }
def SpacesMatchWrongFalsely : Prop := spacesMatchRow.holds Try.pinned (OpenSpec.ofChange spacesMatchWrong)

/-- 'dyelaw2.ColourHuesMatch': WHATEVER THE INPUT: true; the input reads as it did. -/
def colourHuesMatchSpec : ChangeSpec := { name := "colourHuesMatch", fn := fun _ => fun
  | [d1, d2, d3, d4, d5, d6] => { results := [.lit (.bool true)], args := [d1, d2, d3, d4, d5, d6] }
  | _ => none }
def colourHuesMatchRow : OpenClaim := { program := "ytcmakibomdinbaa", sum := "311be7859c988e9a964ca7a7ae92a0f2ecb9c275c2499cae5f2d18dcb9c43821", func := "dyehouse/dyelaw2.ColourHuesMatch", spec := "colourHuesMatch", inPlace := ["math.Float64frombits", "math.Float32frombits", "math.Float32bits", "math.archFloor", "math.Float64bits", "math.archTrunc"], unfollowed := true, recurses := true, apart := false }
def ColourHuesMatchSaid : Prop := colourHuesMatchRow.holds Try.pinned (OpenSpec.ofChange colourHuesMatchSpec)

/-- ITS FALSE NEIGHBOUR: 'it returns false'. Refute it at one input. -/
def colourHuesMatchWrong : ChangeSpec := { name := "colourHuesMatch", fn := fun _ => fun
  | [d1, d2, d3, d4, d5, d6] => { results := [.lit (.bool false)], args := [d1, d2, d3, d4, d5, d6] }
  | _ => none }
def ColourHuesMatchWrongFalsely : Prop := colourHuesMatchRow.holds Try.pinned (OpenSpec.ofChange colourHuesMatchWrong)

/-- 'dyelaw2.HuesLeadBack': WHATEVER THE INPUT: true; the input reads as it did. -/
def huesLeadBackSpec : ChangeSpec := { name := "huesLeadBack", fn := fun _ => fun
  | [d] => { results := [.lit (.bool true)], args := [d] }
  | _ => none }
def huesLeadBackRow : OpenClaim := { program := "ytcmakibomdinbaa", sum := "311be7859c988e9a964ca7a7ae92a0f2ecb9c275c2499cae5f2d18dcb9c43821", func := "dyehouse/dyelaw2.HuesLeadBack", spec := "huesLeadBack", inPlace := ["math.Float64bits", "math.Float64frombits", "math.Float32frombits", "math.Float32bits", "math.archFloor", "math.archTrunc"], apart := false }
def HuesLeadBackSaid : Prop := huesLeadBackRow.holds Try.pinned (OpenSpec.ofChange huesLeadBackSpec)

/-- ITS FALSE NEIGHBOUR: 'it returns false'. Refute it at one input. -/
def huesLeadBackWrong : ChangeSpec := { name := "huesLeadBack", fn := fun _ => fun
  | [d] => { results := [.lit (.bool false)], args := [d] }
  | _ => none }
def HuesLeadBackWrongFalsely : Prop := huesLeadBackRow.holds Try.pinned (OpenSpec.ofChange huesLeadBackWrong)

/-- 'dyelaw2.LabsMatch': WHATEVER THE INPUT: true; the input reads as it did. -/
def labsMatchSpec : ChangeSpec := { name := "labsMatch", fn := fun _ => fun
  | [d1, d2, d3, d4] => { results := [.lit (.bool true)], args := [d1, d2, d3, d4] }
  | _ => none }
def labsMatchRow : OpenClaim := { program := "ytcmakibomdinbaa", sum := "311be7859c988e9a964ca7a7ae92a0f2ecb9c275c2499cae5f2d18dcb9c43821", func := "dyehouse/dyelaw2.LabsMatch", spec := "labsMatch", inPlace := ["math.Float32bits", "math.Float64bits", "math.Float64frombits", "math.Float32frombits", "math.archFloor", "math.archTrunc", "math.sqrt"], unfollowed := true, recurses := true, apart := false }
def LabsMatchSaid : Prop := labsMatchRow.holds Try.pinned (OpenSpec.ofChange labsMatchSpec)

/-- ITS FALSE NEIGHBOUR: 'it returns false'. Refute it at one input. -/
def labsMatchWrong : ChangeSpec := { name := "labsMatch", fn := fun _ => fun
  | [d1, d2, d3, d4] => { results := [.lit (.bool false)], args := [d1, d2, d3, d4] }
  | _ => none }
def LabsMatchWrongFalsely : Prop := labsMatchRow.holds Try.pinned (OpenSpec.ofChange labsMatchWrong)

/- THE SECOND FORM. 'bulk': how many values and letters a reading holds, each counted each time it is reached (what is shared counts as often as it is met; a slice's spare places count too). A statement '..UptoSaid' is the law's where the arguments, and the package variables that the reading takes, are together of bulk at most 1048576: NARROWER than '..Said'. Prove '..Said' where nothing that the law and all that it calls make is longer than what came in: it says more and counts as full. Else prove '..UptoSaid'. A law counts once. -/
mutual
def uptoBulk {H : Type} : DataW H → Nat
  | .lit (.string bytes) => bytes.length + 1
  | .lit _ => 1
  | .nil => 1
  | .ptr d => uptoBulk d + 1
  | .slice elems spare => uptoBulkAll elems + uptoBulkAll spare + 1
  | .agg parts => uptoBulkAll parts + 1
  | .iface _ d => uptoBulk d + 1
  | .map entries => uptoBulkEntries entries + 1
  | .held _ => 1
def uptoBulkAll {H : Type} : List (DataW H) → Nat
  | [] => 0
  | d :: r => uptoBulk d + uptoBulkAll r
def uptoBulkEntries {H : Type} : List (Lit × DataW H) → Nat
  | [] => 0
  | x :: r => uptoBulkEntry x + uptoBulkEntries r
def uptoBulkEntry {H : Type} : Lit × DataW H → Nat
  | (.string bytes, d) => bytes.length + uptoBulk d + 1
  | (_, d) => uptoBulk d + 1
 end
def uptoSmall : (H : Type) → List (DataW H) → Bool := fun _ ds => decide (uptoBulkAll ds ≤ 1048576)
def OpenSpec.upto (s : _root_.Go.ChangeSpec) : _root_.Go.OpenSpec := { _root_.Go.OpenSpec.ofChange s with cond := some uptoSmall }

/-- 'dyetop.TopColours', WHERE WHAT IT READS IS OF BULK AT MOST 1048576: true; the input reads as it did. -/
def topColoursUptoRow : OpenClaim := { program := "ytcmakibomdinbaa", sum := "311be7859c988e9a964ca7a7ae92a0f2ecb9c275c2499cae5f2d18dcb9c43821", func := "dyehouse/dyetop.TopColours", spec := "topColours", inPlace := ["math.Float32frombits", "math.Float32bits", "math.Float64bits", "math.Float64frombits", "math.archFloor", "math.archTrunc"], unfollowed := true, recurses := true, apart := false, narrowed := true }
def TopColoursUptoSaid : Prop := topColoursUptoRow.holds Try.pinned (OpenSpec.upto topColoursSpec)

/-- 'dyelaw2.MatricesMatch', WHERE WHAT IT READS IS OF BULK AT MOST 1048576: true; the input reads as it did. -/
def matricesMatchUptoRow : OpenClaim := { program := "ytcmakibomdinbaa", sum := "311be7859c988e9a964ca7a7ae92a0f2ecb9c275c2499cae5f2d18dcb9c43821", func := "dyehouse/dyelaw2.MatricesMatch", spec := "matricesMatch", inPlace := ["math.Float64bits", "math.Float64frombits", "math.Float32frombits", "math.Float32bits"], unfollowed := true, recurses := true, apart := false, narrowed := true }
def MatricesMatchUptoSaid : Prop := matricesMatchUptoRow.holds Try.pinned (OpenSpec.upto matricesMatchSpec)

/-- 'dyelaw2.PrimariesMatch', WHERE WHAT IT READS IS OF BULK AT MOST 1048576: true; the input reads as it did. -/
def primariesMatchUptoRow : OpenClaim := { program := "ytcmakibomdinbaa", sum := "311be7859c988e9a964ca7a7ae92a0f2ecb9c275c2499cae5f2d18dcb9c43821", func := "dyehouse/dyelaw2.PrimariesMatch", spec := "primariesMatch", inPlace := ["math.Float32bits", "math.Float64bits", "math.Float64frombits", "math.Float32frombits"], unfollowed := true, recurses := true, apart := false, narrowed := true }
def PrimariesMatchUptoSaid : Prop := primariesMatchUptoRow.holds Try.pinned (OpenSpec.upto primariesMatchSpec)

/-- 'dyelaw2.TransfersMatch', WHERE WHAT IT READS IS OF BULK AT MOST 1048576: true; the input reads as it did. -/
def transfersMatchUptoRow : OpenClaim := { program := "ytcmakibomdinbaa", sum := "311be7859c988e9a964ca7a7ae92a0f2ecb9c275c2499cae5f2d18dcb9c43821", func := "dyehouse/dyelaw2.TransfersMatch", spec := "transfersMatch", inPlace := ["math.Float32bits", "math.Float32frombits", "math.Float64frombits", "math.Float64bits", "math.archFloor", "math.archTrunc"], unfollowed := true, recurses := true, apart := false, narrowed := true }
def TransfersMatchUptoSaid : Prop := transfersMatchUptoRow.holds Try.pinned (OpenSpec.upto transfersMatchSpec)

/-- 'dyelaw2.TransfersLeadBack', WHERE WHAT IT READS IS OF BULK AT MOST 1048576: true; the input reads as it did. -/
def transfersLeadBackUptoRow : OpenClaim := { program := "ytcmakibomdinbaa", sum := "311be7859c988e9a964ca7a7ae92a0f2ecb9c275c2499cae5f2d18dcb9c43821", func := "dyehouse/dyelaw2.TransfersLeadBack", spec := "transfersLeadBack", inPlace := ["math.Float32bits", "math.Float32frombits", "math.Float64frombits", "math.Float64bits", "math.archFloor", "math.archTrunc"], unfollowed := true, recurses := true, apart := false, narrowed := true }
def TransfersLeadBackUptoSaid : Prop := transfersLeadBackUptoRow.holds Try.pinned (OpenSpec.upto transfersLeadBackSpec)

/-- 'dyelaw2.SpacesMatch', WHERE WHAT IT READS IS OF BULK AT MOST 1048576: true; the input reads as it did. -/
def spacesMatchUptoRow : OpenClaim := { program := "ytcmakibomdinbaa", sum := "311be7859c988e9a964ca7a7ae92a0f2ecb9c275c2499cae5f2d18dcb9c43821", func := "dyehouse/dyelaw2.SpacesMatch", spec := "spacesMatch", inPlace := ["math.Float32bits", "math.Float64bits", "math.Float64frombits"], unfollowed := true, recurses := true, apart := false, narrowed := true }
def SpacesMatchUptoSaid : Prop := spacesMatchUptoRow.holds Try.pinned (OpenSpec.upto spacesMatchSpec)

/-- 'dyelaw2.ColourHuesMatch', WHERE WHAT IT READS IS OF BULK AT MOST 1048576: true; the input reads as it did. -/
def colourHuesMatchUptoRow : OpenClaim := { program := "ytcmakibomdinbaa", sum := "311be7859c988e9a964ca7a7ae92a0f2ecb9c275c2499cae5f2d18dcb9c43821", func := "dyehouse/dyelaw2.ColourHuesMatch", spec := "colourHuesMatch", inPlace := ["math.Float64frombits", "math.Float32frombits", "math.Float32bits", "math.archFloor", "math.Float64bits", "math.archTrunc"], unfollowed := true, recurses := true, apart := false, narrowed := true }
def ColourHuesMatchUptoSaid : Prop := colourHuesMatchUptoRow.holds Try.pinned (OpenSpec.upto colourHuesMatchSpec)

/-- 'dyelaw2.HuesLeadBack', WHERE WHAT IT READS IS OF BULK AT MOST 1048576: true; the input reads as it did. -/
def huesLeadBackUptoRow : OpenClaim := { program := "ytcmakibomdinbaa", sum := "311be7859c988e9a964ca7a7ae92a0f2ecb9c275c2499cae5f2d18dcb9c43821", func := "dyehouse/dyelaw2.HuesLeadBack", spec := "huesLeadBack", inPlace := ["math.Float64bits", "math.Float64frombits", "math.Float32frombits", "math.Float32bits", "math.archFloor", "math.archTrunc"], apart := false, narrowed := true }
def HuesLeadBackUptoSaid : Prop := huesLeadBackUptoRow.holds Try.pinned (OpenSpec.upto huesLeadBackSpec)

/-- 'dyelaw2.LabsMatch', WHERE WHAT IT READS IS OF BULK AT MOST 1048576: true; the input reads as it did. -/
def labsMatchUptoRow : OpenClaim := { program := "ytcmakibomdinbaa", sum := "311be7859c988e9a964ca7a7ae92a0f2ecb9c275c2499cae5f2d18dcb9c43821", func := "dyehouse/dyelaw2.LabsMatch", spec := "labsMatch", inPlace := ["math.Float32bits", "math.Float64bits", "math.Float64frombits", "math.Float32frombits", "math.archFloor", "math.archTrunc", "math.sqrt"], unfollowed := true, recurses := true, apart := false, narrowed := true }
def LabsMatchUptoSaid : Prop := labsMatchUptoRow.holds Try.pinned (OpenSpec.upto labsMatchSpec)

end Rows
end Go.Proofs.Ytcmakibomdinbaa
