/-
  DERIVED. GIVEN WITH THE SEED: THE CARDS: each row of YtejcmlpbmoikfaaDoorRows.lean that lists a variable, with what it lists TIED to the program's text (the seventh form; the later family's looks); each row that meets fmt, with fmt's text TOLD by the authors' own Lean function (tested against real Go, not proved from fmt's source: count such statements apart). THE CARD IS WHAT COUNTS. Prove the row's statement (the work); the ties are given (YtejcmlpbmoikfaaDoorTie.lean); close each card by the builder's one call (the guide's Derived/Test/ToyasCard.lean, 'card_holds'). Laid BY PROGRAM, IN A SANDBOX (cutbox-door.mjs). By AI agents, Wed Nov 11 2026. No macro, syntax, notation, axiom, sorry.
-/
import Derived.Test.YtejcmlpbmoikfaaDoorRows
import GoSem.ClaimSeven
namespace Go.Proofs.YtejcmlpbmoikfaaDoor
namespace Rows

/-- THE TIED CARD OF 'dyelaw1.FramesCheck'. -/
def framesCheckCard : Claim7 := { stood := { row := framesCheckRow, standIns := [], harness := (true, "e8f9d3794306713146916ee363415121039ee39de7471aa4a7a917f5639df2a7"), looks := false }, kinds := [], alts := [], laidByText := true, laidKinds := [.data, .data, .data], laidTests := true, laidLooks := .later }
def FramesCheckCardSaid : Prop := Claim7.holds Tryd.pinned (.plain (OpenSpec.ofChange framesCheckSpec)) framesCheckCard

/-- THE SECOND FORM's CARD OF 'dyelaw1.FramesCheck'. -/
def framesCheckUptoCard : Claim7 := { stood := { row := framesCheckUptoRow, standIns := [], harness := (true, "e8f9d3794306713146916ee363415121039ee39de7471aa4a7a917f5639df2a7"), looks := false }, kinds := [], alts := [], laidByText := true, laidKinds := [.data, .data, .data], laidTests := true, laidLooks := .later }
def FramesCheckUptoCardSaid : Prop := Claim7.holds Tryd.pinned (.plain (OpenSpec.upto framesCheckSpec)) framesCheckUptoCard
end Rows
end Go.Proofs.YtejcmlpbmoikfaaDoor
