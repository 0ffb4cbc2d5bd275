/-
  fit makes a right frame of whatever frame.
-/
import Derived.Test.YtejcmlpbmoikfaaDoorFMem
namespace Go.Proofs.YtejcmlpbmoikfaaDoor
open Go.RowKit
attribute [local go_sem] run_store_float

/-- The relation of fit's loop. -/
def FitRel (w : World) (N : Nat) (X Y p q : Int) (A : Option Addr) (n c : Nat) (wr : World) : Prop :=
  ∃ g : Nat → Nat, wr.rowIs (w.heap.size + 1 + 1) 30 N (fun j => .float .f32 (g j)) ∧
    Blk wr w.heap.size 26 #[.int .i64 X, .int .i64 Y, .int .i64 p, .int .i64 q, .slice A n c] ∧
    Blk wr (w.heap.size + 1) 26 #[.int .i64 0, .int .i64 0, .int .i64 0, .int .i64 0, .slice none 0 0] ∧ Below w.heap.size w wr

def Fitted (w : World) (e : Ending) (w' : World) : Prop := ∃ (X Y p q : Int) (b N : Nat) (g : Nat → Nat), e = .returned (frm X Y p q (some ⟨b, 0, none⟩) N N) ∧
  -1000 ≤ X ∧ X ≤ 1000 ∧ -1000 ≤ Y ∧ Y ≤ 1000 ∧ 1 ≤ p ∧ p ≤ 8 ∧ 1 ≤ q ∧ q ≤ 8 ∧ (N : Int) = 4 * p * q ∧ w.heap.size ≤ b ∧ b < w'.heap.size ∧ Rd w' b 0 N g ∧ Below w.heap.size w w'

end Go.Proofs.YtejcmlpbmoikfaaDoor
