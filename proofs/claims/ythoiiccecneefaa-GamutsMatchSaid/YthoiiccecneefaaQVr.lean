/-
  Vignettes: the reference's pixel.
-/
import Derived.Test.YthoiiccecneefaaQVw
import Derived.Test.YthoiiccecneefaaQNn
import Derived.Lib.ItoaWalk
import Derived.Deep.DeepCutAuto
import Derived.Deep.CutBlock
namespace Go.Proofs.Ythoiiccecneefaa
open Go.RowKit Go.Shelf
open Ieee (Datum Format signed)
attribute [local go_sem] run_store_float

/-- An operation under another name. -/
def adOp (op : BinOp) (t : TypeId) (x y : Operand) (t2 : TypeId) : Op := Op.binOp op t x y t2
@[go_sem] theorem adOp_eq (op : BinOp) (t : TypeId) (x y : Operand) (t2 : TypeId) : adOp op t x y t2 = Op.binOp op t x y t2 := rfl
theorem box_cell (wq : World) (a b : Nat) (v : Value) (t : TypeId) : (((wq.drewN a).alloc (.cells #[v] t)).drewN b).cell? ⟨wq.heap.size, 0, none⟩ = some v := (Blk.new_at (b := wq.heap.size) (wq.drewN a) t #[v] rfl).cell 0
theorem box_frozen (wq : World) (a b : Nat) (v : Value) (t : TypeId) : (((wq.drewN a).alloc (.cells #[v] t)).drewN b).frozen? ⟨wq.heap.size, 0, none⟩ = false := (Blk.new_at (b := wq.heap.size) (wq.drewN a) t #[v] rfl).frozen 0
theorem box_cell0 (wq : World) (a : Nat) (v : Value) (t : TypeId) : ((wq.drewN a).alloc (.cells #[v] t)).cell? ⟨wq.heap.size, 0, none⟩ = some v := (Blk.new_at (b := wq.heap.size) (wq.drewN a) t #[v] rfl).cell 0
theorem box_frozen0 (wq : World) (a : Nat) (v : Value) (t : TypeId) : ((wq.drewN a).alloc (.cells #[v] t)).frozen? ⟨wq.heap.size, 0, none⟩ = false := (Blk.new_at (b := wq.heap.size) (wq.drewN a) t #[v] rfl).frozen 0

theorem far_cell {wq : World} {g k : Nat} {v : Value} (h : wq.cell? ⟨g, k, none⟩ = some v) (hg : g < wq.heap.size) (a b : Nat) (o : Obj) : (((wq.drewN a).alloc o).drewN b).cell? ⟨g, k, none⟩ = some v := (World.cell?_alloc_lt (wq.drewN a) o ⟨g, k, none⟩ hg).trans h
theorem far_cell0 {wq : World} {g k : Nat} {v : Value} (h : wq.cell? ⟨g, k, none⟩ = some v) (hg : g < wq.heap.size) (a : Nat) (o : Obj) : ((wq.drewN a).alloc o).cell? ⟨g, k, none⟩ = some v := (World.cell?_alloc_lt (wq.drewN a) o ⟨g, k, none⟩ hg).trans h

section
variable {V P : Nat → Nat} {w wr w1 : World}
end

end Go.Proofs.Ythoiiccecneefaa
