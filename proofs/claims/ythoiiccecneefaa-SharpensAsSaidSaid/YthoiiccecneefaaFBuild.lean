/-
  build: the frame of what a function value says of each channel of each pixel.
-/
import Derived.Test.YthoiiccecneefaaFPlane
import Derived.Shelf.Abstract
import Derived.Deep.AppendLies
namespace Go.Proofs.Ythoiiccecneefaa
open Go.RowKit Go.Shelf

/-- The index of a channel of a pixel, taken apart. -/
def gI (G : Nat → Nat → Nat → Nat) (p t : Nat) : Nat := G (t / 4 % p) (t / 4 / p) (t % 4)
theorem gI_at (G : Nat → Nat → Nat → Nat) {p i j k : Nat} (hi : i < p) (hk : k < 4) : gI G p (4 * (p * j + i) + k) = G i j k := by
  have e1 : (4 * (p * j + i) + k) / 4 = p * j + i := by omega
  have e2 : (4 * (p * j + i) + k) % 4 = k := by omega
  unfold gI
  rw [e1, e2, Nat.mul_add_mod, Nat.mod_eq_of_lt hi, Nat.mul_add_div (by omega), Nat.div_eq_of_lt hi, Nat.add_zero]
theorem idx_lt {p q i j : Nat} (hi : i < p) (hj : j < q) : p * j + i < p * q := by
  have h : p * (j + 1) ≤ p * q := Nat.mul_le_mul_left p hj
  rw [Nat.mul_succ] at h
  omega

/-- A call gave a single whose Clean is r, and turned nothing that was there. -/
def Gave (w1 : World) (r : Nat) (e : Ending) (w2 : World) : Prop := ∃ v, e = .returned (.float .f32 v) ∧ cl v = r ∧ Below w1.heap.size w1 w2
/-- What a function value says of the channels of the pixels of p * q places. -/
def Gives (K : FuncId) (caps : Array Value) (w : World) (X Y : Int) (p q : Nat) (G : Nat → Nat → Nat → Nat) : Prop :=
  ∀ (i j k : Nat) (w1 : World), i < p → j < q → k < 4 → Below w.heap.size w w1 → Calls Try.prog K (#[.int .i64 (X + i), .int .i64 (Y + j), .int .i64 k] ++ caps) w1 (Gave w1 (G i j k))

/-- A new frame that reads as F. -/
def Framed (w : World) (X Y : Int) (p q m : Nat) (F : Nat → Nat) (e : Ending) (w' : World) : Prop :=
  ∃ b c, e = .returned (frm X Y p q (some ⟨b, 0, none⟩) m c) ∧ m ≤ c ∧ c ≤ maxLen ∧ w.heap.size ≤ b ∧ b < w'.heap.size ∧ Rd w' b 0 m F ∧ Below w.heap.size w w'

abbrev zfrm : Array Value := #[.int .i64 0, .int .i64 0, .int .i64 0, .int .i64 0, .slice none 0 0]

def BRel (w : World) (X Y : Int) (p q : Nat) (F : Nat → Nat) (t : Nat) (v : Value) (wr : World) : Prop :=
  wr.ownsRow (w.heap.size + 2) 40 1 v t (rowL F t) ∧ Blk wr w.heap.size 23 #[.int .i64 X, .int .i64 Y, .int .i64 p, .int .i64 q] ∧ Blk wr (w.heap.size + 1) 26 zfrm ∧ Below w.heap.size w wr

section
variable {w : World} {X Y : Int} {p q : Nat} {F : Nat → Nat} {t : Nat} {v v' : Value} {wr w1 w2 : World}
theorem BRel.size (h : BRel w X Y p q F t v wr) : w.heap.size + 2 ≤ wr.heap.size := h.2.2.1.lt
theorem own_below {base : Nat} {e : TypeId} {size n : Nat} {xs : List Value} (h : wr.ownsRow base e size v n xs) (hb : Below wr.heap.size wr w1) : w1.ownsRow base e size v n xs := by
  refine h.kept (row := none) ⟨hb.os, hb.tape, hb.output, hb.size, fun i hi _ => hb.block i hi⟩ ?_
  cases hv : v.ownBlock with
  | none => exact .inl rfl
  | some g => exact .inr (by simp)
theorem BRel.below (h : BRel w X Y p q F t v wr) (hb : Below wr.heap.size wr w1) : BRel w X Y p q F t v w1 :=
  ⟨own_below h.1 hb, h.2.1.below hb h.2.1.lt, h.2.2.1.below hb h.2.2.1.lt, h.2.2.2.trans (hb.mono h.2.2.2.size)⟩
theorem BRel.step {o : Obj} {r : Nat} (h : BRel w X Y p q F t v wr) (hr : r = F t)
    (ho : w1.ownsRow (w.heap.size + 2) 40 1 v' (t + 1) (rowL F t ++ [.float .f32 r])) (hg : (wr.alloc o).grownBy w1 v.ownBlock) : BRel w X Y p q F (t + 1) v' w1 :=
  ⟨by rw [rowL_succ, ← hr]; exact ho, blk_grown h.2.1 (by omega) h.1 hg, blk_grown h.2.2.1 (by omega) h.1 hg, below_grown h.2.2.2 (by have := h.size; omega) (by omega) h.1 hg⟩
end

end Go.Proofs.Ythoiiccecneefaa
