/-
  Paste, in the program.
-/
import Derived.Test.YtejcmlpbmoikfaaDoorFCut
namespace Go.Proofs.YtejcmlpbmoikfaaDoor
open Go.RowKit Go.Shelf

/-- The boxes of Paste. -/
structure PaSt (w : World) (X Y p q : Int) (n c : Nat) (A : Option Addr) (X' Y' p' q' : Int) (n' c' : Nat) (B : Option Addr) (wr : World) : Prop where
  f : Blk wr w.heap.size 26 #[.int .i64 X, .int .i64 Y, .int .i64 p, .int .i64 q, .slice A n c]
  g : Blk wr (w.heap.size + 1) 26 #[.int .i64 X', .int .i64 Y', .int .i64 p', .int .i64 q', .slice B n' c']
  z : Blk wr (w.heap.size + 2) 26 zfrm
  be : Below w.heap.size w wr
section
variable {w wr w1 : World} {X Y p q X' Y' p' q' : Int} {n c n' c' : Nat} {A B : Option Addr}
theorem PaSt.below (h : PaSt w X Y p q n c A X' Y' p' q' n' c' B wr) (hb : Below wr.heap.size wr w1) : PaSt w X Y p q n c A X' Y' p' q' n' c' B w1 := ⟨h.f.below hb h.f.lt, h.g.below hb h.g.lt, h.z.below hb h.z.lt, below_to h.be hb⟩
theorem PaSt.grown {S : Nat} (hS : w.heap.size + 2 < S) (h : PaSt w X Y p q n c A X' Y' p' q' n' c' B wr) (hg : wr.grownBy w1 (some S)) : PaSt w X Y p q n c A X' Y' p' q' n' c' B w1 :=
  ⟨h.f.grown hg (by simp; omega), h.g.grown hg (by simp; omega), h.z.grown hg (by simp; omega), h.be.grown hg (by have := h.be.size; omega) (by intro k hk; injection hk with hk; omega)⟩
theorem PaSt.start (w : World) (X Y p q : Int) (n c : Nat) (A : Option Addr) (X' Y' p' q' : Int) (n' c' : Nat) (B : Option Addr) : PaSt w X Y p q n c A X' Y' p' q' n' c' B (((w.alloc (.cells #[.int .i64 X, .int .i64 Y, .int .i64 p, .int .i64 q, .slice A n c] 26)).alloc (.cells #[.int .i64 X', .int .i64 Y', .int .i64 p', .int .i64 q', .slice B n' c'] 26)).alloc (.cells zfrm 26)) :=
  ⟨((Blk.new_at _ _ _ rfl).alloc _).alloc _, (Blk.new_at _ _ _ (by simp)).alloc _, Blk.new_at _ _ _ (by simp), (((Below.refl _ _).alloc (Nat.le_refl _) _).alloc (by simp) _).alloc (by simp; omega) _⟩
end

end Go.Proofs.YtejcmlpbmoikfaaDoor
