/-
  Cut, in the program.
-/
import Derived.Test.YtejcmlpbmoikfaaDoorFSpan
import Derived.Test.YtejcmlpbmoikfaaDoorFCom
import Derived.Test.YtejcmlpbmoikfaaDoorFMix
namespace Go.Proofs.YtejcmlpbmoikfaaDoor
open Go.RowKit Go.Shelf

/-- The boxes of Cut. -/
structure CSt (w : World) (X Y p q : Int) (n c : Nat) (A : Option Addr) (U V a b : Int) (wr : World) : Prop where
  f : Blk wr w.heap.size 26 #[.int .i64 X, .int .i64 Y, .int .i64 p, .int .i64 q, .slice A n c]
  r : Blk wr (w.heap.size + 1) 23 #[.int .i64 U, .int .i64 V, .int .i64 a, .int .i64 b]
  z : Blk wr (w.heap.size + 2) 26 zfrm
  be : Below w.heap.size w wr
section
variable {w wr w1 : World} {X Y p q U V a b : Int} {n c : Nat} {A : Option Addr}
theorem CSt.below (h : CSt w X Y p q n c A U V a b wr) (hb : Below wr.heap.size wr w1) : CSt w X Y p q n c A U V a b w1 := ⟨h.f.below hb h.f.lt, h.r.below hb h.r.lt, h.z.below hb h.z.lt, below_to h.be hb⟩
theorem CSt.grown {S : Nat} (hS : w.heap.size + 2 < S) (h : CSt w X Y p q n c A U V a b wr) (hg : wr.grownBy w1 (some S)) : CSt w X Y p q n c A U V a b w1 :=
  ⟨h.f.grown hg (by simp; omega), h.r.grown hg (by simp; omega), h.z.grown hg (by simp; omega), h.be.grown hg (by have := h.be.size; omega) (by intro k hk; injection hk with hk; omega)⟩
theorem CSt.start (w : World) (X Y p q U V a b : Int) (n c : Nat) (A : Option Addr) : CSt w X Y p q n c A U V a b (((w.alloc (.cells #[.int .i64 X, .int .i64 Y, .int .i64 p, .int .i64 q, .slice A n c] 26)).alloc (.cells #[.int .i64 U, .int .i64 V, .int .i64 a, .int .i64 b] 23)).alloc (.cells zfrm 26)) :=
  ⟨((Blk.new_at _ _ _ rfl).alloc _).alloc _, (Blk.new_at _ _ _ (by simp)).alloc _, Blk.new_at _ _ _ (by simp), (((Below.refl _ _).alloc (Nat.le_refl _) _).alloc (by simp) _).alloc (by simp; omega) _⟩
end

theorem trF_cut (f G : Nat → Nat) (a p ei ej : Nat) (ha : 0 < a) : ∀ (r t : Nat), t < 4 * (a * r) → trF f G a p 0 0 ei ej a r t = cl (G (4 * (p * (ej + t / 4 / a) + (ei + t / 4 % a)) + t % 4)) := by
  intro r
  induction r with
  | zero => intro t h; omega
  | succ r ih =>
    intro t h
    have e1 : a * (0 + r) + 0 = a * r := by rw [Nat.zero_add, Nat.add_zero]
    rw [Nat.mul_succ] at h
    show rowUp (trF f G a p 0 0 ei ej a r) (4 * (a * (0 + r) + 0)) (4 * a) (fun s => cl (G (4 * (p * (ej + r) + ei) + s))) t = _
    rw [e1]
    unfold rowUp
    by_cases hb : 4 * (a * r) ≤ t
    · rw [if_pos ⟨hb, by omega⟩]
      obtain ⟨s, hs⟩ : ∃ s, t = 4 * (a * r) + s := ⟨t - 4 * (a * r), by omega⟩
      have s2 : s < 4 * a := by omega
      have q1 : t / 4 = a * r + s / 4 := by omega
      have q2 : s / 4 < a := by omega
      have q3 : (a * r + s / 4) / a = r := by rw [Nat.mul_add_div ha, Nat.div_eq_of_lt q2, Nat.add_zero]
      have q4 : (a * r + s / 4) % a = s / 4 := by rw [Nat.mul_add_mod, Nat.mod_eq_of_lt q2]
      rw [q1, q3, q4]
      show cl (G (4 * (p * (ej + r) + ei) + (t - 4 * (a * r)))) = _
      congr 2
      omega
    · rw [if_neg (by omega)]
      exact ih t (by omega)

end Go.Proofs.YtejcmlpbmoikfaaDoor
