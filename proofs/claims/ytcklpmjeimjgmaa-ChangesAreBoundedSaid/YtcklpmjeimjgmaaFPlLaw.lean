/-
  The law of planes.
-/
import Derived.Test.YtcklpmjeimjgmaaFMade
import Derived.Test.YtcklpmjeimjgmaaFFit
namespace Go.Proofs.Ytcklpmjeimjgmaa
open Go.RowKit Go.Shelf
attribute [local go_sem] run_store_float
attribute [local go_sem ↓] Go.wp_at_zero Go.wp_at_succ

/-- What fit made, sides as natural numbers. -/
theorem fit_nat {w w' : World} {e : Ending} (h : Fitted w e w') : ∃ (X Y : Int) (p q m gb : Nat) (g : Nat → Nat), e = .returned (frm X Y p q (some ⟨gb, 0, none⟩) (4 * m) (4 * m)) ∧ frmE X Y p q (4 * m) = 0 ∧ regE X Y p q = 0 ∧ m = p * q ∧ 0 < m ∧ m ≤ 64 ∧ 0 < p ∧ p ≤ 8 ∧ 0 < q ∧ q ≤ 8 ∧
    -1000 ≤ X ∧ X ≤ 1000 ∧ -1000 ≤ Y ∧ Y ≤ 1000 ∧ w.heap.size ≤ gb ∧ gb < w'.heap.size ∧ Rd w' gb 0 (4 * m) g ∧ Below w.heap.size w w' := by
  obtain ⟨X, Y, p, q, gb, N, g, rfl, x1, x2, y1, y2, p1, p2, q1, q2, hN, h1, h2, h3, h4⟩ := h
  obtain ⟨p', rfl⟩ := Int.eq_ofNat_of_zero_le (show 0 ≤ p by omega)
  obtain ⟨q', rfl⟩ := Int.eq_ofNat_of_zero_le (show 0 ≤ q by omega)
  have e1 : (N : Int) = ((4 * (p' * q') : Nat) : Int) := by rw [hN, Int.mul_assoc]; simp
  have e2 : N = 4 * (p' * q') := by omega
  subst e2
  have hpos : 0 < p' * q' := Nat.mul_pos (by omega) (by omega)
  have hle : p' * q' ≤ 8 * 8 := Nat.mul_le_mul (by omega) (by omega)
  have u : (p' : Int) * (q' : Int) ≤ 64 := by have := Int.mul_le_mul p2 q2 (by omega) (by omega); omega
  have hr : regE X Y p' q' = 0 := regE_ok (sideB_true.2 ⟨p1, by omega⟩) (sideB_true.2 ⟨q1, by omega⟩) (by omega) (atB_true.2 ⟨by omega, by omega⟩) (atB_true.2 ⟨by omega, by omega⟩)
  exact ⟨X, Y, p', q', p' * q', gb, g, rfl, frmE_ok hr hN, hr, rfl, hpos, hle, by omega, by omega, by omega, by omega, x1, x2, y1, y2, h1, h2, h3, h4⟩

theorem Src.far {w : World} {b off n : Nat} {F : Nat → Nat} (h : Src w (some ⟨b, off, none⟩) n F) {G : Nat} (hG : b ≠ G) (o : Nat) (u : Value) : Src (w.setCell ⟨G, o, none⟩ u) (some ⟨b, off, none⟩) n F := fun hn => by
  obtain ⟨b', off', e, hlt, hr⟩ := h hn
  simp at e
  obtain ⟨rfl, rfl⟩ := e
  refine ⟨b, off, rfl, by simpa [World.setCell] using hlt, fun i hi => ?_⟩
  rw [World.cell?_setCell_other w ⟨G, o, none⟩ ⟨b, off + i, none⟩ u (fun e => hG (by injection e with e1; exact e1.symm))]
  exact hr i hi
theorem Src.far5 {w : World} {b off n : Nat} {F : Nat → Nat} (h : Src w (some ⟨b, off, none⟩) n F) {G : Nat} (hG : b ≠ G) (u0 u1 u2 u3 u4 : Value) :
    Src (((((w.setCell ⟨G, 0, none⟩ u0).setCell ⟨G, 1, none⟩ u1).setCell ⟨G, 2, none⟩ u2).setCell ⟨G, 3, none⟩ u3).setCell ⟨G, 4, none⟩ u4) (some ⟨b, off, none⟩) n F :=
  ((((h.far hG 0 u0).far hG 1 u1).far hG 2 u2).far hG 3 u3).far hG 4 u4
theorem Src.lt {w : World} {b off n : Nat} {F : Nat → Nat} (h : Src w (some ⟨b, off, none⟩) n F) (hn : 0 < n) : b < w.heap.size := by
  obtain ⟨b', off', e, hlt, _⟩ := h hn
  simp at e
  obtain ⟨rfl, rfl⟩ := e
  exact hlt
theorem Blk.far5 {w : World} {g : Nat} {t : TypeId} {cs : Array Value} (h : Blk w g t cs) {G : Nat} (hG : g ≠ G) (u0 u1 u2 u3 u4 : Value) :
    Blk (((((w.setCell ⟨G, 0, none⟩ u0).setCell ⟨G, 1, none⟩ u1).setCell ⟨G, 2, none⟩ u2).setCell ⟨G, 3, none⟩ u3).setCell ⟨G, 4, none⟩ u4) g t cs :=
  ((((h.far (p := ⟨G, 0, none⟩) hG u0).far (p := ⟨G, 1, none⟩) hG u1).far (p := ⟨G, 2, none⟩) hG u2).far (p := ⟨G, 3, none⟩) hG u3).far (p := ⟨G, 4, none⟩) hG u4

section
variable {w w2 w3 : World} {X Y : Int} {p q gb N : Nat} {g : Nat → Nat} {x y a b : Int} {A : Nat → Option Addr} {n c : Nat → Nat}
end

end Go.Proofs.Ytcklpmjeimjgmaa
