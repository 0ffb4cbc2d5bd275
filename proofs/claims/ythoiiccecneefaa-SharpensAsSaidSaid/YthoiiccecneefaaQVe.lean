/-
  Vignettes: their errors, in the program and in the reference; small functions of the laws.
-/
import Derived.Test.YthoiiccecneefaaQVg
import Derived.Test.YthoiiccecneefaaFErr
namespace Go.Proofs.Ythoiiccecneefaa
open Go.RowKit Go.Shelf
open Ieee (Datum Format signed)
attribute [local go_sem] run_store_float

/-- The error of a vignette. -/
def vgE (V : Nat → Nat) : Int := if allB (fun k => fin (V k)) 5 = true then (if (FloatKind.f32.format.order (V 3) (V 2) == some .gt) = true then (if wiB (V 4) 0 1065353216 = true then 0 else 3) else 8) else 2
theorem vgE_form {V : Nat → Nat} (h : allB (fun k => fin (V k)) 5 = false) : vgE V = 2 := by unfold vgE; rw [if_neg (by rw [h]; simp)]
theorem vgE_order {V : Nat → Nat} (h : allB (fun k => fin (V k)) 5 = true) (h2 : (FloatKind.f32.format.order (V 3) (V 2) == some .gt) = false) : vgE V = 8 := by unfold vgE; rw [if_pos h, if_neg (by rw [h2]; simp)]
theorem vgE_range {V : Nat → Nat} (h : allB (fun k => fin (V k)) 5 = true) (h2 : (FloatKind.f32.format.order (V 3) (V 2) == some .gt) = true) (h3 : wiB (V 4) 0 1065353216 = false) : vgE V = 3 := by unfold vgE; rw [if_pos h, if_pos h2, if_neg (by rw [h3]; simp)]
theorem vgE_ok {V : Nat → Nat} (h : allB (fun k => fin (V k)) 5 = true) (h2 : (FloatKind.f32.format.order (V 3) (V 2) == some .gt) = true) (h3 : wiB (V 4) 0 1065353216 = true) : vgE V = 0 := by unfold vgE; rw [if_pos h, if_pos h2, if_pos h3]
theorem vfin_of {V : Nat → Nat} (h : allB (fun k => fin (V k)) 5 = true) : vfin V := fun k hk => allB_at h k hk
/-- Numbers are not greater, or not at most. -/
theorem leq_of {a b : Nat} (ha : fin a = true) (hb : fin b = true) : (FloatKind.f32.format.order a b == some .lt || FloatKind.f32.format.order a b == some .eq) = !(FloatKind.f32.format.order a b == some .gt) := by
  obtain ⟨x, hx⟩ := fin_fv ha
  obtain ⟨y, hy⟩ := fin_fv hb
  rw [forder hx hy]
  split
  · rfl
  · split <;> rfl

theorem five_cell {wr : World} {g : Nat} {t : TypeId} {V : Nat → Nat} (h : Blk wr g t (vigA V)) (k : Nat) (hk : k < 5) : wr.cell? ⟨g, k, none⟩ = some (.float .f32 (V k)) := by
  rw [h.cell k]
  have : k = 0 ∨ k = 1 ∨ k = 2 ∨ k = 3 ∨ k = 4 := by omega
  rcases this with rfl | rfl | rfl | rfl | rfl <;> rfl

/-- A frame and an error. -/
def ErrOut (w : World) (E : Int) (e : Ending) (w' : World) : Prop := e = .returned (.tuple #[.agg zfrm, .int .i64 E]) ∧ Below w.heap.size w w'

theorem none_any (w : World) : Calls Try.prog 27 #[.agg zfrm] w fun e w' => e = .returned (.bool true) ∧ Below w.heap.size w w' := by
  go_enter Try.func27, Try.ntmps27
  go_wp2
  go_ret
  exact ⟨rfl, (Below.refl _ _).alloc (Nat.le_refl _) _⟩
theorem few_any (X Y p q : Int) (A : Option Addr) (n c : Nat) (w : World) : Calls Try.prog 28 #[frm X Y p q A n c] w fun e w' => e = .returned (.bool (decide (n ≤ 400))) ∧ Below w.heap.size w w' := by
  by_cases h : n ≤ 400
  · have h1 : (n : Int) ≤ 400 := by omega
    have HQ := hid (decide_eq_true h)
    clear h
    go_enter Try.func28, Try.ntmps28
    go_wp2
    go_ret
    exact ⟨ret_bool HQ.out.symm, (Below.refl _ _).alloc (Nat.le_refl _) _⟩
  · have h1 : ¬ (n : Int) ≤ 400 := by omega
    have HQ := hid (decide_eq_false h)
    clear h
    go_enter Try.func28, Try.ntmps28
    go_wp2
    go_ret
    exact ⟨ret_bool HQ.out.symm, (Below.refl _ _).alloc (Nat.le_refl _) _⟩
end Go.Proofs.Ythoiiccecneefaa
