/-
  Vignettes: their errors, in the program and in the reference; small functions of the laws.
-/
import Derived.Test.YtbpnbcnhlnnolaaQVg
import Derived.Test.YtbpnbcnhlnnolaaFErr
namespace Go.Proofs.Ytbpnbcnhlnnolaa
open Go.RowKit Go.Shelf
open Ieee (Datum Format signed)
attribute [local go_sem] run_store_float

/-- The error of a vignette. -/
def vgE (V : Nat → Nat) : Int := if allB (fun k => fin (V k)) 5 = true then (if (FloatKind.f32.format.order (V 3) (V 2) == some .gt) = true then (if wiB (V 4) 0 1065353216 = true then 0 else 3) else 8) else 2
theorem vgE_form {V : Nat → Nat} (h : allB (fun k => fin (V k)) 5 = false) : vgE V = 2 := by unfold vgE; rw [if_neg (by rw [h]; simp)]
theorem vgE_order {V : Nat → Nat} (h : allB (fun k => fin (V k)) 5 = true) (h2 : (FloatKind.f32.format.order (V 3) (V 2) == some .gt) = false) : vgE V = 8 := by unfold vgE; rw [if_pos h, if_neg (by rw [h2]; simp)]
theorem vgE_range {V : Nat → Nat} (h : allB (fun k => fin (V k)) 5 = true) (h2 : (FloatKind.f32.format.order (V 3) (V 2) == some .gt) = true) (h3 : wiB (V 4) 0 1065353216 = false) : vgE V = 3 := by unfold vgE; rw [if_pos h, if_pos h2, if_neg (by rw [h3]; simp)]
theorem vgE_ok {V : Nat → Nat} (h : allB (fun k => fin (V k)) 5 = true) (h2 : (FloatKind.f32.format.order (V 3) (V 2) == some .gt) = true) (h3 : wiB (V 4) 0 1065353216 = true) : vgE V = 0 := by unfold vgE; rw [if_pos h, if_pos h2, if_pos h3]
theorem vfin_of {V : Nat → Nat} (h : allB (fun k => fin (V k)) 5 = true) : vfin V := fun k hk => allB_at h k hk
/-- Numbers are not greater, or not at most. -/
theorem leq_of {a b : Nat} (ha : fin a = true) (hb : fin b = true) : (FloatKind.f32.format.order a b == some .lt || FloatKind.f32.format.order a b == some .eq) = !(FloatKind.f32.format.order a b == some .gt) := by
  obtain ⟨x, hx⟩ := fin_fv ha
  obtain ⟨y, hy⟩ := fin_fv hb
  rw [forder hx hy]
  split
  · rfl
  · split <;> rfl

theorem five_cell {wr : World} {g : Nat} {t : TypeId} {V : Nat → Nat} (h : Blk wr g t (vigA V)) (k : Nat) (hk : k < 5) : wr.cell? ⟨g, k, none⟩ = some (.float .f32 (V k)) := by
  rw [h.cell k]
  have : k = 0 ∨ k = 1 ∨ k = 2 ∨ k = 3 ∨ k = 4 := by omega
  rcases this with rfl | rfl | rfl | rfl | rfl <;> rfl

/-- What VignetteError's loop keeps. -/
structure VR (V : Nat → Nat) (w : World) (wr : World) : Prop where
  v : Blk wr w.heap.size 86 (vigA V)
  r : Blk wr (w.heap.size + 1) 40 (vigA V)
  be : Below w.heap.size w wr
theorem VR.drewN {V : Nat → Nat} {w wr : World} (h : VR V w wr) (n : Nat) : VR V w (wr.drewN n) := ⟨h.v, h.r, below_drewN h.be n⟩

set_option maxRecDepth 100000 in
set_option maxHeartbeats 4000000 in
theorem vigError_any (V : Nat → Nat) (w : World) : Calls Try.prog 61 #[vig V] w fun e w' => e = .returned (.int .i64 (vgE V)) ∧ Below w.heap.size w w' := by
  rw [vig_cells]
  go_enter Try.func61, Try.ntmps61
  go_wp2_with fail
  have hz : VR V w ((w.alloc (.cells (vigA V) 86)).alloc (.cells (vigA V) 40)) := ⟨(Blk.new_at _ _ _ rfl).alloc _, Blk.new_at _ _ _ (by simp), ((Below.refl _ _).alloc (Nat.le_refl _) _).alloc (by simp) _⟩
  have HZ := hid hz
  clear hz
  go_loopw [17] (fun i wr => ∃ k : Nat, k ≤ 5 ∧ i = .int .i64 k ∧ allB (fun j => fin (V j)) k = true ∧ VR V w wr) (fun i _ => 5 - (intOf i).toNat)
  case atStart => exact ⟨0, by omega, rfl, rfl, HZ.out⟩
  case round =>
    clear HZ
    obtain ⟨k, hk, rfl, hf, hrel⟩ := hrel
    have HF := hid hf
    have HR := hid hrel
    clear hf
    by_cases hlt : k < 5
    · have hc := five_cell hrel.r k hlt
      have k1 : (0 : Int) ≤ (k : Int) := by omega
      have k2 : (k : Int) < 5 := by omega
      clear hrel
      cases hg : fin (V k) with
      | true =>
        have HG := hid (allB_step (p := fun j => fin (V j)) HF.out hg)
        go_wp2_with (go_at_call 41; refine (isNum_any _ _).mono ?_; rintro e w' ⟨rfl, n1, rfl⟩)
        go_roundw
        case rel => exact ⟨k + 1, by omega, by go_num, HG.out, HR.out.drewN _⟩
        case measure => simp [intOf]; omega
      | false =>
        have HG := hid (vgE_form (allB_no (p := fun j => fin (V j)) hg 5 hlt))
        go_wp2_with (go_at_call 41; refine (isNum_any _ _).mono ?_; rintro e w' ⟨rfl, n1, rfl⟩)
        go_ret
        exact ⟨ret_int HG.out.symm, below_drewN HR.out.be _⟩
    · obtain rfl : k = 5 := by omega
      have v2 := hrel.v.cell 2
      have v3 := hrel.v.cell 3
      have v4 := hrel.v.cell 4
      simp at v2 v3 v4
      clear hrel
      cases h2 : (FloatKind.f32.format.order (V 3) (V 2) == some .gt) with
      | false =>
        have HG := hid (vgE_order HF.out h2)
        go_wp2_with fail
        go_ret
        exact ⟨ret_int HG.out.symm, HR.out.be⟩
      | true =>
        cases h4 : (FloatKind.f32.format.order (V 4) 0 == some .gt || FloatKind.f32.format.order (V 4) 0 == some .eq) <;> cases h5 : (FloatKind.f32.format.order (V 4) 1065353216 == some .lt || FloatKind.f32.format.order (V 4) 1065353216 == some .eq) <;>
        (have hw : wiB (V 4) 0 1065353216 = ((FloatKind.f32.format.order (V 4) 0 == some .gt || FloatKind.f32.format.order (V 4) 0 == some .eq) && (FloatKind.f32.format.order (V 4) 1065353216 == some .lt || FloatKind.f32.format.order (V 4) 1065353216 == some .eq)) := rfl
         rw [h4, h5] at hw
         first
           | (have HG := hid (vgE_ok HF.out h2 hw)
              go_wp2_with (go_at_call 40; refine (when_any _ _ _).mono ?_; rintro e w1 ⟨R1, rfl, hR1, hR2, rfl⟩)
              go_ret
              exact ⟨ret_int (by have hh := HG.out; first | exact hh.symm | (rw [hh]; exact hR2 rfl) | (rw [hh]; simp_all)), HR.out.be⟩)
           | (have HG := hid (vgE_range HF.out h2 hw)
              go_wp2_with (go_at_call 40; refine (when_any _ _ _).mono ?_; rintro e w1 ⟨R1, rfl, hR1, hR2, rfl⟩)
              go_ret
              exact ⟨ret_int (by have hh := HG.out; first | exact hh.symm | (rw [hh]; exact hR1 rfl) | (rw [hh]; simp_all)), HR.out.be⟩))

/-- A frame and an error. -/
def ErrOut (w : World) (E : Int) (e : Ending) (w' : World) : Prop := e = .returned (.tuple #[.agg zfrm, .int .i64 E]) ∧ Below w.heap.size w w'

theorem none_any (w : World) : Calls Try.prog 33 #[.agg zfrm] w fun e w' => e = .returned (.bool true) ∧ Below w.heap.size w w' := by
  go_enter Try.func33, Try.ntmps33
  go_wp2
  go_ret
  exact ⟨rfl, (Below.refl _ _).alloc (Nat.le_refl _) _⟩
theorem few_any (X Y p q : Int) (A : Option Addr) (n c : Nat) (w : World) : Calls Try.prog 34 #[frm X Y p q A n c] w fun e w' => e = .returned (.bool (decide (n ≤ 400))) ∧ Below w.heap.size w w' := by
  by_cases h : n ≤ 400
  · have h1 : (n : Int) ≤ 400 := by omega
    have HQ := hid (decide_eq_true h)
    clear h
    go_enter Try.func34, Try.ntmps34
    go_wp2
    go_ret
    exact ⟨ret_bool HQ.out.symm, (Below.refl _ _).alloc (Nat.le_refl _) _⟩
  · have h1 : ¬ (n : Int) ≤ 400 := by omega
    have HQ := hid (decide_eq_false h)
    clear h
    go_enter Try.func34, Try.ntmps34
    go_wp2
    go_ret
    exact ⟨ret_bool HQ.out.symm, (Below.refl _ _).alloc (Nat.le_refl _) _⟩
end Go.Proofs.Ytbpnbcnhlnnolaa
