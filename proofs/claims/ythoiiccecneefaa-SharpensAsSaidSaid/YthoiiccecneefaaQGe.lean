/-
  Grains: their errors, in the program and in the reference.
-/
import Derived.Test.YthoiiccecneefaaQGq
import Derived.Test.YthoiiccecneefaaQVe
namespace Go.Proofs.Ythoiiccecneefaa
open Go.RowKit Go.Shelf
attribute [local go_sem] run_store_float

abbrev grn (sd z : Int) (s f : Nat) (m : Bool) : Value := .agg #[.int .u32 sd, .int .i64 z, .float .f32 s, .float .f32 f, .bool m]
abbrev grnA (sd z : Int) (s f : Nat) (m : Bool) : Array Value := #[.int .u32 sd, .int .i64 z, .float .f32 s, .float .f32 f, .bool m]
/-- The error of a grain. -/
def grE (z : Int) (s f : Nat) : Int := if 1 ≤ z ∧ z ≤ 16 then (if (fin s && fin f) = true then (if (wiB s 0 1082130432 && wiB f 0 1082130432) = true then 0 else 3) else 2) else 3
theorem grE_size {z : Int} {s f : Nat} (h : ¬ (1 ≤ z ∧ z ≤ 16)) : grE z s f = 3 := by unfold grE; rw [if_neg h]
theorem grE_form {z : Int} {s f : Nat} (h : 1 ≤ z ∧ z ≤ 16) (h2 : (fin s && fin f) = false) : grE z s f = 2 := by unfold grE; rw [if_pos h, if_neg (by rw [h2]; simp)]
theorem grE_range {z : Int} {s f : Nat} (h : 1 ≤ z ∧ z ≤ 16) (h2 : (fin s && fin f) = true) (h3 : (wiB s 0 1082130432 && wiB f 0 1082130432) = false) : grE z s f = 3 := by unfold grE; rw [if_pos h, if_pos h2, if_neg (by rw [h3]; simp)]
theorem grE_ok {z : Int} {s f : Nat} (h : 1 ≤ z ∧ z ≤ 16) (h2 : (fin s && fin f) = true) (h3 : (wiB s 0 1082130432 && wiB f 0 1082130432) = true) : grE z s f = 0 := by unfold grE; rw [if_pos h, if_pos h2, if_pos h3]
theorem grE_zero {z : Int} {s f : Nat} (h : grE z s f = 0) : (1 ≤ z ∧ z ≤ 16) ∧ fin s = true ∧ fin f = true := by
  unfold grE at h
  by_cases h1 : 1 ≤ z ∧ z ≤ 16
  · rw [if_pos h1] at h
    by_cases h2 : (fin s && fin f) = true
    · rw [Bool.and_eq_true] at h2
      exact ⟨h1, h2⟩
    · rw [if_neg h2] at h; cases h
  · rw [if_neg h1] at h; cases h

theorem two_numbers (s f : Nat) : allB (fun i => fin ((fun k => if k = 0 then s else f) i)) 2 = (fin s && fin f) := by simp [allB]

set_option maxRecDepth 100000 in
set_option maxHeartbeats 2000000 in
theorem checkGrain_any (sd z : Int) (s f : Nat) (m : Bool) (w : World) : Calls Try.prog 21 #[grn sd z s f m] w fun e w' => e = .returned (.int .i64 (grE z s f)) ∧ Below w.heap.size w w' := by
  have HRD : RowKit.Hid (Rd ((w.alloc (.cells (grnA sd z s f m) 45)).alloc (.cells #[.float .f32 s, .float .f32 f] 40)) (w.heap.size + 1) 0 2 (fun k => if k = 0 then s else f)) := hid fun i hi => by
    have hb : Blk ((w.alloc (.cells (grnA sd z s f m) 45)).alloc (.cells #[.float .f32 s, .float .f32 f] 40)) (w.heap.size + 1) 40 #[.float .f32 s, .float .f32 f] := Blk.new_at _ _ _ (by simp)
    rw [Nat.zero_add, hb.cell i]
    have : i = 0 ∨ i = 1 := by omega
    rcases this with rfl | rfl <;> rfl
  have HAN : RowKit.Hid (Calls Try.prog 74 #[.slice (some ⟨w.heap.size + 1, 0, none⟩) 2 2] ((w.alloc (.cells (grnA sd z s f m) 45)).alloc (.cells #[.float .f32 s, .float .f32 f] 40)) fun e w' => e = .returned (.bool (fin s && fin f)) ∧ (w.alloc (.cells (grnA sd z s f m) 45)).alloc (.cells #[.float .f32 s, .float .f32 f] 40) = w') := hid (by
    have h := areNumbers_any (w.heap.size + 1) 0 2 2 _ _ (by omega) HRD.out
    rw [two_numbers] at h
    exact h)
  clear HRD
  by_cases h1 : 1 ≤ z ∧ z ≤ 16
  · obtain ⟨z1, z2⟩ := h1
    have c1 : ¬ z < 1 := by omega
    have c2 : ¬ 16 < z := by omega
    cases h2 : (fin s && fin f)
    · have HE := hid (grE_form (s := s) (f := f) ⟨z1, z2⟩ h2)
      rw [h2] at HAN
      go_enter Try.func21, Try.ntmps21
      go_wp2_with (go_at_call 74; refine HAN.out.mono ?_; rintro e w' ⟨rfl, rfl⟩)
      go_ret
      exact ⟨ret_int HE.out.symm, ((Below.refl _ _).alloc (Nat.le_refl _) _).alloc (by simp) _⟩
    · rw [h2] at HAN
      have HE := hid (And.intro (grE_range (s := s) (f := f) ⟨z1, z2⟩ h2) (grE_ok (s := s) (f := f) ⟨z1, z2⟩ h2))
      clear h2
      cases h3 : wiB s 0 1082130432 <;> cases h4 : wiB f 0 1082130432
      all_goals
        rw [h3, h4] at HE
        go_enter Try.func21, Try.ntmps21
        go_wp2_with (first
          | (go_at_call 74; refine HAN.out.mono ?_; rintro e w' ⟨rfl, rfl⟩)
          | (go_at_call 75; refine (isWithin_any _ _ _ _).mono ?_; rintro e w' ⟨rfl, rfl⟩))
        go_ret
        first
          | exact ⟨ret_int (HE.out.1 rfl).symm, ((Below.refl _ _).alloc (Nat.le_refl _) _).alloc (by simp) _⟩
          | exact ⟨ret_int (HE.out.2 rfl).symm, ((Below.refl _ _).alloc (Nat.le_refl _) _).alloc (by simp) _⟩
  · have HE := hid (grE_size (s := s) (f := f) h1)
    by_cases h2 : z < 1
    · clear h1
      go_enter Try.func21, Try.ntmps21
      go_wp2_with fail
      go_ret
      exact ⟨ret_int HE.out.symm, (Below.refl _ _).alloc (Nat.le_refl _) _⟩
    · have h3 : 16 < z := by omega
      clear h1
      go_enter Try.func21, Try.ntmps21
      go_wp2_with fail
      go_ret
      exact ⟨ret_int HE.out.symm, (Below.refl _ _).alloc (Nat.le_refl _) _⟩

set_option maxRecDepth 100000 in
set_option maxHeartbeats 4000000 in
theorem grainError_any (sd z : Int) (s f : Nat) (m : Bool) (w : World) : Calls Try.prog 19 #[grn sd z s f m] w fun e w' => e = .returned (.int .i64 (grE z s f)) ∧ Below w.heap.size w w' := by
  have hbx : Below w.heap.size w (w.alloc (.cells (grnA sd z s f m) 45)) := (Below.refl _ _).alloc (Nat.le_refl _) _
  have HBX := hid hbx
  clear hbx
  by_cases h1 : 1 ≤ z ∧ z ≤ 16
  · have hI : inB z 1 16 = true := by simp [inB]; omega
    cases h2 : (fin s && fin f)
    · have HE := hid (grE_form (s := s) (f := f) h1 h2)
      clear h1
      cases h3 : fin s <;> cases h4 : fin f
      all_goals
        first
          | (rw [h3, h4] at h2; exact absurd h2 (by decide))
          | (clear h2
             go_enter Try.func19, Try.ntmps19
             go_wp2_with (first
               | (go_at_call 46; refine (in_any _ _ _ _).mono ?_; rintro e w' ⟨rfl, rfl⟩)
               | (go_at_call 35; refine (isNum_any _ _).mono ?_; rintro e w' ⟨rfl, n1, rfl⟩))
             go_ret
             first
               | exact ⟨ret_int HE.out.symm, below_drewN HBX.out _⟩
               | exact ⟨ret_int HE.out.symm, below_drewN (below_drewN HBX.out _) _⟩)
    · have HE := hid (And.intro (grE_range (s := s) (f := f) h1 h2) (grE_ok (s := s) (f := f) h1 h2))
      rw [Bool.and_eq_true] at h2
      obtain ⟨f1, f2⟩ := h2
      clear h1
      have HW1 : RowKit.Hid (wiB s 0 1082130432 = ((FloatKind.f32.format.order s 0 == some .gt || FloatKind.f32.format.order s 0 == some .eq) && (FloatKind.f32.format.order s 1082130432 == some .lt || FloatKind.f32.format.order s 1082130432 == some .eq))) := hid rfl
      have HW2 : RowKit.Hid (wiB f 0 1082130432 = ((FloatKind.f32.format.order f 0 == some .gt || FloatKind.f32.format.order f 0 == some .eq) && (FloatKind.f32.format.order f 1082130432 == some .lt || FloatKind.f32.format.order f 1082130432 == some .eq))) := hid rfl
      cases g1 : (FloatKind.f32.format.order s 0 == some .gt || FloatKind.f32.format.order s 0 == some .eq) <;> cases g2 : (FloatKind.f32.format.order s 1082130432 == some .lt || FloatKind.f32.format.order s 1082130432 == some .eq) <;>
        cases g3 : (FloatKind.f32.format.order f 0 == some .gt || FloatKind.f32.format.order f 0 == some .eq) <;> cases g4 : (FloatKind.f32.format.order f 1082130432 == some .lt || FloatKind.f32.format.order f 1082130432 == some .eq)
      all_goals
        rw [g1, g2] at HW1
        rw [g3, g4] at HW2
        go_enter Try.func19, Try.ntmps19
        go_wp2_with (first
          | (go_at_call 46; refine (in_any _ _ _ _).mono ?_; rintro e w' ⟨rfl, rfl⟩)
          | (go_at_call 34; refine (when_any _ _ _).mono ?_; rintro e w' ⟨R1, rfl, hR1, hR2, rfl⟩)
          | (go_at_call 35; refine (isNum_any _ _).mono ?_; rintro e w' ⟨rfl, n1, rfl⟩))
        go_ret
        have hg : R1 = grE z s f := by
          cases hv : (wiB s 0 1082130432 && wiB f 0 1082130432)
          · rw [HE.out.1 hv]
            rw [HW1.out, HW2.out] at hv
            first
              | exact hR1 trivial
              | cases hv
          · rw [HE.out.2 hv]
            rw [HW1.out, HW2.out] at hv
            first
              | exact hR2 trivial
              | cases hv
        first
          | exact ⟨ret_int ((hR1 trivial).symm.trans hg), by first | exact below_drewN HBX.out _ | exact below_drewN (below_drewN HBX.out _) _⟩
          | exact ⟨ret_int ((hR2 trivial).symm.trans hg), by first | exact below_drewN HBX.out _ | exact below_drewN (below_drewN HBX.out _) _⟩
  · have HE := hid (grE_size (s := s) (f := f) h1)
    have hI : inB z 1 16 = false := by simp [inB]; omega
    clear h1
    go_enter Try.func19, Try.ntmps19
    go_wp2_with (go_at_call 46; refine (in_any _ _ _ _).mono ?_; rintro e w' ⟨rfl, rfl⟩)
    go_ret
    exact ⟨ret_int HE.out.symm, HBX.out⟩
end Go.Proofs.Ythoiiccecneefaa
