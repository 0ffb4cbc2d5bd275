/-
  Regions: what CheckRegion and the reference's RegionError answer.
-/
import Derived.Test.YthoiiccecneefaaFLeaf
namespace Go.Proofs.Ythoiiccecneefaa
open Go.RowKit

theorem ret_int {k : IntKind} {a b : Int} (h : a = b) : Ending.returned (.int k a) = .returned (.int k b) := by rw [h]
theorem ret_bool {a b : Bool} (h : a = b) : Ending.returned (.bool a) = .returned (.bool b) := by rw [h]

/-- May n pixels be a side? -/
def sideB (n : Int) : Bool := decide (1 ≤ n ∧ n ≤ 256)
theorem sideB_true {n : Int} : sideB n = true ↔ 1 ≤ n ∧ n ≤ 256 := by simp [sideB]
theorem sideB_false {n : Int} : sideB n = false ↔ n < 1 ∨ 256 < n := by simp [sideB]; omega
/-- May a side of n pixels begin at a? -/
def atB (a n : Int) : Bool := decide (-1048576 ≤ a ∧ a ≤ 1048576 - n)
theorem atB_true {a n : Int} : atB a n = true ↔ -1048576 ≤ a ∧ a ≤ 1048576 - n := by simp [atB]
theorem atB_false {a n : Int} : atB a n = false ↔ a < -1048576 ∨ 1048576 - n < a := by simp [atB]; omega

/-- The error of a region. -/
def regE (x y w h : Int) : Int :=
  if sideB w = false ∨ sideB h = false then 3 else if 16384 < w * h then 4 else if atB x w = false ∨ atB y h = false then 5 else 0

theorem isSide_any (n : Int) (w : World) : Calls Try.prog 109 #[.int .i64 n] w fun e w' => e = .returned (.bool (sideB n)) ∧ w = w' := by
  by_cases h1 : 1 ≤ n
  · by_cases h2 : n ≤ 256
    · go_enter Try.func109, Try.ntmps109
      go_wp2
      go_ret
      exact ⟨ret_bool (sideB_true.2 ⟨h1, h2⟩).symm, rfl⟩
    · go_enter Try.func109, Try.ntmps109
      go_wp2
      go_ret
      exact ⟨ret_bool (sideB_false.2 (by omega)).symm, rfl⟩
  · go_enter Try.func109, Try.ntmps109
    go_wp2
    go_ret
    exact ⟨ret_bool (sideB_false.2 (by omega)).symm, rfl⟩

theorem in_side (n : Int) (w : World) : Calls Try.prog 46 #[.int .i64 n, .int .i64 1, .int .i64 256] w fun e w' => e = .returned (.bool (sideB n)) ∧ w = w' := by
  by_cases h1 : 1 ≤ n
  · by_cases h2 : n ≤ 256
    · go_enter Try.func46, Try.ntmps46
      go_wp2
      go_ret
      exact ⟨ret_bool (sideB_true.2 ⟨h1, h2⟩).symm, rfl⟩
    · go_enter Try.func46, Try.ntmps46
      go_wp2
      go_ret
      exact ⟨ret_bool (sideB_false.2 (by omega)).symm, rfl⟩
  · go_enter Try.func46, Try.ntmps46
    go_wp2
    go_ret
    exact ⟨ret_bool (sideB_false.2 (by omega)).symm, rfl⟩

theorem isPlaced_any (a n : Int) (h1 : 1 ≤ n) (h2 : n ≤ 256) (w : World) : Calls Try.prog 110 #[.int .i64 a, .int .i64 n] w fun e w' => e = .returned (.bool (atB a n)) ∧ w = w' := by
  by_cases h3 : -1048576 ≤ a
  · by_cases h4 : a ≤ 1048576 - n
    · go_enter Try.func110, Try.ntmps110
      go_wp2
      go_ret
      exact ⟨ret_bool (atB_true.2 ⟨h3, h4⟩).symm, rfl⟩
    · go_enter Try.func110, Try.ntmps110
      go_wp2
      go_ret
      exact ⟨ret_bool (atB_false.2 (by omega)).symm, rfl⟩
  · go_enter Try.func110, Try.ntmps110
    go_wp2
    go_ret
    exact ⟨ret_bool (atB_false.2 (by omega)).symm, rfl⟩

theorem prod_le {a b : Int} (h1 : 1 ≤ a) (h2 : a ≤ 256) (h3 : 1 ≤ b) (h4 : b ≤ 256) : 1 ≤ a * b ∧ a * b ≤ 65536 := by
  have l := Int.mul_le_mul h1 h3 (by omega) (by omega)
  have u := Int.mul_le_mul h2 h4 (by omega) (by omega)
  omega

abbrev reg (x y w h : Int) : Value := .agg #[.int .i64 x, .int .i64 y, .int .i64 w, .int .i64 h]

section
variable {x y a b : Int}
theorem regE_w (h : sideB a = false) : regE x y a b = 3 := by unfold regE; rw [if_pos (.inl h)]
theorem regE_h (h : sideB b = false) : regE x y a b = 3 := by unfold regE; rw [if_pos (.inr h)]
theorem regE_large (h1 : sideB a = true) (h2 : sideB b = true) (h : 16384 < a * b) : regE x y a b = 4 := by unfold regE; rw [if_neg (by simp [h1, h2]), if_pos h]
theorem regE_x (h1 : sideB a = true) (h2 : sideB b = true) (h : ¬ 16384 < a * b) (h3 : atB x a = false) : regE x y a b = 5 := by unfold regE; rw [if_neg (by simp [h1, h2]), if_neg h, if_pos (.inl h3)]
theorem regE_y (h1 : sideB a = true) (h2 : sideB b = true) (h : ¬ 16384 < a * b) (h3 : atB y b = false) : regE x y a b = 5 := by unfold regE; rw [if_neg (by simp [h1, h2]), if_neg h, if_pos (.inr h3)]
theorem regE_ok (h1 : sideB a = true) (h2 : sideB b = true) (h : ¬ 16384 < a * b) (h3 : atB x a = true) (h4 : atB y b = true) : regE x y a b = 0 := by unfold regE; rw [if_neg (by simp [h1, h2]), if_neg h, if_neg (by simp [h3, h4])]
theorem regE_zero (h : regE x y a b = 0) : 1 ≤ a ∧ a ≤ 256 ∧ 1 ≤ b ∧ b ≤ 256 ∧ a * b ≤ 16384 ∧ -1048576 ≤ x ∧ x ≤ 1048576 - a ∧ -1048576 ≤ y ∧ y ≤ 1048576 - b := by
  unfold regE at h
  split at h
  · cases h
  rename_i h1
  split at h
  · cases h
  rename_i h2
  split at h
  · cases h
  rename_i h3
  simp only [not_or, Bool.not_eq_false, sideB_true, atB_true] at h1 h3
  omega
end

set_option maxHeartbeats 400000 in
theorem checkRegion_any (x y a b : Int) (w : World) : Calls Try.prog 61 #[reg x y a b] w fun e w' => e = .returned (.int .i64 (regE x y a b)) ∧ Below w.heap.size w w' := by
  cases h1 : sideB a
  · have H := hid (regE_w (x := x) (y := y) (b := b) h1)
    go_enter Try.func61, Try.ntmps61
    go_wp2_with (go_at_call 109; refine (isSide_any _ _).mono ?_; rintro e w' ⟨rfl, rfl⟩)
    go_ret
    exact ⟨ret_int H.out.symm, (Below.refl _ _).alloc (Nat.le_refl _) _⟩
  cases h2 : sideB b
  · have H := hid (regE_h (x := x) (y := y) (a := a) h2)
    go_enter Try.func61, Try.ntmps61
    go_wp2_with (go_at_call 109; refine (isSide_any _ _).mono ?_; rintro e w' ⟨rfl, rfl⟩)
    go_ret
    exact ⟨ret_int H.out.symm, (Below.refl _ _).alloc (Nat.le_refl _) _⟩
  obtain ⟨a1, a2⟩ := sideB_true.1 h1
  obtain ⟨b1, b2⟩ := sideB_true.1 h2
  obtain ⟨p1, p2⟩ := prod_le a1 a2 b1 b2
  by_cases h3 : 16384 < a * b
  · have H := hid (regE_large (x := x) (y := y) h1 h2 h3)
    go_enter Try.func61, Try.ntmps61
    go_wp2_with (go_at_call 109; refine (isSide_any _ _).mono ?_; rintro e w' ⟨rfl, rfl⟩)
    go_ret
    exact ⟨ret_int H.out.symm, (Below.refl _ _).alloc (Nat.le_refl _) _⟩
  cases h4 : atB x a
  · have H := hid (regE_x (y := y) h1 h2 h3 h4)
    go_enter Try.func61, Try.ntmps61
    go_wp2_with (first | (go_at_call 109; refine (isSide_any _ _).mono ?_; rintro e w' ⟨rfl, rfl⟩) | (go_at_call 110; refine (isPlaced_any _ _ (by assumption) (by assumption) _).mono ?_; rintro e w' ⟨rfl, rfl⟩))
    go_ret
    exact ⟨ret_int H.out.symm, (Below.refl _ _).alloc (Nat.le_refl _) _⟩
  cases h5 : atB y b
  · have H := hid (regE_y (x := x) h1 h2 h3 h5)
    go_enter Try.func61, Try.ntmps61
    go_wp2_with (first | (go_at_call 109; refine (isSide_any _ _).mono ?_; rintro e w' ⟨rfl, rfl⟩) | (go_at_call 110; refine (isPlaced_any _ _ (by assumption) (by assumption) _).mono ?_; rintro e w' ⟨rfl, rfl⟩))
    go_ret
    exact ⟨ret_int H.out.symm, (Below.refl _ _).alloc (Nat.le_refl _) _⟩
  · have H := hid (regE_ok h1 h2 h3 h4 h5)
    go_enter Try.func61, Try.ntmps61
    go_wp2_with (first | (go_at_call 109; refine (isSide_any _ _).mono ?_; rintro e w' ⟨rfl, rfl⟩) | (go_at_call 110; refine (isPlaced_any _ _ (by assumption) (by assumption) _).mono ?_; rintro e w' ⟨rfl, rfl⟩))
    go_ret
    exact ⟨ret_int H.out.symm, (Below.refl _ _).alloc (Nat.le_refl _) _⟩

set_option maxHeartbeats 1000000 in
theorem regionError_any (x y a b : Int) (w : World) : Calls Try.prog 80 #[reg x y a b] w fun e w' => e = .returned (.int .i64 (regE x y a b)) ∧ Below w.heap.size w w' := by
  cases h1 : sideB a
  · have H := hid (regE_w (x := x) (y := y) (b := b) h1)
    go_enter Try.func80, Try.ntmps80
    go_wp2_with (go_at_call 46; refine (in_side _ _).mono ?_; rintro e w' ⟨rfl, rfl⟩)
    go_ret
    exact ⟨ret_int H.out.symm, (Below.refl _ _).alloc (Nat.le_refl _) _⟩
  cases h2 : sideB b
  · have H := hid (regE_h (x := x) (y := y) (a := a) h2)
    go_enter Try.func80, Try.ntmps80
    go_wp2_with (go_at_call 46; refine (in_side _ _).mono ?_; rintro e w' ⟨rfl, rfl⟩)
    go_ret
    exact ⟨ret_int H.out.symm, (Below.refl _ _).alloc (Nat.le_refl _) _⟩
  obtain ⟨a1, a2⟩ := sideB_true.1 h1
  obtain ⟨b1, b2⟩ := sideB_true.1 h2
  obtain ⟨p1, p2⟩ := prod_le a1 a2 b1 b2
  by_cases h3 : 16384 < a * b
  · have H := hid (regE_large (x := x) (y := y) h1 h2 h3)
    go_enter Try.func80, Try.ntmps80
    go_wp2_with (go_at_call 46; refine (in_side _ _).mono ?_; rintro e w' ⟨rfl, rfl⟩)
    go_ret
    exact ⟨ret_int H.out.symm, (Below.refl _ _).alloc (Nat.le_refl _) _⟩
  by_cases c1 : -1048576 ≤ x
  · by_cases c2 : x ≤ 1048576 - a
    · by_cases c3 : -1048576 ≤ y
      · by_cases c4 : y ≤ 1048576 - b
        · have H := hid (regE_ok h1 h2 h3 (atB_true.2 ⟨c1, c2⟩) (atB_true.2 ⟨c3, c4⟩))
          go_enter Try.func80, Try.ntmps80
          go_wp2_with (go_at_call 46; refine (in_side _ _).mono ?_; rintro e w' ⟨rfl, rfl⟩)
          go_ret
          exact ⟨ret_int H.out.symm, (Below.refl _ _).alloc (Nat.le_refl _) _⟩
        · have H := hid (regE_y (x := x) h1 h2 h3 (atB_false.2 (.inr (Int.not_le.1 c4))))
          go_enter Try.func80, Try.ntmps80
          go_wp2_with (go_at_call 46; refine (in_side _ _).mono ?_; rintro e w' ⟨rfl, rfl⟩)
          go_ret
          exact ⟨ret_int H.out.symm, (Below.refl _ _).alloc (Nat.le_refl _) _⟩
      · have H := hid (regE_y (x := x) h1 h2 h3 (atB_false.2 (.inl (Int.not_le.1 c3))))
        go_enter Try.func80, Try.ntmps80
        go_wp2_with (go_at_call 46; refine (in_side _ _).mono ?_; rintro e w' ⟨rfl, rfl⟩)
        go_ret
        exact ⟨ret_int H.out.symm, (Below.refl _ _).alloc (Nat.le_refl _) _⟩
    · have H := hid (regE_x (y := y) h1 h2 h3 (atB_false.2 (.inr (Int.not_le.1 c2))))
      by_cases c3 : -1048576 ≤ y
      all_goals
        go_enter Try.func80, Try.ntmps80
        go_wp2_with (go_at_call 46; refine (in_side _ _).mono ?_; rintro e w' ⟨rfl, rfl⟩)
        go_ret
        exact ⟨ret_int H.out.symm, (Below.refl _ _).alloc (Nat.le_refl _) _⟩
  · have H := hid (regE_x (y := y) h1 h2 h3 (atB_false.2 (.inl (Int.not_le.1 c1))))
    go_enter Try.func80, Try.ntmps80
    go_wp2_with (go_at_call 46; refine (in_side _ _).mono ?_; rintro e w' ⟨rfl, rfl⟩)
    go_ret
    exact ⟨ret_int H.out.symm, (Below.refl _ _).alloc (Nat.le_refl _) _⟩
end Go.Proofs.Ythoiiccecneefaa
