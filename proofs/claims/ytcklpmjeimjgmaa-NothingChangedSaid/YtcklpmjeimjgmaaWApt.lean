/-
  A single beside itself: places, differences, steps.
-/
import Derived.Test.YtcklpmjeimjgmaaWSame
import Derived.Test.YtcklpmjeimjgmaaFSum
import Derived.Lib.MinMax
import Derived.Lib.Tables
namespace Go.Proofs.Ytcklpmjeimjgmaa
open Go.RowKit Go.Shelf

theorem place_some (b : Nat) : ∃ k : Int, ∀ w, Calls Try.prog 185 #[.float .f32 b] w fun e w' => e = .returned (.int .i64 k) ∧ w = w' := by
  by_cases h : (2147483647 : Int) < wrap64 (cl b : Int)
  · refine ⟨wrap64 (-1 - bits .and .i64 (wrap64 (cl b : Int)) 2147483647), fun w => ?_⟩
    go_enter Try.func185, Try.ntmps185
    go_wp2_with (go_at_call 61; refine (bits_any _ _).mono ?_; rintro e w' ⟨rfl, rfl⟩)
    go_ret
    exact ⟨rfl, rfl⟩
  · refine ⟨wrap64 (cl b : Int), fun w => ?_⟩
    go_enter Try.func185, Try.ntmps185
    go_wp2_with (go_at_call 61; refine (bits_any _ _).mono ?_; rintro e w' ⟨rfl, rfl⟩)
    go_ret
    exact ⟨rfl, rfl⟩

set_option maxRecDepth 100000 in
theorem apart_self (v : Nat) : ∃ bt : Bool, (isN .f32 v = !bt) ∧ ∀ w, Calls Try.prog 161 #[.float .f32 v, .float .f32 v] w fun e w' => e = .returned (.tuple #[.int .i64 0, .bool bt]) ∧ w = w' := by
  have ea := ne_self .f32 v
  by_cases h : isN .f32 v = true
  · rw [h] at ea
    refine ⟨false, h, fun w => ?_⟩
    clear h
    go_enter Try.func161, Try.ntmps161
    go_wp2
    go_ret2
    exact ⟨rfl, rfl⟩
  · have h' : isN .f32 v = false := by simpa using h
    rw [h'] at ea
    obtain ⟨k, hk⟩ := place_some v
    have HK := hid hk
    refine ⟨true, h', fun w => ?_⟩
    clear h h' hk
    go_enter Try.func161, Try.ntmps161
    go_wp2_with (go_at_call 185; refine (HK.out _).mono ?_; rintro e w' ⟨rfl, rfl⟩)
    go_ret2
    exact ⟨by first | rfl | simp, rfl⟩

theorem standing_zero (w : World) : Calls Try.prog 149 #[.float .f32 0] w fun e w' => e = .returned (.int .i64 0) ∧ w = w' := by
  obtain ⟨bt, hb, ha⟩ := apart_self 0
  have h0 : isN .f32 0 = false := by decide +kernel
  rw [h0] at hb
  obtain rfl : bt = true := by
    cases bt
    · cases hb
    · rfl
  have HA := hid ha
  clear ha hb h0
  go_enter Try.func149, Try.ntmps149
  go_wp2_with (go_at_call 161; refine (HA.out _).mono ?_; rintro e w' ⟨rfl, rfl⟩)
  go_ret
  exact ⟨rfl, rfl⟩

theorem isNaN_zero (w : World) : Calls Try.prog 171 #[.int .i64 0] w fun e w' => e = .returned (.bool false) ∧ w = w' := by
  go_enter Try.func171, Try.ntmps171
  go_wp2
  go_ret
  exact ⟨rfl, rfl⟩
theorem compare_zero (w : World) : Calls Try.prog 148 #[.int .i64 0, .int .i64 0] w fun e w' => e = .returned (.int .i64 0) ∧ w = w' := by
  go_enter Try.func148, Try.ntmps148
  go_wp2_with (go_at_call 171; refine (isNaN_zero _).mono ?_; rintro e w' ⟨rfl, rfl⟩)
  go_ret
  exact ⟨rfl, rfl⟩
theorem inOrder_zero (w : World) : Calls Try.prog 108 #[.float .f32 0, .float .f32 0] w fun e w' => e = .returned (.int .i64 0) ∧ w = w' := by
  go_enter Try.func108, Try.ntmps108
  go_wp2_with (first
    | (go_at_call 149; refine (standing_zero _).mono ?_; rintro e w' ⟨rfl, rfl⟩)
    | (go_at_call 148; refine (compare_zero _).mono ?_; rintro e w' ⟨rfl, rfl⟩))
  go_ret
  exact ⟨rfl, rfl⟩
theorem difference_self (v : Nat) (w : World) : Calls Try.prog 157 #[.float .f32 v, .float .f32 v] w fun e w' => e = .returned (.float .f32 0) ∧ w = w' := by
  have hz : (cl v == cl v) = true := by simp
  go_enter Try.func157, Try.ntmps157
  go_wp2_with (go_at_call 127; refine (isSame_any _ _ _).mono ?_; rintro e w' ⟨rfl, rfl⟩)
  go_ret
  exact ⟨rfl, rfl⟩
theorem len64_zero (w : World) : Calls Try.prog 181 #[.int .u64 0] w fun e w' => e = .returned (.int .i64 0) ∧ w = w' := by
  have h8 : Lib.len8 0 = 0 := by decide +kernel
  go_enter Try.func181, Try.ntmps181
  go_wp2
  go_ret
  exact ⟨rfl, rfl⟩
set_option maxRecDepth 100000 in
theorem len_zero (w : World) : Calls Try.prog 152 #[.int .u64 0] w fun e w' => e = .returned (.int .i64 0) ∧ w = w' := by
  go_enter Try.func152, Try.ntmps152
  go_wp2_with (go_at_call 181; refine (len64_zero _).mono ?_; rintro e w' ⟨rfl, rfl⟩)
  go_ret
  exact ⟨rfl, rfl⟩
set_option maxRecDepth 100000 in
theorem stepOf_self (v : Nat) (w : World) : Calls Try.prog 125 #[.float .f32 v, .float .f32 v] w fun e w' => e = .returned (.int .i64 0) ∧ w = w' := by
  obtain ⟨bt, _, ha⟩ := apart_self v
  have HA := hid ha
  have hz : (cl v == cl v) = true := by simp
  clear ha
  cases bt
  · go_enter Try.func125, Try.ntmps125
    go_wp2_with (first | (go_at_call 161; refine (HA.out _).mono ?_; rintro e w' ⟨rfl, rfl⟩) | (go_at_call 127; refine (isSame_any _ _ _).mono ?_; rintro e w' ⟨rfl, rfl⟩))
    go_ret
    exact ⟨rfl, rfl⟩
  · go_enter Try.func125, Try.ntmps125
    go_wp2_with (first | (go_at_call 161; refine (HA.out _).mono ?_; rintro e w' ⟨rfl, rfl⟩) | (go_at_call 152; refine (len_zero _).mono ?_; rintro e w' ⟨rfl, rfl⟩))
    go_ret
    exact ⟨rfl, rfl⟩

/-- Sums and means of zeros. -/
theorem sumC_zeros : ∀ n : Nat, sumC (List.replicate n 0) = 0 := by
  intro n
  induction n using Nat.strongRecOn with
  | _ n ih =>
    by_cases h0 : n = 0
    · subst h0; rfl
    · by_cases h1 : n = 1
      · subst h1; decide +kernel
      · rw [sumC_half _ (by simp; omega), List.take_replicate, List.drop_replicate, List.length_replicate, ih _ (by omega), ih _ (by omega)]
        decide +kernel
theorem quo_zeros : ∀ n : Fin 257, 0 < n.val → cop .quo .f32 0 (cn .f32 (floatOfInt .f32 (n.val : Int))) = 0 := by decide +kernel
end Go.Proofs.Ytcklpmjeimjgmaa
