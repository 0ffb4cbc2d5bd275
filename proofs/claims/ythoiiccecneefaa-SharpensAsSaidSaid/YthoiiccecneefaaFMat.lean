/-
  The error of a matte, in the program and in the reference.
-/
import Derived.Test.YthoiiccecneefaaFCheck
import Derived.Deep.RegionHeld3
namespace Go.Proofs.Ythoiiccecneefaa
open Go.RowKit

/-- The error of a matte. -/
def matE (x y a b : Int) (n : Nat) : Int := if regE x y a b = 0 then (if (n : Int) = a * b then 0 else 2) else regE x y a b
section
variable {x y a b : Int} {n : Nat}
theorem matE_reg (h : ¬ regE x y a b = 0) : matE x y a b n = regE x y a b := by unfold matE; rw [if_neg h]
theorem matE_form (h : regE x y a b = 0) (h2 : ¬ (n : Int) = a * b) : matE x y a b n = 2 := by unfold matE; rw [if_pos h, if_neg h2]
theorem matE_ok (h : regE x y a b = 0) (h2 : (n : Int) = a * b) : matE x y a b n = 0 := by unfold matE; rw [if_pos h, if_pos h2]
theorem matE_zero (h : matE x y a b n = 0) : regE x y a b = 0 ∧ (n : Int) = a * b := by
  unfold matE at h
  by_cases h1 : regE x y a b = 0
  · rw [if_pos h1] at h
    by_cases h2 : (n : Int) = a * b
    · exact ⟨h1, h2⟩
    · rw [if_neg h2] at h; cases h
  · rw [if_neg h1] at h; exact absurd h h1
end

set_option maxRecDepth 100000 in
theorem when_any (b : Bool) (E : Int) (w : World) : Calls Try.prog 34 #[.bool b, .int .i64 E] w fun e w' => ∃ R, e = .returned (.int .i64 R) ∧ (b = true → R = E) ∧ (b = false → R = 0) ∧ w = w' := by
  cases b
  all_goals
    go_enter Try.func34, Try.ntmps34
    go_wp2_with fail
    go_ret
    exact ⟨_, rfl, by simp, by simp, rfl⟩

set_option maxRecDepth 100000 in
set_option maxHeartbeats 1000000 in
theorem first_two0 (E1 E2 : Int) (g : Nat) (w : World) (h : Blk w g 30 #[.int .i64 E1, .int .i64 E2]) (h1 : (E1 != 0) = true) :
    Calls Try.prog 22 #[.slice (some ⟨g, 0, none⟩) 2 2] w fun e w' => e = .returned (.int .i64 (E1)) ∧ w = w' := by
  have c0 := h.cell 0
  have c1 := h.cell 1
  simp at c0 c1
  clear h
  go_enter Try.func22, Try.ntmps22
  go_wp2_with fail
  go_loop [7] (fun i => ∃ k : Nat, k ≤ 0 ∧ i = .int .i64 k) (fun i => 0 - (intOf i).toNat)
  case atStart => exact ⟨0, by omega, rfl⟩
  case round =>
    obtain ⟨k, hk, rfl⟩ := hrel
    have hk3 : k = 0 := by omega
    subst hk3
    go_wp2_with fail
    go_ret
    exact ⟨rfl, rfl⟩

set_option maxRecDepth 100000 in
set_option maxHeartbeats 1000000 in
theorem first_two1 (E1 E2 : Int) (g : Nat) (w : World) (h : Blk w g 30 #[.int .i64 E1, .int .i64 E2]) (h1 : (E1 != 0) = false) (h2 : (E2 != 0) = true) :
    Calls Try.prog 22 #[.slice (some ⟨g, 0, none⟩) 2 2] w fun e w' => e = .returned (.int .i64 (E2)) ∧ w = w' := by
  have c0 := h.cell 0
  have c1 := h.cell 1
  simp at c0 c1
  clear h
  go_enter Try.func22, Try.ntmps22
  go_wp2_with fail
  go_loop [7] (fun i => ∃ k : Nat, k ≤ 1 ∧ i = .int .i64 k) (fun i => 1 - (intOf i).toNat)
  case atStart => exact ⟨0, by omega, rfl⟩
  case round =>
    obtain ⟨k, hk, rfl⟩ := hrel
    have hk3 : k = 0 ∨ k = 1 := by omega
    rcases hk3 with rfl | rfl
    · go_wp2_with fail
      go_round
      case rel => exact ⟨1, by omega, rfl⟩
      case measure => simp [intOf]
    · go_wp2_with fail
      go_ret
      exact ⟨rfl, rfl⟩

set_option maxRecDepth 100000 in
set_option maxHeartbeats 1000000 in
theorem first_two2 (E1 E2 : Int) (g : Nat) (w : World) (h : Blk w g 30 #[.int .i64 E1, .int .i64 E2]) (h1 : (E1 != 0) = false) (h2 : (E2 != 0) = false) :
    Calls Try.prog 22 #[.slice (some ⟨g, 0, none⟩) 2 2] w fun e w' => e = .returned (.int .i64 (0)) ∧ w = w' := by
  have c0 := h.cell 0
  have c1 := h.cell 1
  simp at c0 c1
  clear h
  go_enter Try.func22, Try.ntmps22
  go_wp2_with fail
  go_loop [7] (fun i => ∃ k : Nat, k ≤ 2 ∧ i = .int .i64 k) (fun i => 2 - (intOf i).toNat)
  case atStart => exact ⟨0, by omega, rfl⟩
  case round =>
    obtain ⟨k, hk, rfl⟩ := hrel
    have hk3 : k = 0 ∨ k = 1 ∨ k = 2 := by omega
    rcases hk3 with rfl | rfl | rfl
    · go_wp2_with fail
      go_round
      case rel => exact ⟨1, by omega, rfl⟩
      case measure => simp [intOf]
    · go_wp2_with fail
      go_round
      case rel => exact ⟨2, by omega, rfl⟩
      case measure => simp [intOf]
    · go_wp2_with fail
      go_ret
      exact ⟨rfl, rfl⟩

theorem first_any (E1 E2 : Int) (g : Nat) (w : World) (h : Blk w g 30 #[.int .i64 E1, .int .i64 E2]) :
    Calls Try.prog 22 #[.slice (some ⟨g, 0, none⟩) 2 2] w fun e w' => ∃ R, e = .returned (.int .i64 R) ∧ (E1 ≠ 0 → R = E1) ∧ (E1 = 0 → R = E2) ∧ w = w' := by
  by_cases h1 : E1 = 0
  · by_cases h2 : E2 = 0
    · exact (first_two2 E1 E2 g w h (by simp [h1]) (by simp [h2])).mono fun e w' ⟨he, hw⟩ => ⟨0, he, fun hh => absurd h1 hh, fun _ => h2.symm, hw⟩
    · exact (first_two1 E1 E2 g w h (by simp [h1]) (by simp [h2])).mono fun e w' ⟨he, hw⟩ => ⟨E2, he, fun hh => absurd h1 hh, fun _ => rfl, hw⟩
  · exact (first_two0 E1 E2 g w h (by simp [h1])).mono fun e w' ⟨he, hw⟩ => ⟨E1, he, fun _ => rfl, fun hh => absurd hh h1, hw⟩

section
variable {w wr w1 : World} {x y a b : Int} {A : Option Addr} {n c : Nat}
end

end Go.Proofs.Ythoiiccecneefaa
