/-
  Check, and the reference's FrameError: the error of a frame.
-/
import Derived.Test.YthoiiccecneefaaFMem
namespace Go.Proofs.Ythoiiccecneefaa
open Go.RowKit

/-- The error of a frame. -/
def frmE (x y a b : Int) (n : Nat) : Int := if regE x y a b = 0 then (if (n : Int) = 4 * a * b then 0 else 2) else regE x y a b
theorem frmE_reg {x y a b : Int} {n : Nat} (h : ¬ regE x y a b = 0) : frmE x y a b n = regE x y a b := by unfold frmE; rw [if_neg h]
theorem frmE_form {x y a b : Int} {n : Nat} (h : regE x y a b = 0) (h2 : ¬ (n : Int) = 4 * a * b) : frmE x y a b n = 2 := by unfold frmE; rw [if_pos h, if_neg h2]
theorem frmE_ok {x y a b : Int} {n : Nat} (h : regE x y a b = 0) (h2 : (n : Int) = 4 * a * b) : frmE x y a b n = 0 := by unfold frmE; rw [if_pos h, if_pos h2]
theorem frmE_zero {x y a b : Int} {n : Nat} (h : frmE x y a b n = 0) : regE x y a b = 0 ∧ (n : Int) = 4 * a * b := by
  unfold frmE at h
  by_cases h1 : regE x y a b = 0
  · rw [if_pos h1] at h
    by_cases h2 : (n : Int) = 4 * a * b
    · exact ⟨h1, h2⟩
    · rw [if_neg h2] at h; cases h
  · rw [if_neg h1] at h; exact absurd h h1
theorem prod4_le {a b : Int} (h : 1 ≤ a * b) (h2 : a * b ≤ 16384) : 4 ≤ 4 * a * b ∧ 4 * a * b ≤ 65536 := by rw [Int.mul_assoc]; omega

set_option maxRecDepth 100000 in
set_option maxHeartbeats 1000000 in
theorem check_any (x y a b : Int) (A : Option Addr) (n c : Nat) (w : World) : Calls Try.prog 51 #[frm x y a b A n c] w fun e w' => e = .returned (.int .i64 (frmE x y a b n)) ∧ Below w.heap.size w w' := by
  by_cases h1 : regE x y a b = 0
  · have z1 : (regE x y a b == 0) = true := by simp [h1]
    have z2 : (regE x y a b != 0) = false := by simp [h1]
    obtain ⟨a1, a2, b1, b2, ab, x1, x2, y1, y2⟩ := regE_zero h1
    obtain ⟨p1, p2⟩ := prod_le a1 a2 b1 b2
    obtain ⟨q1, q2⟩ := prod4_le p1 ab
    have r1 : 4 * a ≤ 1024 := by omega
    by_cases h2 : (n : Int) = 4 * a * b
    · have H := hid (frmE_ok h1 h2)
      have z3 : ((n : Int) != 4 * a * b) = false := by simp [h2]
      clear h1 h2
      go_enter Try.func51, Try.ntmps51
      go_wp2_with fail
      refine (checkRegion_any _ _ _ _ _).mono ?_
      rintro e w1 ⟨rfl, hb⟩
      have hc := (boxed hb).cell 4
      have hc2 := (boxed hb).cell 2
      have hc3 := (boxed hb).cell 3
      simp at hc hc2 hc3
      go_wp2
      go_ret
      exact ⟨ret_int H.out.symm, below_box hb⟩
    · have H := hid (frmE_form h1 h2)
      have z3 : ((n : Int) != 4 * a * b) = true := by simp [h2]
      clear h1 h2
      go_enter Try.func51, Try.ntmps51
      go_wp2_with fail
      refine (checkRegion_any _ _ _ _ _).mono ?_
      rintro e w1 ⟨rfl, hb⟩
      have hc := (boxed hb).cell 4
      have hc2 := (boxed hb).cell 2
      have hc3 := (boxed hb).cell 3
      simp at hc hc2 hc3
      go_wp2
      go_ret
      exact ⟨ret_int H.out.symm, below_box hb⟩
  · have z1 : (regE x y a b == 0) = false := by simp [h1]
    have z2 : (regE x y a b != 0) = true := by simp [h1]
    have H := hid (frmE_reg (n := n) h1)
    clear h1
    go_enter Try.func51, Try.ntmps51
    go_wp2_with (go_at_call 61; refine (checkRegion_any _ _ _ _ _).mono ?_; rintro e w1 ⟨rfl, hb⟩)
    go_ret
    exact ⟨ret_int H.out.symm, below_box hb⟩
end Go.Proofs.Ythoiiccecneefaa
