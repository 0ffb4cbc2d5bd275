/-
  Colours: FromHSV of the reference, where something is no number.
-/
import Derived.Test.YtcmakibomdinbaaCFrmP
namespace Go.Proofs.Ytcmakibomdinbaa
open Go.RowKit
attribute [local go_sem] run_store_float

set_option maxRecDepth 100000 in
set_option maxHeartbeats 1000000 in
theorem fromr_nan (h s v al : Nat) (w : World) (hf : (fin h && fin s && fin v) = false) : Calls Try.prog 52 #[.float .f32 h, .float .f32 s, .float .f32 v, .float .f32 al] w fun e w' => e = .returned (pix (fromC h s v al)) ∧ Below w.heap.size w w' := by
  have HH := hid hf
  cases hh : fin h
  case' true =>
    cases hs : fin s
    case' true =>
      have hv : fin v = false := by rw [hh, hs] at hf; simpa using hf
  all_goals
    clear hf
    go_enter Try.func52, Try.ntmps52
    go_wp2_with (first
      | (go_at_call 96; refine (theNaN_any _).mono ?_; rintro e w' ⟨rfl, rfl⟩)
      | (go_at_call 35; refine (fix_any _ _).mono ?_; rintro e w' ⟨rfl, rfl⟩)
      | (go_at_call 103; refine (isNum_any _ _).mono ?_; rintro e w' ⟨rfl, k, rfl⟩))
    refine bodyPost_ret (results_cell_row rfl _ _ _ _ _ _ _ rfl (blk_set4 (Blk.drewN (Blk.new_at _ _ _ rfl) _) _ _ _ _) Try.underlying24 rfl (by kernel_rfl)) rfl ⟨?_, below_set4 (ends_below ((Below.refl _ _).alloc (Nat.le_refl _) _) ⟨_, rfl⟩) (by simp) _ _ _ _⟩
    have hj : ∀ j, j < 3 → fromC h s v al j = 2143289344 := fun j hj => by unfold fromC; rw [if_pos hj, if_neg (by rw [HH.out]; simp)]
    exact congrArg _ (pix_four (hj 0 (by decide)).symm (hj 1 (by decide)).symm (hj 2 (by decide)).symm rfl)
end Go.Proofs.Ytcmakibomdinbaa
