/-
  LevelsMatch: the law.
-/
import Derived.Test.YtbpnbcnhlnnolaaQOff
namespace Go.Proofs.Ytbpnbcnhlnnolaa
open Go.RowKit

set_option maxRecDepth 100000 in
set_option maxHeartbeats 2000000 in
theorem levelsMatch_ok_bad (v off : Nat) (n d how s x y ch : Int) (h1 : 0 ≤ how ∧ how ≤ 2) (h2 : ¬ (1 ≤ d ∧ d ≤ 16)) (w : World) : Calls Try.prog 10 #[.float .f32 v, .float .f32 off, .int .i64 n, .int .i64 d, .int .i64 how, .int .u32 s, .int .i64 x, .int .i64 y, .int .i64 ch] w fun e w' => e = .returned (.bool true) ∧ Below w.heap.size w w' := by
  have hi : inB how 0 2 = true := by unfold inB; simp; omega
  have HO := fun w => offset_ok how s x y ch h1 w
  have HR := fun w => offsetOf_any how s x y ch h1 w
  have hj : inB d 1 16 = false := by unfold inB; simp; omega
  have HL := fun w => level_bad v off d h2 w
  have HV := fun w => value_bad n d (fun h => h2 h.1) w
  clear h1 h2
  go_enter Try.func10, Try.ntmps10
  go_wp2_with (first
    | (go_at_call 69; refine (in_any _ _ _ _).mono ?_; rintro e w' ⟨rfl, rfl⟩)
    | (go_at_call 26; refine (finishes_any _).mono ?_; rintro e w' ⟨rfl, n0, rfl⟩)
    | (go_at_call 67; refine (ordered_any _ _ _).mono ?_; rintro e w' ⟨rfl, rfl⟩)
    | (go_at_call 68; refine (orderedOf_any _ _ _).mono ?_; rintro e w' ⟨rfl, n1, rfl⟩)
    | (go_at_call 66; refine (HO _).mono ?_; rintro e w1 ⟨rfl, hb1⟩)
    | (go_at_call 70; refine (HR _).mono ?_; rintro e w2 ⟨rfl, hb2⟩)
    | (go_at_call 49; refine (same_yes _ _ rfl _).mono ?_; rintro e w' ⟨rfl, rfl⟩)
    | (go_at_call 64; refine (HL _).mono ?_; rintro e w' ⟨rfl, rfl⟩)
    | (go_at_call 65; refine (HV _).mono ?_; rintro e w' ⟨rfl, rfl⟩))
  go_ret
  exact ⟨rfl, by first | exact below_drewN (below_to (below_drewN (below_to (below_drewN (Below.refl _ _) _) hb1) _) hb2) _ | exact below_to (below_drewN (below_to (below_drewN (Below.refl _ _) _) hb1) _) hb2 | exact below_to (below_drewN (below_to (Below.refl _ _) hb1) _) hb2 | exact below_drewN (below_to (below_drewN (below_to (Below.refl _ _) hb1) _) hb2) _⟩

set_option maxRecDepth 100000 in
set_option maxHeartbeats 2000000 in
theorem levelsMatch_ok_n_bad (v off : Nat) (n d how s x y ch : Int) (h1 : 0 ≤ how ∧ how ≤ 2) (h2 : 1 ≤ d ∧ d ≤ 16) (h3 : ¬ (0 ≤ n ∧ n ≤ mx d)) (w : World) : Calls Try.prog 10 #[.float .f32 v, .float .f32 off, .int .i64 n, .int .i64 d, .int .i64 how, .int .u32 s, .int .i64 x, .int .i64 y, .int .i64 ch] w fun e w' => e = .returned (.bool true) ∧ Below w.heap.size w w' := by
  have hi : inB how 0 2 = true := by unfold inB; simp; omega
  have HO := fun w => offset_ok how s x y ch h1 w
  have HR := fun w => offsetOf_any how s x y ch h1 w
  have hj : inB d 1 16 = true := by unfold inB; simp; omega
  have HL := fun w => level_ok v off d h2 w
  have HLr := fun w => levelOf_any v off d h2 w
  have hp := pw_mx d
  have hb := mx_bound h2
  have hk : inB n 0 (mx d) = false := by unfold inB; simp; omega
  have HV := fun w => value_bad n d (fun h => h3 h.2) w
  have g1 := h2.1
  have g2 := h2.2
  clear h1 h2 h3
  go_enter Try.func10, Try.ntmps10
  go_wp2_with (first
    | (go_at_call 69; refine (in_any _ _ _ _).mono ?_; rintro e w' ⟨rfl, rfl⟩)
    | (go_at_call 26; refine (finishes_any _).mono ?_; rintro e w' ⟨rfl, n0, rfl⟩)
    | (go_at_call 67; refine (ordered_any _ _ _).mono ?_; rintro e w' ⟨rfl, rfl⟩)
    | (go_at_call 68; refine (orderedOf_any _ _ _).mono ?_; rintro e w' ⟨rfl, n1, rfl⟩)
    | (go_at_call 66; refine (HO _).mono ?_; rintro e w1 ⟨rfl, hb1⟩)
    | (go_at_call 70; refine (HR _).mono ?_; rintro e w2 ⟨rfl, hb2⟩)
    | (go_at_call 49; refine (same_yes _ _ rfl _).mono ?_; rintro e w' ⟨rfl, rfl⟩)
    | (go_at_call 71; refine (HLr _).mono ?_; rintro e w' ⟨rfl, n3, rfl⟩)
    | (go_at_call 65; refine (HV _).mono ?_; rintro e w' ⟨rfl, rfl⟩)
    | (go_at_call 64; refine (HL _).mono ?_; rintro e w' ⟨rfl, n2, rfl⟩))
  go_ret
  exact ⟨rfl, by first | exact below_drewN (below_to (below_drewN (below_to (below_drewN (Below.refl _ _) _) hb1) _) hb2) _ | exact below_to (below_drewN (below_to (below_drewN (Below.refl _ _) _) hb1) _) hb2 | exact below_to (below_drewN (below_to (Below.refl _ _) hb1) _) hb2 | exact below_drewN (below_to (below_drewN (below_to (Below.refl _ _) hb1) _) hb2) _⟩

set_option maxRecDepth 100000 in
set_option maxHeartbeats 2000000 in
theorem levelsMatch_ok_n_ok (v off : Nat) (n d how s x y ch : Int) (h1 : 0 ≤ how ∧ how ≤ 2) (h2 : 1 ≤ d ∧ d ≤ 16) (h3 : 0 ≤ n ∧ n ≤ mx d) (w : World) : Calls Try.prog 10 #[.float .f32 v, .float .f32 off, .int .i64 n, .int .i64 d, .int .i64 how, .int .u32 s, .int .i64 x, .int .i64 y, .int .i64 ch] w fun e w' => e = .returned (.bool true) ∧ Below w.heap.size w w' := by
  have hi : inB how 0 2 = true := by unfold inB; simp; omega
  have HO := fun w => offset_ok how s x y ch h1 w
  have HR := fun w => offsetOf_any how s x y ch h1 w
  have hj : inB d 1 16 = true := by unfold inB; simp; omega
  have HL := fun w => level_ok v off d h2 w
  have HLr := fun w => levelOf_any v off d h2 w
  have hp := pw_mx d
  have hb := mx_bound h2
  have hk : inB n 0 (mx d) = true := by unfold inB; simp; omega
  have HV := fun w => value_ok n d h2 h3.1 h3.2 w
  have HVr := fun w => valueOf_any n d h2 h3.1 h3.2 w
  have HB := fun w => level_ok (vaC n d) 0 d h2 w
  rw [lv_va h2 h3.1 h3.2] at HB
  have g1 := h2.1
  have g2 := h2.2
  clear h1 h2 h3
  go_enter Try.func10, Try.ntmps10
  go_wp2_with (first
    | (go_at_call 69; refine (in_any _ _ _ _).mono ?_; rintro e w' ⟨rfl, rfl⟩)
    | (go_at_call 26; refine (finishes_any _).mono ?_; rintro e w' ⟨rfl, n0, rfl⟩)
    | (go_at_call 67; refine (ordered_any _ _ _).mono ?_; rintro e w' ⟨rfl, rfl⟩)
    | (go_at_call 68; refine (orderedOf_any _ _ _).mono ?_; rintro e w' ⟨rfl, n1, rfl⟩)
    | (go_at_call 66; refine (HO _).mono ?_; rintro e w1 ⟨rfl, hb1⟩)
    | (go_at_call 70; refine (HR _).mono ?_; rintro e w2 ⟨rfl, hb2⟩)
    | (go_at_call 49; refine (same_yes _ _ rfl _).mono ?_; rintro e w' ⟨rfl, rfl⟩)
    | (go_at_call 71; refine (HLr _).mono ?_; rintro e w' ⟨rfl, n3, rfl⟩)
    | (go_at_call 65; refine (HV _).mono ?_; rintro e w' ⟨rfl, rfl⟩)
    | (go_at_call 72; refine (HVr _).mono ?_; rintro e w' ⟨rfl, rfl⟩)
    | (go_at_call 64; first | (with_reducible refine (HB _).mono ?_; rintro e w' ⟨rfl, n4, rfl⟩) | (with_reducible refine (HL _).mono ?_; rintro e w' ⟨rfl, n2, rfl⟩)))
  go_ret
  exact ⟨rfl, by first | exact below_drewN (below_to (below_drewN (below_to (below_drewN (Below.refl _ _) _) hb1) _) hb2) _ | exact below_to (below_drewN (below_to (below_drewN (Below.refl _ _) _) hb1) _) hb2 | exact below_to (below_drewN (below_to (Below.refl _ _) hb1) _) hb2 | exact below_drewN (below_to (below_drewN (below_to (Below.refl _ _) hb1) _) hb2) _⟩

set_option maxRecDepth 100000 in
set_option maxHeartbeats 2000000 in
theorem levelsMatch_bad_bad (v off : Nat) (n d how s x y ch : Int) (h1 : ¬ (0 ≤ how ∧ how ≤ 2)) (h2 : ¬ (1 ≤ d ∧ d ≤ 16)) (w : World) : Calls Try.prog 10 #[.float .f32 v, .float .f32 off, .int .i64 n, .int .i64 d, .int .i64 how, .int .u32 s, .int .i64 x, .int .i64 y, .int .i64 ch] w fun e w' => e = .returned (.bool true) ∧ Below w.heap.size w w' := by
  have hi : inB how 0 2 = false := by unfold inB; simp; omega
  have HO := fun w => offset_bad how s x y ch h1 w
  have hj : inB d 1 16 = false := by unfold inB; simp; omega
  have HL := fun w => level_bad v off d h2 w
  have HV := fun w => value_bad n d (fun h => h2 h.1) w
  clear h1 h2
  go_enter Try.func10, Try.ntmps10
  go_wp2_with (first
    | (go_at_call 69; refine (in_any _ _ _ _).mono ?_; rintro e w' ⟨rfl, rfl⟩)
    | (go_at_call 26; refine (finishes_any _).mono ?_; rintro e w' ⟨rfl, n0, rfl⟩)
    | (go_at_call 67; refine (ordered_any _ _ _).mono ?_; rintro e w' ⟨rfl, rfl⟩)
    | (go_at_call 68; refine (orderedOf_any _ _ _).mono ?_; rintro e w' ⟨rfl, n1, rfl⟩)
    | (go_at_call 66; refine (HO _).mono ?_; rintro e w' ⟨rfl, rfl⟩)
    | (go_at_call 64; refine (HL _).mono ?_; rintro e w' ⟨rfl, rfl⟩)
    | (go_at_call 65; refine (HV _).mono ?_; rintro e w' ⟨rfl, rfl⟩))
  go_ret
  exact ⟨rfl, by first | exact below_drewN (Below.refl _ _) _ | exact Below.refl _ _⟩

set_option maxRecDepth 100000 in
set_option maxHeartbeats 2000000 in
theorem levelsMatch_bad_n_bad (v off : Nat) (n d how s x y ch : Int) (h1 : ¬ (0 ≤ how ∧ how ≤ 2)) (h2 : 1 ≤ d ∧ d ≤ 16) (h3 : ¬ (0 ≤ n ∧ n ≤ mx d)) (w : World) : Calls Try.prog 10 #[.float .f32 v, .float .f32 off, .int .i64 n, .int .i64 d, .int .i64 how, .int .u32 s, .int .i64 x, .int .i64 y, .int .i64 ch] w fun e w' => e = .returned (.bool true) ∧ Below w.heap.size w w' := by
  have hi : inB how 0 2 = false := by unfold inB; simp; omega
  have HO := fun w => offset_bad how s x y ch h1 w
  have hj : inB d 1 16 = true := by unfold inB; simp; omega
  have HL := fun w => level_ok v off d h2 w
  have HLr := fun w => levelOf_any v off d h2 w
  have hp := pw_mx d
  have hb := mx_bound h2
  have hk : inB n 0 (mx d) = false := by unfold inB; simp; omega
  have HV := fun w => value_bad n d (fun h => h3 h.2) w
  have g1 := h2.1
  have g2 := h2.2
  clear h1 h2 h3
  go_enter Try.func10, Try.ntmps10
  go_wp2_with (first
    | (go_at_call 69; refine (in_any _ _ _ _).mono ?_; rintro e w' ⟨rfl, rfl⟩)
    | (go_at_call 26; refine (finishes_any _).mono ?_; rintro e w' ⟨rfl, n0, rfl⟩)
    | (go_at_call 67; refine (ordered_any _ _ _).mono ?_; rintro e w' ⟨rfl, rfl⟩)
    | (go_at_call 68; refine (orderedOf_any _ _ _).mono ?_; rintro e w' ⟨rfl, n1, rfl⟩)
    | (go_at_call 66; refine (HO _).mono ?_; rintro e w' ⟨rfl, rfl⟩)
    | (go_at_call 71; refine (HLr _).mono ?_; rintro e w' ⟨rfl, n3, rfl⟩)
    | (go_at_call 65; refine (HV _).mono ?_; rintro e w' ⟨rfl, rfl⟩)
    | (go_at_call 64; refine (HL _).mono ?_; rintro e w' ⟨rfl, n2, rfl⟩))
  go_ret
  exact ⟨rfl, by first | exact below_drewN (Below.refl _ _) _ | exact Below.refl _ _⟩

set_option maxRecDepth 100000 in
set_option maxHeartbeats 2000000 in
theorem levelsMatch_bad_n_ok (v off : Nat) (n d how s x y ch : Int) (h1 : ¬ (0 ≤ how ∧ how ≤ 2)) (h2 : 1 ≤ d ∧ d ≤ 16) (h3 : 0 ≤ n ∧ n ≤ mx d) (w : World) : Calls Try.prog 10 #[.float .f32 v, .float .f32 off, .int .i64 n, .int .i64 d, .int .i64 how, .int .u32 s, .int .i64 x, .int .i64 y, .int .i64 ch] w fun e w' => e = .returned (.bool true) ∧ Below w.heap.size w w' := by
  have hi : inB how 0 2 = false := by unfold inB; simp; omega
  have HO := fun w => offset_bad how s x y ch h1 w
  have hj : inB d 1 16 = true := by unfold inB; simp; omega
  have HL := fun w => level_ok v off d h2 w
  have HLr := fun w => levelOf_any v off d h2 w
  have hp := pw_mx d
  have hb := mx_bound h2
  have hk : inB n 0 (mx d) = true := by unfold inB; simp; omega
  have HV := fun w => value_ok n d h2 h3.1 h3.2 w
  have HVr := fun w => valueOf_any n d h2 h3.1 h3.2 w
  have HB := fun w => level_ok (vaC n d) 0 d h2 w
  rw [lv_va h2 h3.1 h3.2] at HB
  have g1 := h2.1
  have g2 := h2.2
  clear h1 h2 h3
  go_enter Try.func10, Try.ntmps10
  go_wp2_with (first
    | (go_at_call 69; refine (in_any _ _ _ _).mono ?_; rintro e w' ⟨rfl, rfl⟩)
    | (go_at_call 26; refine (finishes_any _).mono ?_; rintro e w' ⟨rfl, n0, rfl⟩)
    | (go_at_call 67; refine (ordered_any _ _ _).mono ?_; rintro e w' ⟨rfl, rfl⟩)
    | (go_at_call 68; refine (orderedOf_any _ _ _).mono ?_; rintro e w' ⟨rfl, n1, rfl⟩)
    | (go_at_call 66; refine (HO _).mono ?_; rintro e w' ⟨rfl, rfl⟩)
    | (go_at_call 71; refine (HLr _).mono ?_; rintro e w' ⟨rfl, n3, rfl⟩)
    | (go_at_call 65; refine (HV _).mono ?_; rintro e w' ⟨rfl, rfl⟩)
    | (go_at_call 72; refine (HVr _).mono ?_; rintro e w' ⟨rfl, rfl⟩)
    | (go_at_call 64; first | (with_reducible refine (HB _).mono ?_; rintro e w' ⟨rfl, n4, rfl⟩) | (with_reducible refine (HL _).mono ?_; rintro e w' ⟨rfl, n2, rfl⟩))
    | (go_at_call 49; refine (same_yes _ _ rfl _).mono ?_; rintro e w' ⟨rfl, rfl⟩))
  go_ret
  exact ⟨rfl, by first | exact below_drewN (Below.refl _ _) _ | exact Below.refl _ _⟩

theorem levelsMatch_any (v off : Nat) (n d how s x y ch : Int) (w : World) : Calls Try.prog 10 #[.float .f32 v, .float .f32 off, .int .i64 n, .int .i64 d, .int .i64 how, .int .u32 s, .int .i64 x, .int .i64 y, .int .i64 ch] w fun e w' => e = .returned (.bool true) ∧ Below w.heap.size w w' := by
  by_cases h1 : 0 ≤ how ∧ how ≤ 2
  · by_cases h2 : 1 ≤ d ∧ d ≤ 16
    · by_cases h3 : 0 ≤ n ∧ n ≤ mx d
      · exact levelsMatch_ok_n_ok v off n d how s x y ch h1 h2 h3 w
      · exact levelsMatch_ok_n_bad v off n d how s x y ch h1 h2 h3 w
    · exact levelsMatch_ok_bad v off n d how s x y ch h1 h2 w
  · by_cases h2 : 1 ≤ d ∧ d ≤ 16
    · by_cases h3 : 0 ≤ n ∧ n ≤ mx d
      · exact levelsMatch_bad_n_ok v off n d how s x y ch h1 h2 h3 w
      · exact levelsMatch_bad_n_bad v off n d how s x y ch h1 h2 h3 w
    · exact levelsMatch_bad_bad v off n d how s x y ch h1 h2 w
end Go.Proofs.Ytbpnbcnhlnnolaa
