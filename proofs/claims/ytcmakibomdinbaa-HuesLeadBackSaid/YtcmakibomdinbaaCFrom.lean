/-
  Colours: a pixel of a hue, a saturation and a value, in the program and in the reference.
-/
import Derived.Test.YtcmakibomdinbaaCNum
namespace Go.Proofs.Ytcmakibomdinbaa
open Go.RowKit
attribute [local go_sem] run_store_float

/-- Are the first n numbers? -/
def fins (F : Nat → Nat) : Nat → Bool
  | 0 => true
  | k + 1 => fins F k && fin (F k)
theorem fins_at {F : Nat → Nat} {n k : Nat} (h : fins F n = true) (hk : k < n) : fin (F k) = true := by
  induction n with
  | zero => omega
  | succ n ih =>
    simp [fins] at h
    by_cases e : k = n
    · subst e; exact h.2
    · exact ih h.1 (by omega)
theorem fins_not {F : Nat → Nat} {n k : Nat} (h : fin (F k) = false) (hk : k < n) : fins F n = false := by
  by_cases hn : fins F n = true
  · rw [fins_at hn hk] at h; cases h
  · simpa using hn

set_option maxRecDepth 100000 in
theorem areNumbers_any (b n c : Nat) (F : Nat → Nat) (w : World) (hn : n ≤ 8) (hR : Rd w b 0 n F) : Calls Try.prog 79 #[.slice (some ⟨b, 0, none⟩) n c] w fun e w' => e = .returned (.bool (fins F n)) ∧ w = w' := by
  have HR := hid hR
  clear hR
  go_enter Try.func79, Try.ntmps79
  go_wp2_with fail
  go_loop [7] (fun i => ∃ k : Nat, k ≤ n ∧ i = .int .i64 k ∧ fins F k = true) (fun i => n - (intOf i).toNat)
  case atStart => exact ⟨0, by omega, rfl, rfl⟩
  case round =>
    obtain ⟨k, hk, rfl, hf⟩ := hrel
    by_cases hlt : k < n
    · have hc := HR.out k hlt
      rw [Nat.zero_add] at hc
      by_cases hg : fin (F k) = true
      · have HF : RowKit.Hid (fins F (k + 1) = true) := hid (by simp [fins, hf, hg])
        clear hf
        go_wp2_with (go_at_call 131; refine (isNumber_any _ _).mono ?_; rintro e w' ⟨rfl, rfl⟩)
        go_round
        case rel => exact ⟨k + 1, by omega, by go_num, HF.out⟩
        case measure => simp [intOf]; omega
      · have hg' : fin (F k) = false := by simpa using hg
        have HF := hid (fins_not hg' hlt)
        clear hf hg
        go_wp2_with (go_at_call 131; refine (isNumber_any _ _).mono ?_; rintro e w' ⟨rfl, rfl⟩)
        go_ret
        exact ⟨ret_bool HF.out.symm, rfl⟩
    · obtain rfl : k = n := by omega
      have HF := hid hf
      clear hf
      go_wp2_with fail
      go_ret
      exact ⟨ret_bool HF.out.symm, rfl⟩
end Go.Proofs.Ytcmakibomdinbaa
