/-
  Whether singles are the same, in package scope.
-/
import Derived.Test.YtcklpmjeimjgmaaWPure
import Derived.Test.YtcklpmjeimjgmaaFPix
import Derived.Test.YtcklpmjeimjgmaaFCheck
import Derived.BigQuiet
namespace Go.Proofs.Ytcklpmjeimjgmaa
open Go.RowKit Go.Shelf

theorem isSame_any (a b : Nat) (w : World) : Calls Try.prog 127 #[.float .f32 a, .float .f32 b] w fun e w' => e = .returned (.bool (cl a == cl b)) ∧ w = w' := by
  by_cases h : cl a = cl b
  · have hz : ((cl a : Int) == (cl b : Int)) = true := by simp [h]
    have H := hid h
    go_enter Try.func127, Try.ntmps127
    go_wp2_with (go_at_call 61; refine (bits_any _ _).mono ?_; rintro e w' ⟨rfl, rfl⟩)
    go_ret
    exact ⟨by simp [H.out], rfl⟩
  · have hz : ((cl a : Int) == (cl b : Int)) = false := by rw [beq_eq_false_iff_ne]; omega
    have H := hid h
    clear h
    go_enter Try.func127, Try.ntmps127
    go_wp2_with (go_at_call 61; refine (bits_any _ _).mono ?_; rintro e w' ⟨rfl, rfl⟩)
    go_ret
    exact ⟨by simp [H.out], rfl⟩

theorem bit_any (a b : Nat) (w : World) : Calls Try.prog 59 #[.float .f32 a, .float .f32 b] w fun e w' => e = .returned (.bool (cl a == cl b)) ∧ w = w' := by
  by_cases h : cl a = cl b
  · have hz : ((cl a : Int) == (cl b : Int)) = true := by simp [h]
    have H := hid h
    go_enter Try.func59, Try.ntmps59
    go_wp2_with (go_at_call 136; refine (bitsOf_any _ _).mono ?_; rintro e w' ⟨rfl, rfl⟩)
    go_ret
    exact ⟨by simp [H.out], rfl⟩
  · have hz : ((cl a : Int) == (cl b : Int)) = false := by rw [beq_eq_false_iff_ne]; omega
    have H := hid h
    clear h
    go_enter Try.func59, Try.ntmps59
    go_wp2_with (go_at_call 136; refine (bitsOf_any _ _).mono ?_; rintro e w' ⟨rfl, rfl⟩)
    go_ret
    exact ⟨by simp [H.out], rfl⟩

/-- The first place at which two rows differ, or their length. -/
theorem first_diff (F G : Nat → Nat) (n : Nat) : ∃ k, k ≤ n ∧ (∀ i, i < k → cl (F i) = cl (G i)) ∧ (k < n → cl (F k) ≠ cl (G k)) := by
  induction n with
  | zero => exact ⟨0, Nat.le_refl _, fun i h => absurd h (by omega), fun h => absurd h (by omega)⟩
  | succ n ih =>
    obtain ⟨k, h1, h2, h3⟩ := ih
    by_cases hk : k < n
    · exact ⟨k, by omega, h2, fun _ => h3 hk⟩
    · have : k = n := by omega
      subst this
      by_cases he : cl (F k) = cl (G k)
      · exact ⟨k + 1, Nat.le_refl _, fun i hi => by
          rcases Nat.lt_or_ge i k with h | h
          · exact h2 i h
          · have : i = k := by omega
            subst this; exact he, fun h => absurd h (by omega)⟩
      · exact ⟨k, by omega, h2, fun _ => he⟩

set_option maxRecDepth 100000 in
set_option maxHeartbeats 1000000 in
/-- EqualFunc over Same's function value: k is the first place that differs. -/
theorem equalIs_any (n c c2 k : Nat) (A B : Option Addr) (F G : Nat → Nat) (w : World) (hn : n ≤ 65536) (hF : Src w A n F) (hG : Src w B n G) (hk : k ≤ n) (h1 : ∀ i, i < k → cl (F i) = cl (G i)) (h2 : k < n → cl (F k) ≠ cl (G k)) :
    Calls Try.prog 126 #[.slice A n c, .slice B n c2, .func (.func 127) #[] #[]] w fun e w' => e = .returned (.bool (decide (k = n))) ∧ w = w' := by
  have HF := hid hF
  have HG := hid hG
  have H1 := hid h1
  have H2 := hid h2
  clear hF hG h1 h2
  go_enter Try.func126, Try.ntmps126
  go_wp2_with fail
  go_loop [17] (fun i => ∃ j : Nat, j ≤ k ∧ i = .int .i64 j) (fun i => n - (intOf i).toNat)
  case atStart => exact ⟨0, Nat.zero_le _, rfl⟩
  case round =>
    obtain ⟨j, hj, rfl⟩ := hrel
    by_cases hlt : j < n
    · obtain ⟨ba, oa, rfl, hba, hRa⟩ := HF.out (by omega)
      obtain ⟨bb, ob, rfl, hbb, hRb⟩ := HG.out (by omega)
      have s1 := hRa j hlt
      have s2 := hRb j hlt
      clear hRa hRb
      by_cases hjk : j < k
      · have hz : (cl (F j) == cl (G j)) = true := by simp [H1.out j hjk]
        go_wp2_with (go_at_call 127; refine (isSame_any _ _ _).mono ?_; rintro e w' ⟨rfl, rfl⟩)
        go_round
        case rel => exact ⟨j + 1, by omega, by go_num⟩
        case measure => simp [intOf]; omega
      · have hjk2 : j = k := by omega
        subst hjk2
        have hz : (cl (F j) == cl (G j)) = false := by simpa using H2.out hlt
        have hd : decide (j = n) = false := by simp; omega
        go_wp2_with (go_at_call 127; refine (isSame_any _ _ _).mono ?_; rintro e w' ⟨rfl, rfl⟩)
        go_ret
        refine ⟨?_, rfl⟩
        first | rfl | (rw [hd]; rfl)
    · have hjn : j = n := by omega
      have hkn : k = n := by omega
      have hd : decide (k = n) = true := by simp [hkn]
      go_wp2_with fail
      go_ret
      refine ⟨?_, rfl⟩
      first | rfl | (rw [hd]; rfl)
end Go.Proofs.Ytcklpmjeimjgmaa
