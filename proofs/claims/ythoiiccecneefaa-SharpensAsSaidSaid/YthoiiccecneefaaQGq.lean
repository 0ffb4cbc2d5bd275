/-
  Quotients rounded down, in the program and in the reference.
-/
import Derived.Test.YthoiiccecneefaaQHash
namespace Go.Proofs.Ythoiiccecneefaa
open Go.RowKit

theorem quo_uniq {b u r : Int} (hb : 0 < b) (h0 : 0 ≤ r) (h1 : r < b) : (b * u + r) / b = u := by
  rw [Int.add_comm, Int.add_mul_ediv_left _ _ (by omega), Int.ediv_eq_zero_of_lt h0 h1]
  simp
theorem quo_bound {n b : Int} (b1 : 1 ≤ b) (b2 : b ≤ 16) (n1 : -1048576 ≤ n) (n2 : n ≤ 1048576) : -1048576 ≤ n / b ∧ n / b ≤ 1048576 := by
  have h : b = 1 ∨ b = 2 ∨ b = 3 ∨ b = 4 ∨ b = 5 ∨ b = 6 ∨ b = 7 ∨ b = 8 ∨ b = 9 ∨ b = 10 ∨ b = 11 ∨ b = 12 ∨ b = 13 ∨ b = 14 ∨ b = 15 ∨ b = 16 := by omega
  rcases h with rfl | rfl | rfl | rfl | rfl | rfl | rfl | rfl | rfl | rfl | rfl | rfl | rfl | rfl | rfl | rfl <;> omega
theorem tdiv_cases {n b : Int} (b1 : 1 ≤ b) : (0 ≤ Int.tmod n b ∧ Int.tdiv n b = n / b) ∨ (Int.tmod n b < 0 ∧ Int.tdiv n b = n / b + 1) := by
  have hE := Int.mul_tdiv_add_tmod n b
  have hL := Int.tmod_lt_of_pos n (show 0 < b by omega)
  have hM := Int.lt_tmod_of_pos n (show 0 < b by omega)
  by_cases h : Int.tmod n b < 0
  · right
    refine ⟨h, ?_⟩
    have h2 := quo_uniq (b := b) (u := Int.tdiv n b - 1) (r := Int.tmod n b + b) (by omega) (by omega) (by omega)
    rw [show b * (Int.tdiv n b - 1) + (Int.tmod n b + b) = n by rw [Int.mul_sub]; omega] at h2
    omega
  · left
    refine ⟨by omega, ?_⟩
    have h2 := quo_uniq (b := b) (u := Int.tdiv n b) (r := Int.tmod n b) (by omega) (by omega) hL
    rw [hE] at h2
    exact h2.symm

set_option maxRecDepth 100000 in
theorem quotient_any (n b : Int) (w : World) (b1 : 1 ≤ b) (b2 : b ≤ 16) (n1 : -1048576 ≤ n) (n2 : n ≤ 1048576) :
    Calls Try.prog 116 #[.int .i64 n, .int .i64 b] w fun e w' => e = .returned (.int .i64 (n / b)) ∧ w = w' := by
  have z0 : (b == 0) = false := by rw [beq_eq_false_iff_ne]; omega
  obtain ⟨q1, q2⟩ := quo_bound b1 b2 n1 n2
  rcases tdiv_cases (n := n) b1 with ⟨h, he⟩ | ⟨h, he⟩
  · have HQ : RowKit.Hid (n / b = Int.tdiv n b) := hid (by omega)
    have t1 : -1048577 ≤ Int.tdiv n b := by omega
    have t2 : Int.tdiv n b ≤ 1048577 := by omega
    have t3 : ¬ Int.tmod n b < 0 := by omega
    clear he
    go_enter Try.func116, Try.ntmps116
    go_wp2_with fail
    go_ret
    exact ⟨by rw [HQ.out]; rfl, rfl⟩
  · have HQ : RowKit.Hid (n / b = Int.tdiv n b - 1) := hid (by omega)
    have t1 : -1048577 ≤ Int.tdiv n b := by omega
    have t2 : Int.tdiv n b ≤ 1048577 := by omega
    clear he
    go_enter Try.func116, Try.ntmps116
    go_wp2_with fail
    go_ret
    exact ⟨by rw [HQ.out]; rfl, rfl⟩

set_option maxRecDepth 100000 in
theorem floorOver_any (n b : Int) (w : World) (b1 : 1 ≤ b) (b2 : b ≤ 16) (n1 : -1048576 ≤ n) (n2 : n ≤ 1048576) :
    Calls Try.prog 79 #[.int .i64 n, .int .i64 b] w fun e w' => e = .returned (.int .i64 (n / b)) ∧ w = w' := by
  have z0 : (b == 0) = false := by rw [beq_eq_false_iff_ne]; omega
  obtain ⟨q1, q2⟩ := quo_bound b1 b2 n1 n2
  have hE := Int.mul_tdiv_add_tmod n b
  have hL := Int.tmod_lt_of_pos n (show 0 < b by omega)
  have hM := Int.lt_tmod_of_pos n (show 0 < b by omega)
  rw [Int.mul_comm] at hE
  obtain ⟨m, hm⟩ : ∃ m, m = Int.tdiv n b * b := ⟨_, rfl⟩
  rw [← hm] at hE
  have m1 : -2097152 ≤ m := by omega
  have m2 : m ≤ 2097152 := by omega
  rcases tdiv_cases (n := n) b1 with ⟨h, he⟩ | ⟨h, he⟩
  · have HQ : RowKit.Hid (n / b = Int.tdiv n b) := hid (by omega)
    have t1 : -1048577 ≤ Int.tdiv n b := by omega
    have t2 : Int.tdiv n b ≤ 1048577 := by omega
    have c1 : ¬ n < m := by omega
    have hm' := hm.symm
    clear he hm
    go_enter Try.func79, Try.ntmps79
    go_wp2_with fail
    go_ret
    exact ⟨by rw [HQ.out]; rfl, rfl⟩
  · have HQ : RowKit.Hid (n / b = Int.tdiv n b - 1) := hid (by omega)
    have t1 : -1048577 ≤ Int.tdiv n b := by omega
    have t2 : Int.tdiv n b ≤ 1048577 := by omega
    have c1 : n < m := by omega
    have hm' := hm.symm
    clear he hm
    go_enter Try.func79, Try.ntmps79
    go_wp2_with fail
    go_ret
    exact ⟨by rw [HQ.out]; rfl, rfl⟩
end Go.Proofs.Ythoiiccecneefaa
