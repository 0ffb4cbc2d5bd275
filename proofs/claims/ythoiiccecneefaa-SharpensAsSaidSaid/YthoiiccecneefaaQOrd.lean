/-
  Ordered, in the program and in the reference.
-/
import Derived.Test.YthoiiccecneefaaQHash
namespace Go.Proofs.Ythoiiccecneefaa
open Go.RowKit

def ob (x : Int) : Nat := (x % 8).toNat
theorem ob_lt (x : Int) : ob x < 8 := by unfold ob; omega
theorem ob_int (x : Int) : (ob x : Int) = x % 8 := by unfold ob; omega

theorem and7_eq (x : Int) : bits .and .i64 x 7 = (ob x : Int) := by
  have e : bits .and .i64 x 7 = IntKind.i64.wrap ((BitVec.ofInt 64 x &&& BitVec.ofInt 64 7).toNat : Int) := rfl
  have h : (BitVec.ofInt 64 x &&& BitVec.ofInt 64 7).toNat = (BitVec.ofInt 64 x).toNat % 8 := by
    rw [BitVec.toNat_and]
    exact Nat.and_two_pow_sub_one_eq_mod _ 3
  have h2 : (BitVec.ofInt 64 x).toNat = (x % 18446744073709551616).toNat := by rw [BitVec.toNat_ofInt]; rfl
  rw [e, h, h2, IntKind.wrap_i64]
  unfold ob
  omega

/-- The first k pairs of bits. -/
def oC (a b : Nat) : Nat → Int
  | 0 => 0
  | k + 1 => oC a b k * 4 + (if (a ^^^ b) / 2 ^ k % 2 = 1 then 2 else 0) + (if b / 2 ^ k % 2 = 1 then 1 else 0)
def ordC (x y : Int) : Int := oC (ob x) (ob y) 3

theorem xb_all : ∀ a b : Fin 8, ∀ k : Fin 3, (bits .and .i64 (bits .xor .i64 (a.val : Int) (b.val : Int)) ((2 ^ k.val : Nat) : Int) != 0) = decide ((a.val ^^^ b.val) / 2 ^ k.val % 2 = 1) := by decide +kernel
theorem yb_all : ∀ b : Fin 8, ∀ k : Fin 3, (bits .and .i64 (b.val : Int) ((2 ^ k.val : Nat) : Int) != 0) = decide (b.val / 2 ^ k.val % 2 = 1) := by decide +kernel
theorem xb {a b k : Nat} (ha : a < 8) (hb : b < 8) (hk : k < 3) : (bits .and .i64 (bits .xor .i64 (a : Int) (b : Int)) ((2 ^ k : Nat) : Int) != 0) = decide ((a ^^^ b) / 2 ^ k % 2 = 1) := xb_all ⟨a, ha⟩ ⟨b, hb⟩ ⟨k, hk⟩
theorem yb {b k : Nat} (hb : b < 8) (hk : k < 3) : (bits .and .i64 (b : Int) ((2 ^ k : Nat) : Int) != 0) = decide (b / 2 ^ k % 2 = 1) := yb_all ⟨b, hb⟩ ⟨k, hk⟩
theorem xs_all : ∀ a b : Fin 8, ∀ k : Fin 3, 2 * bits .and .i64 (bits .xor .i64 (a.val : Int) (b.val : Int) / ((2 ^ k.val : Nat) : Int)) 1 = (if (a.val ^^^ b.val) / 2 ^ k.val % 2 = 1 then 2 else 0) := by decide +kernel
theorem ys_all : ∀ b : Fin 8, ∀ k : Fin 3, bits .and .i64 ((b.val : Int) / ((2 ^ k.val : Nat) : Int)) 1 = (if b.val / 2 ^ k.val % 2 = 1 then 1 else 0) := by decide +kernel
theorem xs {a b k : Nat} (ha : a < 8) (hb : b < 8) (hk : k < 3) : 2 * bits .and .i64 (bits .xor .i64 (a : Int) (b : Int) / ((2 ^ k : Nat) : Int)) 1 = (if (a ^^^ b) / 2 ^ k % 2 = 1 then 2 else 0) := xs_all ⟨a, ha⟩ ⟨b, hb⟩ ⟨k, hk⟩
theorem ys {b k : Nat} (hb : b < 8) (hk : k < 3) : bits .and .i64 ((b : Int) / ((2 ^ k : Nat) : Int)) 1 = (if b / 2 ^ k % 2 = 1 then 1 else 0) := ys_all ⟨b, hb⟩ ⟨k, hk⟩
theorem oC_bound (a b : Nat) : ∀ k, k ≤ 3 → 0 ≤ oC a b k ∧ oC a b k < 64
  | 0, _ => by simp [oC]
  | 1, _ => by simp only [oC]; constructor <;> (split <;> split <;> decide)
  | 2, _ => by simp only [oC]; constructor <;> (split <;> split <;> split <;> split <;> decide)
  | 3, _ => by simp only [oC]; constructor <;> (split <;> split <;> split <;> split <;> split <;> split <;> decide)
  | k + 4, h => absurd h (by omega)
theorem oC_step {a b k : Nat} {P Q : Bool} (hp : decide ((a ^^^ b) / 2 ^ k % 2 = 1) = P) (hq : decide (b / 2 ^ k % 2 = 1) = Q) : oC a b (k + 1) = oC a b k * 4 + (if P = true then 2 else 0) + (if Q = true then 1 else 0) := by
  subst hp hq; simp [oC]

set_option maxRecDepth 100000 in
theorem ordered_any (x y : Int) (w : World) : Calls Try.prog 101 #[.int .i64 x, .int .i64 y] w fun e w' => e = .returned (.int .i64 (ordC x y)) ∧ w = w' := by
  have ex := and7_eq x
  have ey := and7_eq y
  have HA := hid (ob_lt x)
  have HB := hid (ob_lt y)
  unfold ordC
  generalize ob x = a at *
  generalize ob y = b at *
  go_enter Try.func101, Try.ntmps101
  go_wp2
  go_loopw [7, 8] (fun n i wr => ∃ k : Nat, k ≤ 3 ∧ n = .int .i64 (oC a b k) ∧ i = .int .i64 ((2 ^ k : Nat) : Int) ∧ wr = w) (fun _ i _ => 8 - (intOf i).toNat)
  case atStart => exact ⟨0, by omega, rfl, rfl, rfl⟩
  case round =>
    obtain ⟨k, hk, rfl, rfl, rfl⟩ := hrel
    clear ex ey
    have hk' : k < 3 ∨ k = 3 := by omega
    rcases hk' with hlt | rfl
    · have h1 := xb HA.out HB.out hlt
      have h2 := yb HB.out hlt
      cases hp : decide ((a ^^^ b) / 2 ^ k % 2 = 1) <;> cases hq : decide (b / 2 ^ k % 2 = 1) <;>
        (have HS := hid (oC_step hp hq)
         have HBD := oC_bound a b k hk
         rw [hp] at h1
         rw [hq] at h2
         have hk3 : k = 0 ∨ k = 1 ∨ k = 2 := by omega
         clear hp hq
         generalize oC a b k = n0 at *
         obtain ⟨hb1, hb2⟩ := HBD
         rcases hk3 with rfl | rfl | rfl <;>
         (simp only [Nat.pow_zero, Nat.reducePow, Nat.pow_one] at h1 h2
          push_cast at h1 h2
          go_wp2
          go_roundw
          case rel => exact ⟨_, hlt, by rw [HS.out]; simp, by simp, by first | rfl | trivial⟩
          case measure => simp [intOf]))
    · go_wp2
      go_ret
      exact ⟨rfl, rfl⟩

theorem mod8 (x : Int) : Int.tmod (Int.tmod x 8 + 8) 8 = (ob x : Int) := by
  rw [ob_int]
  have h1 := Int.tmod_lt_of_pos x (by decide : (0 : Int) < 8)
  have h2 : -8 < Int.tmod x 8 := Int.lt_tmod_of_pos x (by decide)
  have h3 := Int.mul_tdiv_add_tmod x 8
  rw [Int.tmod_eq_emod_of_nonneg (by omega)]
  omega

set_option maxRecDepth 100000 in
theorem orderedOf_any (x y : Int) (w : World) : Calls Try.prog 125 #[.int .i64 x, .int .i64 y] w fun e w' => e = .returned (.int .i64 (ordC x y)) ∧ ∃ n, w' = w.drewN n := by
  have ex := mod8 x
  have ey := mod8 y
  have hx1 := Int.tmod_lt_of_pos x (by decide : (0 : Int) < 8)
  have hx2 : -8 < Int.tmod x 8 := Int.lt_tmod_of_pos x (by decide)
  have hy1 := Int.tmod_lt_of_pos y (by decide : (0 : Int) < 8)
  have hy2 : -8 < Int.tmod y 8 := Int.lt_tmod_of_pos y (by decide)
  have HA := hid (ob_lt x)
  have HB := hid (ob_lt y)
  unfold ordC
  generalize ob x = a at *
  generalize ob y = b at *
  go_enter Try.func125, Try.ntmps125
  go_wp2
  go_loopw [7, 17] (fun n i wr => ∃ k : Nat, k ≤ 3 ∧ n = .int .i64 (oC a b k) ∧ i = .int .i64 k ∧ ∃ m, wr = w.drewN m) (fun _ i _ => 3 - (intOf i).toNat)
  case atStart => exact ⟨0, by omega, rfl, rfl, 0, rfl⟩
  case round =>
    obtain ⟨k, hk, rfl, rfl, m, rfl⟩ := hrel
    clear ex ey hx1 hx2 hy1 hy2
    have hk' : k < 3 ∨ k = 3 := by omega
    rcases hk' with hlt | rfl
    · have h1 := xs HA.out HB.out hlt
      have h2 := ys HB.out hlt
      have HS : RowKit.Hid (oC a b (k + 1) = oC a b k * 4 + (if (a ^^^ b) / 2 ^ k % 2 = 1 then 2 else 0) + (if b / 2 ^ k % 2 = 1 then 1 else 0)) := rfl
      have HBD := oC_bound a b k hk
      generalize oC a b k = n0 at *
      have hu : (if (a ^^^ b) / 2 ^ k % 2 = 1 then (2 : Int) else 0) = 2 ∨ (if (a ^^^ b) / 2 ^ k % 2 = 1 then (2 : Int) else 0) = 0 := by split <;> simp
      have hv : (if b / 2 ^ k % 2 = 1 then (1 : Int) else 0) = 1 ∨ (if b / 2 ^ k % 2 = 1 then (1 : Int) else 0) = 0 := by split <;> simp
      generalize (if (a ^^^ b) / 2 ^ k % 2 = 1 then (2 : Int) else 0) = U at *
      generalize (if b / 2 ^ k % 2 = 1 then (1 : Int) else 0) = V at *
      obtain ⟨hb1, hb2⟩ := HBD
      have hk3 : k = 0 ∨ k = 1 ∨ k = 2 := by omega
      rcases hk3 with rfl | rfl | rfl <;>
      (simp only [Nat.pow_zero, Nat.reducePow, Nat.pow_one] at h1 h2
       push_cast at h1 h2
       go_wp2
       go_region
       go_wp2
       go_roundw
       case rel => exact ⟨_, hlt, by
         first
           | (rw [HS.out]; done)
           | (rw [HS.out]
              simp only [Int.ediv_one] at h1 h2
              simp only [h1, h2]
              congr 1
              simp only [wrap64]
              omega), by simp, _, rfl⟩
       case measure => simp [intOf])
    · go_wp2
      go_ret
      exact ⟨rfl, _, rfl⟩
end Go.Proofs.Ythoiiccecneefaa
