/-
  Cubes: sizes, numbers, and the error of a cube in the program.
-/
import Derived.Test.YthnbfllhmjpbjaaCNum
import Derived.Test.YthnbfllhmjpbjaaRatQ
namespace Go.Proofs.Ythnbfllhmjpbjaa
open Go.RowKit
attribute [local go_sem] run_store_float

abbrev cub (S : Int) (L H : Nat) (A : Option Addr) (n c : Nat) : Value := .agg #[.int .i64 S, .float .f32 L, .float .f32 H, .slice A n c]
abbrev arr (f : Nat → Nat) : Value := .agg #[.float .f32 (f 0), .float .f32 (f 1), .float .f32 (f 2)]
abbrev arrA (f : Nat → Nat) : Array Value := #[.float .f32 (f 0), .float .f32 (f 1), .float .f32 (f 2)]
abbrev ijk (i j k : Int) : Value := .agg #[.int .i64 i, .int .i64 j, .int .i64 k]

/-- May a cube have n entries a side? -/
def sizeB (S : Int) : Bool := decide (2 ≤ S ∧ S ≤ 17)
theorem sizeB_true {S : Int} : sizeB S = true ↔ 2 ≤ S ∧ S ≤ 17 := by simp [sizeB]
theorem sizeB_false {S : Int} : sizeB S = false ↔ S < 2 ∨ 17 < S := by simp [sizeB]; omega

theorem isSize_any (n : Int) (w : World) : Calls Try.prog 72 #[.int .i64 n] w fun e w' => e = .returned (.bool (sizeB n)) ∧ w = w' := by
  by_cases h1 : 2 ≤ n
  · by_cases h2 : n ≤ 17
    · go_enter Try.func72, Try.ntmps72
      go_wp2
      go_ret
      exact ⟨ret_bool (sizeB_true.2 ⟨h1, h2⟩).symm, rfl⟩
    · go_enter Try.func72, Try.ntmps72
      go_wp2
      go_ret
      exact ⟨ret_bool (sizeB_false.2 (by omega)).symm, rfl⟩
  · go_enter Try.func72, Try.ntmps72
    go_wp2
    go_ret
    exact ⟨ret_bool (sizeB_false.2 (by omega)).symm, rfl⟩

theorem fin_kind (b : Nat) : fin b = decide (kindC (b % 2147483648) < 3) := by
  unfold fin kindC
  generalize b % 2147483648 = r
  split
  · simp; omega
  · split
    · simp; omega
    · split
      · simp; omega
      · split <;> simp <;> omega

/-- Are the first n numbers? -/
def finAll (F : Nat → Nat) : Nat → Bool
  | 0 => true
  | n + 1 => finAll F n && fin (F n)
theorem finAll_no {F : Nat → Nat} {k : Nat} (h : fin (F k) = false) : ∀ n, k < n → finAll F n = false
  | 0, hk => by omega
  | n + 1, hk => by
    unfold finAll
    by_cases e : k = n
    · subst e; rw [h]; simp
    · rw [finAll_no h n (by omega)]; simp

set_option maxHeartbeats 1000000 in
theorem areNumbers_any (b off n c : Nat) (F : Nat → Nat) (w : World) (hn : n ≤ 4096) (hr : Rd w b off n F) :
    Calls Try.prog 73 #[.slice (some ⟨b, off, none⟩) n c] w fun e w' => e = .returned (.bool (finAll F n)) ∧ w = w' := by
  have HR := hid hr
  clear hr
  go_enter Try.func73, Try.ntmps73
  go_wp2
  go_loop [7] (fun i => ∃ k : Nat, k ≤ n ∧ i = .int .i64 k ∧ finAll F k = true) (fun i => n - (intOf i).toNat)
  case atStart => exact ⟨0, Nat.zero_le _, rfl, rfl⟩
  case round =>
    obtain ⟨k, hk, rfl, hf⟩ := hrel
    have HF := hid hf
    clear hf
    by_cases hlt : k < n
    · have hc := HR.out k hlt
      have e := fin_kind (F k)
      by_cases h3 : kindC (F k % 2147483648) < 3
      · have HE : RowKit.Hid (fin (F k) = true) := hid (by rw [e]; simpa using h3)
        clear e
        have h3' : ¬ 3 ≤ kindC (F k % 2147483648) := by omega
        clear h3
        go_wp2_with (go_at_call 124; refine (kind_any _ _).mono ?_; rintro e w' ⟨rfl, rfl⟩)
        go_round
        case rel => exact ⟨k + 1, by omega, by go_num, by unfold finAll; rw [HF.out, HE.out]; rfl⟩
        case measure => simp [intOf]; omega
      · have HE : RowKit.Hid (fin (F k) = false) := hid (by rw [e]; simpa using h3)
        clear e
        have h3' : 3 ≤ kindC (F k % 2147483648) := by omega
        clear h3
        go_wp2_with (go_at_call 124; refine (kind_any _ _).mono ?_; rintro e w' ⟨rfl, rfl⟩)
        go_ret
        exact ⟨ret_bool (finAll_no HE.out n hlt).symm, rfl⟩
    · obtain rfl : k = n := by omega
      go_wp2
      go_ret
      exact ⟨ret_bool HF.out.symm, rfl⟩

/-- The error of a cube. -/
def cubE (S : Int) (L H n : Nat) : Int :=
  if sizeB S = false then 3 else if ¬ (n : Int) = 3 * S * S * S then 2 else if (fin L && fin H) = false then 2
  else if (FloatKind.f32.format.order H L == some .gt) = false then 8
  else if (FloatKind.f32.format.order L 3380609024 == some .lt || FloatKind.f32.format.order H 1233125376 == some .gt) = true then 3 else 0

theorem cube_bd {S : Int} (h1 : 2 ≤ S) (h2 : S ≤ 17) : 6 ≤ 3 * S ∧ 3 * S ≤ 51 ∧ 12 ≤ 3 * S * S ∧ 3 * S * S ≤ 867 ∧ 24 ≤ 3 * S * S * S ∧ 3 * S * S * S ≤ 14739 := by
  have : S = 2 ∨ S = 3 ∨ S = 4 ∨ S = 5 ∨ S = 6 ∨ S = 7 ∨ S = 8 ∨ S = 9 ∨ S = 10 ∨ S = 11 ∨ S = 12 ∨ S = 13 ∨ S = 14 ∨ S = 15 ∨ S = 16 ∨ S = 17 := by omega
  rcases this with rfl | rfl | rfl | rfl | rfl | rfl | rfl | rfl | rfl | rfl | rfl | rfl | rfl | rfl | rfl | rfl <;> decide
end Go.Proofs.Ythnbfllhmjpbjaa
