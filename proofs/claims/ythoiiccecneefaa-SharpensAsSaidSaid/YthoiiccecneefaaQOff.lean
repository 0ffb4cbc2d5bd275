/-
  Offsets, and the law's small functions.
-/
import Derived.Test.YthoiiccecneefaaQLev
namespace Go.Proofs.Ythoiiccecneefaa
open Go.RowKit
open Ieee (Datum Format signed)

def inB (n low high : Int) : Bool := decide (low ≤ n) && decide (n ≤ high)

theorem in_any (n low high : Int) (w : World) : Calls Try.prog 46 #[.int .i64 n, .int .i64 low, .int .i64 high] w fun e w' => e = .returned (.bool (inB n low high)) ∧ w = w' := by
  by_cases h1 : low ≤ n
  · by_cases h2 : n ≤ high
    · have hq : inB n low high = true := by unfold inB; rw [decide_eq_true h1, decide_eq_true h2]; rfl
      have HQ := hid hq; clear hq
      go_enter Try.func46, Try.ntmps46
      go_wp2
      go_ret
      exact ⟨by rw [HQ.out]; rfl, rfl⟩
    · have hq : inB n low high = false := by unfold inB; rw [decide_eq_false h2, Bool.and_false]
      have HQ := hid hq; clear hq
      go_enter Try.func46, Try.ntmps46
      go_wp2
      go_ret
      exact ⟨by rw [HQ.out]; rfl, rfl⟩
  · have hq : inB n low high = false := by unfold inB; rw [decide_eq_false h1, Bool.false_and]
    have HQ := hid hq; clear hq
    go_enter Try.func46, Try.ntmps46
    go_wp2
    go_ret
    exact ⟨by rw [HQ.out]; rfl, rfl⟩
theorem in_yes (n low high : Int) (h1 : low ≤ n) (h2 : n ≤ high) (w : World) : Calls Try.prog 46 #[.int .i64 n, .int .i64 low, .int .i64 high] w fun e w' => e = .returned (.bool true) ∧ w = w' :=
  (in_any n low high w).mono fun _ _ ⟨he, hw⟩ => ⟨by rw [he]; unfold inB; rw [decide_eq_true h1, decide_eq_true h2]; rfl, hw⟩
theorem in_no (n low high : Int) (h : n < low ∨ high < n) (w : World) : Calls Try.prog 46 #[.int .i64 n, .int .i64 low, .int .i64 high] w fun e w' => e = .returned (.bool false) ∧ w = w' :=
  (in_any n low high w).mono fun _ _ ⟨he, hw⟩ => ⟨by
    rw [he]; unfold inB
    rcases h with h | h
    · rw [decide_eq_false (p := low ≤ n) (by omega)]; rfl
    · rw [decide_eq_false (p := n ≤ high) (by omega), Bool.and_false], hw⟩

theorem same_yes (a b : Nat) (h : a = b) (w : World) : Calls Try.prog 76 #[.float .f32 a, .float .f32 b] w fun e w' => e = .returned (.bool true) ∧ w = w' := by
  subst h
  go_enter Try.func76, Try.ntmps76
  go_wp2
  go_ret
  exact ⟨rfl, rfl⟩

theorem half_lv : lvC 1056964608 0 8 = 128 := by decide +kernel
theorem finishes_any (w : World) : Calls Try.prog 20 #[] w fun e w' => e = .returned (.bool true) ∧ ∃ n, w' = w.drewN n := by
  have hl : ∀ w, Calls Try.prog 56 #[.float .f32 1056964608, .float .f32 0, .int .i64 8] w fun e w' => e = .returned (.tuple #[.int .i64 128, .int .i64 0]) ∧ ∃ n, w' = w.drewN n := fun w => by
    have := level_ok 1056964608 0 8 (by omega) w
    rw [half_lv] at this
    exact this
  go_enter Try.func20, Try.ntmps20
  go_wp2_with (go_at_call 56; refine (hl _).mono ?_; rintro e w' ⟨rfl, n1, rfl⟩)
  go_ret
  exact ⟨rfl, _, rfl⟩

/-- The offset of DitherOrdered, of t from 0 to 63. -/
def odC (t : Nat) : Nat := cop .sub .f32 (cop .quo .f32 (cop .add .f32 (floatOfInt .f32 t) 1056964608) 1115684864) 1056964608
theorem od_all : ∀ t : Fin 64, (floatBits .add .f32 (floatOfInt .f32 (t.val : Int)) 1056964608).isSome = true ∧ (floatBits .quo .f32 (cop .add .f32 (floatOfInt .f32 (t.val : Int)) 1056964608) 1115684864).isSome = true ∧ (floatBits .sub .f32 (cop .quo .f32 (cop .add .f32 (floatOfInt .f32 (t.val : Int)) 1056964608) 1115684864) 1056964608).isSome = true := by decide +kernel
theorem some_cop {op : BinOp} {k : FloatKind} {x y : Nat} (h : (floatBits op k x y).isSome = true) : floatBits op k x y = some (cop op k x y) := by
  obtain ⟨r, hr⟩ := Option.isSome_iff_exists.1 h
  rw [cop_some hr, hr]
theorem ordC_nat (x y : Int) : ∃ t : Nat, ordC x y = (t : Int) ∧ t < 64 := by
  obtain ⟨h1, h2⟩ := oC_bound (ob x) (ob y) 3 (Nat.le_refl _)
  exact ⟨(ordC x y).toNat, by unfold ordC; omega, by unfold ordC; omega⟩
theorem unitC_not_nan (h : Int) : isN .f32 (unitC h) = false := floatBits_not_nan (unit_facts h).1

/-- The offset. -/
def ofC (how s x y n : Int) : Nat := if how = 1 then odC (ordC x y).toNat else if how = 2 then cop .sub .f32 (unitC (hashC s x y n)) 1056964608 else 0
theorem ofC_0 (s x y n : Int) : ofC 0 s x y n = 0 := rfl
theorem ofC_1 (s x y n : Int) : ofC 1 s x y n = odC (ordC x y).toNat := rfl
theorem ofC_2 (s x y n : Int) : ofC 2 s x y n = cop .sub .f32 (unitC (hashC s x y n)) 1056964608 := rfl

theorem offset_bad (how s x y n : Int) (h : ¬ (0 ≤ how ∧ how ≤ 2)) (w : World) : Calls Try.prog 52 #[.int .i64 how, .int .u32 s, .int .i64 x, .int .i64 y, .int .i64 n] w fun e w' => e = .returned (.tuple #[.float .f32 0, .int .i64 1]) ∧ w = w' := by
  have h0 : ¬ how = 0 := by omega
  have h1 : ¬ how = 1 := by omega
  have h2 : ¬ how = 2 := by omega
  clear h
  go_enter Try.func52, Try.ntmps52
  go_wp2
  go_ret2
  exact ⟨rfl, rfl⟩

set_option maxRecDepth 100000 in
theorem offset_ok (how s x y n : Int) (h : 0 ≤ how ∧ how ≤ 2) (w : World) : Calls Try.prog 52 #[.int .i64 how, .int .u32 s, .int .i64 x, .int .i64 y, .int .i64 n] w fun e w' => e = .returned (.tuple #[.float .f32 (ofC how s x y n), .int .i64 0]) ∧ Below w.heap.size w w' := by
  have h3 : how = 0 ∨ how = 1 ∨ how = 2 := by omega
  rcases h3 with rfl | rfl | rfl
  · rw [ofC_0]
    clear h
    go_enter Try.func52, Try.ntmps52
    go_wp2
    go_ret2
    exact ⟨rfl, Below.refl _ _⟩
  · obtain ⟨t, ht, hlt⟩ := ordC_nat x y
    rw [ofC_1, ht]
    have hz := od_all ⟨t, hlt⟩
    have f1 := fun w => fopv (some_cop hz.1) w
    have f2 := fdrv (some_cop hz.1)
    have f3 := fun w => fopv (some_cop hz.2.1) w
    have f4 := fdrv (some_cop hz.2.1)
    have f5 := fun w => fopv (some_cop hz.2.2) w
    have f6 := fdrv (some_cop hz.2.2)
    have HO : ∀ w, Calls Try.prog 101 #[.int .i64 x, .int .i64 y] w fun e w' => e = .returned (.int .i64 t) ∧ w = w' := fun w => by
      have := ordered_any x y w
      rw [ht] at this
      exact this
    clear h hz
    go_enter Try.func52, Try.ntmps52
    go_wp2_with (go_at_call 101; refine (HO _).mono ?_; rintro e w' ⟨rfl, rfl⟩)
    go_ret2
    exact ⟨rfl, Below.refl _ _⟩
  · rw [ofC_2]
    have hs := sub_half_some (unitC_not_nan (hashC s x y n))
    have f1 := fun w => fopv hs w
    have f2 := fdrv hs
    clear h hs
    go_enter Try.func52, Try.ntmps52
    go_wp2_with (first | (go_at_call 103; refine (hashn_any _ _ _ _ _).mono ?_; rintro e w1 ⟨rfl, hb1⟩) | (go_at_call 102; refine (unit_any _ _).mono ?_; rintro e w' ⟨rfl, rfl⟩))
    go_ret2
    exact ⟨rfl, hb1⟩

set_option maxRecDepth 100000 in
theorem offsetOf_any (how s x y n : Int) (h : 0 ≤ how ∧ how ≤ 2) (w : World) : Calls Try.prog 99 #[.int .i64 how, .int .u32 s, .int .i64 x, .int .i64 y, .int .i64 n] w fun e w' => e = .returned (.float .f32 (ofC how s x y n)) ∧ Below w.heap.size w w' := by
  have h3 : how = 0 ∨ how = 1 ∨ how = 2 := by omega
  rcases h3 with rfl | rfl | rfl
  · rw [ofC_0]
    clear h
    go_enter Try.func99, Try.ntmps99
    go_wp2
    go_ret
    exact ⟨rfl, Below.refl _ _⟩
  · obtain ⟨t, ht, hlt⟩ := ordC_nat x y
    rw [ofC_1, ht]
    have hz := od_all ⟨t, hlt⟩
    have f1 := fun w => fopv (some_cop hz.1) w
    have f2 := fdrv (some_cop hz.1)
    have f3 := fun w => fopv (some_cop hz.2.1) w
    have f4 := fdrv (some_cop hz.2.1)
    have f5 := fun w => fopv (some_cop hz.2.2) w
    have f6 := fdrv (some_cop hz.2.2)
    have HO : ∀ w, Calls Try.prog 125 #[.int .i64 x, .int .i64 y] w fun e w' => e = .returned (.int .i64 t) ∧ ∃ n, w' = w.drewN n := fun w => by
      have := orderedOf_any x y w
      rw [ht] at this
      exact this
    clear h hz
    go_enter Try.func99, Try.ntmps99
    go_wp2_with (go_at_call 125; refine (HO _).mono ?_; rintro e w' ⟨rfl, n1, rfl⟩)
    go_ret
    exact ⟨rfl, below_drewN (Below.refl _ _) _⟩
  · rw [ofC_2]
    have hs := sub_half_some (unitC_not_nan (hashC s x y n))
    have f1 := fun w => fopv hs w
    have f2 := fdrv hs
    clear h hs
    go_enter Try.func99, Try.ntmps99
    go_wp2_with (first | (go_at_call 78; refine (hashr_any _ _ _ _ _).mono ?_; rintro e w1 ⟨rfl, hb1⟩) | (go_at_call 77; refine (unitOf_any _ _).mono ?_; rintro e w' ⟨rfl, rfl⟩))
    go_ret
    exact ⟨rfl, hb1⟩
end Go.Proofs.Ythoiiccecneefaa
