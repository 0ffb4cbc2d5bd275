/-
  Cubes: the order of shares, in the program.
-/
import Derived.Test.YthnbfllhmjpbjaaKSort
import Derived.Test.YthnbfllhmjpbjaaKEach
namespace Go.Proofs.Ythnbfllhmjpbjaa
open Go.RowKit
attribute [local go_sem] run_store_float

/-- Three values, Clean of which are g. -/
def Gave3 (w : World) (g : Nat → Nat) (e : Ending) (w' : World) : Prop := ∃ f, e = .returned (arr f) ∧ (∀ i, i < 3 → cl (f i) = g i) ∧ Below w.heap.size w w'
def cmpC (p q : Nat) : Int := if (FloatKind.f32.format.order p q == some .lt) = true then -1 else if (FloatKind.f32.format.order p q == some .gt) = true then 1 else 0

theorem isNaN_any (x : Nat) (h : isN .f32 x = false) (w : World) : Calls Try.prog 143 #[.float .f32 x] w fun e w' => e = .returned (.bool false) ∧ w = w' := by
  have h1 := ne_self .f32 x
  rw [h] at h1
  clear h
  go_enter Try.func143, Try.ntmps143
  go_wp2
  go_ret
  exact ⟨rfl, rfl⟩

theorem compare_any (p q : Nat) (hp : isN .f32 p = false) (hq : isN .f32 q = false) (w : World) : Calls Try.prog 120 #[.float .f32 p, .float .f32 q] w fun e w' => e = .returned (.int .i64 (cmpC p q)) ∧ w = w' := by
  have HP := hid hp
  have HQ := hid hq
  clear hp hq
  cases h1 : FloatKind.f32.format.order p q == some .lt
  · cases h2 : FloatKind.f32.format.order p q == some .gt
    · have hq : cmpC p q = 0 := by unfold cmpC; rw [if_neg (by simp [h1]), if_neg (by simp [h2])]
      have H := hid hq; clear hq
      go_enter Try.func120, Try.ntmps120
      go_wp2_with fail
      refine (isNaN_any p HP.out _).mono ?_; rintro e w' ⟨rfl, rfl⟩
      go_wp2_with fail
      refine (isNaN_any q HQ.out _).mono ?_; rintro e w' ⟨rfl, rfl⟩
      go_wp2
      go_ret
      exact ⟨ret_int H.out.symm, rfl⟩
    · have hq : cmpC p q = 1 := by unfold cmpC; rw [if_neg (by simp [h1]), if_pos h2]
      have H := hid hq; clear hq
      go_enter Try.func120, Try.ntmps120
      go_wp2_with fail
      refine (isNaN_any p HP.out _).mono ?_; rintro e w' ⟨rfl, rfl⟩
      go_wp2_with fail
      refine (isNaN_any q HQ.out _).mono ?_; rintro e w' ⟨rfl, rfl⟩
      go_wp2
      go_ret
      exact ⟨ret_int H.out.symm, rfl⟩
  · have hq : cmpC p q = -1 := by unfold cmpC; rw [if_pos h1]
    have H := hid hq; clear hq
    go_enter Try.func120, Try.ntmps120
    go_wp2_with fail
    refine (isNaN_any p HP.out _).mono ?_; rintro e w' ⟨rfl, rfl⟩
    go_wp2_with fail
    refine (isNaN_any q HQ.out _).mono ?_; rintro e w' ⟨rfl, rfl⟩
    go_wp2
    go_ret
    exact ⟨ret_int H.out.symm, rfl⟩

/-- Where a colour lies: its cell, its shares. -/
abbrev spotA (a x : Nat → Nat) : Array Value := #[.int .i64 (a 0 : Nat), .int .i64 (a 1 : Nat), .int .i64 (a 2 : Nat), .float .f32 (x 0), .float .f32 (x 1), .float .f32 (x 2)]
theorem spot_share {w : World} {b : Nat} {a x : Nat → Nat} (h : Blk w b 140 (spotA a x)) (i : Nat) (hi : i < 3) : w.cell? ⟨b, 3 + i, none⟩ = some (.float .f32 (x i)) := by
  have := Blk.cell h (3 + i)
  have h3 : i = 0 ∨ i = 1 ∨ i = 2 := by omega
  rcases h3 with rfl | rfl | rfl <;> simpa using this

set_option maxHeartbeats 1000000 in
theorem cmp_any (b : Nat) (a x : Nat → Nat) (i j : Nat) (w : World) (hb : Blk w b 140 (spotA a x)) (hi : i < 3) (hj : j < 3) (hx : ∀ k, k < 3 → isN .f32 (x k) = false) :
    Calls Try.prog 119 #[.int .i64 i, .int .i64 j, .pointer (some ⟨b, 0, none⟩)] w fun e w' => e = .returned (.int .i64 (cmpC (x j) (x i))) ∧ ∃ n, w' = w.drewN n := by
  have ci := spot_share hb i hi
  have cj := spot_share hb j hj
  have HI := hid (hx i hi)
  have HJ := hid (hx j hj)
  have i2 : (i : Int) < 3 := by omega
  have j2 : (j : Int) < 3 := by omega
  clear hb hx hi hj
  go_enter Try.func119, Try.ntmps119
  go_wp2
  go_quiet ((go_at_call 120; exact Calls.quiet_of_same ((compare_any _ _ HJ.out HI.out _).mono fun _ _ h => ⟨h.1, h.2.symm⟩)))
  go_wp2
  go_ret
  exact ⟨rfl, _, rfl⟩
end Go.Proofs.Ythnbfllhmjpbjaa
