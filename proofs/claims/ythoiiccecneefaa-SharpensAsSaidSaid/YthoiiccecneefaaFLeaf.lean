/-
  Contracts of the small functions on singles that the laws of frames reach: bits, Clean, Fix, exact, landed.
-/
import Derived.Test.YthoiiccecneefaaRows
import Derived.Test.YthoiiccecneefaaFlo
import Derived.Handy
namespace Go.Proofs.Ythoiiccecneefaa
open Go.RowKit

@[go_sem] theorem cf_from32 (n : Int) (w : World) : (callFunc 120 #[.int .u32 n]).run Try.prog w = .ok (.value (.float .f32 n.toNat)) w :=
  (run_callFunc_extern (e := Extern.MathFloatBits.float32frombits) Try.func120 (by kernel_rfl) (by kernel_rfl) (by kernel_rfl) (by kernel_rfl) _ w).trans rfl
@[go_sem] theorem cf_bits32 (b : Nat) (w : World) : (callFunc 81 #[.float .f32 b]).run Try.prog w = .ok (.value (.int .u32 b)) w :=
  (run_callFunc_extern (e := Extern.MathFloatBits.float32bits) Try.func81 (by kernel_rfl) (by kernel_rfl) (by kernel_rfl) (by kernel_rfl) _ w).trans rfl

theorem below_drewN {B : Nat} {a w : World} (h : Below B a w) (n : Nat) : Below B a (w.drewN n) := ⟨h.os, h.tape, h.output, h.size, h.block⟩
theorem bcell {W w1 : World} (hb : Below W.heap.size W w1) : (∀ b o, b < W.heap.size → w1.cell? ⟨b, o, none⟩ = W.cell? ⟨b, o, none⟩) ∧ (∀ b o, b < W.heap.size → w1.frozen? ⟨b, o, none⟩ = W.frozen? ⟨b, o, none⟩) :=
  ⟨fun b o h => hb.cell (p := ⟨b, o, none⟩) h, fun b o h => hb.frozen (p := ⟨b, o, none⟩) h⟩

/-- Clean of the bits of a single. -/
def cl (b : Nat) : Nat := cn .f32 b
theorem cl_cl (b : Nat) : cl (cl b) = cl b := cn_cn ..

theorem theNaN_any (w : World) : Calls Try.prog 92 #[] w fun e w' => e = .returned (.float .f32 2143289344) ∧ w = w' := by
  go_enter Try.func92, Try.ntmps92
  go_wp2
  go_ret
  exact ⟨rfl, rfl⟩

theorem clean_any (b : Nat) (w : World) : Calls Try.prog 100 #[.float .f32 b] w fun e w' => e = .returned (.float .f32 (cl b)) ∧ w = w' := by
  by_cases h : isN .f32 b = true
  · have h1 := ne_self .f32 b
    rw [h] at h1
    have H := hid (cn_of_nan h); clear h
    go_enter Try.func100, Try.ntmps100
    go_wp2
    go_ret
    exact ⟨by unfold cl; rw [H.out]; rfl, rfl⟩
  · have h' : isN .f32 b = false := by simpa using h
    have h1 := ne_self .f32 b
    rw [h'] at h1
    have H := hid (cn_of_not h'); clear h h'
    go_enter Try.func100, Try.ntmps100
    go_wp2
    go_ret
    exact ⟨by unfold cl; rw [H.out]; rfl, rfl⟩

theorem fix_any (b : Nat) (w : World) : Calls Try.prog 42 #[.float .f32 b] w fun e w' => e = .returned (.float .f32 (cl b)) ∧ w = w' := by
  by_cases h : isN .f32 b = true
  · have h1 := ne_self .f32 b
    rw [h] at h1
    have H := hid (cn_of_nan h); clear h
    go_enter Try.func42, Try.ntmps42
    go_wp2_with (go_at_call 92; refine (theNaN_any _).mono ?_; rintro e w' ⟨rfl, rfl⟩)
    go_ret
    exact ⟨by unfold cl; rw [H.out]; rfl, rfl⟩
  · have h' : isN .f32 b = false := by simpa using h
    have h1 := ne_self .f32 b
    rw [h'] at h1
    have H := hid (cn_of_not h'); clear h h'
    go_enter Try.func42, Try.ntmps42
    go_wp2
    go_ret
    exact ⟨by unfold cl; rw [H.out]; rfl, rfl⟩

theorem bits_any (b : Nat) (w : World) : Calls Try.prog 50 #[.float .f32 b] w fun e w' => e = .returned (.int .u32 (cl b)) ∧ w = w' := by
  go_enter Try.func50, Try.ntmps50
  go_wp2_with (go_at_call 100; refine (clean_any _ _).mono ?_; rintro e w' ⟨rfl, rfl⟩)
  go_ret
  exact ⟨rfl, rfl⟩

theorem bitsOf_any (b : Nat) (w : World) : Calls Try.prog 93 #[.float .f32 b] w fun e w' => e = .returned (.int .u32 (cl b)) ∧ w = w' := by
  go_enter Try.func93, Try.ntmps93
  go_wp2_with (go_at_call 42; refine (fix_any _ _).mono ?_; rintro e w' ⟨rfl, rfl⟩)
  go_ret
  exact ⟨rfl, rfl⟩

theorem one_cl : cl 1065353216 = 1065353216 := by decide +kernel

end Go.Proofs.Ythoiiccecneefaa
