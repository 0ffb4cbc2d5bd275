/-
  Contracts of the small functions on singles that the laws of frames reach: bits, Clean, Fix, exact, landed.
-/
import Derived.Test.YtcklpmjeimjgmaaRows
import Derived.Test.YtcklpmjeimjgmaaFlo
import Derived.Handy
namespace Go.Proofs.Ytcklpmjeimjgmaa
open Go.RowKit

@[go_sem] theorem cf_from32 (n : Int) (w : World) : (callFunc 153 #[.int .u32 n]).run Try.prog w = .ok (.value (.float .f32 n.toNat)) w :=
  (run_callFunc_extern (e := Extern.MathFloatBits.float32frombits) Try.func153 (by kernel_rfl) (by kernel_rfl) (by kernel_rfl) (by kernel_rfl) _ w).trans rfl
@[go_sem] theorem cf_bits32 (b : Nat) (w : World) : (callFunc 114 #[.float .f32 b]).run Try.prog w = .ok (.value (.int .u32 b)) w :=
  (run_callFunc_extern (e := Extern.MathFloatBits.float32bits) Try.func114 (by kernel_rfl) (by kernel_rfl) (by kernel_rfl) (by kernel_rfl) _ w).trans rfl

theorem below_drewN {B : Nat} {a w : World} (h : Below B a w) (n : Nat) : Below B a (w.drewN n) := ⟨h.os, h.tape, h.output, h.size, h.block⟩
theorem bcell {W w1 : World} (hb : Below W.heap.size W w1) : (∀ b o, b < W.heap.size → w1.cell? ⟨b, o, none⟩ = W.cell? ⟨b, o, none⟩) ∧ (∀ b o, b < W.heap.size → w1.frozen? ⟨b, o, none⟩ = W.frozen? ⟨b, o, none⟩) :=
  ⟨fun b o h => hb.cell (p := ⟨b, o, none⟩) h, fun b o h => hb.frozen (p := ⟨b, o, none⟩) h⟩

/-- Clean of the bits of a single. -/
def cl (b : Nat) : Nat := cn .f32 b
theorem cl_cl (b : Nat) : cl (cl b) = cl b := cn_cn ..

theorem theNaN_any (w : World) : Calls Try.prog 165 #[] w fun e w' => e = .returned (.float .f32 2143289344) ∧ w = w' := by
  go_enter Try.func165, Try.ntmps165
  go_wp2
  go_ret
  exact ⟨rfl, rfl⟩

theorem clean_any (b : Nat) (w : World) : Calls Try.prog 122 #[.float .f32 b] w fun e w' => e = .returned (.float .f32 (cl b)) ∧ w = w' := by
  by_cases h : isN .f32 b = true
  · have h1 := ne_self .f32 b
    rw [h] at h1
    have H := hid (cn_of_nan h); clear h
    go_enter Try.func122, Try.ntmps122
    go_wp2
    go_ret
    exact ⟨by unfold cl; rw [H.out]; rfl, rfl⟩
  · have h' : isN .f32 b = false := by simpa using h
    have h1 := ne_self .f32 b
    rw [h'] at h1
    have H := hid (cn_of_not h'); clear h h'
    go_enter Try.func122, Try.ntmps122
    go_wp2
    go_ret
    exact ⟨by unfold cl; rw [H.out]; rfl, rfl⟩

theorem fix_any (b : Nat) (w : World) : Calls Try.prog 132 #[.float .f32 b] w fun e w' => e = .returned (.float .f32 (cl b)) ∧ w = w' := by
  by_cases h : isN .f32 b = true
  · have h1 := ne_self .f32 b
    rw [h] at h1
    have H := hid (cn_of_nan h); clear h
    go_enter Try.func132, Try.ntmps132
    go_wp2_with (go_at_call 165; refine (theNaN_any _).mono ?_; rintro e w' ⟨rfl, rfl⟩)
    go_ret
    exact ⟨by unfold cl; rw [H.out]; rfl, rfl⟩
  · have h' : isN .f32 b = false := by simpa using h
    have h1 := ne_self .f32 b
    rw [h'] at h1
    have H := hid (cn_of_not h'); clear h h'
    go_enter Try.func132, Try.ntmps132
    go_wp2
    go_ret
    exact ⟨by unfold cl; rw [H.out]; rfl, rfl⟩

theorem bits_any (b : Nat) (w : World) : Calls Try.prog 61 #[.float .f32 b] w fun e w' => e = .returned (.int .u32 (cl b)) ∧ w = w' := by
  go_enter Try.func61, Try.ntmps61
  go_wp2_with (go_at_call 122; refine (clean_any _ _).mono ?_; rintro e w' ⟨rfl, rfl⟩)
  go_ret
  exact ⟨rfl, rfl⟩

theorem bitsOf_any (b : Nat) (w : World) : Calls Try.prog 136 #[.float .f32 b] w fun e w' => e = .returned (.int .u32 (cl b)) ∧ w = w' := by
  go_enter Try.func136, Try.ntmps136
  go_wp2_with (go_at_call 132; refine (fix_any _ _).mono ?_; rintro e w' ⟨rfl, rfl⟩)
  go_ret
  exact ⟨rfl, rfl⟩

/-- exact: the bits are the same. -/
theorem exact_any (a b : Nat) (w : World) : Calls Try.prog 41 #[.float .f32 a, .float .f32 b] w fun e w' => e = .returned (.bool (a == b)) ∧ w = w' := by
  by_cases h : a = b
  · subst h
    go_enter Try.func41, Try.ntmps41
    go_wp2
    go_ret
    exact ⟨by simp, rfl⟩
  · have h1 : ((a : Int) == (b : Int)) = false := by rw [beq_eq_false_iff_ne]; omega
    have H := hid h; clear h
    go_enter Try.func41, Try.ntmps41
    go_wp2
    go_ret
    exact ⟨by simp [H.out], rfl⟩
theorem exact_yes (a b : Nat) (hab : a = b) (w : World) : Calls Try.prog 41 #[.float .f32 a, .float .f32 b] w fun e w' => e = .returned (.bool true) ∧ w = w' :=
  (exact_any a b w).mono fun e w' ⟨he, hw⟩ => ⟨by rw [he]; simp [hab], hw⟩

theorem one_cl : cl 1065353216 = 1065353216 := by decide +kernel

theorem landed_any (w : World) : Calls Try.prog 16 #[] w fun e w' => e = .returned (.bool true) ∧ w = w' := by
  have h1 := one_cl
  go_enter Try.func16, Try.ntmps16
  go_wp2_with (go_at_call 61; refine (bits_any _ _).mono ?_; rintro e w' ⟨rfl, rfl⟩)
  go_ret
  exact ⟨rfl, rfl⟩
end Go.Proofs.Ytcklpmjeimjgmaa
