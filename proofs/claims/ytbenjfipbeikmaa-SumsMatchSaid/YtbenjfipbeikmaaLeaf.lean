/-
  The functions without a body that the program calls (bits of floats, floors), and contracts of the small functions on singles: Clean, Bits, FromBits and their kin in the reference.
-/
import Derived.Test.YtbenjfipbeikmaaRows
import Derived.Test.YtbenjfipbeikmaaFlo
namespace Go.Proofs.Ytbenjfipbeikmaa
open Go.RowKit

@[go_sem] theorem cf_from32 (n : Int) (w : World) : (callFunc 12 #[.int .u32 n]).run Try.prog w = .ok (.value (.float .f32 n.toNat)) w :=
  (run_callFunc_extern (e := Extern.MathFloatBits.float32frombits) Try.func12 (by kernel_rfl) (by kernel_rfl) (by kernel_rfl) (by kernel_rfl) _ w).trans rfl
@[go_sem] theorem cf_bits32 (b : Nat) (w : World) : (callFunc 63 #[.float .f32 b]).run Try.prog w = .ok (.value (.int .u32 b)) w :=
  (run_callFunc_extern (e := Extern.MathFloatBits.float32bits) Try.func63 (by kernel_rfl) (by kernel_rfl) (by kernel_rfl) (by kernel_rfl) _ w).trans rfl
@[go_sem] theorem cf_from64 (n : Int) (w : World) : (callFunc 59 #[.int .u64 n]).run Try.prog w = .ok (.value (.float .f64 n.toNat)) w :=
  (run_callFunc_extern (e := Extern.MathFloatBits.float64frombits) Try.func59 (by kernel_rfl) (by kernel_rfl) (by kernel_rfl) (by kernel_rfl) _ w).trans rfl
@[go_sem] theorem cf_bits64 (b : Nat) (w : World) : (callFunc 60 #[.float .f64 b]).run Try.prog w = .ok (.value (.int .u64 b)) w :=
  (run_callFunc_extern (e := Extern.MathFloatBits.float64bits) Try.func60 (by kernel_rfl) (by kernel_rfl) (by kernel_rfl) (by kernel_rfl) _ w).trans rfl

theorem grown_drewN {W w : World} (h : Grown W w) (n : Nat) : Grown W (w.drewN n) := h
theorem grown_trans {a b c : World} (h : Grown a b) (h' : Grown b c) : Grown a c :=
  ⟨World.keptBut_trans h.1 h'.1, fun x => (h'.2.1 x).trans (h.2.1 x), Nat.le_trans h.2.2 h'.2.2⟩

/-- Clean of the bits of a single. -/
def cl (b : Nat) : Nat := cn .f32 b

theorem theNaN_any (w : World) : Calls Try.prog 64 #[] w fun e w' => e = .returned (.float .f32 2143289344) ∧ w = w' := by
  go_enter Try.func64, Try.ntmps64
  go_wp2
  go_ret
  exact ⟨rfl, rfl⟩

theorem clean_any (b : Nat) (w : World) : Calls Try.prog 17 #[.float .f32 b] w fun e w' => e = .returned (.float .f32 (cl b)) ∧ w = w' := by
  by_cases h : isN .f32 b = true
  · have h1 := ne_self .f32 b
    rw [h] at h1
    have H := hid (cn_of_nan h); clear h
    go_enter Try.func17, Try.ntmps17
    go_wp2
    go_ret
    exact ⟨by unfold cl; rw [H.out]; rfl, rfl⟩
  · have h' : isN .f32 b = false := by simpa using h
    have h1 := ne_self .f32 b
    rw [h'] at h1
    have H := hid (cn_of_not h'); clear h h'
    go_enter Try.func17, Try.ntmps17
    go_wp2
    go_ret
    exact ⟨by unfold cl; rw [H.out]; rfl, rfl⟩

theorem fix_any (b : Nat) (w : World) : Calls Try.prog 18 #[.float .f32 b] w fun e w' => e = .returned (.float .f32 (cl b)) ∧ w = w' := by
  by_cases h : isN .f32 b = true
  · have h1 := ne_self .f32 b
    rw [h] at h1
    have H := hid (cn_of_nan h); clear h
    go_enter Try.func18, Try.ntmps18
    go_wp2_with (go_at_call 64; refine (theNaN_any _).mono ?_; rintro e w' ⟨rfl, rfl⟩)
    go_ret
    exact ⟨by unfold cl; rw [H.out]; rfl, rfl⟩
  · have h' : isN .f32 b = false := by simpa using h
    have h1 := ne_self .f32 b
    rw [h'] at h1
    have H := hid (cn_of_not h'); clear h h'
    go_enter Try.func18, Try.ntmps18
    go_wp2
    go_ret
    exact ⟨by unfold cl; rw [H.out]; rfl, rfl⟩

theorem bits_any (b : Nat) (w : World) : Calls Try.prog 19 #[.float .f32 b] w fun e w' => e = .returned (.int .u32 (cl b)) ∧ w = w' := by
  go_enter Try.func19, Try.ntmps19
  go_wp2_with (go_at_call 17; refine (clean_any _ _).mono ?_; rintro e w' ⟨rfl, rfl⟩)
  go_ret
  exact ⟨rfl, rfl⟩

theorem bitsOf_any (b : Nat) (w : World) : Calls Try.prog 20 #[.float .f32 b] w fun e w' => e = .returned (.int .u32 (cl b)) ∧ w = w' := by
  go_enter Try.func20, Try.ntmps20
  go_wp2_with (go_at_call 18; refine (fix_any _ _).mono ?_; rintro e w' ⟨rfl, rfl⟩)
  go_ret
  exact ⟨rfl, rfl⟩

theorem fromBits_any (n : Int) (w : World) : Calls Try.prog 21 #[.int .u32 n] w fun e w' => e = .returned (.float .f32 (cl n.toNat)) ∧ w = w' := by
  go_enter Try.func21, Try.ntmps21
  go_wp2_with (go_at_call 17; refine (clean_any _ _).mono ?_; rintro e w' ⟨rfl, rfl⟩)
  go_ret
  exact ⟨rfl, rfl⟩

/-- same: the bits are the same. -/
theorem same_any (a b : Nat) (w : World) : Calls Try.prog 16 #[.float .f32 a, .float .f32 b] w fun e w' => e = .returned (.bool (a == b)) ∧ w = w' := by
  by_cases h : a = b
  · subst h
    go_enter Try.func16, Try.ntmps16
    go_wp2
    go_ret
    exact ⟨by simp, rfl⟩
  · have h1 : ((a : Int) == (b : Int)) = false := by rw [beq_eq_false_iff_ne]; omega
    have H := hid h; clear h
    go_enter Try.func16, Try.ntmps16
    go_wp2
    go_ret
    exact ⟨by simp [H.out], rfl⟩
theorem same_yes (a b : Nat) (hab : a = b) (w : World) : Calls Try.prog 16 #[.float .f32 a, .float .f32 b] w fun e w' => e = .returned (.bool true) ∧ w = w' :=
  (same_any a b w).mono fun e w' ⟨he, hw⟩ => ⟨by rw [he]; simp [hab], hw⟩
end Go.Proofs.Ytbenjfipbeikmaa
