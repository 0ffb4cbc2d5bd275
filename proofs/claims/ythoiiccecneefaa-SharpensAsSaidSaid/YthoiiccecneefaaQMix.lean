/-
  Contracts of Limit, Lerp and Smooth, in the program and in the reference.
-/
import Derived.Test.YthoiiccecneefaaFMem
namespace Go.Proofs.Ythoiiccecneefaa
open Go.RowKit

def limC (v lo hi : Nat) : Nat :=
  if (FloatKind.f32.format.order v lo == some .lt) = true then cl lo else if (FloatKind.f32.format.order v hi == some .gt) = true then cl hi else cl v

theorem cl_of_order_r {v lo : Nat} {o : Ordering} (h : (FloatKind.f32.format.order v lo == some o) = true) : cl lo = lo := by
  by_cases hn : isN .f32 lo = true
  · rw [order_nanr _ _ _ hn] at h; cases h
  · exact cn_of_not (by simpa using hn)

theorem ret_f' {k : FloatKind} {a b : Nat} (h : a = b) : Ending.returned (.float k a) = .returned (.float k b) := by rw [h]

def lerpC (a b t : Nat) : Nat :=
  if (FloatKind.f32.format.order t 0 == some .eq) = true then cl a else if (FloatKind.f32.format.order t 1065353216 == some .eq) = true then cl b else
    cop .add .f32 (cl a) (cop .mul .f32 (cop .sub .f32 (cl b) (cl a)) (cl t))

def smC (t : Nat) : Nat :=
  let s := limC t 0 1065353216
  cop .mul .f32 (cop .mul .f32 s s) (cop .sub .f32 1077936128 (cop .mul .f32 1073741824 s))

theorem cl_limC (v lo hi : Nat) : cn .f32 (limC v lo hi) = limC v lo hi := by
  unfold limC cl; split
  · exact cn_cn ..
  · split <;> exact cn_cn ..

theorem limn_any (v lo hi : Nat) (w : World) : Calls Try.prog 71 #[.float .f32 v, .float .f32 lo, .float .f32 hi] w fun e w' => e = .returned (.float .f32 (limC v lo hi)) ∧ w = w' := by
  by_cases h1 : (FloatKind.f32.format.order v lo == some .lt) = true
  · have hq : limC v lo hi = cl lo := by unfold limC; rw [if_pos h1]
    have hl := cl_of_order_r h1
    have HQ := hid hq; clear hq
    have HL := hid hl; clear hl
    go_enter Try.func71, Try.ntmps71
    go_wp2_with (go_at_call 100; refine (clean_any _ _).mono ?_; rintro e w' ⟨rfl, rfl⟩)
    go_ret
    exact ⟨ret_f' (by rw [HQ.out]; exact HL.out.symm), rfl⟩
  · have h1' : (FloatKind.f32.format.order v lo == some .lt) = false := by simpa using h1
    by_cases h2 : (FloatKind.f32.format.order v hi == some .gt) = true
    · have hq : limC v lo hi = cl hi := by unfold limC; rw [if_neg h1, if_pos h2]
      have hl := cl_of_order_r h2
      have HQ := hid hq; clear hq
      have HL := hid hl; clear hl
      clear h1
      go_enter Try.func71, Try.ntmps71
      go_wp2_with (go_at_call 100; refine (clean_any _ _).mono ?_; rintro e w' ⟨rfl, rfl⟩)
      go_ret
      exact ⟨ret_f' (by rw [HQ.out]; exact HL.out.symm), rfl⟩
    · have h2' : (FloatKind.f32.format.order v hi == some .gt) = false := by simpa using h2
      have hq : limC v lo hi = cl v := by unfold limC; rw [if_neg h1, if_neg h2]
      have HQ := hid hq; clear hq
      clear h1 h2
      go_enter Try.func71, Try.ntmps71
      go_wp2_with (go_at_call 100; refine (clean_any _ _).mono ?_; rintro e w' ⟨rfl, rfl⟩)
      go_ret
      exact ⟨ret_f' HQ.out.symm, rfl⟩

theorem limr_any (v lo hi : Nat) (w : World) : Calls Try.prog 43 #[.float .f32 v, .float .f32 lo, .float .f32 hi] w fun e w' => e = .returned (.float .f32 (limC v lo hi)) ∧ w = w' := by
  by_cases h1 : (FloatKind.f32.format.order v lo == some .lt) = true
  · have hq : limC v lo hi = cl lo := by unfold limC; rw [if_pos h1]
    have hl := cl_of_order_r h1
    have HQ := hid hq; clear hq
    have HL := hid hl; clear hl
    go_enter Try.func43, Try.ntmps43
    go_wp2_with (go_at_call 42; refine (fix_any _ _).mono ?_; rintro e w' ⟨rfl, rfl⟩)
    go_ret
    exact ⟨ret_f' (by rw [HQ.out]), rfl⟩
  · have h1' : (FloatKind.f32.format.order v lo == some .lt) = false := by simpa using h1
    by_cases h2 : (FloatKind.f32.format.order v hi == some .gt) = true
    · have hq : limC v lo hi = cl hi := by unfold limC; rw [if_neg h1, if_pos h2]
      have hl := cl_of_order_r h2
      have HQ := hid hq; clear hq
      have HL := hid hl; clear hl
      clear h1
      go_enter Try.func43, Try.ntmps43
      go_wp2_with (go_at_call 42; refine (fix_any _ _).mono ?_; rintro e w' ⟨rfl, rfl⟩)
      go_ret
      exact ⟨ret_f' (by rw [HQ.out]), rfl⟩
    · have h2' : (FloatKind.f32.format.order v hi == some .gt) = false := by simpa using h2
      have hq : limC v lo hi = cl v := by unfold limC; rw [if_neg h1, if_neg h2]
      have HQ := hid hq; clear hq
      clear h1 h2
      go_enter Try.func43, Try.ntmps43
      go_wp2_with (go_at_call 42; refine (fix_any _ _).mono ?_; rintro e w' ⟨rfl, rfl⟩)
      go_ret
      exact ⟨ret_f' HQ.out.symm, rfl⟩

end Go.Proofs.Ythoiiccecneefaa
