/-
  Contracts of Lerp, in the program and in the reference.
-/
import Derived.Test.YtjlghjblpbckfaaFLeaf
namespace Go.Proofs.Ytjlghjblpbckfaa
open Go.RowKit

theorem ret_f' {k : FloatKind} {a b : Nat} (h : a = b) : Ending.returned (.float k a) = .returned (.float k b) := by rw [h]

def lerpC (a b t : Nat) : Nat :=
  if (FloatKind.f32.format.order t 0 == some .eq) = true then cl a else if (FloatKind.f32.format.order t 1065353216 == some .eq) = true then cl b else
    cop .add .f32 (cl a) (cop .mul .f32 (cop .sub .f32 (cl b) (cl a)) (cl t))

theorem lerpn_any (a b t : Nat) (w : World) : Calls Try.prog 91 #[.float .f32 a, .float .f32 b, .float .f32 t] w fun e w' => e = .returned (.float .f32 (lerpC a b t)) ∧ ∃ n, w' = w.drewN n := by
  by_cases h1 : (FloatKind.f32.format.order t 0 == some .eq) = true
  · have hq : lerpC a b t = cl a := by unfold lerpC; rw [if_pos h1]
    have HQ := hid hq; clear hq
    go_enter Try.func91, Try.ntmps91
    go_wp2_with (go_at_call 68; refine (clean_any _ _).mono ?_; rintro e w' ⟨rfl, rfl⟩)
    go_ret
    exact ⟨ret_f' HQ.out.symm, 0, rfl⟩
  · have h1' : (FloatKind.f32.format.order t 0 == some .eq) = false := by simpa using h1
    by_cases h2 : (FloatKind.f32.format.order t 1065353216 == some .eq) = true
    · have hq : lerpC a b t = cl b := by unfold lerpC; rw [if_neg h1, if_pos h2]
      have HQ := hid hq; clear hq
      clear h1
      go_enter Try.func91, Try.ntmps91
      go_wp2_with (go_at_call 68; refine (clean_any _ _).mono ?_; rintro e w' ⟨rfl, rfl⟩)
      go_ret
      exact ⟨ret_f' HQ.out.symm, 0, rfl⟩
    · have h2' : (FloatKind.f32.format.order t 1065353216 == some .eq) = false := by simpa using h2
      have hq : lerpC a b t = cop .add .f32 (cl a) (cop .mul .f32 (cop .sub .f32 (cl b) (cl a)) (cl t)) := by unfold lerpC; rw [if_neg h1, if_neg h2]
      have HQ := hid hq; clear hq
      clear h1 h2
      go_enter Try.func91, Try.ntmps91
      go_wp2_with (go_at_call 68; refine (clean_any _ _).mono ?_; rintro e w' ⟨rfl, rfl⟩)
      go_ret
      exact ⟨ret_f' (by rw [HQ.out]; unfold cl; simp only [cn_fop]), _, rfl⟩

theorem lerpr_any (a b t : Nat) (w : World) : Calls Try.prog 94 #[.float .f32 a, .float .f32 b, .float .f32 t] w fun e w' => e = .returned (.float .f32 (lerpC a b t)) ∧ ∃ n, w' = w.drewN n := by
  by_cases h1 : (FloatKind.f32.format.order t 0 == some .eq) = true
  · have hq : lerpC a b t = cl a := by unfold lerpC; rw [if_pos h1]
    have HQ := hid hq; clear hq
    go_enter Try.func94, Try.ntmps94
    go_wp2_with (go_at_call 31; refine (fix_any _ _).mono ?_; rintro e w' ⟨rfl, rfl⟩)
    go_ret
    exact ⟨ret_f' HQ.out.symm, 0, rfl⟩
  · have h1' : (FloatKind.f32.format.order t 0 == some .eq) = false := by simpa using h1
    by_cases h2 : (FloatKind.f32.format.order t 1065353216 == some .eq) = true
    · have hq : lerpC a b t = cl b := by unfold lerpC; rw [if_neg h1, if_pos h2]
      have HQ := hid hq; clear hq
      clear h1
      go_enter Try.func94, Try.ntmps94
      go_wp2_with (go_at_call 31; refine (fix_any _ _).mono ?_; rintro e w' ⟨rfl, rfl⟩)
      go_ret
      exact ⟨ret_f' HQ.out.symm, 0, rfl⟩
    · have h2' : (FloatKind.f32.format.order t 1065353216 == some .eq) = false := by simpa using h2
      have hq : lerpC a b t = cop .add .f32 (cl a) (cop .mul .f32 (cop .sub .f32 (cl b) (cl a)) (cl t)) := by unfold lerpC; rw [if_neg h1, if_neg h2]
      have HQ := hid hq; clear hq
      clear h1 h2
      go_enter Try.func94, Try.ntmps94
      go_wp2_with (go_at_call 31; refine (fix_any _ _).mono ?_; rintro e w' ⟨rfl, rfl⟩)
      go_ret
      exact ⟨ret_f' (by rw [HQ.out]; unfold cl; simp only [cn_fop]), _, rfl⟩

end Go.Proofs.Ytjlghjblpbckfaa
