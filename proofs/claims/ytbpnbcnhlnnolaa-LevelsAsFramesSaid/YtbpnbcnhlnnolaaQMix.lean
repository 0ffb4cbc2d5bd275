/-
  Contracts of Limit, Lerp and Smooth, in the program and in the reference.
-/
import Derived.Test.YtbpnbcnhlnnolaaFMem
namespace Go.Proofs.Ytbpnbcnhlnnolaa
open Go.RowKit

def limC (v lo hi : Nat) : Nat :=
  if (FloatKind.f32.format.order v lo == some .lt) = true then cl lo else if (FloatKind.f32.format.order v hi == some .gt) = true then cl hi else cl v

theorem cl_of_order_r {v lo : Nat} {o : Ordering} (h : (FloatKind.f32.format.order v lo == some o) = true) : cl lo = lo := by
  by_cases hn : isN .f32 lo = true
  · rw [order_nanr _ _ _ hn] at h; cases h
  · exact cn_of_not (by simpa using hn)

theorem ret_f' {k : FloatKind} {a b : Nat} (h : a = b) : Ending.returned (.float k a) = .returned (.float k b) := by rw [h]

def lerpC (a b t : Nat) : Nat :=
  if (FloatKind.f32.format.order t 0 == some .eq) = true then cl a else if (FloatKind.f32.format.order t 1065353216 == some .eq) = true then cl b else
    cop .add .f32 (cl a) (cop .mul .f32 (cop .sub .f32 (cl b) (cl a)) (cl t))

def smC (t : Nat) : Nat :=
  let s := limC t 0 1065353216
  cop .mul .f32 (cop .mul .f32 s s) (cop .sub .f32 1077936128 (cop .mul .f32 1073741824 s))

theorem cl_limC (v lo hi : Nat) : cn .f32 (limC v lo hi) = limC v lo hi := by
  unfold limC cl; split
  · exact cn_cn ..
  · split <;> exact cn_cn ..

theorem limn_any (v lo hi : Nat) (w : World) : Calls Try.prog 96 #[.float .f32 v, .float .f32 lo, .float .f32 hi] w fun e w' => e = .returned (.float .f32 (limC v lo hi)) ∧ w = w' := by
  by_cases h1 : (FloatKind.f32.format.order v lo == some .lt) = true
  · have hq : limC v lo hi = cl lo := by unfold limC; rw [if_pos h1]
    have hl := cl_of_order_r h1
    have HQ := hid hq; clear hq
    have HL := hid hl; clear hl
    go_enter Try.func96, Try.ntmps96
    go_wp2_with (go_at_call 110; refine (clean_any _ _).mono ?_; rintro e w' ⟨rfl, rfl⟩)
    go_ret
    exact ⟨ret_f' (by rw [HQ.out]; exact HL.out.symm), rfl⟩
  · have h1' : (FloatKind.f32.format.order v lo == some .lt) = false := by simpa using h1
    by_cases h2 : (FloatKind.f32.format.order v hi == some .gt) = true
    · have hq : limC v lo hi = cl hi := by unfold limC; rw [if_neg h1, if_pos h2]
      have hl := cl_of_order_r h2
      have HQ := hid hq; clear hq
      have HL := hid hl; clear hl
      clear h1
      go_enter Try.func96, Try.ntmps96
      go_wp2_with (go_at_call 110; refine (clean_any _ _).mono ?_; rintro e w' ⟨rfl, rfl⟩)
      go_ret
      exact ⟨ret_f' (by rw [HQ.out]; exact HL.out.symm), rfl⟩
    · have h2' : (FloatKind.f32.format.order v hi == some .gt) = false := by simpa using h2
      have hq : limC v lo hi = cl v := by unfold limC; rw [if_neg h1, if_neg h2]
      have HQ := hid hq; clear hq
      clear h1 h2
      go_enter Try.func96, Try.ntmps96
      go_wp2_with (go_at_call 110; refine (clean_any _ _).mono ?_; rintro e w' ⟨rfl, rfl⟩)
      go_ret
      exact ⟨ret_f' HQ.out.symm, rfl⟩

theorem lerpn_any (a b t : Nat) (w : World) : Calls Try.prog 159 #[.float .f32 a, .float .f32 b, .float .f32 t] w fun e w' => e = .returned (.float .f32 (lerpC a b t)) ∧ ∃ n, w' = w.drewN n := by
  by_cases h1 : (FloatKind.f32.format.order t 0 == some .eq) = true
  · have hq : lerpC a b t = cl a := by unfold lerpC; rw [if_pos h1]
    have HQ := hid hq; clear hq
    go_enter Try.func159, Try.ntmps159
    go_wp2_with (go_at_call 110; refine (clean_any _ _).mono ?_; rintro e w' ⟨rfl, rfl⟩)
    go_ret
    exact ⟨ret_f' HQ.out.symm, 0, rfl⟩
  · have h1' : (FloatKind.f32.format.order t 0 == some .eq) = false := by simpa using h1
    by_cases h2 : (FloatKind.f32.format.order t 1065353216 == some .eq) = true
    · have hq : lerpC a b t = cl b := by unfold lerpC; rw [if_neg h1, if_pos h2]
      have HQ := hid hq; clear hq
      clear h1
      go_enter Try.func159, Try.ntmps159
      go_wp2_with (go_at_call 110; refine (clean_any _ _).mono ?_; rintro e w' ⟨rfl, rfl⟩)
      go_ret
      exact ⟨ret_f' HQ.out.symm, 0, rfl⟩
    · have h2' : (FloatKind.f32.format.order t 1065353216 == some .eq) = false := by simpa using h2
      have hq : lerpC a b t = cop .add .f32 (cl a) (cop .mul .f32 (cop .sub .f32 (cl b) (cl a)) (cl t)) := by unfold lerpC; rw [if_neg h1, if_neg h2]
      have HQ := hid hq; clear hq
      clear h1 h2
      go_enter Try.func159, Try.ntmps159
      go_wp2_with (go_at_call 110; refine (clean_any _ _).mono ?_; rintro e w' ⟨rfl, rfl⟩)
      go_ret
      exact ⟨ret_f' (by rw [HQ.out]; unfold cl; simp only [cn_fop]), _, rfl⟩

theorem smn_any (t : Nat) (w : World) : Calls Try.prog 158 #[.float .f32 t] w fun e w' => e = .returned (.float .f32 (smC t)) ∧ ∃ n, w' = w.drewN n := by
  go_enter Try.func158, Try.ntmps158
  go_wp2_with (first | (go_at_call 96; refine (limn_any _ _ _ _).mono ?_; rintro e w' ⟨rfl, rfl⟩) | (go_at_call 110; refine (clean_any _ _).mono ?_; rintro e w' ⟨rfl, rfl⟩))
  go_ret
  exact ⟨ret_f' (by unfold smC cl; simp only [cn_fop, cl_limC]; rfl), _, rfl⟩

theorem limr_any (v lo hi : Nat) (w : World) : Calls Try.prog 58 #[.float .f32 v, .float .f32 lo, .float .f32 hi] w fun e w' => e = .returned (.float .f32 (limC v lo hi)) ∧ w = w' := by
  by_cases h1 : (FloatKind.f32.format.order v lo == some .lt) = true
  · have hq : limC v lo hi = cl lo := by unfold limC; rw [if_pos h1]
    have hl := cl_of_order_r h1
    have HQ := hid hq; clear hq
    have HL := hid hl; clear hl
    go_enter Try.func58, Try.ntmps58
    go_wp2_with (go_at_call 50; refine (fix_any _ _).mono ?_; rintro e w' ⟨rfl, rfl⟩)
    go_ret
    exact ⟨ret_f' (by rw [HQ.out]), rfl⟩
  · have h1' : (FloatKind.f32.format.order v lo == some .lt) = false := by simpa using h1
    by_cases h2 : (FloatKind.f32.format.order v hi == some .gt) = true
    · have hq : limC v lo hi = cl hi := by unfold limC; rw [if_neg h1, if_pos h2]
      have hl := cl_of_order_r h2
      have HQ := hid hq; clear hq
      have HL := hid hl; clear hl
      clear h1
      go_enter Try.func58, Try.ntmps58
      go_wp2_with (go_at_call 50; refine (fix_any _ _).mono ?_; rintro e w' ⟨rfl, rfl⟩)
      go_ret
      exact ⟨ret_f' (by rw [HQ.out]), rfl⟩
    · have h2' : (FloatKind.f32.format.order v hi == some .gt) = false := by simpa using h2
      have hq : limC v lo hi = cl v := by unfold limC; rw [if_neg h1, if_neg h2]
      have HQ := hid hq; clear hq
      clear h1 h2
      go_enter Try.func58, Try.ntmps58
      go_wp2_with (go_at_call 50; refine (fix_any _ _).mono ?_; rintro e w' ⟨rfl, rfl⟩)
      go_ret
      exact ⟨ret_f' HQ.out.symm, rfl⟩

theorem lerpr_any (a b t : Nat) (w : World) : Calls Try.prog 128 #[.float .f32 a, .float .f32 b, .float .f32 t] w fun e w' => e = .returned (.float .f32 (lerpC a b t)) ∧ ∃ n, w' = w.drewN n := by
  by_cases h1 : (FloatKind.f32.format.order t 0 == some .eq) = true
  · have hq : lerpC a b t = cl a := by unfold lerpC; rw [if_pos h1]
    have HQ := hid hq; clear hq
    go_enter Try.func128, Try.ntmps128
    go_wp2_with (go_at_call 50; refine (fix_any _ _).mono ?_; rintro e w' ⟨rfl, rfl⟩)
    go_ret
    exact ⟨ret_f' HQ.out.symm, 0, rfl⟩
  · have h1' : (FloatKind.f32.format.order t 0 == some .eq) = false := by simpa using h1
    by_cases h2 : (FloatKind.f32.format.order t 1065353216 == some .eq) = true
    · have hq : lerpC a b t = cl b := by unfold lerpC; rw [if_neg h1, if_pos h2]
      have HQ := hid hq; clear hq
      clear h1
      go_enter Try.func128, Try.ntmps128
      go_wp2_with (go_at_call 50; refine (fix_any _ _).mono ?_; rintro e w' ⟨rfl, rfl⟩)
      go_ret
      exact ⟨ret_f' HQ.out.symm, 0, rfl⟩
    · have h2' : (FloatKind.f32.format.order t 1065353216 == some .eq) = false := by simpa using h2
      have hq : lerpC a b t = cop .add .f32 (cl a) (cop .mul .f32 (cop .sub .f32 (cl b) (cl a)) (cl t)) := by unfold lerpC; rw [if_neg h1, if_neg h2]
      have HQ := hid hq; clear hq
      clear h1 h2
      go_enter Try.func128, Try.ntmps128
      go_wp2_with (go_at_call 50; refine (fix_any _ _).mono ?_; rintro e w' ⟨rfl, rfl⟩)
      go_ret
      exact ⟨ret_f' (by rw [HQ.out]; unfold cl; simp only [cn_fop]), _, rfl⟩

theorem smr_any (t : Nat) (w : World) : Calls Try.prog 129 #[.float .f32 t] w fun e w' => e = .returned (.float .f32 (smC t)) ∧ ∃ n, w' = w.drewN n := by
  go_enter Try.func129, Try.ntmps129
  go_wp2_with (first | (go_at_call 58; refine (limr_any _ _ _ _).mono ?_; rintro e w' ⟨rfl, rfl⟩) | (go_at_call 50; refine (fix_any _ _).mono ?_; rintro e w' ⟨rfl, rfl⟩))
  go_ret
  exact ⟨ret_f' (by unfold smC cl; simp only [cn_fop, cl_limC]; rfl), _, rfl⟩

end Go.Proofs.Ytbpnbcnhlnnolaa
