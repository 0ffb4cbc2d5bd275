/-
  Contracts of Lerp, in the program and in the reference.
-/
import Derived.Test.YthnbfllhmjpbjaaKCmp
namespace Go.Proofs.Ythnbfllhmjpbjaa
open Go.RowKit

theorem ret_f' {k : FloatKind} {a b : Nat} (h : a = b) : Ending.returned (.float k a) = .returned (.float k b) := by rw [h]

def lerpC (a b t : Nat) : Nat :=
  if (FloatKind.f32.format.order t 0 == some .eq) = true then cl a else if (FloatKind.f32.format.order t 1065353216 == some .eq) = true then cl b else
    cop .add .f32 (cl a) (cop .mul .f32 (cop .sub .f32 (cl b) (cl a)) (cl t))

theorem lerpn_any (a b t : Nat) (w : World) : Calls Try.prog 133 #[.float .f32 a, .float .f32 b, .float .f32 t] w fun e w' => e = .returned (.float .f32 (lerpC a b t)) ∧ ∃ n, w' = w.drewN n := by
  by_cases h1 : (FloatKind.f32.format.order t 0 == some .eq) = true
  · have hq : lerpC a b t = cl a := by unfold lerpC; rw [if_pos h1]
    have HQ := hid hq; clear hq
    go_enter Try.func133, Try.ntmps133
    go_wp2_with (go_at_call 117; refine (clean_any _ _).mono ?_; rintro e w' ⟨rfl, rfl⟩)
    go_ret
    exact ⟨ret_f' HQ.out.symm, 0, rfl⟩
  · have h1' : (FloatKind.f32.format.order t 0 == some .eq) = false := by simpa using h1
    by_cases h2 : (FloatKind.f32.format.order t 1065353216 == some .eq) = true
    · have hq : lerpC a b t = cl b := by unfold lerpC; rw [if_neg h1, if_pos h2]
      have HQ := hid hq; clear hq
      clear h1
      go_enter Try.func133, Try.ntmps133
      go_wp2_with (go_at_call 117; refine (clean_any _ _).mono ?_; rintro e w' ⟨rfl, rfl⟩)
      go_ret
      exact ⟨ret_f' HQ.out.symm, 0, rfl⟩
    · have h2' : (FloatKind.f32.format.order t 1065353216 == some .eq) = false := by simpa using h2
      have hq : lerpC a b t = cop .add .f32 (cl a) (cop .mul .f32 (cop .sub .f32 (cl b) (cl a)) (cl t)) := by unfold lerpC; rw [if_neg h1, if_neg h2]
      have HQ := hid hq; clear hq
      clear h1 h2
      go_enter Try.func133, Try.ntmps133
      go_wp2_with (go_at_call 117; refine (clean_any _ _).mono ?_; rintro e w' ⟨rfl, rfl⟩)
      go_ret
      exact ⟨ret_f' (by rw [HQ.out]; unfold cl; simp only [cn_fop]), _, rfl⟩

theorem lerpr_any (a b t : Nat) (w : World) : Calls Try.prog 48 #[.float .f32 a, .float .f32 b, .float .f32 t] w fun e w' => e = .returned (.float .f32 (lerpC a b t)) ∧ ∃ n, w' = w.drewN n := by
  by_cases h1 : (FloatKind.f32.format.order t 0 == some .eq) = true
  · have hq : lerpC a b t = cl a := by unfold lerpC; rw [if_pos h1]
    have HQ := hid hq; clear hq
    go_enter Try.func48, Try.ntmps48
    go_wp2_with (go_at_call 57; refine (fix_any _ _).mono ?_; rintro e w' ⟨rfl, rfl⟩)
    go_ret
    exact ⟨ret_f' HQ.out.symm, 0, rfl⟩
  · have h1' : (FloatKind.f32.format.order t 0 == some .eq) = false := by simpa using h1
    by_cases h2 : (FloatKind.f32.format.order t 1065353216 == some .eq) = true
    · have hq : lerpC a b t = cl b := by unfold lerpC; rw [if_neg h1, if_pos h2]
      have HQ := hid hq; clear hq
      clear h1
      go_enter Try.func48, Try.ntmps48
      go_wp2_with (go_at_call 57; refine (fix_any _ _).mono ?_; rintro e w' ⟨rfl, rfl⟩)
      go_ret
      exact ⟨ret_f' HQ.out.symm, 0, rfl⟩
    · have h2' : (FloatKind.f32.format.order t 1065353216 == some .eq) = false := by simpa using h2
      have hq : lerpC a b t = cop .add .f32 (cl a) (cop .mul .f32 (cop .sub .f32 (cl b) (cl a)) (cl t)) := by unfold lerpC; rw [if_neg h1, if_neg h2]
      have HQ := hid hq; clear hq
      clear h1 h2
      go_enter Try.func48, Try.ntmps48
      go_wp2_with (go_at_call 57; refine (fix_any _ _).mono ?_; rintro e w' ⟨rfl, rfl⟩)
      go_ret
      exact ⟨ret_f' (by rw [HQ.out]; unfold cl; simp only [cn_fop]), _, rfl⟩


theorem lerpC_cl (a b t : Nat) : lerpC (cl a) (cl b) t = lerpC a b t := by unfold lerpC; rw [cl_cl, cl_cl]
theorem cl_lerpC (a b t : Nat) : cl (lerpC a b t) = lerpC a b t := by
  unfold lerpC
  split
  · exact cl_cl a
  · split
    · exact cl_cl b
    · exact cn_cop ..

theorem enters_lerp1 (args : Array Value) (w : World) : (callFunc 132 args).run Try.prog w = .ok (.enter 132 args) w := enters_of Try.func132 (by kernel_rfl) rfl args w
attribute [local go_sem] run_store_float

set_option maxHeartbeats 1000000 in
theorem lerp1_any (bb bt v t i : Nat) (f : Nat → Nat) (w : World) (hi : i < 3) (hb : Blk w bb 30 (arrA f)) (ht : Blk w bt 22 #[.float .f32 t]) :
    Calls Try.prog 132 #[.int .i64 i, .float .f32 v, .pointer (some ⟨bb, 0, none⟩), .pointer (some ⟨bt, 0, none⟩)] w (Gave w (lerpC v (f i) t)) := by
  have c1 : w.cell? ⟨bb, i, none⟩ = some (.float .f32 (f i)) := by
    have := hb.cell i
    have h3 : i = 0 ∨ i = 1 ∨ i = 2 := by omega
    rcases h3 with rfl | rfl | rfl <;> simpa using this
  have d1 := ht.cell 0
  simp at d1
  have i2 : (i : Int) < 3 := by omega
  clear hb ht hi
  go_enter Try.func132, Try.ntmps132
  go_wp2
  go_quiet ((go_at_call 133; exact Calls.quiet_of (lerpn_any _ _ _ _)))
  go_wp2
  go_ret
  exact ⟨_, rfl, cl_lerpC .., below_drewN (Below.refl _ _) _⟩

set_option maxRecDepth 100000 in
set_option maxHeartbeats 2000000 in
theorem lerp3_any (f g : Nat → Nat) (t : Nat) (w : World) :
    Calls Try.prog 99 #[arr f, arr g, .float .f32 t] w fun e w' => e = .returned (arr fun i => lerpC (f i) (g i) t) ∧ Below w.heap.size w w' := by
  go_enter Try.func99, Try.ntmps99
  obtain ⟨W0, hW0⟩ : ∃ W0, (((w.alloc (.cells (arrA f) 30)).alloc (.cells (arrA g) 30)).alloc (.cells #[.float .f32 t] 22)).alloc (.cells zarr 30) = W0 := ⟨_, rfl⟩
  have q1 : Blk W0 (w.heap.size + 1) 30 (arrA g) := by rw [← hW0]; exact ((Blk.new_at _ _ _ (by simp)).alloc _).alloc _
  have q2 : Blk W0 (w.heap.size + 1 + 1) 22 #[.float .f32 t] := by rw [← hW0]; exact (Blk.new_at _ _ _ (by simp)).alloc _
  have q3 : Blk W0 (w.heap.size + 1 + 1 + 1) 30 zarr := by rw [← hW0]; exact Blk.new_at _ _ _ (by simp)
  have q4 : Below w.heap.size w W0 := by rw [← hW0]; exact ((((Below.refl _ _).alloc (Nat.le_refl _) _).alloc (by simp) _).alloc (by simp; omega) _).alloc (by simp; omega) _
  have HW := hid hW0
  have Q1 := hid q1
  have Q2 := hid q2
  have Q3 := hid q3
  have Q4 := hid q4
  clear hW0 q1 q2 q3 q4
  go_wp2_with fail
  rw [HW.out]
  refine (each_any 132 #[.pointer (some ⟨w.heap.size + 1, 0, none⟩), .pointer (some ⟨w.heap.size + 1 + 1, 0, none⟩)] enters_lerp1 f (fun i => lerpC (f i) (g i) t) W0 (fun k w1 hk hb => lerp1_any _ _ (f k) t k g w1 hk (Q1.out.below hb Q1.out.lt) (Q2.out.below hb Q2.out.lt))).mono ?_
  rintro e w5 ⟨rfl, hb5⟩
  have y2 := Q3.out.below hb5 Q3.out.lt
  have HE5 := hid (below_to Q4.out hb5)
  have HY := hid y2
  have y0 := y2.cell 0
  have y1 := y2.cell 1
  have y3 := y2.cell 2
  have yf := fun i => y2.frozen i
  simp at y0 y1 y3
  clear hb5 y2
  go_wp2
  have hblk := HY.out.set3 (.float .f32 (lerpC (f 0) (g 0) t)) (.float .f32 (lerpC (f 1) (g 1) t)) (.float .f32 (lerpC (f 2) (g 2) t))
  have hb2 := ((HE5.out.setCell (p := ⟨w.heap.size + 1 + 1 + 1, 0, none⟩) (by simp; omega) (.float .f32 (lerpC (f 0) (g 0) t))).setCell (p := ⟨w.heap.size + 1 + 1 + 1, 1, none⟩) (by simp; omega) (.float .f32 (lerpC (f 1) (g 1) t))).setCell (p := ⟨w.heap.size + 1 + 1 + 1, 2, none⟩) (by simp; omega) (.float .f32 (lerpC (f 2) (g 2) t))
  exact bodyPost_ret (v := arr fun i => lerpC (f i) (g i) t) (results_cell_row rfl _ _ _ _ _ _ _ rfl hblk Try.underlying30 rfl (by kernel_rfl)) rfl ⟨rfl, hb2⟩
end Go.Proofs.Ythnbfllhmjpbjaa
