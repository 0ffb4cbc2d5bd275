/-
  Cubes with an error: Place, Tetra and Linear of the program.
-/
import Derived.Test.YthnbfllhmjpbjaaKTop
namespace Go.Proofs.Ythnbfllhmjpbjaa
open Go.RowKit Go.Shelf
attribute [local go_sem] run_store_float

set_option maxRecDepth 100000 in
set_option maxHeartbeats 2000000 in
theorem place_bad (S : Int) (L H v : Nat) (A : Option Addr) (n c : Nat) (w : World) (hC : (cubE S L H n != 0) = true) :
    Calls Try.prog 14 #[cub S L H A n c, .float .f32 v] w (PlS 0 0 w) := by
  go_enter Try.func14, Try.ntmps14
  go_wp2_with fail
  refine (check_any _ _ _ _ _ _ _).mono ?_
  rintro e w1 ⟨rfl, hb⟩
  have HB := hid (below_box hb)
  clear hb
  go_wp2
  go_ret2
  exact ⟨rfl, HB.out⟩

set_option maxRecDepth 100000 in
set_option maxHeartbeats 2000000 in
theorem tetra_bad (S : Int) (L H n c : Nat) (A : Option Addr) (p : Nat → Nat) (w : World) (hC : (cubE S L H n != 0) = true) :
    Calls Try.prog 12 #[cub S L H A n c, pix p] w (PixE (fun _ => 0) (cubE S L H n) w) := by
  rw [pix_cells p] at *
  go_enter Try.func12, Try.ntmps12
  obtain ⟨W0, hW0⟩ : ∃ W0, ((w.alloc (.cells #[.int .i64 S, .float .f32 L, .float .f32 H, .slice A n c] 25)).alloc (.cells (pA p) 27)).alloc (.cells zpix 27) = W0 := ⟨_, rfl⟩
  have q2 : Blk W0 (w.heap.size + 1 + 1) 27 zpix := by rw [← hW0]; exact Blk.new_at _ _ _ (by simp)
  have q3 : Below w.heap.size w W0 := by rw [← hW0]; exact (((Below.refl _ _).alloc (Nat.le_refl _) _).alloc (by simp) _).alloc (by simp; omega) _
  have HW := hid hW0
  have Q2 := hid q2
  have Q3 := hid q3
  clear hW0 q2 q3
  go_wp2_with fail
  rw [HW.out]
  refine (check_any _ _ _ _ _ _ _).mono ?_
  rintro e w1 ⟨rfl, hb1⟩
  have r2 := Q2.out.below hb1 Q2.out.lt
  have be1 := below_to Q3.out (hb1.mono (Nat.le_refl _))
  have z0 := r2.cell 0
  have z1 := r2.cell 1
  have z2 := r2.cell 2
  have z3 := r2.cell 3
  have f0 := r2.frozen 0
  have f1 := r2.frozen 1
  have f2 := r2.frozen 2
  have f3 := r2.frozen 3
  simp at z0 z1 z2 z3
  have HE := hid (⟨r2.set4 (.float .f32 0) (.float .f32 0) (.float .f32 0) (.float .f32 0), below_set4 be1 (g := w.heap.size + 1 + 1) (by omega) (.float .f32 0) (.float .f32 0) (.float .f32 0) (.float .f32 0)⟩ : _ ∧ _)
  clear r2 be1 hb1
  go_wp2_with fail
  obtain ⟨hblk, be⟩ := HE.out
  exact bodyPost_ret (v := .tuple #[pix fun _ => 0, .int .i64 (cubE S L H n)]) (results_row_tmp rfl _ _ _ _ _ _ rfl rfl hblk Try.underlying27 rfl (by kernel_rfl)) rfl ⟨rfl, be⟩

set_option maxRecDepth 100000 in
set_option maxHeartbeats 2000000 in
theorem linear_bad (S : Int) (L H n c : Nat) (A : Option Addr) (p : Nat → Nat) (w : World) (hC : (cubE S L H n != 0) = true) :
    Calls Try.prog 13 #[cub S L H A n c, pix p] w (PixE (fun _ => 0) (cubE S L H n) w) := by
  rw [pix_cells p] at *
  go_enter Try.func13, Try.ntmps13
  obtain ⟨W0, hW0⟩ : ∃ W0, ((w.alloc (.cells #[.int .i64 S, .float .f32 L, .float .f32 H, .slice A n c] 25)).alloc (.cells (pA p) 27)).alloc (.cells zpix 27) = W0 := ⟨_, rfl⟩
  have q2 : Blk W0 (w.heap.size + 1 + 1) 27 zpix := by rw [← hW0]; exact Blk.new_at _ _ _ (by simp)
  have q3 : Below w.heap.size w W0 := by rw [← hW0]; exact (((Below.refl _ _).alloc (Nat.le_refl _) _).alloc (by simp) _).alloc (by simp; omega) _
  have HW := hid hW0
  have Q2 := hid q2
  have Q3 := hid q3
  clear hW0 q2 q3
  go_wp2_with fail
  rw [HW.out]
  refine (check_any _ _ _ _ _ _ _).mono ?_
  rintro e w1 ⟨rfl, hb1⟩
  have r2 := Q2.out.below hb1 Q2.out.lt
  have be1 := below_to Q3.out (hb1.mono (Nat.le_refl _))
  have z0 := r2.cell 0
  have z1 := r2.cell 1
  have z2 := r2.cell 2
  have z3 := r2.cell 3
  have f0 := r2.frozen 0
  have f1 := r2.frozen 1
  have f2 := r2.frozen 2
  have f3 := r2.frozen 3
  simp at z0 z1 z2 z3
  have HE := hid (⟨r2.set4 (.float .f32 0) (.float .f32 0) (.float .f32 0) (.float .f32 0), below_set4 be1 (g := w.heap.size + 1 + 1) (by omega) (.float .f32 0) (.float .f32 0) (.float .f32 0) (.float .f32 0)⟩ : _ ∧ _)
  clear r2 be1 hb1
  go_wp2_with fail
  obtain ⟨hblk, be⟩ := HE.out
  exact bodyPost_ret (v := .tuple #[pix fun _ => 0, .int .i64 (cubE S L H n)]) (results_row_tmp rfl _ _ _ _ _ _ rfl rfl hblk Try.underlying27 rfl (by kernel_rfl)) rfl ⟨rfl, be⟩

end Go.Proofs.Ythnbfllhmjpbjaa
