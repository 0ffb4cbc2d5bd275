/-
  Colours: Turn of the program.
-/
import Derived.Test.YtcmakibomdinbaaCSatR
namespace Go.Proofs.Ytcmakibomdinbaa
open Go.RowKit
attribute [local go_sem] run_store_float

theorem fromC_cn (x s v al : Nat) : fromC (cn .f32 x) s v al = fromC x s v al := by
  by_cases h : isN .f32 x = true
  · have h1 : fin x = false := by
      by_cases hf : fin x = true
      · rw [fin_not_nan hf] at h; cases h
      · simpa using hf
    have h2 : fin (cn .f32 x) = false := by rw [cn_of_nan h]; decide +kernel
    funext j
    unfold fromC
    rw [h1, h2]
    simp
  · rw [cn_of_not (by simpa using h)]

def turnC (f : Nat → Nat) (b : Nat) : Nat → Nat := fromC (cop .add .f32 (cn .f32 (hsvH f)) (cn .f32 b)) (hsvS f) (hsvV f) (f 3)

set_option maxRecDepth 100000 in
set_option maxHeartbeats 1000000 in
theorem turn_any (f : Nat → Nat) (b : Nat) (w : World) : Calls Try.prog 55 #[pix f, .float .f32 b] w fun e w' => e = .returned (pix (turnC f b)) ∧ Below w.heap.size w w' := by
  rw [pix_cells]
  go_enter Try.func55, Try.ntmps55
  go_wp2_with fail
  refine (hsvp2 f _).mono ?_
  rintro e w1 ⟨rfl, hb1⟩
  have b0 : Blk w1 w.heap.size 24 (pixA f) := Blk.below ((Blk.new_at _ _ _ (by first | rfl | (simp; done))).alloc _) hb1 (by simp; omega)
  have b1 : Blk w1 (w.heap.size + 1) 24 zpix := Blk.below (Blk.new_at _ _ _ (by simp)) hb1 (by simp)
  have hbe : Below w.heap.size w w1 := Below.trans (by repeat (first | exact Below.refl _ _ | refine Below.alloc ?_ (by first | (simp; done) | (simp; omega)) _)) (hb1.mono (by simp; omega))
  have x3 := b0.cell 3
  simp at x3
  have B1 := hid b1
  have HE := hid hbe
  clear b0 b1 hbe hb1
  go_wp2_with fail
  refine (from_any _ _ _ _ _).mono ?_
  rintro e w2 ⟨rfl, hb2⟩
  have hz : Blk w2 (w.heap.size + 1) 24 zpix := (B1.out.drewN _).below hb2 B1.out.lt
  have hbe2 : Below w.heap.size w w2 := below_to (below_drewN HE.out _) hb2
  have HB := hid hz
  have HF := hid hbe2
  have z0 := hz.cell 0
  have z1 := hz.cell 1
  have z2 := hz.cell 2
  have z3 := hz.cell 3
  have y0 := hz.frozen 0
  have y1 := hz.frozen 1
  have y2 := hz.frozen 2
  have y3 := hz.frozen 3
  simp at z0 z1 z2 z3
  rw [← fromC_cn, cn_fop]
  have px := pix_cells (turnC f b)
  unfold turnC at px
  clear hb2 hz hbe2
  go_wp2_with fail
  refine bodyPost_ret (results_cell_row rfl _ _ _ _ _ _ _ rfl (blk_set4 HB.out _ _ _ _) Try.underlying24 rfl (by kernel_rfl)) rfl ⟨?_, below_set4 HF.out (by omega) _ _ _ _⟩
  exact congrArg _ (pix_four rfl rfl rfl rfl)
end Go.Proofs.Ytcmakibomdinbaa
