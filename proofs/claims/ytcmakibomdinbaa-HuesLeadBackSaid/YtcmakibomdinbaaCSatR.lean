/-
  Colours: Saturate of the reference.
-/
import Derived.Test.YtcmakibomdinbaaCSatu
namespace Go.Proofs.Ytcmakibomdinbaa
open Go.RowKit
attribute [local go_sem] run_store_float

theorem satG_any (W : World) (l a c bl ba : Nat) (w : World) (hw : w.heap = W.heap) (hl : Blk W bl 22 #[.float .f32 l]) (ha : Blk W ba 22 #[.float .f32 a]) :
    Calls Try.prog 117 #[.float .f32 c, .pointer (some ⟨bl, 0, none⟩), .pointer (some ⟨ba, 0, none⟩)] w fun e w' => e = .returned (.float .f32 (moveC l a c)) ∧ ∃ n, w' = w.drewN n :=
  satF_any l a c bl ba w (by unfold Blk; rw [hw]; exact hl) (by unfold Blk; rw [hw]; exact ha)

set_option maxRecDepth 100000 in
set_option maxHeartbeats 400000 in
theorem eachs_any (l a bl ba : Nat) (f : Nat → Nat) (w : World) (hl : Blk w bl 22 #[.float .f32 l]) (ha : Blk w ba 22 #[.float .f32 a]) :
    Calls Try.prog 116 #[pix f, .func (.func 117) #[] #[.pointer (some ⟨bl, 0, none⟩), .pointer (some ⟨ba, 0, none⟩)]] w fun e w' => e = .returned (pix (satuC l a f)) ∧ Below w.heap.size w w' := by
  have HL := hid hl
  have HA := hid ha
  clear hl ha
  rw [pix_cells]
  go_enter Try.func116, Try.ntmps116
  go_wp2_with fail
  generalize hW : World.alloc (World.alloc w _) _ = W
  have b0 : Blk W w.heap.size 24 (pixA f) := by rw [← hW]; exact (Blk.new_at _ _ _ rfl).alloc _
  have b1 : Blk W (w.heap.size + 1) 24 zpix := by rw [← hW]; exact Blk.new_at _ _ _ (by simp)
  have hbe : Below w.heap.size w W := by rw [← hW]; exact ((Below.refl _ _).alloc (Nat.le_refl _) _).alloc (by simp) _
  have hl : Blk W bl 22 #[.float .f32 l] := HL.out.below hbe HL.out.lt
  have ha : Blk W ba 22 #[.float .f32 a] := HA.out.below hbe HA.out.lt
  have x0 := b0.cell 0
  have x1 := b0.cell 1
  have x2 := b0.cell 2
  have x3 := b0.cell 3
  have z0 := b1.cell 0
  have z1 := b1.cell 1
  have z2 := b1.cell 2
  have z3 := b1.cell 3
  have y0 := b1.frozen 0
  have y1 := b1.frozen 1
  have y2 := b1.frozen 2
  have y3 := b1.frozen 3
  simp at x0 x1 x2 x3 z0 z1 z2 z3
  have HL1 := hid hl
  have HA1 := hid ha
  have HB := hid b1
  have HE := hid hbe
  clear hW b0 b1 hbe hl ha
  go_region_held3 (fun w' => w'.cell? ⟨w.heap.size, 0, none⟩ = some (.float .f32 (f 0)) ∧ w'.cell? ⟨w.heap.size, 1, none⟩ = some (.float .f32 (f 1)) ∧ w'.cell? ⟨w.heap.size, 2, none⟩ = some (.float .f32 (f 2)) ∧ w'.cell? ⟨w.heap.size, 3, none⟩ = some (.float .f32 (f 3))) (go_keep)
    (first
      | (go_at_call 35; refine (fix_any _ _).mono ?_; rintro e w' ⟨rfl, rfl⟩)
      | (go_at_call 117; refine (satG_any W l a _ bl ba _ (by rfl) HL1.out HA1.out).mono ?_; rintro e w' ⟨rfl, k, rfl⟩))
  all_goals
    go_wp2_with fail
    refine bodyPost_ret (results_cell_row rfl _ _ _ _ _ _ _ rfl (blk_set4 (HB.out.drewN _) _ _ _ _) Try.underlying24 rfl (by kernel_rfl)) rfl ⟨?_, below_set4 (below_drewN HE.out _) (by omega) _ _ _ _⟩
    exact congrArg _ (pix_four rfl rfl rfl rfl)

set_option maxRecDepth 100000 in
set_option maxHeartbeats 1000000 in
theorem satur_any (g f : Nat → Nat) (a : Nat) (w : World) : Calls Try.prog 59 #[tri g, pix f, .float .f32 a] w fun e w' => e = .returned (pix (satuC (lumaC g f) a f)) ∧ Below w.heap.size w w' := by
  rw [tri_cells, pix_cells]
  go_enter Try.func59, Try.ntmps59
  go_wp2_with fail
  refine (lumar_any g f _).mono ?_
  rintro e w1 ⟨rfl, hb1⟩
  have b1 : Blk w1 (w.heap.size + 1) 24 (pixA f) := Blk.below (((Blk.new_at _ _ _ (by simp)).alloc _).alloc _) hb1 (by first | (simp; done) | (simp; omega))
  have b2 : Blk w1 (w.heap.size + 1 + 1) 22 #[.float .f32 a] := Blk.below ((Blk.new_at _ _ _ (by simp)).alloc _) hb1 (by simp)
  have b3 : Blk w1 (w.heap.size + 1 + 1 + 1) 24 zpix := Blk.below (Blk.new_at _ _ _ (by simp)) hb1 (by simp)
  have hbe : Below w.heap.size w w1 := Below.trans (by repeat (first | exact Below.refl _ _ | refine Below.alloc ?_ (by first | (simp; done) | (simp; omega)) _)) (hb1.mono (by simp; omega))
  have hsz : w.heap.size + 1 + 1 + 1 < w1.heap.size := b3.lt
  have hsz1 : w.heap.size + 1 < w1.heap.size := b1.lt
  have e0 := b1.cell 0
  have e1 := b1.cell 1
  have e2 := b1.cell 2
  have e3 := b1.cell 3
  simp [pixA] at e0 e1 e2 e3
  have B2 := hid b2
  have B3 := hid b3
  have HE := hid hbe
  clear b1 b2 b3 hbe hb1
  go_wp2_with fail
  refine (eachs_any (lumaC g f) a _ _ f _ (Blk.new_at _ _ _ (by first | rfl | (simp; done) | omega)) (B2.out.alloc _)).mono ?_
  rintro e w2 ⟨rfl, hb2⟩
  have hz : Blk w2 (w.heap.size + 1 + 1 + 1) 24 zpix := (B3.out.alloc _).below hb2 (by simp; omega)
  have hbe2 : Below w.heap.size w w2 := (HE.out.alloc (by omega) _).trans (hb2.mono (by simp; omega))
  have HB := hid hz
  have HF := hid hbe2
  have z0 := hz.cell 0
  have z1 := hz.cell 1
  have z2 := hz.cell 2
  have z3 := hz.cell 3
  have y0 := hz.frozen 0
  have y1 := hz.frozen 1
  have y2 := hz.frozen 2
  have y3 := hz.frozen 3
  simp at z0 z1 z2 z3
  have px := pix_cells (satuC (lumaC g f) a f)
  clear hb2 hz hbe2 e0 e1 e2 e3
  go_wp2_with fail
  refine bodyPost_ret (results_cell_row rfl _ _ _ _ _ _ _ rfl (blk_set4 HB.out _ _ _ _) Try.underlying24 rfl (by kernel_rfl)) rfl ⟨?_, below_set4 HF.out (by omega) _ _ _ _⟩
  exact congrArg _ (pix_four rfl rfl rfl rfl)

/-- Two pixels of the same bits. -/
theorem samePix_any (f g : Nat → Nat) (h : ∀ k, k < 4 → f k = g k) (w : World) : Calls Try.prog 27 #[pix f, pix g] w fun e w' => e = .returned (.bool true) ∧ Below w.heap.size w w' := by
  rw [pix_congr h, pix_cells]
  go_enter Try.func27, Try.ntmps27
  go_wp2_with (go_at_call 43; refine (same_yes _ _ rfl _).mono ?_; rintro e w' ⟨rfl, rfl⟩)
  go_ret
  exact ⟨rfl, ends_below (((Below.refl _ _).alloc (Nat.le_refl _) _).alloc (by simp) _) (by first | exact ⟨0, rfl⟩ | exact ⟨_, rfl⟩)⟩

/-- The three of a hue, a saturation and a value. -/
def hsvH (f : Nat → Nat) : Nat := if nanAt f < 3 then 2143289344 else hueC f (mx f 2) (cop .sub .f32 (mx f 2) (mn f 2))
def hsvS (f : Nat → Nat) : Nat := if nanAt f < 3 then 2143289344 else cn .f32 (satC (mx f 2) (cop .sub .f32 (mx f 2) (mn f 2)))
def hsvV (f : Nat → Nat) : Nat := if nanAt f < 3 then 2143289344 else mx f 2
theorem hsvC_eq (f : Nat → Nat) : hsvC f = .returned (.tuple #[.float .f32 (hsvH f), .float .f32 (hsvS f), .float .f32 (hsvV f)]) := by
  unfold hsvC hsvH hsvS hsvV
  split <;> rfl
theorem hsvp2 (f : Nat → Nat) (w : World) : Calls Try.prog 19 #[pix f] w fun e w' => e = .returned (.tuple #[.float .f32 (hsvH f), .float .f32 (hsvS f), .float .f32 (hsvV f)]) ∧ Below w.heap.size w w' := by
  rw [← hsvC_eq]; exact hsvp_any f w
theorem hsvr2 (f : Nat → Nat) (w : World) : Calls Try.prog 51 #[pix f] w fun e w' => e = .returned (.tuple #[.float .f32 (hsvH f), .float .f32 (hsvS f), .float .f32 (hsvV f)]) ∧ Below w.heap.size w w' := by
  rw [← hsvC_eq]; exact hsvr_any f w
end Go.Proofs.Ytcmakibomdinbaa
