/-
  Cubes: the identity, in the program.
-/
import Derived.Test.YthnbfllhmjpbjaaKBuild
namespace Go.Proofs.Ythnbfllhmjpbjaa
open Go.RowKit Go.Shelf
attribute [local go_sem] run_store_float

/-- How far the entry i is along an axis whose last entry is j. -/
def partC (i j : Int) : Nat := cop .quo .f32 (floatOfInt .f32 i) (floatOfInt .f32 j)
theorem part_tab : ∀ i, i < 17 → ∀ j, j < 16 → floatBits .quo .f32 (floatOfInt .f32 (i : Nat)) (floatOfInt .f32 ((j + 1 : Nat) : Int)) = some (partC (i : Nat) ((j + 1 : Nat) : Int)) := by decide +kernel
theorem part_q {i m : Nat} (hi : i < 17) (h1 : 2 ≤ m) (h2 : m ≤ 17) : (∀ w, fop .quo .f32 (floatOfInt .f32 i) (floatOfInt .f32 ((m : Int) - 1)) w = partC i ((m : Int) - 1)) ∧ fdr .quo .f32 (floatOfInt .f32 i) (floatOfInt .f32 ((m : Int) - 1)) = 0 := by
  obtain ⟨j, rfl⟩ : ∃ j, m = j + 1 + 1 := ⟨m - 2, by omega⟩
  rw [show (((j + 1 + 1 : Nat) : Int) - 1) = ((j + 1 : Nat) : Int) by omega]
  have h := part_tab i hi j (by omega)
  exact ⟨fun w => fopv h w, fdrv h⟩

theorem part_any (i m : Nat) (hi : i < 17) (h1 : 2 ≤ m) (h2 : m ≤ 17) (w : World) : Calls Try.prog 87 #[.int .i64 i, .int .i64 m] w fun e w' => e = .returned (.float .f32 (partC i ((m : Int) - 1))) ∧ w = w' := by
  obtain ⟨q1, q2⟩ := part_q hi h1 h2
  go_enter Try.func87, Try.ntmps87
  go_wp2
  go_ret
  exact ⟨rfl, rfl⟩

theorem Blk.set3F {w : World} {b : Nat} {t : TypeId} (h : Blk w b t zarr) (u0 u1 u2 : Value) : Blk (((w.setCell ⟨b, 0, none⟩ u0).setCell ⟨b, 1, none⟩ u1).setCell ⟨b, 2, none⟩ u2) b t #[u0, u1, u2] := Blk.set3 h u0 u1 u2

set_option maxRecDepth 100000 in
set_option maxHeartbeats 2000000 in
theorem idn_any (i j k m b : Nat) (hi : i < m) (hj : j < m) (hk : k < m) (h1 : 2 ≤ m) (h2 : m ≤ 17) (w : World) (hb : w.cell? ⟨b, 0, none⟩ = some (.int .i64 m)) :
    Calls Try.prog 86 #[ijk i j k, .pointer (some ⟨b, 0, none⟩)] w fun e w' => e = .returned (.agg #[.float .f32 (partC i ((m : Int) - 1)), .float .f32 (partC j ((m : Int) - 1)), .float .f32 (partC k ((m : Int) - 1))]) ∧ Below w.heap.size w w' := by
  have hlt : b < w.heap.size := World.block_lt_of_cell? w _ hb
  go_enter Try.func86, Try.ntmps86
  go_upto_region 1 with fail
  have B0 : Blk ((w.alloc (.cells #[.int .i64 i, .int .i64 j, .int .i64 k] 94)).alloc (.cells zarr 30)) w.heap.size 94 #[.int .i64 i, .int .i64 j, .int .i64 k] := (Blk.new_at _ _ _ rfl).alloc _
  have B1 : Blk ((w.alloc (.cells #[.int .i64 i, .int .i64 j, .int .i64 k] 94)).alloc (.cells zarr 30)) (w.heap.size + 1) 30 zarr := Blk.new_at _ _ _ (by simp)
  have BE : Below w.heap.size w ((w.alloc (.cells #[.int .i64 i, .int .i64 j, .int .i64 k] 94)).alloc (.cells zarr 30)) := ((Below.refl _ _).alloc (Nat.le_refl _) _).alloc (by simp) _
  have CB := (BE.cell (p := ⟨b, 0, none⟩) hlt).trans hb
  obtain ⟨W, hW⟩ : ∃ W, (w.alloc (.cells #[.int .i64 i, .int .i64 j, .int .i64 k] 94)).alloc (.cells zarr 30) = W := ⟨_, rfl⟩
  rw [hW] at B0 B1 BE CB ⊢
  clear hW hb
  have a0 := B0.cell 0
  have a1 := B0.cell 1
  have a2 := B0.cell 2
  have z0 := B1.cell 0
  have z1 := B1.cell 1
  have z2 := B1.cell 2
  have f0 := B1.frozen 0
  have f1 := B1.frozen 1
  have f2 := B1.frozen 2
  simp at a0 a1 a2 z0 z1 z2
  have hne : w.heap.size + 1 ≠ b := by omega
  have HB1 := hid B1
  have HBE := hid BE
  have i17 : i < 17 := by omega
  have j17 : j < 17 := by omega
  have k17 : k < 17 := by omega
  clear B0 B1 BE hi hj hk hlt
  go_region_held3 (fun w' => w'.cell? ⟨w.heap.size, 0, none⟩ = some (.int .i64 i) ∧ w'.cell? ⟨w.heap.size, 1, none⟩ = some (.int .i64 j) ∧ w'.cell? ⟨w.heap.size, 2, none⟩ = some (.int .i64 k) ∧ w'.cell? ⟨b, 0, none⟩ = some (.int .i64 m)) (go_keep)
    (first | (go_at_call 87; refine (part_any _ m (by assumption) h1 h2 _).mono ?_; rintro e w' ⟨rfl, rfl⟩))
  all_goals
    go_wp2_with fail
    have hblk := HB1.out.set3F (.float .f32 (partC i ((m : Int) - 1))) (.float .f32 (partC j ((m : Int) - 1))) (.float .f32 (partC k ((m : Int) - 1)))
    have be := ((HBE.out.setCell (p := ⟨w.heap.size + 1, 0, none⟩) (by simp) (.float .f32 (partC i ((m : Int) - 1)))).setCell (p := ⟨w.heap.size + 1, 1, none⟩) (by simp) (.float .f32 (partC j ((m : Int) - 1)))).setCell (p := ⟨w.heap.size + 1, 2, none⟩) (by simp) (.float .f32 (partC k ((m : Int) - 1)))
    exact bodyPost_ret (v := .agg #[.float .f32 (partC i ((m : Int) - 1)), .float .f32 (partC j ((m : Int) - 1)), .float .f32 (partC k ((m : Int) - 1))]) (results_cell_row rfl _ _ _ _ _ _ _ rfl (show Blk (World.drew _) _ _ _ from hblk) Try.underlying30 rfl (by kernel_rfl)) rfl ⟨rfl, be.drew⟩

/-- One of a place's three numbers. -/
def crd (x : Nat × Nat × Nat) (r : Nat) : Nat := if r = 0 then x.1 else if r = 1 then x.2.1 else x.2.2
/-- The singles of the identity. -/
def idG (m t : Nat) : Nat := partC (crd (plc m (t / 3)) (t % 3)) ((m : Int) - 1)
theorem part_cl_tab : ∀ i, i < 17 → ∀ j, j < 16 → cl (partC (i : Nat) ((j + 1 : Nat) : Int)) = partC (i : Nat) ((j + 1 : Nat) : Int) := by decide +kernel
theorem part_cl {i m : Nat} (hi : i < 17) (h1 : 2 ≤ m) (h2 : m ≤ 17) : cl (partC i ((m : Int) - 1)) = partC i ((m : Int) - 1) := by
  obtain ⟨j, rfl⟩ : ∃ j, m = j + 1 + 1 := ⟨m - 2, by omega⟩
  rw [show (((j + 1 + 1 : Nat) : Int) - 1) = ((j + 1 : Nat) : Int) by omega]
  exact part_cl_tab i hi j (by omega)
theorem plc_bounds {m t : Nat} (h : t < m * m * m) : (plc m t).1 < m ∧ (plc m t).2.1 < m ∧ (plc m t).2.2 < m := by
  have hm : 0 < m := by
    rcases Nat.eq_zero_or_pos m with rfl | h0
    · simp at h
    · exact h0
  exact ⟨Nat.mod_lt _ hm, Nat.mod_lt _ hm, Nat.div_lt_of_lt_mul h⟩

theorem idn_gives (m b : Nat) (h1 : 2 ≤ m) (h2 : m ≤ 17) (w : World) (hlt : b < w.heap.size) (hb : w.cell? ⟨b, 0, none⟩ = some (.int .i64 m)) : Gives3 86 #[.pointer (some ⟨b, 0, none⟩)] m (idG m) w := by
  intro t w1 ht hbe
  obtain ⟨p1, p2, p3⟩ := plc_bounds ht
  refine (idn_any _ _ _ m b p1 p2 p3 h1 h2 w1 ((hbe.cell (p := ⟨b, 0, none⟩) hlt).trans hb)).mono ?_
  rintro e w2 ⟨rfl, hb2⟩
  refine ⟨fun r => partC (crd (plc m t) r) ((m : Int) - 1), rfl, fun i hi => ?_, hb2⟩
  have e1 : (3 * t + i) / 3 = t := by omega
  have e2 : (3 * t + i) % 3 = i := by omega
  show cl (partC (crd (plc m t) i) _) = idG m (3 * t + i)
  unfold idG
  rw [e1, e2]
  refine part_cl ?_ h1 h2
  unfold crd
  split
  · omega
  · split <;> omega

theorem enters_idn (args : Array Value) (w : World) : (callFunc 86 args).run Try.prog w = .ok (.enter 86 args) w := enters_of Try.func86 (by kernel_rfl) rfl args w

/-- What Identity hands back. -/
def IdnR (m : Nat) (w : World) (e : Ending) (w' : World) : Prop :=
  ∃ b c, e = .returned (.tuple #[cub m 0 1065353216 (some ⟨b, 0, none⟩) (3 * (m * m * m)) c, .int .i64 0]) ∧ 3 * (m * m * m) ≤ c ∧ w.heap.size ≤ b ∧ Rd w' b 0 (3 * (m * m * m)) (idG m) ∧ Below w.heap.size w w'

set_option maxRecDepth 100000 in
set_option maxHeartbeats 2000000 in
theorem identity_any (m : Nat) (h1 : 2 ≤ m) (h2 : m ≤ 17) (w : World) : Calls Try.prog 30 #[.int .i64 m] w (IdnR m w) := by
  have hs : sizeB (m : Int) = true := sizeB_true.2 ⟨by omega, by omega⟩
  go_enter Try.func30, Try.ntmps30
  go_wp2_with (first | (go_at_call 72; refine (isSize_any _ _).mono ?_; rintro e w' ⟨rfl, rfl⟩) | fail)
  have B0 : Blk ((w.alloc (.cells #[.int .i64 m] 3)).alloc (.cells zcube 25)) w.heap.size 3 #[.int .i64 m] := (Blk.new_at _ _ _ rfl).alloc _
  have B1 : Blk ((w.alloc (.cells #[.int .i64 m] 3)).alloc (.cells zcube 25)) (w.heap.size + 1) 25 zcube := Blk.new_at _ _ _ (by simp)
  have BE : Below w.heap.size w ((w.alloc (.cells #[.int .i64 m] 3)).alloc (.cells zcube 25)) := ((Below.refl _ _).alloc (Nat.le_refl _) _).alloc (by simp) _
  obtain ⟨W, hW⟩ : ∃ W, (w.alloc (.cells #[.int .i64 m] 3)).alloc (.cells zcube 25) = W := ⟨_, rfl⟩
  rw [hW] at B0 B1 BE ⊢
  clear hW
  refine (build_any 86 _ enters_idn m 0 1065353216 h1 h2 (idG m) W (idn_gives m _ h1 h2 W B0.lt (by rw [B0.cell 0]; rfl))).mono ?_
  rintro e w1 ⟨b, c, rfl, hc, hb, hR, hbe⟩
  have R1 : Blk w1 (w.heap.size + 1) 25 zcube := B1.below hbe B1.lt
  have z0 := R1.cell 0
  have z1 := R1.cell 1
  have z2 := R1.cell 2
  have z3 := R1.cell 3
  have f0 := R1.frozen 0
  have f1 := R1.frozen 1
  have f2 := R1.frozen 2
  have f3 := R1.frozen 3
  simp at z0 z1 z2 z3
  have hbb : w.heap.size + 1 < b := by have := B1.lt; omega
  have BE1 := BE.trans (hbe.mono BE.size)
  have hblk := R1.set4 (.int .i64 m) (.float .f32 0) (.float .f32 1065353216) (.slice (some ⟨b, 0, none⟩) (3 * (m * m * m)) c)
  have be := (((BE1.setCell (p := ⟨w.heap.size + 1, 0, none⟩) (by simp) (.int .i64 m)).setCell (p := ⟨w.heap.size + 1, 1, none⟩) (by simp) (.float .f32 0)).setCell (p := ⟨w.heap.size + 1, 2, none⟩) (by simp) (.float .f32 1065353216)).setCell (p := ⟨w.heap.size + 1, 3, none⟩) (by simp) (.slice (some ⟨b, 0, none⟩) (3 * (m * m * m)) c)
  have hR2 : Rd ((((w1.setCell ⟨w.heap.size + 1, 0, none⟩ (.int .i64 m)).setCell ⟨w.heap.size + 1, 1, none⟩ (.float .f32 0)).setCell ⟨w.heap.size + 1, 2, none⟩ (.float .f32 1065353216)).setCell ⟨w.heap.size + 1, 3, none⟩ (.slice (some ⟨b, 0, none⟩) (3 * (m * m * m)) c)) b 0 (3 * (m * m * m)) (idG m) := by
    intro i hi
    rw [World.cell?_setCell_far _ _ _ _ (by simp; omega), World.cell?_setCell_far _ _ _ _ (by simp; omega), World.cell?_setCell_far _ _ _ _ (by simp; omega), World.cell?_setCell_far _ _ _ _ (by simp; omega)]
    exact hR i hi
  have HF := hid (⟨hblk, be, hR2⟩ : _ ∧ _ ∧ _)
  clear hblk be hR2 R1 B0 B1 BE BE1 hR hbe
  go_wp2_with fail
  obtain ⟨hblk, be, hR2⟩ := HF.out
  exact bodyPost_ret (v := .tuple #[cub m 0 1065353216 (some ⟨b, 0, none⟩) (3 * (m * m * m)) c, .int .i64 0]) (results_row_tmp rfl _ _ _ _ _ _ rfl rfl hblk Try.underlying25 rfl (by kernel_rfl)) rfl ⟨b, c, rfl, hc, by omega, hR2, be⟩

end Go.Proofs.Ythnbfllhmjpbjaa
