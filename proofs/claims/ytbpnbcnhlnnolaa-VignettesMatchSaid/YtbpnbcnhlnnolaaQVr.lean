/-
  Vignettes: the reference's pixel.
-/
import Derived.Test.YtbpnbcnhlnnolaaQVw
import Derived.Test.YtbpnbcnhlnnolaaQNn
import Derived.Lib.ItoaWalk
import Derived.Deep.DeepCutAuto
import Derived.Deep.CutBlock
namespace Go.Proofs.Ytbpnbcnhlnnolaa
open Go.RowKit Go.Shelf
open Ieee (Datum Format signed)
attribute [local go_sem] run_store_float

/-- An operation under another name. -/
def adOp (op : BinOp) (t : TypeId) (x y : Operand) (t2 : TypeId) : Op := Op.binOp op t x y t2
@[go_sem] theorem adOp_eq (op : BinOp) (t : TypeId) (x y : Operand) (t2 : TypeId) : adOp op t x y t2 = Op.binOp op t x y t2 := rfl
theorem box_cell (wq : World) (a b : Nat) (v : Value) (t : TypeId) : (((wq.drewN a).alloc (.cells #[v] t)).drewN b).cell? ⟨wq.heap.size, 0, none⟩ = some v := (Blk.new_at (b := wq.heap.size) (wq.drewN a) t #[v] rfl).cell 0
theorem box_frozen (wq : World) (a b : Nat) (v : Value) (t : TypeId) : (((wq.drewN a).alloc (.cells #[v] t)).drewN b).frozen? ⟨wq.heap.size, 0, none⟩ = false := (Blk.new_at (b := wq.heap.size) (wq.drewN a) t #[v] rfl).frozen 0
theorem box_cell0 (wq : World) (a : Nat) (v : Value) (t : TypeId) : ((wq.drewN a).alloc (.cells #[v] t)).cell? ⟨wq.heap.size, 0, none⟩ = some v := (Blk.new_at (b := wq.heap.size) (wq.drewN a) t #[v] rfl).cell 0
theorem box_frozen0 (wq : World) (a : Nat) (v : Value) (t : TypeId) : ((wq.drewN a).alloc (.cells #[v] t)).frozen? ⟨wq.heap.size, 0, none⟩ = false := (Blk.new_at (b := wq.heap.size) (wq.drewN a) t #[v] rfl).frozen 0

theorem far_cell {wq : World} {g k : Nat} {v : Value} (h : wq.cell? ⟨g, k, none⟩ = some v) (hg : g < wq.heap.size) (a b : Nat) (o : Obj) : (((wq.drewN a).alloc o).drewN b).cell? ⟨g, k, none⟩ = some v := (World.cell?_alloc_lt (wq.drewN a) o ⟨g, k, none⟩ hg).trans h
theorem far_cell0 {wq : World} {g k : Nat} {v : Value} (h : wq.cell? ⟨g, k, none⟩ = some v) (hg : g < wq.heap.size) (a : Nat) (o : Obj) : ((wq.drewN a).alloc o).cell? ⟨g, k, none⟩ = some v := (World.cell?_alloc_lt (wq.drewN a) o ⟨g, k, none⟩ hg).trans h

/-- What stands in the boxes of DarkOf. -/
structure DK (V P : Nat → Nat) (w : World) (wr : World) : Prop where
  v : Blk wr w.heap.size 86 (vigA V)
  p : Blk wr (w.heap.size + 1) 47 (pixA P)
  r : Blk wr (w.heap.size + 1 + 1) 47 zpix4
  be : Below w.heap.size w wr
abbrev DKC (V P : Nat → Nat) (w : World) (w' : World) : Prop := w'.cell? ⟨w.heap.size, 2, none⟩ = some (.float .f32 (V 2)) ∧ w'.cell? ⟨w.heap.size, 3, none⟩ = some (.float .f32 (V 3)) ∧ w'.cell? ⟨w.heap.size, 4, none⟩ = some (.float .f32 (V 4)) ∧ DK V P w w'
section
variable {V P : Nat → Nat} {w wr w1 : World}
theorem DK.held (h : DK V P w wr) : DKC V P w wr := ⟨h.v.cell 2, h.v.cell 3, h.v.cell 4, h⟩
theorem DK.below (h : DK V P w wr) (hb : Below wr.heap.size wr w1) : DK V P w w1 := ⟨h.v.below hb h.v.lt, h.p.below hb h.p.lt, h.r.below hb h.r.lt, below_to h.be hb⟩
theorem DKC.on (hb : Below wr.heap.size wr w1) (h : DKC V P w wr) : DKC V P w w1 := (h.2.2.2.below hb).held
theorem DKC.alloc (h : DKC V P w wr) (o : Obj) : DKC V P w (wr.alloc o) := (h.2.2.2.below ((Below.refl _ _).alloc (Nat.le_refl _) o)).held
theorem DKC.drewN (h : DKC V P w wr) (n : Nat) : DKC V P w (wr.drewN n) := (h.2.2.2.below (below_drewN (Below.refl _ _) n)).held
end

set_option maxRecDepth 100000 in
set_option maxHeartbeats 8000000 in
theorem dark_core (V P : Nat → Nat) (x y : Int) (h : vfin V) (hx : x.natAbs < 16777216) (hy : y.natAbs < 16777216) (w : World)
    (hq : ∀ r, cl r = vrC V x y → isN .f32 r = false → ∃ Q, floatBits .quo .f32 (cop .sub .f32 r (V 2)) (cop .sub .f32 (V 3) (V 2)) = some Q) : Calls Try.prog 63 #[vig V, .int .i64 x, .int .i64 y, pix P] w fun e w' => e = .returned (pix (vpx V P x y)) ∧ Below w.heap.size w w' := by
  have hmf : ∀ (fn : Fn) (first cap : Array Value) (w : World), (Instr.makeFunc fn first cap).run Try.prog w = .ok (.func fn first cap) w := fun _ _ _ _ => rfl
  have k1 := fun w => fopv (h.dx hx (k := 0) (by omega)) w
  have k2 := fdrv (h.dx hx (k := 0) (by omega))
  have k3 := fun w => fopv (h.dx hy (k := 1) (by omega)) w
  have k4 := fdrv (h.dx hy (k := 1) (by omega))
  have k5 := fun w => fopv h.oi w
  have k6 := fdrv h.oi
  obtain ⟨A, hA, nA⟩ := mul_self_nn (floatBits_not_nan (h.dx hx (k := 0) (by omega)))
  obtain ⟨B, hB, nB⟩ := mul_self_nn (floatBits_not_nan (h.dx hy (k := 1) (by omega)))
  obtain ⟨C, hC, nC⟩ := add_nn nA nB
  obtain ⟨R, r, c1, c2, c3, c4, c5, c6, c7, c8⟩ := root_run nC
  have hcl : cl r = vrC V x y := by
    rw [c8]
    unfold vrC
    rw [cop_some hA, cop_some hB, cop_some hC]
  have m1 := fun w => fopv hA w
  have m2 := fdrv hA
  have m3 := fun w => fopv hB w
  have m4 := fdrv hB
  have m5 := fun w => fopv hC w
  have m6 := fdrv hC
  have hsub := sub_fin c7 (h 2 (by omega))
  have m7 := fun w => fopv hsub w
  have m8 := fdrv hsub
  obtain ⟨Q, hQ⟩ := hq r hcl c7
  have n5 := fun w => fopv hQ w
  have n6 := fdrv hQ
  have HL : RowKit.Hid (∀ w2, lerpC 1065353216 (V 4) (smC (fop .quo .f32 (cop .sub .f32 r (V 2)) (cop .sub .f32 (V 3) (V 2)) w2)) = ligC V x y) := fun w2 => by
    have := lig_bits h (x := x) (y := y) r hcl w w2
    rw [fopv hsub, fopv hQ] at this
    rw [fopv hQ]
    exact this
  clear h hA hB hC nA nB nC c7 c8 hcl hsub hq hQ
  rw [vig_cells, pix_cells P]
  go_enter Try.func63, Try.ntmps63
  go_wp2_with fail
  have hk0 : DK V P w (((w.alloc (.cells (vigA V) 86)).alloc (.cells (pixA P) 47)).alloc (.cells zpix4 47)) :=
    ⟨((Blk.new_at _ _ _ rfl).alloc _).alloc _, (Blk.new_at _ _ _ (by simp)).alloc _, Blk.new_at _ _ _ (by simp), (((Below.refl _ _).alloc (Nat.le_refl _) _).alloc (by simp) _).alloc (by simp; omega) _⟩
  have HK0 := hid hk0
  clear hk0
  go_quiet (fail)
  go_wp2_with (go_at_call 127; (with_reducible refine (sqrt_any _ _).mono ?_); rintro e w' ⟨rfl, rfl⟩)
  go_name_world wq hwq
  have HKq : RowKit.Hid (DK V P w wq) := by
    show DK V P w wq
    rw [← hwq]
    exact HK0.out.below (below_drewN (Below.refl _ _) _)
  clear hwq HK0 k1 k2 k3 k4 m1 m2 m3 m4 m5 m6 c1 c2 c3 c4 c5 c6
  have d2 := HKq.out.v.cell 2
  have d3 := HKq.out.v.cell 3
  have d4 := HKq.out.v.cell 4
  have lq := HKq.out.v.lt
  simp at d2 d3 d4
  have y1 := far_cell d2 lq
  have y2 := far_cell d3 lq
  have y3 := far_cell d4 lq
  have y4 := far_cell0 d2 lq
  have y5 := far_cell0 d3 lq
  have y6 := far_cell0 d4 lq
  have t1 : ∀ (w3 : World) (u : Value) (k : Nat), (w3.setCell ⟨wq.heap.size, 0, none⟩ u).cell? ⟨w.heap.size, k, none⟩ = w3.cell? ⟨w.heap.size, k, none⟩ := fun w3 u k => World.cell?_setCell_other w3 ⟨wq.heap.size, 0, none⟩ ⟨w.heap.size, k, none⟩ u (fun e => by injection e with e1; omega)
  have x1 := box_cell wq
  have x2 := box_frozen wq
  have x3 := box_cell0 wq
  have x4 := box_frozen0 wq
  go_region_held3 (fun w' => w'.cell? ⟨w.heap.size, 2, none⟩ = some (.float .f32 (V 2)) ∧ w'.cell? ⟨w.heap.size, 3, none⟩ = some (.float .f32 (V 3)) ∧ w'.cell? ⟨w.heap.size, 4, none⟩ = some (.float .f32 (V 4))) (go_keep)
    (first
      | (go_at_call 129; refine (smr_any _ _).mono ?_; rintro e w' ⟨rfl, n1, rfl⟩)
      | (go_at_call 128; refine (lerpr_any _ _ _ _).mono ?_; rintro e w' ⟨rfl, n2, rfl⟩))
  all_goals
    rename_i hH
    clear hH y1 y2 y3 y4 y5 y6 t1 x1 x2 x3 x4 d2 d3 d4
    have hm : lerpC 1065353216 (V 4) (smC Q) = ligC V x y := by rw [← n5 w]; exact HL.out w
    generalize lerpC 1065353216 (V 4) (smC Q) = m at *
    have HM := hid hm
    clear hm
    go_upto_region 4 with fail
    go_name_world wz hwz
    have hbq : Below wq.heap.size wq wz := by
      rw [← hwz]
      first
        | exact ((below_drewN (Below.refl _ _) _).alloc (Nat.le_refl _) _).setCell (p := ⟨wq.heap.size, 0, none⟩) (Nat.le_refl _) _
        | exact (below_drewN ((below_drewN (Below.refl _ _) _).alloc (Nat.le_refl _) _) _).setCell (p := ⟨wq.heap.size, 0, none⟩) (Nat.le_refl _) _
        | exact (below_drewN (below_drewN (Below.refl _ _) _) _).alloc (Nat.le_refl _) _
        | exact (below_drewN (Below.refl _ _) _).alloc (Nat.le_refl _) _
    have HB : RowKit.Hid (Blk wz wq.heap.size 40 #[.float .f32 m]) := by
      show Blk wz wq.heap.size 40 #[.float .f32 m]
      rw [← hwz]
      first
        | exact (Blk.new_at _ _ _ rfl).set_ 0 _
        | exact ((Blk.new_at _ _ _ rfl).drewN _).set_ 0 _
        | exact Blk.new_at _ _ _ rfl
    have hz := HKq.out.below hbq
    have HZ := hid hz
    have p0 := hz.p.cell 0
    have p1 := hz.p.cell 1
    have p2 := hz.p.cell 2
    have p3 := hz.p.cell 3
    simp at p0 p1 p2 p3
    have HC := hid (eachr_any 130 #[.pointer (some ⟨wq.heap.size, 0, none⟩)] enters_dark1 P (fun k => cop .mul .f32 (cl (P k)) (cl m)) wz (fun k w1 _ hb => dark1_any (P k) m wq.heap.size w1 (HB.out.below hb HB.out.lt)))
    rw [pix_cells P] at HC
    clear hwz hbq hz
    go_wp2_with fail
    refine HC.out.mono ?_
    rintro e w2 ⟨rfl, hb2⟩
    have hz2 := HZ.out.below hb2
    have z0 := hz2.r.cell 0
    have z1 := hz2.r.cell 1
    have z2 := hz2.r.cell 2
    have z3 := hz2.r.cell 3
    have fz := fun i => hz2.r.frozen i
    simp at z0 z1 z2 z3
    have HR := hid (hz2.r.set4 (.float .f32 (col P (fun k => cop .mul .f32 (cl (P k)) (cl m)) 0)) (.float .f32 (col P (fun k => cop .mul .f32 (cl (P k)) (cl m)) 1)) (.float .f32 (col P (fun k => cop .mul .f32 (cl (P k)) (cl m)) 2)) (.float .f32 (col P (fun k => cop .mul .f32 (cl (P k)) (cl m)) 3)))
    have HB2 := hid hz2.be
    rw [pix_cells]
    clear hb2 hz2 HC p0 p1 p2 p3
    go_wp2_with fail
    refine bodyPost_ret (v := pix (col P fun k => cop .mul .f32 (cl (P k)) (cl m))) (results_cell_row rfl _ _ _ _ _ _ _ rfl HR.out Try.underlying47 rfl (by kernel_rfl)) rfl ⟨?_, (((HB2.out.setCell (by simp; omega) _).setCell (by simp; omega) _).setCell (by simp; omega) _).setCell (by simp; omega) _⟩
    unfold vpx
    rw [HM.out]
set_option maxRecDepth 100000 in
set_option maxHeartbeats 8000000 in
theorem dark_none (V P : Nat → Nat) (x y : Int) (h : vfin V) (hx : x.natAbs < 16777216) (hy : y.natAbs < 16777216) (w : World)
    (hq : ∀ r, cl r = vrC V x y → isN .f32 r = false → floatBits .quo .f32 (cop .sub .f32 r (V 2)) (cop .sub .f32 (V 3) (V 2)) = none) : Calls Try.prog 63 #[vig V, .int .i64 x, .int .i64 y, pix P] w fun e w' => e = .returned (pix (vpx V P x y)) ∧ Below w.heap.size w w' := by
  have hmf : ∀ (fn : Fn) (first cap : Array Value) (w : World), (Instr.makeFunc fn first cap).run Try.prog w = .ok (.func fn first cap) w := fun _ _ _ _ => rfl
  have k1 := fun w => fopv (h.dx hx (k := 0) (by omega)) w
  have k2 := fdrv (h.dx hx (k := 0) (by omega))
  have k3 := fun w => fopv (h.dx hy (k := 1) (by omega)) w
  have k4 := fdrv (h.dx hy (k := 1) (by omega))
  have k5 := fun w => fopv h.oi w
  have k6 := fdrv h.oi
  obtain ⟨A, hA, nA⟩ := mul_self_nn (floatBits_not_nan (h.dx hx (k := 0) (by omega)))
  obtain ⟨B, hB, nB⟩ := mul_self_nn (floatBits_not_nan (h.dx hy (k := 1) (by omega)))
  obtain ⟨C, hC, nC⟩ := add_nn nA nB
  obtain ⟨R, r, c1, c2, c3, c4, c5, c6, c7, c8⟩ := root_run nC
  have hcl : cl r = vrC V x y := by
    rw [c8]
    unfold vrC
    rw [cop_some hA, cop_some hB, cop_some hC]
  have m1 := fun w => fopv hA w
  have m2 := fdrv hA
  have m3 := fun w => fopv hB w
  have m4 := fdrv hB
  have m5 := fun w => fopv hC w
  have m6 := fdrv hC
  have hsub := sub_fin c7 (h 2 (by omega))
  have m7 := fun w => fopv hsub w
  have m8 := fdrv hsub
  have hQ := hq r hcl c7
  have n6 : fdr .quo .f32 (cop .sub .f32 r (V 2)) (cop .sub .f32 (V 3) (V 2)) = 1 := by unfold fdr; rw [hQ]
  have HL : RowKit.Hid (∀ w2, lerpC 1065353216 (V 4) (smC (fop .quo .f32 (cop .sub .f32 r (V 2)) (cop .sub .f32 (V 3) (V 2)) w2)) = ligC V x y) := fun w2 => by
    have := lig_bits h (x := x) (y := y) r hcl w w2
    rw [fopv hsub] at this
    exact this
  clear h hA hB hC nA nB nC c7 c8 hcl hsub hq hQ
  rw [vig_cells, pix_cells P]
  go_enter Try.func63, Try.ntmps63
  go_wp2_with fail
  have hk0 : DK V P w (((w.alloc (.cells (vigA V) 86)).alloc (.cells (pixA P) 47)).alloc (.cells zpix4 47)) :=
    ⟨((Blk.new_at _ _ _ rfl).alloc _).alloc _, (Blk.new_at _ _ _ (by simp)).alloc _, Blk.new_at _ _ _ (by simp), (((Below.refl _ _).alloc (Nat.le_refl _) _).alloc (by simp) _).alloc (by simp; omega) _⟩
  have HK0 := hid hk0
  clear hk0
  go_quiet (fail)
  go_wp2_with (go_at_call 127; (with_reducible refine (sqrt_any _ _).mono ?_); rintro e w' ⟨rfl, rfl⟩)
  go_name_world wq hwq
  have HKq : RowKit.Hid (DK V P w wq) := by
    show DK V P w wq
    rw [← hwq]
    exact HK0.out.below (below_drewN (Below.refl _ _) _)
  clear hwq HK0 k1 k2 k3 k4 m1 m2 m3 m4 m5 m6 c1 c2 c3 c4 c5 c6
  have d2 := HKq.out.v.cell 2
  have d3 := HKq.out.v.cell 3
  have d4 := HKq.out.v.cell 4
  have lq := HKq.out.v.lt
  simp at d2 d3 d4
  have y1 := far_cell d2 lq
  have y2 := far_cell d3 lq
  have y3 := far_cell d4 lq
  have y4 := far_cell0 d2 lq
  have y5 := far_cell0 d3 lq
  have y6 := far_cell0 d4 lq
  have t1 : ∀ (w3 : World) (u : Value) (k : Nat), (w3.setCell ⟨wq.heap.size, 0, none⟩ u).cell? ⟨w.heap.size, k, none⟩ = w3.cell? ⟨w.heap.size, k, none⟩ := fun w3 u k => World.cell?_setCell_other w3 ⟨wq.heap.size, 0, none⟩ ⟨w.heap.size, k, none⟩ u (fun e => by injection e with e1; omega)
  have x1 := box_cell wq
  have x2 := box_frozen wq
  have x3 := box_cell0 wq
  have x4 := box_frozen0 wq
  rw [show Op.binOp BinOp.quo 40 (Operand.tmp 38) (Operand.tmp 43) 40 = adOp BinOp.quo 40 (Operand.tmp 38) (Operand.tmp 43) 40 from rfl]
  go_region_held3 (fun w' => w'.cell? ⟨w.heap.size, 2, none⟩ = some (.float .f32 (V 2)) ∧ w'.cell? ⟨w.heap.size, 3, none⟩ = some (.float .f32 (V 3)) ∧ w'.cell? ⟨w.heap.size, 4, none⟩ = some (.float .f32 (V 4))) (go_keep)
    (first
      | (go_at_call 129; refine (smr_any _ _).mono ?_; rintro e w' ⟨rfl, n1, rfl⟩)
      | (go_at_call 128; refine (lerpr_any _ _ _ _).mono ?_; rintro e w' ⟨rfl, n2, rfl⟩))
  all_goals
    rename_i hH
    clear hH y1 y2 y3 y4 y5 y6 t1 x1 x2 x3 x4 d2 d3 d4
    generalize hm : lerpC 1065353216 (V 4) (smC (fop .quo .f32 _ _ _)) = m
    have HM : RowKit.Hid (m = ligC V x y) := by
      show m = _
      rw [← hm]
      exact HL.out _
    clear hm
    go_upto_region 4 with fail
    go_name_world wz hwz
    have hbq : Below wq.heap.size wq wz := by
      rw [← hwz]
      first
        | exact ((below_drewN (Below.refl _ _) _).alloc (Nat.le_refl _) _).setCell (p := ⟨wq.heap.size, 0, none⟩) (Nat.le_refl _) _
        | exact (below_drewN ((below_drewN (Below.refl _ _) _).alloc (Nat.le_refl _) _) _).setCell (p := ⟨wq.heap.size, 0, none⟩) (Nat.le_refl _) _
        | exact (below_drewN (below_drewN (Below.refl _ _) _) _).alloc (Nat.le_refl _) _
        | exact (below_drewN (Below.refl _ _) _).alloc (Nat.le_refl _) _
    have HB : RowKit.Hid (Blk wz wq.heap.size 40 #[.float .f32 m]) := by
      show Blk wz wq.heap.size 40 #[.float .f32 m]
      rw [← hwz]
      first
        | exact (Blk.new_at _ _ _ rfl).set_ 0 _
        | exact ((Blk.new_at _ _ _ rfl).drewN _).set_ 0 _
        | exact Blk.new_at _ _ _ rfl
    have hz := HKq.out.below hbq
    have HZ := hid hz
    have p0 := hz.p.cell 0
    have p1 := hz.p.cell 1
    have p2 := hz.p.cell 2
    have p3 := hz.p.cell 3
    simp at p0 p1 p2 p3
    have HC := hid (eachr_any 130 #[.pointer (some ⟨wq.heap.size, 0, none⟩)] enters_dark1 P (fun k => cop .mul .f32 (cl (P k)) (cl m)) wz (fun k w1 _ hb => dark1_any (P k) m wq.heap.size w1 (HB.out.below hb HB.out.lt)))
    rw [pix_cells P] at HC
    clear hwz hbq hz
    go_wp2_with fail
    refine HC.out.mono ?_
    rintro e w2 ⟨rfl, hb2⟩
    have hz2 := HZ.out.below hb2
    have z0 := hz2.r.cell 0
    have z1 := hz2.r.cell 1
    have z2 := hz2.r.cell 2
    have z3 := hz2.r.cell 3
    have fz := fun i => hz2.r.frozen i
    simp at z0 z1 z2 z3
    have HR := hid (hz2.r.set4 (.float .f32 (col P (fun k => cop .mul .f32 (cl (P k)) (cl m)) 0)) (.float .f32 (col P (fun k => cop .mul .f32 (cl (P k)) (cl m)) 1)) (.float .f32 (col P (fun k => cop .mul .f32 (cl (P k)) (cl m)) 2)) (.float .f32 (col P (fun k => cop .mul .f32 (cl (P k)) (cl m)) 3)))
    have HB2 := hid hz2.be
    rw [pix_cells]
    clear hb2 hz2 HC p0 p1 p2 p3
    go_wp2_with fail
    refine bodyPost_ret (v := pix (col P fun k => cop .mul .f32 (cl (P k)) (cl m))) (results_cell_row rfl _ _ _ _ _ _ _ rfl HR.out Try.underlying47 rfl (by kernel_rfl)) rfl ⟨?_, (((HB2.out.setCell (by simp; omega) _).setCell (by simp; omega) _).setCell (by simp; omega) _).setCell (by simp; omega) _⟩
    unfold vpx
    rw [HM.out]

theorem dark_any (V P : Nat → Nat) (x y : Int) (h : vfin V) (hx : x.natAbs < 16777216) (hy : y.natAbs < 16777216) (w : World) : Calls Try.prog 63 #[vig V, .int .i64 x, .int .i64 y, pix P] w fun e w' => e = .returned (pix (vpx V P x y)) ∧ Below w.heap.size w w' := by
  have key : ∀ r, cl r = vrC V x y → isN .f32 r = false → cop .sub .f32 r (V 2) = cop .sub .f32 (vrC V x y) (V 2) := fun r h1 h2 => by rw [← h1, show cl r = r from cn_of_not h2]
  cases hq : floatBits .quo .f32 (cop .sub .f32 (vrC V x y) (V 2)) (cop .sub .f32 (V 3) (V 2)) with
  | some Q => exact dark_core V P x y h hx hy w fun r h1 h2 => ⟨Q, by rw [key r h1 h2]; exact hq⟩
  | none => exact dark_none V P x y h hx hy w fun r h1 h2 => by rw [key r h1 h2]; exact hq
end Go.Proofs.Ytbpnbcnhlnnolaa
