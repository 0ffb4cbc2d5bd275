/-
  Colours: FromHSV of the reference.
-/
import Derived.Test.YtcmakibomdinbaaCFrmP
import Derived.Deep.RegionHeld3
namespace Go.Proofs.Ytcmakibomdinbaa
open Go.RowKit
attribute [local go_sem] run_store_float

theorem fv5d : Fv .f64 4617315517961601024 5 := ⟨false, 5629499534213120, -50, by decide +kernel, by unfold dv pw; decide +kernel⟩
theorem c5d (w : World) : fcv .f64 4617315517961601024 .f32 w = 1084227584 := fcvv (r := 1084227584) (by decide +kernel) w
theorem c5d0 : fcd .f64 4617315517961601024 .f32 = 0 := fcdv (r := 1084227584) (by decide +kernel)
theorem i5d : floatToIntVal .f64 4617315517961601024 .i64 = some 5 := by decide +kernel

/-- The tests on a double floor. -/
theorem sext_d {X : Nat} {r : Rat} {n : Nat} (hX : Fv .f32 X r) (hn : r.floor = (n : Int)) (hle : n ≤ 6) :
    (FloatKind.f64.format.order (floorB (wid X)) 4617315517961601024 == some .gt) = decide (n = 6) ∧ floatToIntVal .f64 (floorB (wid X)) .i64 = some (n : Int) := by
  obtain ⟨_, _, hf⟩ := ffloor_all hX
  rw [hn] at hf
  refine ⟨?_, to_int hf (by omega)⟩
  rw [ord_gt hf (m := 5) fv5d]; congr 1; apply propext; omega

structure HueOkR (h n : Nat) : Prop extends HueOk h n where
  gd : (FloatKind.f64.format.order (floorB (wid (hexC h))) 4617315517961601024 == some .gt) = decide (n = 6)
  it : floatToIntVal .f64 (floorB (wid (hexC h))) .i64 = some (n : Int)
theorem hue_okr {h : Nat} (hf : fin h = true) : ∃ n, HueOkR h n := by
  obtain ⟨a, ha⟩ := fin_fv hf
  obtain ⟨q, r, hq, _, _, _, hr, _, r0, r7⟩ := hex_val ha
  obtain ⟨n, hs, hn⟩ := sext_of hr r0 r7
  obtain ⟨p1, p2⟩ := fop_cop (op := .sub) (x := h) (y := flC h) hq.not_nan
  obtain ⟨x1, x2⟩ := fop_cop (op := .mul) (x := partC h) (y := 1086324736) hr.not_nan
  obtain ⟨d1, d2⟩ := sext_d hr hn hs.le
  exact ⟨n, ⟨p1, p2, x1, x2, ha.not_nan, hr.not_nan, (ffloor hr).2.cn, hs⟩, d1, d2⟩

theorem run_row0 (a0 a1 a2 b0 b1 b2 c0 c1 c2 d0 d1 d2 e0 e1 e2 f0 f1 f2 : Value) (w : World) : (Instr.index 125 (.agg #[a0, a1, a2, b0, b1, b2, c0, c1, c2, d0, d1, d2, e0, e1, e2, f0, f1, f2]) (.int .i64 0)).run Try.prog w = .ok (.agg #[a0, a1, a2]) w := by
  kernel_rfl
theorem run_row1 (a0 a1 a2 b0 b1 b2 c0 c1 c2 d0 d1 d2 e0 e1 e2 f0 f1 f2 : Value) (w : World) : (Instr.index 125 (.agg #[a0, a1, a2, b0, b1, b2, c0, c1, c2, d0, d1, d2, e0, e1, e2, f0, f1, f2]) (.int .i64 1)).run Try.prog w = .ok (.agg #[b0, b1, b2]) w := by
  kernel_rfl
theorem run_row2 (a0 a1 a2 b0 b1 b2 c0 c1 c2 d0 d1 d2 e0 e1 e2 f0 f1 f2 : Value) (w : World) : (Instr.index 125 (.agg #[a0, a1, a2, b0, b1, b2, c0, c1, c2, d0, d1, d2, e0, e1, e2, f0, f1, f2]) (.int .i64 2)).run Try.prog w = .ok (.agg #[c0, c1, c2]) w := by
  kernel_rfl
theorem run_row3 (a0 a1 a2 b0 b1 b2 c0 c1 c2 d0 d1 d2 e0 e1 e2 f0 f1 f2 : Value) (w : World) : (Instr.index 125 (.agg #[a0, a1, a2, b0, b1, b2, c0, c1, c2, d0, d1, d2, e0, e1, e2, f0, f1, f2]) (.int .i64 3)).run Try.prog w = .ok (.agg #[d0, d1, d2]) w := by
  kernel_rfl
theorem run_row4 (a0 a1 a2 b0 b1 b2 c0 c1 c2 d0 d1 d2 e0 e1 e2 f0 f1 f2 : Value) (w : World) : (Instr.index 125 (.agg #[a0, a1, a2, b0, b1, b2, c0, c1, c2, d0, d1, d2, e0, e1, e2, f0, f1, f2]) (.int .i64 4)).run Try.prog w = .ok (.agg #[e0, e1, e2]) w := by
  kernel_rfl
theorem run_row5 (a0 a1 a2 b0 b1 b2 c0 c1 c2 d0 d1 d2 e0 e1 e2 f0 f1 f2 : Value) (w : World) : (Instr.index 125 (.agg #[a0, a1, a2, b0, b1, b2, c0, c1, c2, d0, d1, d2, e0, e1, e2, f0, f1, f2]) (.int .i64 5)).run Try.prog w = .ok (.agg #[f0, f1, f2]) w := by
  kernel_rfl
set_option maxRecDepth 100000 in
set_option maxHeartbeats 1000000 in
theorem fromr_0 (h s v al : Nat) (w : World) (hh : fin h = true) (hs : fin s = true) (hv : fin v = true) (hok : HueOkR h 0) : Calls Try.prog 52 #[.float .f32 h, .float .f32 s, .float .f32 v, .float .f32 al] w fun e w' => e = .returned (pix (fromC h s v al)) ∧ Below w.heap.size w w' := by
  have HH : RowKit.Hid ((fin h && fin s && fin v) = true) := hid (by rw [hh, hs, hv]; rfl)
  have CS := hid (cn_of_not (fin_not_nan hs))
  have CV := hid (cn_of_not (fin_not_nan hv))
  obtain ⟨⟨ps, pd, xs, xd, nh, nx, nl, sx⟩, gd, it⟩ := hok
  have CX := hid (cn_of_not nx)
  have CL := hid nl
  have SX := hid sx.sx
  have NH := hid (isN_wid h nh)
  have NX := hid (isN_wid (hexC h) nx)
  obtain ⟨u1, u2⟩ := widF h nh
  obtain ⟨u3, u4⟩ := flF h nh
  obtain ⟨u5, u6⟩ := widF (hexC h) nx
  obtain ⟨u7, u8⟩ := flF (hexC h) nx
  have g5 : (FloatKind.f64.format.order (floorB (wid (hexC h))) 4617315517961601024 == some .gt) = false := gd
  have k5 := c5d
  have k50 := c5d0
  have ki : ∀ w, (convert 40 3 (.float .f64 (floorB (wid (hexC h))))).run Try.prog w = .ok (.int .i64 0) w := fun w => run_convert_float_int w 40 3 .f64 .i64 _ 0 (by kernel_rfl) (by kernel_rfl) it
  have IX : RowKit.Hid (ixC (hexC h) = (flC (hexC h))) := hid (by unfold ixC; rw [sx.g5]; rfl)
  have hrow := run_row0
  clear nh nx nl sx gd it
  go_enter Try.func52, Try.ntmps52
  go_wp2_with (first
    | (go_at_call 96; refine (theNaN_any _).mono ?_; rintro e w' ⟨rfl, rfl⟩)
    | (go_at_call 103; refine (isNum_any _ _).mono ?_; rintro e w' ⟨rfl, k, rfl⟩))
  refine (floor_any _ NH.out _).mono ?_
  rintro e w' ⟨rfl, rfl⟩
  go_wp2_with fail
  refine (floor_any _ NX.out _).mono ?_
  rintro e w' ⟨rfl, rfl⟩
  go_wp2_with fail
  generalize hf : fop .sub .f32 (hexC h) (flC (hexC h)) _ = fr
  generalize hp : fop .mul .f32 v (fop .sub .f32 1065353216 s _) _ = pr
  generalize hq : fop .mul .f32 v (fop .sub .f32 1065353216 (fop .mul .f32 s fr _) _) _ = qr
  generalize ht : fop .mul .f32 v (fop .sub .f32 1065353216 (fop .mul .f32 s (fop .sub .f32 1065353216 fr _) _) _) _ = tr
  generalize hW : World.alloc (World.drewN (World.alloc w _) _) _ = W
  have HP : RowKit.Hid (cl pr = lowC s v) := hid (by rw [← hp]; unfold cl; simp only [cn_fop, cn1, CS.out, CV.out]; rfl)
  have HQ : RowKit.Hid (cl qr = fallC s v (cop .sub .f32 (hexC h) (flC (hexC h)))) := hid (by rw [← hq, ← hf]; unfold cl; simp only [cn_fop, cn1, CS.out, CV.out, CX.out, CL.out]; rfl)
  have HT : RowKit.Hid (cl tr = riseC s v (cop .sub .f32 (hexC h) (flC (hexC h)))) := hid (by rw [← ht, ← hf]; unfold cl; simp only [cn_fop, cn1, CS.out, CV.out, CX.out, CL.out]; rfl)
  have b0 : Blk W w.heap.size 24 zpix := by rw [← hW]; exact ((Blk.new_at _ _ _ rfl).drewN _).alloc _
  have b1 : Blk W (w.heap.size + 1) 59 #[.float .f32 v, .float .f32 tr, .float .f32 pr] := by rw [← hW]; exact Blk.new_at _ _ _ (by simp)
  have hbe : Below w.heap.size w W := by rw [← hW]; exact (below_drewN ((Below.refl _ _).alloc (Nat.le_refl _) _) _).alloc (by simp) _
  have x0 := b1.cell 0
  have x1 := b1.cell 1
  have x2 := b1.cell 2
  have z0 := b0.cell 0
  have z1 := b0.cell 1
  have z2 := b0.cell 2
  have z3 := b0.cell 3
  have y0 := b0.frozen 0
  have y1 := b0.frozen 1
  have y2 := b0.frozen 2
  have y3 := b0.frozen 3
  simp at x0 x1 x2 z0 z1 z2 z3
  have HB := hid b0
  have HE := hid hbe
  clear hf hp hq ht hW b0 b1 hbe ps pd xs xd u1 u2 u3 u4 u5 u6 u7 u8 g5 k5 k50 ki hrow hh hs hv
  go_region_held3 (fun w' => w'.cell? ⟨w.heap.size + 1, 0, none⟩ = some (.float .f32 v) ∧ w'.cell? ⟨w.heap.size + 1, 1, none⟩ = some (.float .f32 tr) ∧ w'.cell? ⟨w.heap.size + 1, 2, none⟩ = some (.float .f32 pr)) (go_keep)
    (first | (go_at_call 35; refine (fix_any _ _).mono ?_; rintro e w' ⟨rfl, rfl⟩))
  all_goals
    go_wp2_with fail
    refine bodyPost_ret (results_cell_row rfl _ _ _ _ _ _ _ rfl (blk_set4 (HB.out.drewN 1) _ _ _ _) Try.underlying24 rfl (by kernel_rfl)) rfl ⟨?_, below_set4 (below_drewN HE.out 1) (by simp) _ _ _ _⟩
    have hj : ∀ j, j < 3 → fromC h s v al j = pickC (sxC (hexC h)) v (lowC s v) (fallC s v (cop .sub .f32 (hexC h) (ixC (hexC h)))) (riseC s v (cop .sub .f32 (hexC h) (ixC (hexC h)))) j := fun j hj => by
      unfold fromC; rw [if_pos hj, if_pos HH.out]
    exact congrArg _ (pix_four (by rw [hj 0 (by decide), IX.out, SX.out]; exact CV.out) (by rw [hj 1 (by decide), IX.out, SX.out]; exact HT.out) (by rw [hj 2 (by decide), IX.out, SX.out]; exact HP.out) rfl)

set_option maxRecDepth 100000 in
set_option maxHeartbeats 1000000 in
theorem fromr_1 (h s v al : Nat) (w : World) (hh : fin h = true) (hs : fin s = true) (hv : fin v = true) (hok : HueOkR h 1) : Calls Try.prog 52 #[.float .f32 h, .float .f32 s, .float .f32 v, .float .f32 al] w fun e w' => e = .returned (pix (fromC h s v al)) ∧ Below w.heap.size w w' := by
  have HH : RowKit.Hid ((fin h && fin s && fin v) = true) := hid (by rw [hh, hs, hv]; rfl)
  have CS := hid (cn_of_not (fin_not_nan hs))
  have CV := hid (cn_of_not (fin_not_nan hv))
  obtain ⟨⟨ps, pd, xs, xd, nh, nx, nl, sx⟩, gd, it⟩ := hok
  have CX := hid (cn_of_not nx)
  have CL := hid nl
  have SX := hid sx.sx
  have NH := hid (isN_wid h nh)
  have NX := hid (isN_wid (hexC h) nx)
  obtain ⟨u1, u2⟩ := widF h nh
  obtain ⟨u3, u4⟩ := flF h nh
  obtain ⟨u5, u6⟩ := widF (hexC h) nx
  obtain ⟨u7, u8⟩ := flF (hexC h) nx
  have g5 : (FloatKind.f64.format.order (floorB (wid (hexC h))) 4617315517961601024 == some .gt) = false := gd
  have k5 := c5d
  have k50 := c5d0
  have ki : ∀ w, (convert 40 3 (.float .f64 (floorB (wid (hexC h))))).run Try.prog w = .ok (.int .i64 1) w := fun w => run_convert_float_int w 40 3 .f64 .i64 _ 1 (by kernel_rfl) (by kernel_rfl) it
  have IX : RowKit.Hid (ixC (hexC h) = (flC (hexC h))) := hid (by unfold ixC; rw [sx.g5]; rfl)
  have hrow := run_row1
  clear nh nx nl sx gd it
  go_enter Try.func52, Try.ntmps52
  go_wp2_with (first
    | (go_at_call 96; refine (theNaN_any _).mono ?_; rintro e w' ⟨rfl, rfl⟩)
    | (go_at_call 103; refine (isNum_any _ _).mono ?_; rintro e w' ⟨rfl, k, rfl⟩))
  refine (floor_any _ NH.out _).mono ?_
  rintro e w' ⟨rfl, rfl⟩
  go_wp2_with fail
  refine (floor_any _ NX.out _).mono ?_
  rintro e w' ⟨rfl, rfl⟩
  go_wp2_with fail
  generalize hf : fop .sub .f32 (hexC h) (flC (hexC h)) _ = fr
  generalize hp : fop .mul .f32 v (fop .sub .f32 1065353216 s _) _ = pr
  generalize hq : fop .mul .f32 v (fop .sub .f32 1065353216 (fop .mul .f32 s fr _) _) _ = qr
  generalize ht : fop .mul .f32 v (fop .sub .f32 1065353216 (fop .mul .f32 s (fop .sub .f32 1065353216 fr _) _) _) _ = tr
  generalize hW : World.alloc (World.drewN (World.alloc w _) _) _ = W
  have HP : RowKit.Hid (cl pr = lowC s v) := hid (by rw [← hp]; unfold cl; simp only [cn_fop, cn1, CS.out, CV.out]; rfl)
  have HQ : RowKit.Hid (cl qr = fallC s v (cop .sub .f32 (hexC h) (flC (hexC h)))) := hid (by rw [← hq, ← hf]; unfold cl; simp only [cn_fop, cn1, CS.out, CV.out, CX.out, CL.out]; rfl)
  have HT : RowKit.Hid (cl tr = riseC s v (cop .sub .f32 (hexC h) (flC (hexC h)))) := hid (by rw [← ht, ← hf]; unfold cl; simp only [cn_fop, cn1, CS.out, CV.out, CX.out, CL.out]; rfl)
  have b0 : Blk W w.heap.size 24 zpix := by rw [← hW]; exact ((Blk.new_at _ _ _ rfl).drewN _).alloc _
  have b1 : Blk W (w.heap.size + 1) 59 #[.float .f32 qr, .float .f32 v, .float .f32 pr] := by rw [← hW]; exact Blk.new_at _ _ _ (by simp)
  have hbe : Below w.heap.size w W := by rw [← hW]; exact (below_drewN ((Below.refl _ _).alloc (Nat.le_refl _) _) _).alloc (by simp) _
  have x0 := b1.cell 0
  have x1 := b1.cell 1
  have x2 := b1.cell 2
  have z0 := b0.cell 0
  have z1 := b0.cell 1
  have z2 := b0.cell 2
  have z3 := b0.cell 3
  have y0 := b0.frozen 0
  have y1 := b0.frozen 1
  have y2 := b0.frozen 2
  have y3 := b0.frozen 3
  simp at x0 x1 x2 z0 z1 z2 z3
  have HB := hid b0
  have HE := hid hbe
  clear hf hp hq ht hW b0 b1 hbe ps pd xs xd u1 u2 u3 u4 u5 u6 u7 u8 g5 k5 k50 ki hrow hh hs hv
  go_region_held3 (fun w' => w'.cell? ⟨w.heap.size + 1, 0, none⟩ = some (.float .f32 qr) ∧ w'.cell? ⟨w.heap.size + 1, 1, none⟩ = some (.float .f32 v) ∧ w'.cell? ⟨w.heap.size + 1, 2, none⟩ = some (.float .f32 pr)) (go_keep)
    (first | (go_at_call 35; refine (fix_any _ _).mono ?_; rintro e w' ⟨rfl, rfl⟩))
  all_goals
    go_wp2_with fail
    refine bodyPost_ret (results_cell_row rfl _ _ _ _ _ _ _ rfl (blk_set4 (HB.out.drewN 1) _ _ _ _) Try.underlying24 rfl (by kernel_rfl)) rfl ⟨?_, below_set4 (below_drewN HE.out 1) (by simp) _ _ _ _⟩
    have hj : ∀ j, j < 3 → fromC h s v al j = pickC (sxC (hexC h)) v (lowC s v) (fallC s v (cop .sub .f32 (hexC h) (ixC (hexC h)))) (riseC s v (cop .sub .f32 (hexC h) (ixC (hexC h)))) j := fun j hj => by
      unfold fromC; rw [if_pos hj, if_pos HH.out]
    exact congrArg _ (pix_four (by rw [hj 0 (by decide), IX.out, SX.out]; exact HQ.out) (by rw [hj 1 (by decide), IX.out, SX.out]; exact CV.out) (by rw [hj 2 (by decide), IX.out, SX.out]; exact HP.out) rfl)

set_option maxRecDepth 100000 in
set_option maxHeartbeats 1000000 in
theorem fromr_2 (h s v al : Nat) (w : World) (hh : fin h = true) (hs : fin s = true) (hv : fin v = true) (hok : HueOkR h 2) : Calls Try.prog 52 #[.float .f32 h, .float .f32 s, .float .f32 v, .float .f32 al] w fun e w' => e = .returned (pix (fromC h s v al)) ∧ Below w.heap.size w w' := by
  have HH : RowKit.Hid ((fin h && fin s && fin v) = true) := hid (by rw [hh, hs, hv]; rfl)
  have CS := hid (cn_of_not (fin_not_nan hs))
  have CV := hid (cn_of_not (fin_not_nan hv))
  obtain ⟨⟨ps, pd, xs, xd, nh, nx, nl, sx⟩, gd, it⟩ := hok
  have CX := hid (cn_of_not nx)
  have CL := hid nl
  have SX := hid sx.sx
  have NH := hid (isN_wid h nh)
  have NX := hid (isN_wid (hexC h) nx)
  obtain ⟨u1, u2⟩ := widF h nh
  obtain ⟨u3, u4⟩ := flF h nh
  obtain ⟨u5, u6⟩ := widF (hexC h) nx
  obtain ⟨u7, u8⟩ := flF (hexC h) nx
  have g5 : (FloatKind.f64.format.order (floorB (wid (hexC h))) 4617315517961601024 == some .gt) = false := gd
  have k5 := c5d
  have k50 := c5d0
  have ki : ∀ w, (convert 40 3 (.float .f64 (floorB (wid (hexC h))))).run Try.prog w = .ok (.int .i64 2) w := fun w => run_convert_float_int w 40 3 .f64 .i64 _ 2 (by kernel_rfl) (by kernel_rfl) it
  have IX : RowKit.Hid (ixC (hexC h) = (flC (hexC h))) := hid (by unfold ixC; rw [sx.g5]; rfl)
  have hrow := run_row2
  clear nh nx nl sx gd it
  go_enter Try.func52, Try.ntmps52
  go_wp2_with (first
    | (go_at_call 96; refine (theNaN_any _).mono ?_; rintro e w' ⟨rfl, rfl⟩)
    | (go_at_call 103; refine (isNum_any _ _).mono ?_; rintro e w' ⟨rfl, k, rfl⟩))
  refine (floor_any _ NH.out _).mono ?_
  rintro e w' ⟨rfl, rfl⟩
  go_wp2_with fail
  refine (floor_any _ NX.out _).mono ?_
  rintro e w' ⟨rfl, rfl⟩
  go_wp2_with fail
  generalize hf : fop .sub .f32 (hexC h) (flC (hexC h)) _ = fr
  generalize hp : fop .mul .f32 v (fop .sub .f32 1065353216 s _) _ = pr
  generalize hq : fop .mul .f32 v (fop .sub .f32 1065353216 (fop .mul .f32 s fr _) _) _ = qr
  generalize ht : fop .mul .f32 v (fop .sub .f32 1065353216 (fop .mul .f32 s (fop .sub .f32 1065353216 fr _) _) _) _ = tr
  generalize hW : World.alloc (World.drewN (World.alloc w _) _) _ = W
  have HP : RowKit.Hid (cl pr = lowC s v) := hid (by rw [← hp]; unfold cl; simp only [cn_fop, cn1, CS.out, CV.out]; rfl)
  have HQ : RowKit.Hid (cl qr = fallC s v (cop .sub .f32 (hexC h) (flC (hexC h)))) := hid (by rw [← hq, ← hf]; unfold cl; simp only [cn_fop, cn1, CS.out, CV.out, CX.out, CL.out]; rfl)
  have HT : RowKit.Hid (cl tr = riseC s v (cop .sub .f32 (hexC h) (flC (hexC h)))) := hid (by rw [← ht, ← hf]; unfold cl; simp only [cn_fop, cn1, CS.out, CV.out, CX.out, CL.out]; rfl)
  have b0 : Blk W w.heap.size 24 zpix := by rw [← hW]; exact ((Blk.new_at _ _ _ rfl).drewN _).alloc _
  have b1 : Blk W (w.heap.size + 1) 59 #[.float .f32 pr, .float .f32 v, .float .f32 tr] := by rw [← hW]; exact Blk.new_at _ _ _ (by simp)
  have hbe : Below w.heap.size w W := by rw [← hW]; exact (below_drewN ((Below.refl _ _).alloc (Nat.le_refl _) _) _).alloc (by simp) _
  have x0 := b1.cell 0
  have x1 := b1.cell 1
  have x2 := b1.cell 2
  have z0 := b0.cell 0
  have z1 := b0.cell 1
  have z2 := b0.cell 2
  have z3 := b0.cell 3
  have y0 := b0.frozen 0
  have y1 := b0.frozen 1
  have y2 := b0.frozen 2
  have y3 := b0.frozen 3
  simp at x0 x1 x2 z0 z1 z2 z3
  have HB := hid b0
  have HE := hid hbe
  clear hf hp hq ht hW b0 b1 hbe ps pd xs xd u1 u2 u3 u4 u5 u6 u7 u8 g5 k5 k50 ki hrow hh hs hv
  go_region_held3 (fun w' => w'.cell? ⟨w.heap.size + 1, 0, none⟩ = some (.float .f32 pr) ∧ w'.cell? ⟨w.heap.size + 1, 1, none⟩ = some (.float .f32 v) ∧ w'.cell? ⟨w.heap.size + 1, 2, none⟩ = some (.float .f32 tr)) (go_keep)
    (first | (go_at_call 35; refine (fix_any _ _).mono ?_; rintro e w' ⟨rfl, rfl⟩))
  all_goals
    go_wp2_with fail
    refine bodyPost_ret (results_cell_row rfl _ _ _ _ _ _ _ rfl (blk_set4 (HB.out.drewN 1) _ _ _ _) Try.underlying24 rfl (by kernel_rfl)) rfl ⟨?_, below_set4 (below_drewN HE.out 1) (by simp) _ _ _ _⟩
    have hj : ∀ j, j < 3 → fromC h s v al j = pickC (sxC (hexC h)) v (lowC s v) (fallC s v (cop .sub .f32 (hexC h) (ixC (hexC h)))) (riseC s v (cop .sub .f32 (hexC h) (ixC (hexC h)))) j := fun j hj => by
      unfold fromC; rw [if_pos hj, if_pos HH.out]
    exact congrArg _ (pix_four (by rw [hj 0 (by decide), IX.out, SX.out]; exact HP.out) (by rw [hj 1 (by decide), IX.out, SX.out]; exact CV.out) (by rw [hj 2 (by decide), IX.out, SX.out]; exact HT.out) rfl)

set_option maxRecDepth 100000 in
set_option maxHeartbeats 1000000 in
theorem fromr_3 (h s v al : Nat) (w : World) (hh : fin h = true) (hs : fin s = true) (hv : fin v = true) (hok : HueOkR h 3) : Calls Try.prog 52 #[.float .f32 h, .float .f32 s, .float .f32 v, .float .f32 al] w fun e w' => e = .returned (pix (fromC h s v al)) ∧ Below w.heap.size w w' := by
  have HH : RowKit.Hid ((fin h && fin s && fin v) = true) := hid (by rw [hh, hs, hv]; rfl)
  have CS := hid (cn_of_not (fin_not_nan hs))
  have CV := hid (cn_of_not (fin_not_nan hv))
  obtain ⟨⟨ps, pd, xs, xd, nh, nx, nl, sx⟩, gd, it⟩ := hok
  have CX := hid (cn_of_not nx)
  have CL := hid nl
  have SX := hid sx.sx
  have NH := hid (isN_wid h nh)
  have NX := hid (isN_wid (hexC h) nx)
  obtain ⟨u1, u2⟩ := widF h nh
  obtain ⟨u3, u4⟩ := flF h nh
  obtain ⟨u5, u6⟩ := widF (hexC h) nx
  obtain ⟨u7, u8⟩ := flF (hexC h) nx
  have g5 : (FloatKind.f64.format.order (floorB (wid (hexC h))) 4617315517961601024 == some .gt) = false := gd
  have k5 := c5d
  have k50 := c5d0
  have ki : ∀ w, (convert 40 3 (.float .f64 (floorB (wid (hexC h))))).run Try.prog w = .ok (.int .i64 3) w := fun w => run_convert_float_int w 40 3 .f64 .i64 _ 3 (by kernel_rfl) (by kernel_rfl) it
  have IX : RowKit.Hid (ixC (hexC h) = (flC (hexC h))) := hid (by unfold ixC; rw [sx.g5]; rfl)
  have hrow := run_row3
  clear nh nx nl sx gd it
  go_enter Try.func52, Try.ntmps52
  go_wp2_with (first
    | (go_at_call 96; refine (theNaN_any _).mono ?_; rintro e w' ⟨rfl, rfl⟩)
    | (go_at_call 103; refine (isNum_any _ _).mono ?_; rintro e w' ⟨rfl, k, rfl⟩))
  refine (floor_any _ NH.out _).mono ?_
  rintro e w' ⟨rfl, rfl⟩
  go_wp2_with fail
  refine (floor_any _ NX.out _).mono ?_
  rintro e w' ⟨rfl, rfl⟩
  go_wp2_with fail
  generalize hf : fop .sub .f32 (hexC h) (flC (hexC h)) _ = fr
  generalize hp : fop .mul .f32 v (fop .sub .f32 1065353216 s _) _ = pr
  generalize hq : fop .mul .f32 v (fop .sub .f32 1065353216 (fop .mul .f32 s fr _) _) _ = qr
  generalize ht : fop .mul .f32 v (fop .sub .f32 1065353216 (fop .mul .f32 s (fop .sub .f32 1065353216 fr _) _) _) _ = tr
  generalize hW : World.alloc (World.drewN (World.alloc w _) _) _ = W
  have HP : RowKit.Hid (cl pr = lowC s v) := hid (by rw [← hp]; unfold cl; simp only [cn_fop, cn1, CS.out, CV.out]; rfl)
  have HQ : RowKit.Hid (cl qr = fallC s v (cop .sub .f32 (hexC h) (flC (hexC h)))) := hid (by rw [← hq, ← hf]; unfold cl; simp only [cn_fop, cn1, CS.out, CV.out, CX.out, CL.out]; rfl)
  have HT : RowKit.Hid (cl tr = riseC s v (cop .sub .f32 (hexC h) (flC (hexC h)))) := hid (by rw [← ht, ← hf]; unfold cl; simp only [cn_fop, cn1, CS.out, CV.out, CX.out, CL.out]; rfl)
  have b0 : Blk W w.heap.size 24 zpix := by rw [← hW]; exact ((Blk.new_at _ _ _ rfl).drewN _).alloc _
  have b1 : Blk W (w.heap.size + 1) 59 #[.float .f32 pr, .float .f32 qr, .float .f32 v] := by rw [← hW]; exact Blk.new_at _ _ _ (by simp)
  have hbe : Below w.heap.size w W := by rw [← hW]; exact (below_drewN ((Below.refl _ _).alloc (Nat.le_refl _) _) _).alloc (by simp) _
  have x0 := b1.cell 0
  have x1 := b1.cell 1
  have x2 := b1.cell 2
  have z0 := b0.cell 0
  have z1 := b0.cell 1
  have z2 := b0.cell 2
  have z3 := b0.cell 3
  have y0 := b0.frozen 0
  have y1 := b0.frozen 1
  have y2 := b0.frozen 2
  have y3 := b0.frozen 3
  simp at x0 x1 x2 z0 z1 z2 z3
  have HB := hid b0
  have HE := hid hbe
  clear hf hp hq ht hW b0 b1 hbe ps pd xs xd u1 u2 u3 u4 u5 u6 u7 u8 g5 k5 k50 ki hrow hh hs hv
  go_region_held3 (fun w' => w'.cell? ⟨w.heap.size + 1, 0, none⟩ = some (.float .f32 pr) ∧ w'.cell? ⟨w.heap.size + 1, 1, none⟩ = some (.float .f32 qr) ∧ w'.cell? ⟨w.heap.size + 1, 2, none⟩ = some (.float .f32 v)) (go_keep)
    (first | (go_at_call 35; refine (fix_any _ _).mono ?_; rintro e w' ⟨rfl, rfl⟩))
  all_goals
    go_wp2_with fail
    refine bodyPost_ret (results_cell_row rfl _ _ _ _ _ _ _ rfl (blk_set4 (HB.out.drewN 1) _ _ _ _) Try.underlying24 rfl (by kernel_rfl)) rfl ⟨?_, below_set4 (below_drewN HE.out 1) (by simp) _ _ _ _⟩
    have hj : ∀ j, j < 3 → fromC h s v al j = pickC (sxC (hexC h)) v (lowC s v) (fallC s v (cop .sub .f32 (hexC h) (ixC (hexC h)))) (riseC s v (cop .sub .f32 (hexC h) (ixC (hexC h)))) j := fun j hj => by
      unfold fromC; rw [if_pos hj, if_pos HH.out]
    exact congrArg _ (pix_four (by rw [hj 0 (by decide), IX.out, SX.out]; exact HP.out) (by rw [hj 1 (by decide), IX.out, SX.out]; exact HQ.out) (by rw [hj 2 (by decide), IX.out, SX.out]; exact CV.out) rfl)

set_option maxRecDepth 100000 in
set_option maxHeartbeats 1000000 in
theorem fromr_4 (h s v al : Nat) (w : World) (hh : fin h = true) (hs : fin s = true) (hv : fin v = true) (hok : HueOkR h 4) : Calls Try.prog 52 #[.float .f32 h, .float .f32 s, .float .f32 v, .float .f32 al] w fun e w' => e = .returned (pix (fromC h s v al)) ∧ Below w.heap.size w w' := by
  have HH : RowKit.Hid ((fin h && fin s && fin v) = true) := hid (by rw [hh, hs, hv]; rfl)
  have CS := hid (cn_of_not (fin_not_nan hs))
  have CV := hid (cn_of_not (fin_not_nan hv))
  obtain ⟨⟨ps, pd, xs, xd, nh, nx, nl, sx⟩, gd, it⟩ := hok
  have CX := hid (cn_of_not nx)
  have CL := hid nl
  have SX := hid sx.sx
  have NH := hid (isN_wid h nh)
  have NX := hid (isN_wid (hexC h) nx)
  obtain ⟨u1, u2⟩ := widF h nh
  obtain ⟨u3, u4⟩ := flF h nh
  obtain ⟨u5, u6⟩ := widF (hexC h) nx
  obtain ⟨u7, u8⟩ := flF (hexC h) nx
  have g5 : (FloatKind.f64.format.order (floorB (wid (hexC h))) 4617315517961601024 == some .gt) = false := gd
  have k5 := c5d
  have k50 := c5d0
  have ki : ∀ w, (convert 40 3 (.float .f64 (floorB (wid (hexC h))))).run Try.prog w = .ok (.int .i64 4) w := fun w => run_convert_float_int w 40 3 .f64 .i64 _ 4 (by kernel_rfl) (by kernel_rfl) it
  have IX : RowKit.Hid (ixC (hexC h) = (flC (hexC h))) := hid (by unfold ixC; rw [sx.g5]; rfl)
  have hrow := run_row4
  clear nh nx nl sx gd it
  go_enter Try.func52, Try.ntmps52
  go_wp2_with (first
    | (go_at_call 96; refine (theNaN_any _).mono ?_; rintro e w' ⟨rfl, rfl⟩)
    | (go_at_call 103; refine (isNum_any _ _).mono ?_; rintro e w' ⟨rfl, k, rfl⟩))
  refine (floor_any _ NH.out _).mono ?_
  rintro e w' ⟨rfl, rfl⟩
  go_wp2_with fail
  refine (floor_any _ NX.out _).mono ?_
  rintro e w' ⟨rfl, rfl⟩
  go_wp2_with fail
  generalize hf : fop .sub .f32 (hexC h) (flC (hexC h)) _ = fr
  generalize hp : fop .mul .f32 v (fop .sub .f32 1065353216 s _) _ = pr
  generalize hq : fop .mul .f32 v (fop .sub .f32 1065353216 (fop .mul .f32 s fr _) _) _ = qr
  generalize ht : fop .mul .f32 v (fop .sub .f32 1065353216 (fop .mul .f32 s (fop .sub .f32 1065353216 fr _) _) _) _ = tr
  generalize hW : World.alloc (World.drewN (World.alloc w _) _) _ = W
  have HP : RowKit.Hid (cl pr = lowC s v) := hid (by rw [← hp]; unfold cl; simp only [cn_fop, cn1, CS.out, CV.out]; rfl)
  have HQ : RowKit.Hid (cl qr = fallC s v (cop .sub .f32 (hexC h) (flC (hexC h)))) := hid (by rw [← hq, ← hf]; unfold cl; simp only [cn_fop, cn1, CS.out, CV.out, CX.out, CL.out]; rfl)
  have HT : RowKit.Hid (cl tr = riseC s v (cop .sub .f32 (hexC h) (flC (hexC h)))) := hid (by rw [← ht, ← hf]; unfold cl; simp only [cn_fop, cn1, CS.out, CV.out, CX.out, CL.out]; rfl)
  have b0 : Blk W w.heap.size 24 zpix := by rw [← hW]; exact ((Blk.new_at _ _ _ rfl).drewN _).alloc _
  have b1 : Blk W (w.heap.size + 1) 59 #[.float .f32 tr, .float .f32 pr, .float .f32 v] := by rw [← hW]; exact Blk.new_at _ _ _ (by simp)
  have hbe : Below w.heap.size w W := by rw [← hW]; exact (below_drewN ((Below.refl _ _).alloc (Nat.le_refl _) _) _).alloc (by simp) _
  have x0 := b1.cell 0
  have x1 := b1.cell 1
  have x2 := b1.cell 2
  have z0 := b0.cell 0
  have z1 := b0.cell 1
  have z2 := b0.cell 2
  have z3 := b0.cell 3
  have y0 := b0.frozen 0
  have y1 := b0.frozen 1
  have y2 := b0.frozen 2
  have y3 := b0.frozen 3
  simp at x0 x1 x2 z0 z1 z2 z3
  have HB := hid b0
  have HE := hid hbe
  clear hf hp hq ht hW b0 b1 hbe ps pd xs xd u1 u2 u3 u4 u5 u6 u7 u8 g5 k5 k50 ki hrow hh hs hv
  go_region_held3 (fun w' => w'.cell? ⟨w.heap.size + 1, 0, none⟩ = some (.float .f32 tr) ∧ w'.cell? ⟨w.heap.size + 1, 1, none⟩ = some (.float .f32 pr) ∧ w'.cell? ⟨w.heap.size + 1, 2, none⟩ = some (.float .f32 v)) (go_keep)
    (first | (go_at_call 35; refine (fix_any _ _).mono ?_; rintro e w' ⟨rfl, rfl⟩))
  all_goals
    go_wp2_with fail
    refine bodyPost_ret (results_cell_row rfl _ _ _ _ _ _ _ rfl (blk_set4 (HB.out.drewN 1) _ _ _ _) Try.underlying24 rfl (by kernel_rfl)) rfl ⟨?_, below_set4 (below_drewN HE.out 1) (by simp) _ _ _ _⟩
    have hj : ∀ j, j < 3 → fromC h s v al j = pickC (sxC (hexC h)) v (lowC s v) (fallC s v (cop .sub .f32 (hexC h) (ixC (hexC h)))) (riseC s v (cop .sub .f32 (hexC h) (ixC (hexC h)))) j := fun j hj => by
      unfold fromC; rw [if_pos hj, if_pos HH.out]
    exact congrArg _ (pix_four (by rw [hj 0 (by decide), IX.out, SX.out]; exact HT.out) (by rw [hj 1 (by decide), IX.out, SX.out]; exact HP.out) (by rw [hj 2 (by decide), IX.out, SX.out]; exact CV.out) rfl)

set_option maxRecDepth 100000 in
set_option maxHeartbeats 1000000 in
theorem fromr_5 (h s v al : Nat) (w : World) (hh : fin h = true) (hs : fin s = true) (hv : fin v = true) (hok : HueOkR h 5) : Calls Try.prog 52 #[.float .f32 h, .float .f32 s, .float .f32 v, .float .f32 al] w fun e w' => e = .returned (pix (fromC h s v al)) ∧ Below w.heap.size w w' := by
  have HH : RowKit.Hid ((fin h && fin s && fin v) = true) := hid (by rw [hh, hs, hv]; rfl)
  have CS := hid (cn_of_not (fin_not_nan hs))
  have CV := hid (cn_of_not (fin_not_nan hv))
  obtain ⟨⟨ps, pd, xs, xd, nh, nx, nl, sx⟩, gd, it⟩ := hok
  have CX := hid (cn_of_not nx)
  have CL := hid nl
  have SX := hid sx.sx
  have NH := hid (isN_wid h nh)
  have NX := hid (isN_wid (hexC h) nx)
  obtain ⟨u1, u2⟩ := widF h nh
  obtain ⟨u3, u4⟩ := flF h nh
  obtain ⟨u5, u6⟩ := widF (hexC h) nx
  obtain ⟨u7, u8⟩ := flF (hexC h) nx
  have g5 : (FloatKind.f64.format.order (floorB (wid (hexC h))) 4617315517961601024 == some .gt) = false := gd
  have k5 := c5d
  have k50 := c5d0
  have ki : ∀ w, (convert 40 3 (.float .f64 (floorB (wid (hexC h))))).run Try.prog w = .ok (.int .i64 5) w := fun w => run_convert_float_int w 40 3 .f64 .i64 _ 5 (by kernel_rfl) (by kernel_rfl) it
  have IX : RowKit.Hid (ixC (hexC h) = (flC (hexC h))) := hid (by unfold ixC; rw [sx.g5]; rfl)
  have hrow := run_row5
  clear nh nx nl sx gd it
  go_enter Try.func52, Try.ntmps52
  go_wp2_with (first
    | (go_at_call 96; refine (theNaN_any _).mono ?_; rintro e w' ⟨rfl, rfl⟩)
    | (go_at_call 103; refine (isNum_any _ _).mono ?_; rintro e w' ⟨rfl, k, rfl⟩))
  refine (floor_any _ NH.out _).mono ?_
  rintro e w' ⟨rfl, rfl⟩
  go_wp2_with fail
  refine (floor_any _ NX.out _).mono ?_
  rintro e w' ⟨rfl, rfl⟩
  go_wp2_with fail
  generalize hf : fop .sub .f32 (hexC h) (flC (hexC h)) _ = fr
  generalize hp : fop .mul .f32 v (fop .sub .f32 1065353216 s _) _ = pr
  generalize hq : fop .mul .f32 v (fop .sub .f32 1065353216 (fop .mul .f32 s fr _) _) _ = qr
  generalize ht : fop .mul .f32 v (fop .sub .f32 1065353216 (fop .mul .f32 s (fop .sub .f32 1065353216 fr _) _) _) _ = tr
  generalize hW : World.alloc (World.drewN (World.alloc w _) _) _ = W
  have HP : RowKit.Hid (cl pr = lowC s v) := hid (by rw [← hp]; unfold cl; simp only [cn_fop, cn1, CS.out, CV.out]; rfl)
  have HQ : RowKit.Hid (cl qr = fallC s v (cop .sub .f32 (hexC h) (flC (hexC h)))) := hid (by rw [← hq, ← hf]; unfold cl; simp only [cn_fop, cn1, CS.out, CV.out, CX.out, CL.out]; rfl)
  have HT : RowKit.Hid (cl tr = riseC s v (cop .sub .f32 (hexC h) (flC (hexC h)))) := hid (by rw [← ht, ← hf]; unfold cl; simp only [cn_fop, cn1, CS.out, CV.out, CX.out, CL.out]; rfl)
  have b0 : Blk W w.heap.size 24 zpix := by rw [← hW]; exact ((Blk.new_at _ _ _ rfl).drewN _).alloc _
  have b1 : Blk W (w.heap.size + 1) 59 #[.float .f32 v, .float .f32 pr, .float .f32 qr] := by rw [← hW]; exact Blk.new_at _ _ _ (by simp)
  have hbe : Below w.heap.size w W := by rw [← hW]; exact (below_drewN ((Below.refl _ _).alloc (Nat.le_refl _) _) _).alloc (by simp) _
  have x0 := b1.cell 0
  have x1 := b1.cell 1
  have x2 := b1.cell 2
  have z0 := b0.cell 0
  have z1 := b0.cell 1
  have z2 := b0.cell 2
  have z3 := b0.cell 3
  have y0 := b0.frozen 0
  have y1 := b0.frozen 1
  have y2 := b0.frozen 2
  have y3 := b0.frozen 3
  simp at x0 x1 x2 z0 z1 z2 z3
  have HB := hid b0
  have HE := hid hbe
  clear hf hp hq ht hW b0 b1 hbe ps pd xs xd u1 u2 u3 u4 u5 u6 u7 u8 g5 k5 k50 ki hrow hh hs hv
  go_region_held3 (fun w' => w'.cell? ⟨w.heap.size + 1, 0, none⟩ = some (.float .f32 v) ∧ w'.cell? ⟨w.heap.size + 1, 1, none⟩ = some (.float .f32 pr) ∧ w'.cell? ⟨w.heap.size + 1, 2, none⟩ = some (.float .f32 qr)) (go_keep)
    (first | (go_at_call 35; refine (fix_any _ _).mono ?_; rintro e w' ⟨rfl, rfl⟩))
  all_goals
    go_wp2_with fail
    refine bodyPost_ret (results_cell_row rfl _ _ _ _ _ _ _ rfl (blk_set4 (HB.out.drewN 1) _ _ _ _) Try.underlying24 rfl (by kernel_rfl)) rfl ⟨?_, below_set4 (below_drewN HE.out 1) (by simp) _ _ _ _⟩
    have hj : ∀ j, j < 3 → fromC h s v al j = pickC (sxC (hexC h)) v (lowC s v) (fallC s v (cop .sub .f32 (hexC h) (ixC (hexC h)))) (riseC s v (cop .sub .f32 (hexC h) (ixC (hexC h)))) j := fun j hj => by
      unfold fromC; rw [if_pos hj, if_pos HH.out]
    exact congrArg _ (pix_four (by rw [hj 0 (by decide), IX.out, SX.out]; exact CV.out) (by rw [hj 1 (by decide), IX.out, SX.out]; exact HP.out) (by rw [hj 2 (by decide), IX.out, SX.out]; exact HQ.out) rfl)

set_option maxRecDepth 100000 in
set_option maxHeartbeats 1000000 in
theorem fromr_6 (h s v al : Nat) (w : World) (hh : fin h = true) (hs : fin s = true) (hv : fin v = true) (hok : HueOkR h 6) : Calls Try.prog 52 #[.float .f32 h, .float .f32 s, .float .f32 v, .float .f32 al] w fun e w' => e = .returned (pix (fromC h s v al)) ∧ Below w.heap.size w w' := by
  have HH : RowKit.Hid ((fin h && fin s && fin v) = true) := hid (by rw [hh, hs, hv]; rfl)
  have CS := hid (cn_of_not (fin_not_nan hs))
  have CV := hid (cn_of_not (fin_not_nan hv))
  obtain ⟨⟨ps, pd, xs, xd, nh, nx, nl, sx⟩, gd, it⟩ := hok
  have CX := hid (cn_of_not nx)
  have CL := hid nl
  have SX := hid sx.sx
  have NH := hid (isN_wid h nh)
  have NX := hid (isN_wid (hexC h) nx)
  obtain ⟨u1, u2⟩ := widF h nh
  obtain ⟨u3, u4⟩ := flF h nh
  obtain ⟨u5, u6⟩ := widF (hexC h) nx
  obtain ⟨u7, u8⟩ := flF (hexC h) nx
  have g5 : (FloatKind.f64.format.order (floorB (wid (hexC h))) 4617315517961601024 == some .gt) = true := gd
  have k5 := c5d
  have k50 := c5d0
  have ki : ∀ w, (convert 40 3 (.float .f64 4617315517961601024)).run Try.prog w = .ok (.int .i64 5) w := fun w => run_convert_float_int w 40 3 .f64 .i64 _ 5 (by kernel_rfl) (by kernel_rfl) i5d
  have IX : RowKit.Hid (ixC (hexC h) = 1084227584) := hid (by unfold ixC; rw [sx.g5]; rfl)
  have hrow := run_row5
  clear nh nx nl sx gd it
  go_enter Try.func52, Try.ntmps52
  go_wp2_with (first
    | (go_at_call 96; refine (theNaN_any _).mono ?_; rintro e w' ⟨rfl, rfl⟩)
    | (go_at_call 103; refine (isNum_any _ _).mono ?_; rintro e w' ⟨rfl, k, rfl⟩))
  refine (floor_any _ NH.out _).mono ?_
  rintro e w' ⟨rfl, rfl⟩
  go_wp2_with fail
  refine (floor_any _ NX.out _).mono ?_
  rintro e w' ⟨rfl, rfl⟩
  go_wp2_with fail
  generalize hf : fop .sub .f32 (hexC h) 1084227584 _ = fr
  generalize hp : fop .mul .f32 v (fop .sub .f32 1065353216 s _) _ = pr
  generalize hq : fop .mul .f32 v (fop .sub .f32 1065353216 (fop .mul .f32 s fr _) _) _ = qr
  generalize ht : fop .mul .f32 v (fop .sub .f32 1065353216 (fop .mul .f32 s (fop .sub .f32 1065353216 fr _) _) _) _ = tr
  generalize hW : World.alloc (World.drewN (World.alloc w _) _) _ = W
  have HP : RowKit.Hid (cl pr = lowC s v) := hid (by rw [← hp]; unfold cl; simp only [cn_fop, cn1, CS.out, CV.out]; rfl)
  have HQ : RowKit.Hid (cl qr = fallC s v (cop .sub .f32 (hexC h) 1084227584)) := hid (by rw [← hq, ← hf]; unfold cl; simp only [cn_fop, cn1, CS.out, CV.out, CX.out, cn5]; rfl)
  have HT : RowKit.Hid (cl tr = riseC s v (cop .sub .f32 (hexC h) 1084227584)) := hid (by rw [← ht, ← hf]; unfold cl; simp only [cn_fop, cn1, CS.out, CV.out, CX.out, cn5]; rfl)
  have b0 : Blk W w.heap.size 24 zpix := by rw [← hW]; exact ((Blk.new_at _ _ _ rfl).drewN _).alloc _
  have b1 : Blk W (w.heap.size + 1) 59 #[.float .f32 v, .float .f32 pr, .float .f32 qr] := by rw [← hW]; exact Blk.new_at _ _ _ (by simp)
  have hbe : Below w.heap.size w W := by rw [← hW]; exact (below_drewN ((Below.refl _ _).alloc (Nat.le_refl _) _) _).alloc (by simp) _
  have x0 := b1.cell 0
  have x1 := b1.cell 1
  have x2 := b1.cell 2
  have z0 := b0.cell 0
  have z1 := b0.cell 1
  have z2 := b0.cell 2
  have z3 := b0.cell 3
  have y0 := b0.frozen 0
  have y1 := b0.frozen 1
  have y2 := b0.frozen 2
  have y3 := b0.frozen 3
  simp at x0 x1 x2 z0 z1 z2 z3
  have HB := hid b0
  have HE := hid hbe
  clear hf hp hq ht hW b0 b1 hbe ps pd xs xd u1 u2 u3 u4 u5 u6 u7 u8 g5 k5 k50 ki hrow hh hs hv
  go_region_held3 (fun w' => w'.cell? ⟨w.heap.size + 1, 0, none⟩ = some (.float .f32 v) ∧ w'.cell? ⟨w.heap.size + 1, 1, none⟩ = some (.float .f32 pr) ∧ w'.cell? ⟨w.heap.size + 1, 2, none⟩ = some (.float .f32 qr)) (go_keep)
    (first | (go_at_call 35; refine (fix_any _ _).mono ?_; rintro e w' ⟨rfl, rfl⟩))
  all_goals
    go_wp2_with fail
    refine bodyPost_ret (results_cell_row rfl _ _ _ _ _ _ _ rfl (blk_set4 (HB.out.drewN 1) _ _ _ _) Try.underlying24 rfl (by kernel_rfl)) rfl ⟨?_, below_set4 (below_drewN HE.out 1) (by simp) _ _ _ _⟩
    have hj : ∀ j, j < 3 → fromC h s v al j = pickC (sxC (hexC h)) v (lowC s v) (fallC s v (cop .sub .f32 (hexC h) (ixC (hexC h)))) (riseC s v (cop .sub .f32 (hexC h) (ixC (hexC h)))) j := fun j hj => by
      unfold fromC; rw [if_pos hj, if_pos HH.out]
    exact congrArg _ (pix_four (by rw [hj 0 (by decide), IX.out, SX.out]; exact CV.out) (by rw [hj 1 (by decide), IX.out, SX.out]; exact HP.out) (by rw [hj 2 (by decide), IX.out, SX.out]; exact HQ.out) rfl)
end Go.Proofs.Ytcmakibomdinbaa
