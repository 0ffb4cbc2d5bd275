/-
  Colours: FromHSV of the program.
-/
import Derived.Test.YtcmakibomdinbaaCSix
namespace Go.Proofs.Ytcmakibomdinbaa
open Go.RowKit
attribute [local go_sem] run_store_float

theorem blk_set4 {w : World} {g : Nat} {t : TypeId} {c0 c1 c2 c3 : Value} (h : Blk w g t #[c0, c1, c2, c3]) (u0 u1 u2 u3 : Value) :
    Blk ((((w.setCell ⟨g, 0, none⟩ u0).setCell ⟨g, 1, none⟩ u1).setCell ⟨g, 2, none⟩ u2).setCell ⟨g, 3, none⟩ u3) g t #[u0, u1, u2, u3] := by
  simpa using (((h.set_ 0 u0).set_ 1 u1).set_ 2 u2).set_ 3 u3
theorem below_set4 {B : Nat} {a w : World} (h : Below B a w) {g : Nat} (hg : B ≤ g) (u0 u1 u2 u3 : Value) :
    Below B a ((((w.setCell ⟨g, 0, none⟩ u0).setCell ⟨g, 1, none⟩ u1).setCell ⟨g, 2, none⟩ u2).setCell ⟨g, 3, none⟩ u3) :=
  (((h.setCell (p := ⟨g, 0, none⟩) hg u0).setCell (p := ⟨g, 1, none⟩) hg u1).setCell (p := ⟨g, 2, none⟩) hg u2).setCell (p := ⟨g, 3, none⟩) hg u3
def three (a b c : Nat) (j : Nat) : Nat := match j with | 0 => a | 1 => b | _ => c
theorem rd3 {n : Nat} (w : World) (t : TypeId) (a b c : Nat) (hn : n = w.heap.size) : Rd (w.alloc (.cells #[.float .f32 a, .float .f32 b, .float .f32 c] t)) n 0 3 (three a b c) := by
  intro i hi
  have hb := Blk.new_at w t #[.float .f32 a, .float .f32 b, .float .f32 c] hn
  rw [Nat.zero_add, hb.cell]
  have : i = 0 ∨ i = 1 ∨ i = 2 := by omega
  rcases this with rfl | rfl | rfl <;> rfl
theorem fins3 (a b c : Nat) : fins (three a b c) 3 = (fin a && fin b && fin c) := by
  show (((true && fin a) && fin b) && fin c) = _
  rw [Bool.true_and]
theorem nums3 (a b c n : Nat) (t : TypeId) (w : World) (B : Bool) (hB : (fin a && fin b && fin c) = B) (hn : n = w.heap.size) :
    Calls Try.prog 79 #[.slice (some ⟨n, 0, none⟩) 3 3] (w.alloc (.cells #[.float .f32 a, .float .f32 b, .float .f32 c] t)) fun e w' => e = .returned (.bool B) ∧ (w.alloc (.cells #[.float .f32 a, .float .f32 b, .float .f32 c] t)) = w' := by
  rw [← hB, ← fins3]
  exact areNumbers_any n 3 3 _ _ (by decide) (rd3 w t a b c hn)

def four (a b c d : Nat) (j : Nat) : Nat := match j with | 0 => a | 1 => b | 2 => c | _ => d
theorem cleaned4 (a b c d : Nat) (w : World) : Calls Try.prog 71 #[.agg #[.float .f32 a, .float .f32 b, .float .f32 c, .float .f32 d]] w fun e w' => e = .returned (.agg #[.float .f32 (cl a), .float .f32 (cl b), .float .f32 (cl c), .float .f32 (cl d)]) ∧ Below w.heap.size w w' :=
  cleaned_any (four a b c d) w
theorem pix_four {a b c d : Nat} {g : Nat → Nat} (h0 : a = g 0) (h1 : b = g 1) (h2 : c = g 2) (h3 : d = g 3) : Value.agg #[.float .f32 a, .float .f32 b, .float .f32 c, .float .f32 d] = pix g := by
  subst h0; subst h1; subst h2; subst h3; rfl

set_option maxRecDepth 100000 in
set_option maxHeartbeats 400000 in
theorem from_nan (h s v al : Nat) (w : World) (hf : (fin h && fin s && fin v) = false) : Calls Try.prog 20 #[.float .f32 h, .float .f32 s, .float .f32 v, .float .f32 al] w fun e w' => e = .returned (pix (fromC h s v al)) ∧ Below w.heap.size w w' := by
  have HH := hid hf
  have hz : ∀ w' : World, Below (w.heap.size + 1) (w.alloc (.cells zpix 24)) w' → Blk w' w.heap.size 24 zpix := fun w' hb => (Blk.new_at w 24 zpix rfl).below hb (by simp)
  have HZ := hid hz
  clear hf hz
  go_enter Try.func20, Try.ntmps20
  go_wp2_with fail
  refine (nums3 h s v _ _ _ false HH.out (by simp)).mono ?_
  rintro e w' ⟨rfl, rfl⟩
  go_wp2_with ((go_at_call 76; refine (theNaNp_any _).mono ?_; rintro e w' ⟨rfl, k, rfl⟩))
  refine (cleaned4 _ _ _ _ _).mono ?_
  rintro e w1 ⟨rfl, hb1⟩
  have hz := HZ.out w1 ((below_drewN ((Below.refl _ _).alloc (by simp) _) _).trans (hb1.mono (by simp)))
  have hbe : Below w.heap.size w w1 := ((below_drewN (((Below.refl _ _).alloc (Nat.le_refl _) _).alloc (by simp) _) _).trans (hb1.mono (by simp; omega)))
  have HB := hid hz
  have HE := hid hbe
  have z0 := hz.cell 0
  have z1 := hz.cell 1
  have z2 := hz.cell 2
  have z3 := hz.cell 3
  have y0 := hz.frozen 0
  have y1 := hz.frozen 1
  have y2 := hz.frozen 2
  have y3 := hz.frozen 3
  simp at z0 z1 z2 z3
  clear hb1 hz hbe
  go_wp2_with fail
  refine bodyPost_ret (v := .agg #[.float .f32 (cl 2143289344), .float .f32 (cl 2143289344), .float .f32 (cl 2143289344), .float .f32 (cl al)]) (results_cell_row rfl _ _ _ _ _ _ _ rfl (blk_set4 HB.out _ _ _ _) Try.underlying24 rfl (by kernel_rfl)) rfl ⟨?_, below_set4 HE.out (by simp) _ _ _ _⟩
  have hq : cl 2143289344 = 2143289344 := cnq
  have hj : ∀ j, j < 3 → fromC h s v al j = 2143289344 := fun j hj => by unfold fromC; rw [if_pos hj, if_neg (by rw [HH.out]; simp)]
  exact congrArg _ (pix_four (by rw [hj 0 (by decide), hq]) (by rw [hj 1 (by decide), hq]) (by rw [hj 2 (by decide), hq]) rfl)

theorem c5_0 : (FloatKind.f32.format.order 1084227584 0 == some .eq) = false := by decide +kernel
theorem c5_1 : (FloatKind.f32.format.order 1084227584 1065353216 == some .eq) = false := by decide +kernel
theorem c5_2 : (FloatKind.f32.format.order 1084227584 1073741824 == some .eq) = false := by decide +kernel
theorem c5_3 : (FloatKind.f32.format.order 1084227584 1077936128 == some .eq) = false := by decide +kernel
theorem c5_4 : (FloatKind.f32.format.order 1084227584 1082130432 == some .eq) = false := by decide +kernel
theorem cn5 : cn .f32 1084227584 = 1084227584 := by decide +kernel

/-- What a hue that is a number gives. -/
structure HueOk (h n : Nat) : Prop where
  ps : ∀ w, fop .sub .f32 h (flC h) w = partC h
  pd : fdr .sub .f32 h (flC h) = 0
  xs : ∀ w, fop .mul .f32 (partC h) 1086324736 w = hexC h
  xd : fdr .mul .f32 (partC h) 1086324736 = 0
  nh : isN .f32 h = false
  nx : isN .f32 (hexC h) = false
  nl : cn .f32 (flC (hexC h)) = flC (hexC h)
  sx : Sext (hexC h) n
theorem hue_ok {h : Nat} (hf : fin h = true) : ∃ n, HueOk h n := by
  obtain ⟨a, ha⟩ := fin_fv hf
  obtain ⟨q, r, hq, _, _, _, hr, _, r0, r7⟩ := hex_val ha
  obtain ⟨n, hs, _⟩ := sext_of hr r0 r7
  obtain ⟨p1, p2⟩ := fop_cop (op := .sub) (x := h) (y := flC h) hq.not_nan
  obtain ⟨x1, x2⟩ := fop_cop (op := .mul) (x := partC h) (y := 1086324736) hr.not_nan
  exact ⟨n, p1, p2, x1, x2, ha.not_nan, hr.not_nan, (ffloor hr).2.cn, hs⟩

set_option maxRecDepth 100000 in
set_option maxHeartbeats 1000000 in
theorem from_0 (h s v al : Nat) (w : World) (hf : (fin h && fin s && fin v) = true) (hok : HueOk h 0) : Calls Try.prog 20 #[.float .f32 h, .float .f32 s, .float .f32 v, .float .f32 al] w fun e w' => e = .returned (pix (fromC h s v al)) ∧ Below w.heap.size w w' := by
  have HH := hid hf
  have hs : fin s = true := by simp at hf; exact hf.1.2
  have hv : fin v = true := by simp at hf; exact hf.2
  have CS := hid (cn_of_not (fin_not_nan hs))
  have CV := hid (cn_of_not (fin_not_nan hv))
  obtain ⟨ps, pd, xs, xd, nh, nx, nl, sx⟩ := hok
  have CX := hid (cn_of_not nx)
  have CL := hid nl
  have SX := hid sx.sx
  have NH := hid nh
  have NX := hid nx
  have g5 : (FloatKind.f32.format.order (flC (hexC h)) 1084227584 == some .gt) = false := sx.g5
  have e0 : (FloatKind.f32.format.order (flC (hexC h)) 0 == some .eq) = true := sx.e0
  have IX : RowKit.Hid (ixC (hexC h) = flC (hexC h)) := hid (by unfold ixC; rw [g5]; rfl)
  have hz : ∀ w' : World, Below (w.heap.size + 1) (w.alloc (.cells zpix 24)) w' → Blk w' w.heap.size 24 zpix := fun w' hb => (Blk.new_at w 24 zpix rfl).below hb (by simp)
  have HZ := hid hz
  clear hf hs hv nh nx nl sx hz
  go_enter Try.func20, Try.ntmps20
  go_wp2_with fail
  refine (nums3 h s v _ _ _ true HH.out (by simp)).mono ?_
  rintro e w' ⟨rfl, rfl⟩
  go_wp2_with fail
  refine (floorp_any h NH.out _).mono ?_
  rintro e w' ⟨rfl, rfl⟩
  go_wp2_with fail
  refine (floorp_any (hexC h) NX.out _).mono ?_
  rintro e w' ⟨rfl, rfl⟩
  go_wp2_with fail
  refine (cleaned4 _ _ _ _ _).mono ?_
  rintro e w1 ⟨rfl, hb1⟩
  have hz := HZ.out w1 (Below.trans (by repeat (first | exact Below.refl _ _ | refine below_drewN ?_ _ | refine Below.setCell ?_ (by simp) _ | refine Below.alloc ?_ (by simp) _)) (hb1.mono (by simp)))
  have hbe : Below w.heap.size w w1 := Below.trans (by repeat (first | exact Below.refl _ _ | refine below_drewN ?_ _ | refine Below.setCell ?_ (by simp) _ | refine Below.alloc ?_ (by first | (simp; done) | (simp; omega)) _)) (hb1.mono (by simp; omega))
  have HB := hid hz
  have HE := hid hbe
  have z0 := hz.cell 0
  have z1 := hz.cell 1
  have z2 := hz.cell 2
  have z3 := hz.cell 3
  have y0 := hz.frozen 0
  have y1 := hz.frozen 1
  have y2 := hz.frozen 2
  have y3 := hz.frozen 3
  simp at z0 z1 z2 z3
  clear hb1 hz hbe
  go_wp2_with fail
  refine bodyPost_ret (results_cell_row rfl _ _ _ _ _ _ _ rfl (blk_set4 HB.out _ _ _ _) Try.underlying24 rfl (by kernel_rfl)) rfl ⟨?_, below_set4 HE.out (by simp) _ _ _ _⟩
  have hj : ∀ j, j < 3 → fromC h s v al j = pickC (sxC (hexC h)) v (lowC s v) (fallC s v (cop .sub .f32 (hexC h) (ixC (hexC h)))) (riseC s v (cop .sub .f32 (hexC h) (ixC (hexC h)))) j := fun j hj => by
    unfold fromC; rw [if_pos hj, if_pos HH.out]
  exact congrArg _ (pix_four (by rw [hj 0 (by decide), IX.out, SX.out]; exact CV.out) (by rw [hj 1 (by decide), IX.out, SX.out]; unfold cl; simp only [cn_fop, cn1, CS.out, CV.out, CX.out, CL.out]; rfl) (by rw [hj 2 (by decide), IX.out, SX.out]; unfold cl; simp only [cn_fop, cn1, CS.out, CV.out]; rfl) rfl)

set_option maxRecDepth 100000 in
set_option maxHeartbeats 1000000 in
theorem from_1 (h s v al : Nat) (w : World) (hf : (fin h && fin s && fin v) = true) (hok : HueOk h 1) : Calls Try.prog 20 #[.float .f32 h, .float .f32 s, .float .f32 v, .float .f32 al] w fun e w' => e = .returned (pix (fromC h s v al)) ∧ Below w.heap.size w w' := by
  have HH := hid hf
  have hs : fin s = true := by simp at hf; exact hf.1.2
  have hv : fin v = true := by simp at hf; exact hf.2
  have CS := hid (cn_of_not (fin_not_nan hs))
  have CV := hid (cn_of_not (fin_not_nan hv))
  obtain ⟨ps, pd, xs, xd, nh, nx, nl, sx⟩ := hok
  have CX := hid (cn_of_not nx)
  have CL := hid nl
  have SX := hid sx.sx
  have NH := hid nh
  have NX := hid nx
  have g5 : (FloatKind.f32.format.order (flC (hexC h)) 1084227584 == some .gt) = false := sx.g5
  have e0 : (FloatKind.f32.format.order (flC (hexC h)) 0 == some .eq) = false := sx.e0
  have e1 : (FloatKind.f32.format.order (flC (hexC h)) 1065353216 == some .eq) = true := sx.e1
  have IX : RowKit.Hid (ixC (hexC h) = flC (hexC h)) := hid (by unfold ixC; rw [g5]; rfl)
  have hz : ∀ w' : World, Below (w.heap.size + 1) (w.alloc (.cells zpix 24)) w' → Blk w' w.heap.size 24 zpix := fun w' hb => (Blk.new_at w 24 zpix rfl).below hb (by simp)
  have HZ := hid hz
  clear hf hs hv nh nx nl sx hz
  go_enter Try.func20, Try.ntmps20
  go_wp2_with fail
  refine (nums3 h s v _ _ _ true HH.out (by simp)).mono ?_
  rintro e w' ⟨rfl, rfl⟩
  go_wp2_with fail
  refine (floorp_any h NH.out _).mono ?_
  rintro e w' ⟨rfl, rfl⟩
  go_wp2_with fail
  refine (floorp_any (hexC h) NX.out _).mono ?_
  rintro e w' ⟨rfl, rfl⟩
  go_wp2_with fail
  refine (cleaned4 _ _ _ _ _).mono ?_
  rintro e w1 ⟨rfl, hb1⟩
  have hz := HZ.out w1 (Below.trans (by repeat (first | exact Below.refl _ _ | refine below_drewN ?_ _ | refine Below.setCell ?_ (by simp) _ | refine Below.alloc ?_ (by simp) _)) (hb1.mono (by simp)))
  have hbe : Below w.heap.size w w1 := Below.trans (by repeat (first | exact Below.refl _ _ | refine below_drewN ?_ _ | refine Below.setCell ?_ (by simp) _ | refine Below.alloc ?_ (by first | (simp; done) | (simp; omega)) _)) (hb1.mono (by simp; omega))
  have HB := hid hz
  have HE := hid hbe
  have z0 := hz.cell 0
  have z1 := hz.cell 1
  have z2 := hz.cell 2
  have z3 := hz.cell 3
  have y0 := hz.frozen 0
  have y1 := hz.frozen 1
  have y2 := hz.frozen 2
  have y3 := hz.frozen 3
  simp at z0 z1 z2 z3
  clear hb1 hz hbe
  go_wp2_with fail
  refine bodyPost_ret (results_cell_row rfl _ _ _ _ _ _ _ rfl (blk_set4 HB.out _ _ _ _) Try.underlying24 rfl (by kernel_rfl)) rfl ⟨?_, below_set4 HE.out (by simp) _ _ _ _⟩
  have hj : ∀ j, j < 3 → fromC h s v al j = pickC (sxC (hexC h)) v (lowC s v) (fallC s v (cop .sub .f32 (hexC h) (ixC (hexC h)))) (riseC s v (cop .sub .f32 (hexC h) (ixC (hexC h)))) j := fun j hj => by
    unfold fromC; rw [if_pos hj, if_pos HH.out]
  exact congrArg _ (pix_four (by rw [hj 0 (by decide), IX.out, SX.out]; unfold cl; simp only [cn_fop, cn1, CS.out, CV.out, CX.out, CL.out]; rfl) (by rw [hj 1 (by decide), IX.out, SX.out]; exact CV.out) (by rw [hj 2 (by decide), IX.out, SX.out]; unfold cl; simp only [cn_fop, cn1, CS.out, CV.out]; rfl) rfl)

set_option maxRecDepth 100000 in
set_option maxHeartbeats 1000000 in
theorem from_2 (h s v al : Nat) (w : World) (hf : (fin h && fin s && fin v) = true) (hok : HueOk h 2) : Calls Try.prog 20 #[.float .f32 h, .float .f32 s, .float .f32 v, .float .f32 al] w fun e w' => e = .returned (pix (fromC h s v al)) ∧ Below w.heap.size w w' := by
  have HH := hid hf
  have hs : fin s = true := by simp at hf; exact hf.1.2
  have hv : fin v = true := by simp at hf; exact hf.2
  have CS := hid (cn_of_not (fin_not_nan hs))
  have CV := hid (cn_of_not (fin_not_nan hv))
  obtain ⟨ps, pd, xs, xd, nh, nx, nl, sx⟩ := hok
  have CX := hid (cn_of_not nx)
  have CL := hid nl
  have SX := hid sx.sx
  have NH := hid nh
  have NX := hid nx
  have g5 : (FloatKind.f32.format.order (flC (hexC h)) 1084227584 == some .gt) = false := sx.g5
  have e0 : (FloatKind.f32.format.order (flC (hexC h)) 0 == some .eq) = false := sx.e0
  have e1 : (FloatKind.f32.format.order (flC (hexC h)) 1065353216 == some .eq) = false := sx.e1
  have e2 : (FloatKind.f32.format.order (flC (hexC h)) 1073741824 == some .eq) = true := sx.e2
  have IX : RowKit.Hid (ixC (hexC h) = flC (hexC h)) := hid (by unfold ixC; rw [g5]; rfl)
  have hz : ∀ w' : World, Below (w.heap.size + 1) (w.alloc (.cells zpix 24)) w' → Blk w' w.heap.size 24 zpix := fun w' hb => (Blk.new_at w 24 zpix rfl).below hb (by simp)
  have HZ := hid hz
  clear hf hs hv nh nx nl sx hz
  go_enter Try.func20, Try.ntmps20
  go_wp2_with fail
  refine (nums3 h s v _ _ _ true HH.out (by simp)).mono ?_
  rintro e w' ⟨rfl, rfl⟩
  go_wp2_with fail
  refine (floorp_any h NH.out _).mono ?_
  rintro e w' ⟨rfl, rfl⟩
  go_wp2_with fail
  refine (floorp_any (hexC h) NX.out _).mono ?_
  rintro e w' ⟨rfl, rfl⟩
  go_wp2_with fail
  refine (cleaned4 _ _ _ _ _).mono ?_
  rintro e w1 ⟨rfl, hb1⟩
  have hz := HZ.out w1 (Below.trans (by repeat (first | exact Below.refl _ _ | refine below_drewN ?_ _ | refine Below.setCell ?_ (by simp) _ | refine Below.alloc ?_ (by simp) _)) (hb1.mono (by simp)))
  have hbe : Below w.heap.size w w1 := Below.trans (by repeat (first | exact Below.refl _ _ | refine below_drewN ?_ _ | refine Below.setCell ?_ (by simp) _ | refine Below.alloc ?_ (by first | (simp; done) | (simp; omega)) _)) (hb1.mono (by simp; omega))
  have HB := hid hz
  have HE := hid hbe
  have z0 := hz.cell 0
  have z1 := hz.cell 1
  have z2 := hz.cell 2
  have z3 := hz.cell 3
  have y0 := hz.frozen 0
  have y1 := hz.frozen 1
  have y2 := hz.frozen 2
  have y3 := hz.frozen 3
  simp at z0 z1 z2 z3
  clear hb1 hz hbe
  go_wp2_with fail
  refine bodyPost_ret (results_cell_row rfl _ _ _ _ _ _ _ rfl (blk_set4 HB.out _ _ _ _) Try.underlying24 rfl (by kernel_rfl)) rfl ⟨?_, below_set4 HE.out (by simp) _ _ _ _⟩
  have hj : ∀ j, j < 3 → fromC h s v al j = pickC (sxC (hexC h)) v (lowC s v) (fallC s v (cop .sub .f32 (hexC h) (ixC (hexC h)))) (riseC s v (cop .sub .f32 (hexC h) (ixC (hexC h)))) j := fun j hj => by
    unfold fromC; rw [if_pos hj, if_pos HH.out]
  exact congrArg _ (pix_four (by rw [hj 0 (by decide), IX.out, SX.out]; unfold cl; simp only [cn_fop, cn1, CS.out, CV.out]; rfl) (by rw [hj 1 (by decide), IX.out, SX.out]; exact CV.out) (by rw [hj 2 (by decide), IX.out, SX.out]; unfold cl; simp only [cn_fop, cn1, CS.out, CV.out, CX.out, CL.out]; rfl) rfl)

set_option maxRecDepth 100000 in
set_option maxHeartbeats 1000000 in
theorem from_3 (h s v al : Nat) (w : World) (hf : (fin h && fin s && fin v) = true) (hok : HueOk h 3) : Calls Try.prog 20 #[.float .f32 h, .float .f32 s, .float .f32 v, .float .f32 al] w fun e w' => e = .returned (pix (fromC h s v al)) ∧ Below w.heap.size w w' := by
  have HH := hid hf
  have hs : fin s = true := by simp at hf; exact hf.1.2
  have hv : fin v = true := by simp at hf; exact hf.2
  have CS := hid (cn_of_not (fin_not_nan hs))
  have CV := hid (cn_of_not (fin_not_nan hv))
  obtain ⟨ps, pd, xs, xd, nh, nx, nl, sx⟩ := hok
  have CX := hid (cn_of_not nx)
  have CL := hid nl
  have SX := hid sx.sx
  have NH := hid nh
  have NX := hid nx
  have g5 : (FloatKind.f32.format.order (flC (hexC h)) 1084227584 == some .gt) = false := sx.g5
  have e0 : (FloatKind.f32.format.order (flC (hexC h)) 0 == some .eq) = false := sx.e0
  have e1 : (FloatKind.f32.format.order (flC (hexC h)) 1065353216 == some .eq) = false := sx.e1
  have e2 : (FloatKind.f32.format.order (flC (hexC h)) 1073741824 == some .eq) = false := sx.e2
  have e3 : (FloatKind.f32.format.order (flC (hexC h)) 1077936128 == some .eq) = true := sx.e3
  have IX : RowKit.Hid (ixC (hexC h) = flC (hexC h)) := hid (by unfold ixC; rw [g5]; rfl)
  have hz : ∀ w' : World, Below (w.heap.size + 1) (w.alloc (.cells zpix 24)) w' → Blk w' w.heap.size 24 zpix := fun w' hb => (Blk.new_at w 24 zpix rfl).below hb (by simp)
  have HZ := hid hz
  clear hf hs hv nh nx nl sx hz
  go_enter Try.func20, Try.ntmps20
  go_wp2_with fail
  refine (nums3 h s v _ _ _ true HH.out (by simp)).mono ?_
  rintro e w' ⟨rfl, rfl⟩
  go_wp2_with fail
  refine (floorp_any h NH.out _).mono ?_
  rintro e w' ⟨rfl, rfl⟩
  go_wp2_with fail
  refine (floorp_any (hexC h) NX.out _).mono ?_
  rintro e w' ⟨rfl, rfl⟩
  go_wp2_with fail
  refine (cleaned4 _ _ _ _ _).mono ?_
  rintro e w1 ⟨rfl, hb1⟩
  have hz := HZ.out w1 (Below.trans (by repeat (first | exact Below.refl _ _ | refine below_drewN ?_ _ | refine Below.setCell ?_ (by simp) _ | refine Below.alloc ?_ (by simp) _)) (hb1.mono (by simp)))
  have hbe : Below w.heap.size w w1 := Below.trans (by repeat (first | exact Below.refl _ _ | refine below_drewN ?_ _ | refine Below.setCell ?_ (by simp) _ | refine Below.alloc ?_ (by first | (simp; done) | (simp; omega)) _)) (hb1.mono (by simp; omega))
  have HB := hid hz
  have HE := hid hbe
  have z0 := hz.cell 0
  have z1 := hz.cell 1
  have z2 := hz.cell 2
  have z3 := hz.cell 3
  have y0 := hz.frozen 0
  have y1 := hz.frozen 1
  have y2 := hz.frozen 2
  have y3 := hz.frozen 3
  simp at z0 z1 z2 z3
  clear hb1 hz hbe
  go_wp2_with fail
  refine bodyPost_ret (results_cell_row rfl _ _ _ _ _ _ _ rfl (blk_set4 HB.out _ _ _ _) Try.underlying24 rfl (by kernel_rfl)) rfl ⟨?_, below_set4 HE.out (by simp) _ _ _ _⟩
  have hj : ∀ j, j < 3 → fromC h s v al j = pickC (sxC (hexC h)) v (lowC s v) (fallC s v (cop .sub .f32 (hexC h) (ixC (hexC h)))) (riseC s v (cop .sub .f32 (hexC h) (ixC (hexC h)))) j := fun j hj => by
    unfold fromC; rw [if_pos hj, if_pos HH.out]
  exact congrArg _ (pix_four (by rw [hj 0 (by decide), IX.out, SX.out]; unfold cl; simp only [cn_fop, cn1, CS.out, CV.out]; rfl) (by rw [hj 1 (by decide), IX.out, SX.out]; unfold cl; simp only [cn_fop, cn1, CS.out, CV.out, CX.out, CL.out]; rfl) (by rw [hj 2 (by decide), IX.out, SX.out]; exact CV.out) rfl)

set_option maxRecDepth 100000 in
set_option maxHeartbeats 1000000 in
theorem from_4 (h s v al : Nat) (w : World) (hf : (fin h && fin s && fin v) = true) (hok : HueOk h 4) : Calls Try.prog 20 #[.float .f32 h, .float .f32 s, .float .f32 v, .float .f32 al] w fun e w' => e = .returned (pix (fromC h s v al)) ∧ Below w.heap.size w w' := by
  have HH := hid hf
  have hs : fin s = true := by simp at hf; exact hf.1.2
  have hv : fin v = true := by simp at hf; exact hf.2
  have CS := hid (cn_of_not (fin_not_nan hs))
  have CV := hid (cn_of_not (fin_not_nan hv))
  obtain ⟨ps, pd, xs, xd, nh, nx, nl, sx⟩ := hok
  have CX := hid (cn_of_not nx)
  have CL := hid nl
  have SX := hid sx.sx
  have NH := hid nh
  have NX := hid nx
  have g5 : (FloatKind.f32.format.order (flC (hexC h)) 1084227584 == some .gt) = false := sx.g5
  have e0 : (FloatKind.f32.format.order (flC (hexC h)) 0 == some .eq) = false := sx.e0
  have e1 : (FloatKind.f32.format.order (flC (hexC h)) 1065353216 == some .eq) = false := sx.e1
  have e2 : (FloatKind.f32.format.order (flC (hexC h)) 1073741824 == some .eq) = false := sx.e2
  have e3 : (FloatKind.f32.format.order (flC (hexC h)) 1077936128 == some .eq) = false := sx.e3
  have e4 : (FloatKind.f32.format.order (flC (hexC h)) 1082130432 == some .eq) = true := sx.e4
  have IX : RowKit.Hid (ixC (hexC h) = flC (hexC h)) := hid (by unfold ixC; rw [g5]; rfl)
  have hz : ∀ w' : World, Below (w.heap.size + 1) (w.alloc (.cells zpix 24)) w' → Blk w' w.heap.size 24 zpix := fun w' hb => (Blk.new_at w 24 zpix rfl).below hb (by simp)
  have HZ := hid hz
  clear hf hs hv nh nx nl sx hz
  go_enter Try.func20, Try.ntmps20
  go_wp2_with fail
  refine (nums3 h s v _ _ _ true HH.out (by simp)).mono ?_
  rintro e w' ⟨rfl, rfl⟩
  go_wp2_with fail
  refine (floorp_any h NH.out _).mono ?_
  rintro e w' ⟨rfl, rfl⟩
  go_wp2_with fail
  refine (floorp_any (hexC h) NX.out _).mono ?_
  rintro e w' ⟨rfl, rfl⟩
  go_wp2_with fail
  refine (cleaned4 _ _ _ _ _).mono ?_
  rintro e w1 ⟨rfl, hb1⟩
  have hz := HZ.out w1 (Below.trans (by repeat (first | exact Below.refl _ _ | refine below_drewN ?_ _ | refine Below.setCell ?_ (by simp) _ | refine Below.alloc ?_ (by simp) _)) (hb1.mono (by simp)))
  have hbe : Below w.heap.size w w1 := Below.trans (by repeat (first | exact Below.refl _ _ | refine below_drewN ?_ _ | refine Below.setCell ?_ (by simp) _ | refine Below.alloc ?_ (by first | (simp; done) | (simp; omega)) _)) (hb1.mono (by simp; omega))
  have HB := hid hz
  have HE := hid hbe
  have z0 := hz.cell 0
  have z1 := hz.cell 1
  have z2 := hz.cell 2
  have z3 := hz.cell 3
  have y0 := hz.frozen 0
  have y1 := hz.frozen 1
  have y2 := hz.frozen 2
  have y3 := hz.frozen 3
  simp at z0 z1 z2 z3
  clear hb1 hz hbe
  go_wp2_with fail
  refine bodyPost_ret (results_cell_row rfl _ _ _ _ _ _ _ rfl (blk_set4 HB.out _ _ _ _) Try.underlying24 rfl (by kernel_rfl)) rfl ⟨?_, below_set4 HE.out (by simp) _ _ _ _⟩
  have hj : ∀ j, j < 3 → fromC h s v al j = pickC (sxC (hexC h)) v (lowC s v) (fallC s v (cop .sub .f32 (hexC h) (ixC (hexC h)))) (riseC s v (cop .sub .f32 (hexC h) (ixC (hexC h)))) j := fun j hj => by
    unfold fromC; rw [if_pos hj, if_pos HH.out]
  exact congrArg _ (pix_four (by rw [hj 0 (by decide), IX.out, SX.out]; unfold cl; simp only [cn_fop, cn1, CS.out, CV.out, CX.out, CL.out]; rfl) (by rw [hj 1 (by decide), IX.out, SX.out]; unfold cl; simp only [cn_fop, cn1, CS.out, CV.out]; rfl) (by rw [hj 2 (by decide), IX.out, SX.out]; exact CV.out) rfl)

set_option maxRecDepth 100000 in
set_option maxHeartbeats 1000000 in
theorem from_5 (h s v al : Nat) (w : World) (hf : (fin h && fin s && fin v) = true) (hok : HueOk h 5) : Calls Try.prog 20 #[.float .f32 h, .float .f32 s, .float .f32 v, .float .f32 al] w fun e w' => e = .returned (pix (fromC h s v al)) ∧ Below w.heap.size w w' := by
  have HH := hid hf
  have hs : fin s = true := by simp at hf; exact hf.1.2
  have hv : fin v = true := by simp at hf; exact hf.2
  have CS := hid (cn_of_not (fin_not_nan hs))
  have CV := hid (cn_of_not (fin_not_nan hv))
  obtain ⟨ps, pd, xs, xd, nh, nx, nl, sx⟩ := hok
  have CX := hid (cn_of_not nx)
  have CL := hid nl
  have SX := hid sx.sx
  have NH := hid nh
  have NX := hid nx
  have g5 : (FloatKind.f32.format.order (flC (hexC h)) 1084227584 == some .gt) = false := sx.g5
  have e0 : (FloatKind.f32.format.order (flC (hexC h)) 0 == some .eq) = false := sx.e0
  have e1 : (FloatKind.f32.format.order (flC (hexC h)) 1065353216 == some .eq) = false := sx.e1
  have e2 : (FloatKind.f32.format.order (flC (hexC h)) 1073741824 == some .eq) = false := sx.e2
  have e3 : (FloatKind.f32.format.order (flC (hexC h)) 1077936128 == some .eq) = false := sx.e3
  have e4 : (FloatKind.f32.format.order (flC (hexC h)) 1082130432 == some .eq) = false := sx.e4
  have IX : RowKit.Hid (ixC (hexC h) = flC (hexC h)) := hid (by unfold ixC; rw [g5]; rfl)
  have hz : ∀ w' : World, Below (w.heap.size + 1) (w.alloc (.cells zpix 24)) w' → Blk w' w.heap.size 24 zpix := fun w' hb => (Blk.new_at w 24 zpix rfl).below hb (by simp)
  have HZ := hid hz
  clear hf hs hv nh nx nl sx hz
  go_enter Try.func20, Try.ntmps20
  go_wp2_with fail
  refine (nums3 h s v _ _ _ true HH.out (by simp)).mono ?_
  rintro e w' ⟨rfl, rfl⟩
  go_wp2_with fail
  refine (floorp_any h NH.out _).mono ?_
  rintro e w' ⟨rfl, rfl⟩
  go_wp2_with fail
  refine (floorp_any (hexC h) NX.out _).mono ?_
  rintro e w' ⟨rfl, rfl⟩
  go_wp2_with fail
  refine (cleaned4 _ _ _ _ _).mono ?_
  rintro e w1 ⟨rfl, hb1⟩
  have hz := HZ.out w1 (Below.trans (by repeat (first | exact Below.refl _ _ | refine below_drewN ?_ _ | refine Below.setCell ?_ (by simp) _ | refine Below.alloc ?_ (by simp) _)) (hb1.mono (by simp)))
  have hbe : Below w.heap.size w w1 := Below.trans (by repeat (first | exact Below.refl _ _ | refine below_drewN ?_ _ | refine Below.setCell ?_ (by simp) _ | refine Below.alloc ?_ (by first | (simp; done) | (simp; omega)) _)) (hb1.mono (by simp; omega))
  have HB := hid hz
  have HE := hid hbe
  have z0 := hz.cell 0
  have z1 := hz.cell 1
  have z2 := hz.cell 2
  have z3 := hz.cell 3
  have y0 := hz.frozen 0
  have y1 := hz.frozen 1
  have y2 := hz.frozen 2
  have y3 := hz.frozen 3
  simp at z0 z1 z2 z3
  clear hb1 hz hbe
  go_wp2_with fail
  refine bodyPost_ret (results_cell_row rfl _ _ _ _ _ _ _ rfl (blk_set4 HB.out _ _ _ _) Try.underlying24 rfl (by kernel_rfl)) rfl ⟨?_, below_set4 HE.out (by simp) _ _ _ _⟩
  have hj : ∀ j, j < 3 → fromC h s v al j = pickC (sxC (hexC h)) v (lowC s v) (fallC s v (cop .sub .f32 (hexC h) (ixC (hexC h)))) (riseC s v (cop .sub .f32 (hexC h) (ixC (hexC h)))) j := fun j hj => by
    unfold fromC; rw [if_pos hj, if_pos HH.out]
  exact congrArg _ (pix_four (by rw [hj 0 (by decide), IX.out, SX.out]; exact CV.out) (by rw [hj 1 (by decide), IX.out, SX.out]; unfold cl; simp only [cn_fop, cn1, CS.out, CV.out]; rfl) (by rw [hj 2 (by decide), IX.out, SX.out]; unfold cl; simp only [cn_fop, cn1, CS.out, CV.out, CX.out, CL.out]; rfl) rfl)

set_option maxRecDepth 100000 in
set_option maxHeartbeats 1000000 in
theorem from_6 (h s v al : Nat) (w : World) (hf : (fin h && fin s && fin v) = true) (hok : HueOk h 6) : Calls Try.prog 20 #[.float .f32 h, .float .f32 s, .float .f32 v, .float .f32 al] w fun e w' => e = .returned (pix (fromC h s v al)) ∧ Below w.heap.size w w' := by
  have HH := hid hf
  have hs : fin s = true := by simp at hf; exact hf.1.2
  have hv : fin v = true := by simp at hf; exact hf.2
  have CS := hid (cn_of_not (fin_not_nan hs))
  have CV := hid (cn_of_not (fin_not_nan hv))
  obtain ⟨ps, pd, xs, xd, nh, nx, nl, sx⟩ := hok
  have CX := hid (cn_of_not nx)
  have CL := hid nl
  have SX := hid sx.sx
  have NH := hid nh
  have NX := hid nx
  have g5 : (FloatKind.f32.format.order (flC (hexC h)) 1084227584 == some .gt) = true := sx.g5
  have IX : RowKit.Hid (ixC (hexC h) = 1084227584) := hid (by unfold ixC; rw [g5]; rfl)
  have d0 := c5_0
  have d1 := c5_1
  have d2 := c5_2
  have d3 := c5_3
  have d4 := c5_4
  have hz : ∀ w' : World, Below (w.heap.size + 1) (w.alloc (.cells zpix 24)) w' → Blk w' w.heap.size 24 zpix := fun w' hb => (Blk.new_at w 24 zpix rfl).below hb (by simp)
  have HZ := hid hz
  clear hf hs hv nh nx nl sx hz
  go_enter Try.func20, Try.ntmps20
  go_wp2_with fail
  refine (nums3 h s v _ _ _ true HH.out (by simp)).mono ?_
  rintro e w' ⟨rfl, rfl⟩
  go_wp2_with fail
  refine (floorp_any h NH.out _).mono ?_
  rintro e w' ⟨rfl, rfl⟩
  go_wp2_with fail
  refine (floorp_any (hexC h) NX.out _).mono ?_
  rintro e w' ⟨rfl, rfl⟩
  go_wp2_with fail
  refine (cleaned4 _ _ _ _ _).mono ?_
  rintro e w1 ⟨rfl, hb1⟩
  have hz := HZ.out w1 (Below.trans (by repeat (first | exact Below.refl _ _ | refine below_drewN ?_ _ | refine Below.setCell ?_ (by simp) _ | refine Below.alloc ?_ (by simp) _)) (hb1.mono (by simp)))
  have hbe : Below w.heap.size w w1 := Below.trans (by repeat (first | exact Below.refl _ _ | refine below_drewN ?_ _ | refine Below.setCell ?_ (by simp) _ | refine Below.alloc ?_ (by first | (simp; done) | (simp; omega)) _)) (hb1.mono (by simp; omega))
  have HB := hid hz
  have HE := hid hbe
  have z0 := hz.cell 0
  have z1 := hz.cell 1
  have z2 := hz.cell 2
  have z3 := hz.cell 3
  have y0 := hz.frozen 0
  have y1 := hz.frozen 1
  have y2 := hz.frozen 2
  have y3 := hz.frozen 3
  simp at z0 z1 z2 z3
  clear hb1 hz hbe
  go_wp2_with fail
  refine bodyPost_ret (results_cell_row rfl _ _ _ _ _ _ _ rfl (blk_set4 HB.out _ _ _ _) Try.underlying24 rfl (by kernel_rfl)) rfl ⟨?_, below_set4 HE.out (by simp) _ _ _ _⟩
  have hj : ∀ j, j < 3 → fromC h s v al j = pickC (sxC (hexC h)) v (lowC s v) (fallC s v (cop .sub .f32 (hexC h) (ixC (hexC h)))) (riseC s v (cop .sub .f32 (hexC h) (ixC (hexC h)))) j := fun j hj => by
    unfold fromC; rw [if_pos hj, if_pos HH.out]
  exact congrArg _ (pix_four (by rw [hj 0 (by decide), IX.out, SX.out]; exact CV.out) (by rw [hj 1 (by decide), IX.out, SX.out]; unfold cl; simp only [cn_fop, cn1, CS.out, CV.out]; rfl) (by rw [hj 2 (by decide), IX.out, SX.out]; unfold cl; simp only [cn_fop, cn1, CS.out, CV.out, CX.out, cn5]; rfl) rfl)
end Go.Proofs.Ytcmakibomdinbaa
