/-
  Through of the program.
-/
import Derived.Test.YtoahfnfmhgeooaaFMix
import Derived.Test.YtoahfnfmhgeooaaFMat
namespace Go.Proofs.Ytoahfnfmhgeooaa
open Go.RowKit Go.Shelf

set_option maxRecDepth 100000 in
set_option maxHeartbeats 2000000 in
theorem thr_bad (X Y X' Y' p' q' mx my ma mb : Int) (p q n c n' c' k cm : Nat) (A B M : Option Addr) (w : World) (h1 : frmE X Y p q n = 0) (h2 : frmE X' Y' p' q' n' = 0) (hm : ¬ matE mx my ma mb k = 0) :
    Calls Try.prog 57 #[frm X Y p q A n c, frm X' Y' p' q' B n' c', frm mx my ma mb M k cm] w (ErrOut w (matE mx my ma mb k)) := by
  have zm : (matE mx my ma mb k != 0) = true := by simp [hm]
  clear hm
  obtain ⟨wb, hwb⟩ : ∃ wb, wb = (((w.alloc (.cells #[.int .i64 X, .int .i64 Y, .int .i64 p, .int .i64 q, .slice A n c] 39)).alloc (.cells #[.int .i64 X', .int .i64 Y', .int .i64 p', .int .i64 q', .slice B n' c'] 39)).alloc (.cells #[.int .i64 mx, .int .i64 my, .int .i64 ma, .int .i64 mb, .slice M k cm] 76)).alloc (.cells zfrm 39) := ⟨_, rfl⟩
  have b0 : Blk wb w.heap.size 39 #[.int .i64 X, .int .i64 Y, .int .i64 p, .int .i64 q, .slice A n c] := by rw [hwb]; exact (((Blk.new_at _ _ _ rfl).alloc _).alloc _).alloc _
  have b1 : Blk wb (w.heap.size + 1) 39 #[.int .i64 X', .int .i64 Y', .int .i64 p', .int .i64 q', .slice B n' c'] := by rw [hwb]; exact ((Blk.new_at _ _ _ (by simp)).alloc _).alloc _
  have b2 : Blk wb (w.heap.size + 2) 76 #[.int .i64 mx, .int .i64 my, .int .i64 ma, .int .i64 mb, .slice M k cm] := by rw [hwb]; exact (Blk.new_at _ _ _ (by simp)).alloc _
  have b3 : Blk wb (w.heap.size + 3) 39 zfrm := by rw [hwb]; exact Blk.new_at _ _ _ (by simp)
  have hbe : Below w.heap.size w wb := by rw [hwb]; exact ((((Below.refl _ _).alloc (Nat.le_refl _) _).alloc (by simp) _).alloc (by simp; omega) _).alloc (by simp; omega) _
  have HB0 := hid b0
  have HB1 := hid b1
  have HB2 := hid b2
  have HB3 := hid b3
  have HBE := hid hbe
  have HWB := hid hwb
  have HC1 := hid h1
  have HC2 := hid h2
  clear b0 b1 b2 b3 hbe hwb h1 h2
  go_enter Try.func57, Try.ntmps57
  go_wp2_with fail
  rw [← HWB.out]
  refine (checkBoth_ok X Y p q X' Y' p' q' n c n' c' A B wb HC1.out HC2.out).mono ?_
  rintro e w1 ⟨rfl, hb⟩
  have HBB := hid hb
  have m2 := HB2.out.below hb HB2.out.lt
  have e0 := m2.cell 0
  have e1 := m2.cell 1
  have e2 := m2.cell 2
  have e3 := m2.cell 3
  have e4 := m2.cell 4
  simp at e0 e1 e2 e3 e4
  have HM2 := hid m2
  clear hb m2
  go_wp2_with fail
  refine (checkMatte_any _ _ _ _ _ _ _ _).mono ?_
  rintro e w2 ⟨rfl, hb⟩
  have HBW := hid (Below.trans HBB.out (hb.mono HBB.out.size))
  have k0 := HB0.out.below HBW.out HB0.out.lt
  have k1 := HB1.out.below HBW.out HB1.out.lt
  have k2 := HB2.out.below HBW.out HB2.out.lt
  have k3 := HB3.out.below HBW.out HB3.out.lt
  have a0 := k0.cell 0
  have a1 := k0.cell 1
  have a2 := k0.cell 2
  have a3 := k0.cell 3
  have a4 := k0.cell 4
  have b0 := k1.cell 0
  have b1 := k1.cell 1
  have b2 := k1.cell 2
  have b3 := k1.cell 3
  have b4 := k1.cell 4
  have d0 := k2.cell 0
  have d1 := k2.cell 1
  have d2 := k2.cell 2
  have d3 := k2.cell 3
  have d4 := k2.cell 4
  simp at a0 a1 a2 a3 a4 b0 b1 b2 b3 b4 d0 d1 d2 d3 d4
  clear e0 e1 e2 e3 e4 HM2
  have z0 := k3.cell 0
  have z1 := k3.cell 1
  have z2 := k3.cell 2
  have z3 := k3.cell 3
  have z4 := k3.cell 4
  have fz := fun i => k3.frozen i
  simp at z0 z1 z2 z3 z4
  have hblk := k3.set5 (.int .i64 0) (.int .i64 0) (.int .i64 0) (.int .i64 0) (.slice none 0 0)
  have HBK := hid hblk
  have HB := hid (below_to HBE.out HBW.out)
  clear hb k0 k1 k2 k3 hblk
  go_wp2_with fail
  refine bodyPost_ret (v := .tuple #[.agg zfrm, .int .i64 (matE mx my ma mb k)]) (results_row_tmp rfl _ _ _ _ _ _ rfl rfl HBK.out Try.underlying39 rfl (by kernel_rfl)) rfl ?_
  exact ⟨rfl, below_set5 HB.out (by omega) _ _ _ _ _⟩

set_option maxRecDepth 100000 in
set_option maxHeartbeats 2000000 in
theorem thr_apart0 (X Y X' Y' p' q' mx my ma mb : Int) (p q n c n' c' k cm : Nat) (A B M : Option Addr) (w : World) (h1 : frmE X Y p q n = 0) (h2 : frmE X' Y' p' q' n' = 0) (hm : matE mx my ma mb k = 0) (hq : (X == X') = false) :
    Calls Try.prog 57 #[frm X Y p q A n c, frm X' Y' p' q' B n' c', frm mx my ma mb M k cm] w (ErrOut w 5) := by
  have zm : (matE mx my ma mb k != 0) = false := by simp [hm]
  clear hm
  obtain ⟨wb, hwb⟩ : ∃ wb, wb = (((w.alloc (.cells #[.int .i64 X, .int .i64 Y, .int .i64 p, .int .i64 q, .slice A n c] 39)).alloc (.cells #[.int .i64 X', .int .i64 Y', .int .i64 p', .int .i64 q', .slice B n' c'] 39)).alloc (.cells #[.int .i64 mx, .int .i64 my, .int .i64 ma, .int .i64 mb, .slice M k cm] 76)).alloc (.cells zfrm 39) := ⟨_, rfl⟩
  have b0 : Blk wb w.heap.size 39 #[.int .i64 X, .int .i64 Y, .int .i64 p, .int .i64 q, .slice A n c] := by rw [hwb]; exact (((Blk.new_at _ _ _ rfl).alloc _).alloc _).alloc _
  have b1 : Blk wb (w.heap.size + 1) 39 #[.int .i64 X', .int .i64 Y', .int .i64 p', .int .i64 q', .slice B n' c'] := by rw [hwb]; exact ((Blk.new_at _ _ _ (by simp)).alloc _).alloc _
  have b2 : Blk wb (w.heap.size + 2) 76 #[.int .i64 mx, .int .i64 my, .int .i64 ma, .int .i64 mb, .slice M k cm] := by rw [hwb]; exact (Blk.new_at _ _ _ (by simp)).alloc _
  have b3 : Blk wb (w.heap.size + 3) 39 zfrm := by rw [hwb]; exact Blk.new_at _ _ _ (by simp)
  have hbe : Below w.heap.size w wb := by rw [hwb]; exact ((((Below.refl _ _).alloc (Nat.le_refl _) _).alloc (by simp) _).alloc (by simp; omega) _).alloc (by simp; omega) _
  have HB0 := hid b0
  have HB1 := hid b1
  have HB2 := hid b2
  have HB3 := hid b3
  have HBE := hid hbe
  have HWB := hid hwb
  have HC1 := hid h1
  have HC2 := hid h2
  clear b0 b1 b2 b3 hbe hwb h1 h2
  go_enter Try.func57, Try.ntmps57
  go_wp2_with fail
  rw [← HWB.out]
  refine (checkBoth_ok X Y p q X' Y' p' q' n c n' c' A B wb HC1.out HC2.out).mono ?_
  rintro e w1 ⟨rfl, hb⟩
  have HBB := hid hb
  have m2 := HB2.out.below hb HB2.out.lt
  have e0 := m2.cell 0
  have e1 := m2.cell 1
  have e2 := m2.cell 2
  have e3 := m2.cell 3
  have e4 := m2.cell 4
  simp at e0 e1 e2 e3 e4
  have HM2 := hid m2
  clear hb m2
  go_wp2_with fail
  refine (checkMatte_any _ _ _ _ _ _ _ _).mono ?_
  rintro e w2 ⟨rfl, hb⟩
  have HBW := hid (Below.trans HBB.out (hb.mono HBB.out.size))
  have k0 := HB0.out.below HBW.out HB0.out.lt
  have k1 := HB1.out.below HBW.out HB1.out.lt
  have k2 := HB2.out.below HBW.out HB2.out.lt
  have k3 := HB3.out.below HBW.out HB3.out.lt
  have a0 := k0.cell 0
  have a1 := k0.cell 1
  have a2 := k0.cell 2
  have a3 := k0.cell 3
  have a4 := k0.cell 4
  have b0 := k1.cell 0
  have b1 := k1.cell 1
  have b2 := k1.cell 2
  have b3 := k1.cell 3
  have b4 := k1.cell 4
  have d0 := k2.cell 0
  have d1 := k2.cell 1
  have d2 := k2.cell 2
  have d3 := k2.cell 3
  have d4 := k2.cell 4
  simp at a0 a1 a2 a3 a4 b0 b1 b2 b3 b4 d0 d1 d2 d3 d4
  clear e0 e1 e2 e3 e4 HM2
  have z0 := k3.cell 0
  have z1 := k3.cell 1
  have z2 := k3.cell 2
  have z3 := k3.cell 3
  have z4 := k3.cell 4
  have fz := fun i => k3.frozen i
  simp at z0 z1 z2 z3 z4
  have hblk := k3.set5 (.int .i64 0) (.int .i64 0) (.int .i64 0) (.int .i64 0) (.slice none 0 0)
  have HBK := hid hblk
  have HB := hid (below_to HBE.out HBW.out)
  clear hb k0 k1 k2 k3 hblk
  go_wp2_with fail
  refine bodyPost_ret (v := .tuple #[.agg zfrm, .int .i64 5]) (results_row_tmp rfl _ _ _ _ _ _ rfl rfl HBK.out Try.underlying39 rfl (by kernel_rfl)) rfl ?_
  exact ⟨rfl, below_set5 HB.out (by omega) _ _ _ _ _⟩

set_option maxRecDepth 100000 in
set_option maxHeartbeats 2000000 in
theorem thr_apart1 (X Y Y' p' q' mx my ma mb : Int) (p q n c n' c' k cm : Nat) (A B M : Option Addr) (w : World) (h1 : frmE X Y p q n = 0) (h2 : frmE X Y' p' q' n' = 0) (hm : matE mx my ma mb k = 0) (hq : (Y == Y') = false) :
    Calls Try.prog 57 #[frm X Y p q A n c, frm X Y' p' q' B n' c', frm mx my ma mb M k cm] w (ErrOut w 5) := by
  have zm : (matE mx my ma mb k != 0) = false := by simp [hm]
  clear hm
  obtain ⟨wb, hwb⟩ : ∃ wb, wb = (((w.alloc (.cells #[.int .i64 X, .int .i64 Y, .int .i64 p, .int .i64 q, .slice A n c] 39)).alloc (.cells #[.int .i64 X, .int .i64 Y', .int .i64 p', .int .i64 q', .slice B n' c'] 39)).alloc (.cells #[.int .i64 mx, .int .i64 my, .int .i64 ma, .int .i64 mb, .slice M k cm] 76)).alloc (.cells zfrm 39) := ⟨_, rfl⟩
  have b0 : Blk wb w.heap.size 39 #[.int .i64 X, .int .i64 Y, .int .i64 p, .int .i64 q, .slice A n c] := by rw [hwb]; exact (((Blk.new_at _ _ _ rfl).alloc _).alloc _).alloc _
  have b1 : Blk wb (w.heap.size + 1) 39 #[.int .i64 X, .int .i64 Y', .int .i64 p', .int .i64 q', .slice B n' c'] := by rw [hwb]; exact ((Blk.new_at _ _ _ (by simp)).alloc _).alloc _
  have b2 : Blk wb (w.heap.size + 2) 76 #[.int .i64 mx, .int .i64 my, .int .i64 ma, .int .i64 mb, .slice M k cm] := by rw [hwb]; exact (Blk.new_at _ _ _ (by simp)).alloc _
  have b3 : Blk wb (w.heap.size + 3) 39 zfrm := by rw [hwb]; exact Blk.new_at _ _ _ (by simp)
  have hbe : Below w.heap.size w wb := by rw [hwb]; exact ((((Below.refl _ _).alloc (Nat.le_refl _) _).alloc (by simp) _).alloc (by simp; omega) _).alloc (by simp; omega) _
  have HB0 := hid b0
  have HB1 := hid b1
  have HB2 := hid b2
  have HB3 := hid b3
  have HBE := hid hbe
  have HWB := hid hwb
  have HC1 := hid h1
  have HC2 := hid h2
  clear b0 b1 b2 b3 hbe hwb h1 h2
  go_enter Try.func57, Try.ntmps57
  go_wp2_with fail
  rw [← HWB.out]
  refine (checkBoth_ok X Y p q X Y' p' q' n c n' c' A B wb HC1.out HC2.out).mono ?_
  rintro e w1 ⟨rfl, hb⟩
  have HBB := hid hb
  have m2 := HB2.out.below hb HB2.out.lt
  have e0 := m2.cell 0
  have e1 := m2.cell 1
  have e2 := m2.cell 2
  have e3 := m2.cell 3
  have e4 := m2.cell 4
  simp at e0 e1 e2 e3 e4
  have HM2 := hid m2
  clear hb m2
  go_wp2_with fail
  refine (checkMatte_any _ _ _ _ _ _ _ _).mono ?_
  rintro e w2 ⟨rfl, hb⟩
  have HBW := hid (Below.trans HBB.out (hb.mono HBB.out.size))
  have k0 := HB0.out.below HBW.out HB0.out.lt
  have k1 := HB1.out.below HBW.out HB1.out.lt
  have k2 := HB2.out.below HBW.out HB2.out.lt
  have k3 := HB3.out.below HBW.out HB3.out.lt
  have a0 := k0.cell 0
  have a1 := k0.cell 1
  have a2 := k0.cell 2
  have a3 := k0.cell 3
  have a4 := k0.cell 4
  have b0 := k1.cell 0
  have b1 := k1.cell 1
  have b2 := k1.cell 2
  have b3 := k1.cell 3
  have b4 := k1.cell 4
  have d0 := k2.cell 0
  have d1 := k2.cell 1
  have d2 := k2.cell 2
  have d3 := k2.cell 3
  have d4 := k2.cell 4
  simp at a0 a1 a2 a3 a4 b0 b1 b2 b3 b4 d0 d1 d2 d3 d4
  clear e0 e1 e2 e3 e4 HM2
  have z0 := k3.cell 0
  have z1 := k3.cell 1
  have z2 := k3.cell 2
  have z3 := k3.cell 3
  have z4 := k3.cell 4
  have fz := fun i => k3.frozen i
  simp at z0 z1 z2 z3 z4
  have hblk := k3.set5 (.int .i64 0) (.int .i64 0) (.int .i64 0) (.int .i64 0) (.slice none 0 0)
  have HBK := hid hblk
  have HB := hid (below_to HBE.out HBW.out)
  clear hb k0 k1 k2 k3 hblk
  go_wp2_with fail
  refine bodyPost_ret (v := .tuple #[.agg zfrm, .int .i64 5]) (results_row_tmp rfl _ _ _ _ _ _ rfl rfl HBK.out Try.underlying39 rfl (by kernel_rfl)) rfl ?_
  exact ⟨rfl, below_set5 HB.out (by omega) _ _ _ _ _⟩

set_option maxRecDepth 100000 in
set_option maxHeartbeats 2000000 in
theorem thr_apart2 (X Y p' q' mx my ma mb : Int) (p q n c n' c' k cm : Nat) (A B M : Option Addr) (w : World) (h1 : frmE X Y p q n = 0) (h2 : frmE X Y p' q' n' = 0) (hm : matE mx my ma mb k = 0) (hq : ((p : Int) == p') = false) :
    Calls Try.prog 57 #[frm X Y p q A n c, frm X Y p' q' B n' c', frm mx my ma mb M k cm] w (ErrOut w 5) := by
  have zm : (matE mx my ma mb k != 0) = false := by simp [hm]
  clear hm
  obtain ⟨wb, hwb⟩ : ∃ wb, wb = (((w.alloc (.cells #[.int .i64 X, .int .i64 Y, .int .i64 p, .int .i64 q, .slice A n c] 39)).alloc (.cells #[.int .i64 X, .int .i64 Y, .int .i64 p', .int .i64 q', .slice B n' c'] 39)).alloc (.cells #[.int .i64 mx, .int .i64 my, .int .i64 ma, .int .i64 mb, .slice M k cm] 76)).alloc (.cells zfrm 39) := ⟨_, rfl⟩
  have b0 : Blk wb w.heap.size 39 #[.int .i64 X, .int .i64 Y, .int .i64 p, .int .i64 q, .slice A n c] := by rw [hwb]; exact (((Blk.new_at _ _ _ rfl).alloc _).alloc _).alloc _
  have b1 : Blk wb (w.heap.size + 1) 39 #[.int .i64 X, .int .i64 Y, .int .i64 p', .int .i64 q', .slice B n' c'] := by rw [hwb]; exact ((Blk.new_at _ _ _ (by simp)).alloc _).alloc _
  have b2 : Blk wb (w.heap.size + 2) 76 #[.int .i64 mx, .int .i64 my, .int .i64 ma, .int .i64 mb, .slice M k cm] := by rw [hwb]; exact (Blk.new_at _ _ _ (by simp)).alloc _
  have b3 : Blk wb (w.heap.size + 3) 39 zfrm := by rw [hwb]; exact Blk.new_at _ _ _ (by simp)
  have hbe : Below w.heap.size w wb := by rw [hwb]; exact ((((Below.refl _ _).alloc (Nat.le_refl _) _).alloc (by simp) _).alloc (by simp; omega) _).alloc (by simp; omega) _
  have HB0 := hid b0
  have HB1 := hid b1
  have HB2 := hid b2
  have HB3 := hid b3
  have HBE := hid hbe
  have HWB := hid hwb
  have HC1 := hid h1
  have HC2 := hid h2
  clear b0 b1 b2 b3 hbe hwb h1 h2
  go_enter Try.func57, Try.ntmps57
  go_wp2_with fail
  rw [← HWB.out]
  refine (checkBoth_ok X Y p q X Y p' q' n c n' c' A B wb HC1.out HC2.out).mono ?_
  rintro e w1 ⟨rfl, hb⟩
  have HBB := hid hb
  have m2 := HB2.out.below hb HB2.out.lt
  have e0 := m2.cell 0
  have e1 := m2.cell 1
  have e2 := m2.cell 2
  have e3 := m2.cell 3
  have e4 := m2.cell 4
  simp at e0 e1 e2 e3 e4
  have HM2 := hid m2
  clear hb m2
  go_wp2_with fail
  refine (checkMatte_any _ _ _ _ _ _ _ _).mono ?_
  rintro e w2 ⟨rfl, hb⟩
  have HBW := hid (Below.trans HBB.out (hb.mono HBB.out.size))
  have k0 := HB0.out.below HBW.out HB0.out.lt
  have k1 := HB1.out.below HBW.out HB1.out.lt
  have k2 := HB2.out.below HBW.out HB2.out.lt
  have k3 := HB3.out.below HBW.out HB3.out.lt
  have a0 := k0.cell 0
  have a1 := k0.cell 1
  have a2 := k0.cell 2
  have a3 := k0.cell 3
  have a4 := k0.cell 4
  have b0 := k1.cell 0
  have b1 := k1.cell 1
  have b2 := k1.cell 2
  have b3 := k1.cell 3
  have b4 := k1.cell 4
  have d0 := k2.cell 0
  have d1 := k2.cell 1
  have d2 := k2.cell 2
  have d3 := k2.cell 3
  have d4 := k2.cell 4
  simp at a0 a1 a2 a3 a4 b0 b1 b2 b3 b4 d0 d1 d2 d3 d4
  clear e0 e1 e2 e3 e4 HM2
  have z0 := k3.cell 0
  have z1 := k3.cell 1
  have z2 := k3.cell 2
  have z3 := k3.cell 3
  have z4 := k3.cell 4
  have fz := fun i => k3.frozen i
  simp at z0 z1 z2 z3 z4
  have hblk := k3.set5 (.int .i64 0) (.int .i64 0) (.int .i64 0) (.int .i64 0) (.slice none 0 0)
  have HBK := hid hblk
  have HB := hid (below_to HBE.out HBW.out)
  clear hb k0 k1 k2 k3 hblk
  go_wp2_with fail
  refine bodyPost_ret (v := .tuple #[.agg zfrm, .int .i64 5]) (results_row_tmp rfl _ _ _ _ _ _ rfl rfl HBK.out Try.underlying39 rfl (by kernel_rfl)) rfl ?_
  exact ⟨rfl, below_set5 HB.out (by omega) _ _ _ _ _⟩

set_option maxRecDepth 100000 in
set_option maxHeartbeats 2000000 in
theorem thr_apart3 (X Y q' mx my ma mb : Int) (p q n c n' c' k cm : Nat) (A B M : Option Addr) (w : World) (h1 : frmE X Y p q n = 0) (h2 : frmE X Y p q' n' = 0) (hm : matE mx my ma mb k = 0) (hq : ((q : Int) == q') = false) :
    Calls Try.prog 57 #[frm X Y p q A n c, frm X Y p q' B n' c', frm mx my ma mb M k cm] w (ErrOut w 5) := by
  have zm : (matE mx my ma mb k != 0) = false := by simp [hm]
  clear hm
  obtain ⟨wb, hwb⟩ : ∃ wb, wb = (((w.alloc (.cells #[.int .i64 X, .int .i64 Y, .int .i64 p, .int .i64 q, .slice A n c] 39)).alloc (.cells #[.int .i64 X, .int .i64 Y, .int .i64 p, .int .i64 q', .slice B n' c'] 39)).alloc (.cells #[.int .i64 mx, .int .i64 my, .int .i64 ma, .int .i64 mb, .slice M k cm] 76)).alloc (.cells zfrm 39) := ⟨_, rfl⟩
  have b0 : Blk wb w.heap.size 39 #[.int .i64 X, .int .i64 Y, .int .i64 p, .int .i64 q, .slice A n c] := by rw [hwb]; exact (((Blk.new_at _ _ _ rfl).alloc _).alloc _).alloc _
  have b1 : Blk wb (w.heap.size + 1) 39 #[.int .i64 X, .int .i64 Y, .int .i64 p, .int .i64 q', .slice B n' c'] := by rw [hwb]; exact ((Blk.new_at _ _ _ (by simp)).alloc _).alloc _
  have b2 : Blk wb (w.heap.size + 2) 76 #[.int .i64 mx, .int .i64 my, .int .i64 ma, .int .i64 mb, .slice M k cm] := by rw [hwb]; exact (Blk.new_at _ _ _ (by simp)).alloc _
  have b3 : Blk wb (w.heap.size + 3) 39 zfrm := by rw [hwb]; exact Blk.new_at _ _ _ (by simp)
  have hbe : Below w.heap.size w wb := by rw [hwb]; exact ((((Below.refl _ _).alloc (Nat.le_refl _) _).alloc (by simp) _).alloc (by simp; omega) _).alloc (by simp; omega) _
  have HB0 := hid b0
  have HB1 := hid b1
  have HB2 := hid b2
  have HB3 := hid b3
  have HBE := hid hbe
  have HWB := hid hwb
  have HC1 := hid h1
  have HC2 := hid h2
  clear b0 b1 b2 b3 hbe hwb h1 h2
  go_enter Try.func57, Try.ntmps57
  go_wp2_with fail
  rw [← HWB.out]
  refine (checkBoth_ok X Y p q X Y p q' n c n' c' A B wb HC1.out HC2.out).mono ?_
  rintro e w1 ⟨rfl, hb⟩
  have HBB := hid hb
  have m2 := HB2.out.below hb HB2.out.lt
  have e0 := m2.cell 0
  have e1 := m2.cell 1
  have e2 := m2.cell 2
  have e3 := m2.cell 3
  have e4 := m2.cell 4
  simp at e0 e1 e2 e3 e4
  have HM2 := hid m2
  clear hb m2
  go_wp2_with fail
  refine (checkMatte_any _ _ _ _ _ _ _ _).mono ?_
  rintro e w2 ⟨rfl, hb⟩
  have HBW := hid (Below.trans HBB.out (hb.mono HBB.out.size))
  have k0 := HB0.out.below HBW.out HB0.out.lt
  have k1 := HB1.out.below HBW.out HB1.out.lt
  have k2 := HB2.out.below HBW.out HB2.out.lt
  have k3 := HB3.out.below HBW.out HB3.out.lt
  have a0 := k0.cell 0
  have a1 := k0.cell 1
  have a2 := k0.cell 2
  have a3 := k0.cell 3
  have a4 := k0.cell 4
  have b0 := k1.cell 0
  have b1 := k1.cell 1
  have b2 := k1.cell 2
  have b3 := k1.cell 3
  have b4 := k1.cell 4
  have d0 := k2.cell 0
  have d1 := k2.cell 1
  have d2 := k2.cell 2
  have d3 := k2.cell 3
  have d4 := k2.cell 4
  simp at a0 a1 a2 a3 a4 b0 b1 b2 b3 b4 d0 d1 d2 d3 d4
  clear e0 e1 e2 e3 e4 HM2
  have z0 := k3.cell 0
  have z1 := k3.cell 1
  have z2 := k3.cell 2
  have z3 := k3.cell 3
  have z4 := k3.cell 4
  have fz := fun i => k3.frozen i
  simp at z0 z1 z2 z3 z4
  have hblk := k3.set5 (.int .i64 0) (.int .i64 0) (.int .i64 0) (.int .i64 0) (.slice none 0 0)
  have HBK := hid hblk
  have HB := hid (below_to HBE.out HBW.out)
  clear hb k0 k1 k2 k3 hblk
  go_wp2_with fail
  refine bodyPost_ret (v := .tuple #[.agg zfrm, .int .i64 5]) (results_row_tmp rfl _ _ _ _ _ _ rfl rfl HBK.out Try.underlying39 rfl (by kernel_rfl)) rfl ?_
  exact ⟨rfl, below_set5 HB.out (by omega) _ _ _ _ _⟩

set_option maxRecDepth 100000 in
set_option maxHeartbeats 2000000 in
theorem thr_apartm0 (X Y mx my ma mb : Int) (p q n c c' k cm : Nat) (A B M : Option Addr) (w : World) (h1 : frmE X Y p q n = 0) (hm : matE mx my ma mb k = 0) (hq : (X == mx) = false) :
    Calls Try.prog 57 #[frm X Y p q A n c, frm X Y p q B n c', frm mx my ma mb M k cm] w (ErrOut w 5) := by
  have zm : (matE mx my ma mb k != 0) = false := by simp [hm]
  clear hm
  obtain ⟨wb, hwb⟩ : ∃ wb, wb = (((w.alloc (.cells #[.int .i64 X, .int .i64 Y, .int .i64 p, .int .i64 q, .slice A n c] 39)).alloc (.cells #[.int .i64 X, .int .i64 Y, .int .i64 p, .int .i64 q, .slice B n c'] 39)).alloc (.cells #[.int .i64 mx, .int .i64 my, .int .i64 ma, .int .i64 mb, .slice M k cm] 76)).alloc (.cells zfrm 39) := ⟨_, rfl⟩
  have b0 : Blk wb w.heap.size 39 #[.int .i64 X, .int .i64 Y, .int .i64 p, .int .i64 q, .slice A n c] := by rw [hwb]; exact (((Blk.new_at _ _ _ rfl).alloc _).alloc _).alloc _
  have b1 : Blk wb (w.heap.size + 1) 39 #[.int .i64 X, .int .i64 Y, .int .i64 p, .int .i64 q, .slice B n c'] := by rw [hwb]; exact ((Blk.new_at _ _ _ (by simp)).alloc _).alloc _
  have b2 : Blk wb (w.heap.size + 2) 76 #[.int .i64 mx, .int .i64 my, .int .i64 ma, .int .i64 mb, .slice M k cm] := by rw [hwb]; exact (Blk.new_at _ _ _ (by simp)).alloc _
  have b3 : Blk wb (w.heap.size + 3) 39 zfrm := by rw [hwb]; exact Blk.new_at _ _ _ (by simp)
  have hbe : Below w.heap.size w wb := by rw [hwb]; exact ((((Below.refl _ _).alloc (Nat.le_refl _) _).alloc (by simp) _).alloc (by simp; omega) _).alloc (by simp; omega) _
  have HB0 := hid b0
  have HB1 := hid b1
  have HB2 := hid b2
  have HB3 := hid b3
  have HBE := hid hbe
  have HWB := hid hwb
  have HC1 := hid h1
  have HC2 := hid h1
  clear b0 b1 b2 b3 hbe hwb h1
  go_enter Try.func57, Try.ntmps57
  go_wp2_with fail
  rw [← HWB.out]
  refine (checkBoth_ok X Y p q X Y p q n c n c' A B wb HC1.out HC2.out).mono ?_
  rintro e w1 ⟨rfl, hb⟩
  have HBB := hid hb
  have m2 := HB2.out.below hb HB2.out.lt
  have e0 := m2.cell 0
  have e1 := m2.cell 1
  have e2 := m2.cell 2
  have e3 := m2.cell 3
  have e4 := m2.cell 4
  simp at e0 e1 e2 e3 e4
  have HM2 := hid m2
  clear hb m2
  go_wp2_with fail
  refine (checkMatte_any _ _ _ _ _ _ _ _).mono ?_
  rintro e w2 ⟨rfl, hb⟩
  have HBW := hid (Below.trans HBB.out (hb.mono HBB.out.size))
  have k0 := HB0.out.below HBW.out HB0.out.lt
  have k1 := HB1.out.below HBW.out HB1.out.lt
  have k2 := HB2.out.below HBW.out HB2.out.lt
  have k3 := HB3.out.below HBW.out HB3.out.lt
  have a0 := k0.cell 0
  have a1 := k0.cell 1
  have a2 := k0.cell 2
  have a3 := k0.cell 3
  have a4 := k0.cell 4
  have b0 := k1.cell 0
  have b1 := k1.cell 1
  have b2 := k1.cell 2
  have b3 := k1.cell 3
  have b4 := k1.cell 4
  have d0 := k2.cell 0
  have d1 := k2.cell 1
  have d2 := k2.cell 2
  have d3 := k2.cell 3
  have d4 := k2.cell 4
  simp at a0 a1 a2 a3 a4 b0 b1 b2 b3 b4 d0 d1 d2 d3 d4
  clear e0 e1 e2 e3 e4 HM2
  have z0 := k3.cell 0
  have z1 := k3.cell 1
  have z2 := k3.cell 2
  have z3 := k3.cell 3
  have z4 := k3.cell 4
  have fz := fun i => k3.frozen i
  simp at z0 z1 z2 z3 z4
  have hblk := k3.set5 (.int .i64 0) (.int .i64 0) (.int .i64 0) (.int .i64 0) (.slice none 0 0)
  have HBK := hid hblk
  have HB := hid (below_to HBE.out HBW.out)
  clear hb k0 k1 k2 k3 hblk
  go_wp2_with fail
  refine bodyPost_ret (v := .tuple #[.agg zfrm, .int .i64 5]) (results_row_tmp rfl _ _ _ _ _ _ rfl rfl HBK.out Try.underlying39 rfl (by kernel_rfl)) rfl ?_
  exact ⟨rfl, below_set5 HB.out (by omega) _ _ _ _ _⟩

set_option maxRecDepth 100000 in
set_option maxHeartbeats 2000000 in
theorem thr_apartm1 (X Y my ma mb : Int) (p q n c c' k cm : Nat) (A B M : Option Addr) (w : World) (h1 : frmE X Y p q n = 0) (hm : matE X my ma mb k = 0) (hq : (Y == my) = false) :
    Calls Try.prog 57 #[frm X Y p q A n c, frm X Y p q B n c', frm X my ma mb M k cm] w (ErrOut w 5) := by
  have zm : (matE X my ma mb k != 0) = false := by simp [hm]
  clear hm
  obtain ⟨wb, hwb⟩ : ∃ wb, wb = (((w.alloc (.cells #[.int .i64 X, .int .i64 Y, .int .i64 p, .int .i64 q, .slice A n c] 39)).alloc (.cells #[.int .i64 X, .int .i64 Y, .int .i64 p, .int .i64 q, .slice B n c'] 39)).alloc (.cells #[.int .i64 X, .int .i64 my, .int .i64 ma, .int .i64 mb, .slice M k cm] 76)).alloc (.cells zfrm 39) := ⟨_, rfl⟩
  have b0 : Blk wb w.heap.size 39 #[.int .i64 X, .int .i64 Y, .int .i64 p, .int .i64 q, .slice A n c] := by rw [hwb]; exact (((Blk.new_at _ _ _ rfl).alloc _).alloc _).alloc _
  have b1 : Blk wb (w.heap.size + 1) 39 #[.int .i64 X, .int .i64 Y, .int .i64 p, .int .i64 q, .slice B n c'] := by rw [hwb]; exact ((Blk.new_at _ _ _ (by simp)).alloc _).alloc _
  have b2 : Blk wb (w.heap.size + 2) 76 #[.int .i64 X, .int .i64 my, .int .i64 ma, .int .i64 mb, .slice M k cm] := by rw [hwb]; exact (Blk.new_at _ _ _ (by simp)).alloc _
  have b3 : Blk wb (w.heap.size + 3) 39 zfrm := by rw [hwb]; exact Blk.new_at _ _ _ (by simp)
  have hbe : Below w.heap.size w wb := by rw [hwb]; exact ((((Below.refl _ _).alloc (Nat.le_refl _) _).alloc (by simp) _).alloc (by simp; omega) _).alloc (by simp; omega) _
  have HB0 := hid b0
  have HB1 := hid b1
  have HB2 := hid b2
  have HB3 := hid b3
  have HBE := hid hbe
  have HWB := hid hwb
  have HC1 := hid h1
  have HC2 := hid h1
  clear b0 b1 b2 b3 hbe hwb h1
  go_enter Try.func57, Try.ntmps57
  go_wp2_with fail
  rw [← HWB.out]
  refine (checkBoth_ok X Y p q X Y p q n c n c' A B wb HC1.out HC2.out).mono ?_
  rintro e w1 ⟨rfl, hb⟩
  have HBB := hid hb
  have m2 := HB2.out.below hb HB2.out.lt
  have e0 := m2.cell 0
  have e1 := m2.cell 1
  have e2 := m2.cell 2
  have e3 := m2.cell 3
  have e4 := m2.cell 4
  simp at e0 e1 e2 e3 e4
  have HM2 := hid m2
  clear hb m2
  go_wp2_with fail
  refine (checkMatte_any _ _ _ _ _ _ _ _).mono ?_
  rintro e w2 ⟨rfl, hb⟩
  have HBW := hid (Below.trans HBB.out (hb.mono HBB.out.size))
  have k0 := HB0.out.below HBW.out HB0.out.lt
  have k1 := HB1.out.below HBW.out HB1.out.lt
  have k2 := HB2.out.below HBW.out HB2.out.lt
  have k3 := HB3.out.below HBW.out HB3.out.lt
  have a0 := k0.cell 0
  have a1 := k0.cell 1
  have a2 := k0.cell 2
  have a3 := k0.cell 3
  have a4 := k0.cell 4
  have b0 := k1.cell 0
  have b1 := k1.cell 1
  have b2 := k1.cell 2
  have b3 := k1.cell 3
  have b4 := k1.cell 4
  have d0 := k2.cell 0
  have d1 := k2.cell 1
  have d2 := k2.cell 2
  have d3 := k2.cell 3
  have d4 := k2.cell 4
  simp at a0 a1 a2 a3 a4 b0 b1 b2 b3 b4 d0 d1 d2 d3 d4
  clear e0 e1 e2 e3 e4 HM2
  have z0 := k3.cell 0
  have z1 := k3.cell 1
  have z2 := k3.cell 2
  have z3 := k3.cell 3
  have z4 := k3.cell 4
  have fz := fun i => k3.frozen i
  simp at z0 z1 z2 z3 z4
  have hblk := k3.set5 (.int .i64 0) (.int .i64 0) (.int .i64 0) (.int .i64 0) (.slice none 0 0)
  have HBK := hid hblk
  have HB := hid (below_to HBE.out HBW.out)
  clear hb k0 k1 k2 k3 hblk
  go_wp2_with fail
  refine bodyPost_ret (v := .tuple #[.agg zfrm, .int .i64 5]) (results_row_tmp rfl _ _ _ _ _ _ rfl rfl HBK.out Try.underlying39 rfl (by kernel_rfl)) rfl ?_
  exact ⟨rfl, below_set5 HB.out (by omega) _ _ _ _ _⟩

set_option maxRecDepth 100000 in
set_option maxHeartbeats 2000000 in
theorem thr_apartm2 (X Y ma mb : Int) (p q n c c' k cm : Nat) (A B M : Option Addr) (w : World) (h1 : frmE X Y p q n = 0) (hm : matE X Y ma mb k = 0) (hq : ((p : Int) == ma) = false) :
    Calls Try.prog 57 #[frm X Y p q A n c, frm X Y p q B n c', frm X Y ma mb M k cm] w (ErrOut w 5) := by
  have zm : (matE X Y ma mb k != 0) = false := by simp [hm]
  clear hm
  obtain ⟨wb, hwb⟩ : ∃ wb, wb = (((w.alloc (.cells #[.int .i64 X, .int .i64 Y, .int .i64 p, .int .i64 q, .slice A n c] 39)).alloc (.cells #[.int .i64 X, .int .i64 Y, .int .i64 p, .int .i64 q, .slice B n c'] 39)).alloc (.cells #[.int .i64 X, .int .i64 Y, .int .i64 ma, .int .i64 mb, .slice M k cm] 76)).alloc (.cells zfrm 39) := ⟨_, rfl⟩
  have b0 : Blk wb w.heap.size 39 #[.int .i64 X, .int .i64 Y, .int .i64 p, .int .i64 q, .slice A n c] := by rw [hwb]; exact (((Blk.new_at _ _ _ rfl).alloc _).alloc _).alloc _
  have b1 : Blk wb (w.heap.size + 1) 39 #[.int .i64 X, .int .i64 Y, .int .i64 p, .int .i64 q, .slice B n c'] := by rw [hwb]; exact ((Blk.new_at _ _ _ (by simp)).alloc _).alloc _
  have b2 : Blk wb (w.heap.size + 2) 76 #[.int .i64 X, .int .i64 Y, .int .i64 ma, .int .i64 mb, .slice M k cm] := by rw [hwb]; exact (Blk.new_at _ _ _ (by simp)).alloc _
  have b3 : Blk wb (w.heap.size + 3) 39 zfrm := by rw [hwb]; exact Blk.new_at _ _ _ (by simp)
  have hbe : Below w.heap.size w wb := by rw [hwb]; exact ((((Below.refl _ _).alloc (Nat.le_refl _) _).alloc (by simp) _).alloc (by simp; omega) _).alloc (by simp; omega) _
  have HB0 := hid b0
  have HB1 := hid b1
  have HB2 := hid b2
  have HB3 := hid b3
  have HBE := hid hbe
  have HWB := hid hwb
  have HC1 := hid h1
  have HC2 := hid h1
  clear b0 b1 b2 b3 hbe hwb h1
  go_enter Try.func57, Try.ntmps57
  go_wp2_with fail
  rw [← HWB.out]
  refine (checkBoth_ok X Y p q X Y p q n c n c' A B wb HC1.out HC2.out).mono ?_
  rintro e w1 ⟨rfl, hb⟩
  have HBB := hid hb
  have m2 := HB2.out.below hb HB2.out.lt
  have e0 := m2.cell 0
  have e1 := m2.cell 1
  have e2 := m2.cell 2
  have e3 := m2.cell 3
  have e4 := m2.cell 4
  simp at e0 e1 e2 e3 e4
  have HM2 := hid m2
  clear hb m2
  go_wp2_with fail
  refine (checkMatte_any _ _ _ _ _ _ _ _).mono ?_
  rintro e w2 ⟨rfl, hb⟩
  have HBW := hid (Below.trans HBB.out (hb.mono HBB.out.size))
  have k0 := HB0.out.below HBW.out HB0.out.lt
  have k1 := HB1.out.below HBW.out HB1.out.lt
  have k2 := HB2.out.below HBW.out HB2.out.lt
  have k3 := HB3.out.below HBW.out HB3.out.lt
  have a0 := k0.cell 0
  have a1 := k0.cell 1
  have a2 := k0.cell 2
  have a3 := k0.cell 3
  have a4 := k0.cell 4
  have b0 := k1.cell 0
  have b1 := k1.cell 1
  have b2 := k1.cell 2
  have b3 := k1.cell 3
  have b4 := k1.cell 4
  have d0 := k2.cell 0
  have d1 := k2.cell 1
  have d2 := k2.cell 2
  have d3 := k2.cell 3
  have d4 := k2.cell 4
  simp at a0 a1 a2 a3 a4 b0 b1 b2 b3 b4 d0 d1 d2 d3 d4
  clear e0 e1 e2 e3 e4 HM2
  have z0 := k3.cell 0
  have z1 := k3.cell 1
  have z2 := k3.cell 2
  have z3 := k3.cell 3
  have z4 := k3.cell 4
  have fz := fun i => k3.frozen i
  simp at z0 z1 z2 z3 z4
  have hblk := k3.set5 (.int .i64 0) (.int .i64 0) (.int .i64 0) (.int .i64 0) (.slice none 0 0)
  have HBK := hid hblk
  have HB := hid (below_to HBE.out HBW.out)
  clear hb k0 k1 k2 k3 hblk
  go_wp2_with fail
  refine bodyPost_ret (v := .tuple #[.agg zfrm, .int .i64 5]) (results_row_tmp rfl _ _ _ _ _ _ rfl rfl HBK.out Try.underlying39 rfl (by kernel_rfl)) rfl ?_
  exact ⟨rfl, below_set5 HB.out (by omega) _ _ _ _ _⟩

set_option maxRecDepth 100000 in
set_option maxHeartbeats 2000000 in
theorem thr_apartm3 (X Y mb : Int) (p q n c c' k cm : Nat) (A B M : Option Addr) (w : World) (h1 : frmE X Y p q n = 0) (hm : matE X Y p mb k = 0) (hq : ((q : Int) == mb) = false) :
    Calls Try.prog 57 #[frm X Y p q A n c, frm X Y p q B n c', frm X Y p mb M k cm] w (ErrOut w 5) := by
  have zm : (matE X Y p mb k != 0) = false := by simp [hm]
  clear hm
  obtain ⟨wb, hwb⟩ : ∃ wb, wb = (((w.alloc (.cells #[.int .i64 X, .int .i64 Y, .int .i64 p, .int .i64 q, .slice A n c] 39)).alloc (.cells #[.int .i64 X, .int .i64 Y, .int .i64 p, .int .i64 q, .slice B n c'] 39)).alloc (.cells #[.int .i64 X, .int .i64 Y, .int .i64 p, .int .i64 mb, .slice M k cm] 76)).alloc (.cells zfrm 39) := ⟨_, rfl⟩
  have b0 : Blk wb w.heap.size 39 #[.int .i64 X, .int .i64 Y, .int .i64 p, .int .i64 q, .slice A n c] := by rw [hwb]; exact (((Blk.new_at _ _ _ rfl).alloc _).alloc _).alloc _
  have b1 : Blk wb (w.heap.size + 1) 39 #[.int .i64 X, .int .i64 Y, .int .i64 p, .int .i64 q, .slice B n c'] := by rw [hwb]; exact ((Blk.new_at _ _ _ (by simp)).alloc _).alloc _
  have b2 : Blk wb (w.heap.size + 2) 76 #[.int .i64 X, .int .i64 Y, .int .i64 p, .int .i64 mb, .slice M k cm] := by rw [hwb]; exact (Blk.new_at _ _ _ (by simp)).alloc _
  have b3 : Blk wb (w.heap.size + 3) 39 zfrm := by rw [hwb]; exact Blk.new_at _ _ _ (by simp)
  have hbe : Below w.heap.size w wb := by rw [hwb]; exact ((((Below.refl _ _).alloc (Nat.le_refl _) _).alloc (by simp) _).alloc (by simp; omega) _).alloc (by simp; omega) _
  have HB0 := hid b0
  have HB1 := hid b1
  have HB2 := hid b2
  have HB3 := hid b3
  have HBE := hid hbe
  have HWB := hid hwb
  have HC1 := hid h1
  have HC2 := hid h1
  clear b0 b1 b2 b3 hbe hwb h1
  go_enter Try.func57, Try.ntmps57
  go_wp2_with fail
  rw [← HWB.out]
  refine (checkBoth_ok X Y p q X Y p q n c n c' A B wb HC1.out HC2.out).mono ?_
  rintro e w1 ⟨rfl, hb⟩
  have HBB := hid hb
  have m2 := HB2.out.below hb HB2.out.lt
  have e0 := m2.cell 0
  have e1 := m2.cell 1
  have e2 := m2.cell 2
  have e3 := m2.cell 3
  have e4 := m2.cell 4
  simp at e0 e1 e2 e3 e4
  have HM2 := hid m2
  clear hb m2
  go_wp2_with fail
  refine (checkMatte_any _ _ _ _ _ _ _ _).mono ?_
  rintro e w2 ⟨rfl, hb⟩
  have HBW := hid (Below.trans HBB.out (hb.mono HBB.out.size))
  have k0 := HB0.out.below HBW.out HB0.out.lt
  have k1 := HB1.out.below HBW.out HB1.out.lt
  have k2 := HB2.out.below HBW.out HB2.out.lt
  have k3 := HB3.out.below HBW.out HB3.out.lt
  have a0 := k0.cell 0
  have a1 := k0.cell 1
  have a2 := k0.cell 2
  have a3 := k0.cell 3
  have a4 := k0.cell 4
  have b0 := k1.cell 0
  have b1 := k1.cell 1
  have b2 := k1.cell 2
  have b3 := k1.cell 3
  have b4 := k1.cell 4
  have d0 := k2.cell 0
  have d1 := k2.cell 1
  have d2 := k2.cell 2
  have d3 := k2.cell 3
  have d4 := k2.cell 4
  simp at a0 a1 a2 a3 a4 b0 b1 b2 b3 b4 d0 d1 d2 d3 d4
  clear e0 e1 e2 e3 e4 HM2
  have z0 := k3.cell 0
  have z1 := k3.cell 1
  have z2 := k3.cell 2
  have z3 := k3.cell 3
  have z4 := k3.cell 4
  have fz := fun i => k3.frozen i
  simp at z0 z1 z2 z3 z4
  have hblk := k3.set5 (.int .i64 0) (.int .i64 0) (.int .i64 0) (.int .i64 0) (.slice none 0 0)
  have HBK := hid hblk
  have HB := hid (below_to HBE.out HBW.out)
  clear hb k0 k1 k2 k3 hblk
  go_wp2_with fail
  refine bodyPost_ret (v := .tuple #[.agg zfrm, .int .i64 5]) (results_row_tmp rfl _ _ _ _ _ _ rfl rfl HBK.out Try.underlying39 rfl (by kernel_rfl)) rfl ?_
  exact ⟨rfl, below_set5 HB.out (by omega) _ _ _ _ _⟩

theorem thr_apart (X Y X' Y' p' q' mx my ma mb : Int) (p q n c n' c' k cm : Nat) (A B M : Option Addr) (w : World) (h1 : frmE X Y p q n = 0) (h2 : frmE X' Y' p' q' n' = 0) (hm : matE mx my ma mb k = 0) (hne : apartB X Y p q X' Y' p' q') :
    Calls Try.prog 57 #[frm X Y p q A n c, frm X' Y' p' q' B n' c', frm mx my ma mb M k cm] w (ErrOut w 5) := by
  rcases neq_reg hne with hq | ⟨e1, hq⟩ | ⟨e1, e2, hq⟩ | ⟨e1, e2, e3, hq⟩
  · exact thr_apart0 X Y X' Y' p' q' mx my ma mb p q n c n' c' k cm A B M w h1 h2 hm hq
  · rw [e1] at h2 ⊢; exact thr_apart1 X Y Y' p' q' mx my ma mb p q n c n' c' k cm A B M w h1 h2 hm hq
  · rw [e1, e2] at h2 ⊢; exact thr_apart2 X Y p' q' mx my ma mb p q n c n' c' k cm A B M w h1 h2 hm hq
  · rw [e1, e2, e3] at h2 ⊢; exact thr_apart3 X Y q' mx my ma mb p q n c n' c' k cm A B M w h1 h2 hm hq

theorem thr_apartm (X Y mx my ma mb : Int) (p q n c c' k cm : Nat) (A B M : Option Addr) (w : World) (h1 : frmE X Y p q n = 0) (hm : matE mx my ma mb k = 0) (hne : apartB X Y p q mx my ma mb) :
    Calls Try.prog 57 #[frm X Y p q A n c, frm X Y p q B n c', frm mx my ma mb M k cm] w (ErrOut w 5) := by
  rcases neq_reg hne with hq | ⟨e1, hq⟩ | ⟨e1, e2, hq⟩ | ⟨e1, e2, e3, hq⟩
  · exact thr_apartm0 X Y mx my ma mb p q n c c' k cm A B M w h1 hm hq
  · rw [e1] at hm ⊢; exact thr_apartm1 X Y my ma mb p q n c c' k cm A B M w h1 hm hq
  · rw [e1, e2] at hm ⊢; exact thr_apartm2 X Y ma mb p q n c c' k cm A B M w h1 hm hq
  · rw [e1, e2, e3] at hm ⊢; exact thr_apartm3 X Y mb p q n c c' k cm A B M w h1 hm hq

set_option maxRecDepth 100000 in
set_option maxHeartbeats 2000000 in
theorem thr_same (X Y : Int) (p q n c c' k cm : Nat) (A B M : Option Addr) (F G H : Nat → Nat) (w : World) (h1 : frmE X Y p q n = 0) (hm : matE X Y p q k = 0) (hn : n ≤ 65536) (hF : Src w A n F) (hG : Src w B n G) (hH : Src w M k H) :
    Calls Try.prog 57 #[frm X Y p q A n c, frm X Y p q B n c', frm X Y p q M k cm] w (FramedOk w X Y p q n fun i => cl (lerpC (F i) (G i) (H (i / 4)))) := by
  obtain ⟨wb, hwb⟩ : ∃ wb, wb = (((w.alloc (.cells #[.int .i64 X, .int .i64 Y, .int .i64 p, .int .i64 q, .slice A n c] 39)).alloc (.cells #[.int .i64 X, .int .i64 Y, .int .i64 p, .int .i64 q, .slice B n c'] 39)).alloc (.cells #[.int .i64 X, .int .i64 Y, .int .i64 p, .int .i64 q, .slice M k cm] 76)).alloc (.cells zfrm 39) := ⟨_, rfl⟩
  have b0 : Blk wb w.heap.size 39 #[.int .i64 X, .int .i64 Y, .int .i64 p, .int .i64 q, .slice A n c] := by rw [hwb]; exact (((Blk.new_at _ _ _ rfl).alloc _).alloc _).alloc _
  have b1 : Blk wb (w.heap.size + 1) 39 #[.int .i64 X, .int .i64 Y, .int .i64 p, .int .i64 q, .slice B n c'] := by rw [hwb]; exact ((Blk.new_at _ _ _ (by simp)).alloc _).alloc _
  have b2 : Blk wb (w.heap.size + 2) 76 #[.int .i64 X, .int .i64 Y, .int .i64 p, .int .i64 q, .slice M k cm] := by rw [hwb]; exact (Blk.new_at _ _ _ (by simp)).alloc _
  have b3 : Blk wb (w.heap.size + 3) 39 zfrm := by rw [hwb]; exact Blk.new_at _ _ _ (by simp)
  have hbe : Below w.heap.size w wb := by rw [hwb]; exact ((((Below.refl _ _).alloc (Nat.le_refl _) _).alloc (by simp) _).alloc (by simp; omega) _).alloc (by simp; omega) _
  have HB0 := hid b0
  have HB1 := hid b1
  have HB2 := hid b2
  have HB3 := hid b3
  have HBE := hid hbe
  have HWB := hid hwb
  have HC1 := hid h1
  have HC2 := hid h1
  have zm : (matE X Y p q k != 0) = false := by simp [hm]
  have hk : n / 4 ≤ k ∧ n ≤ 4 * k := by
    obtain ⟨_, e1⟩ := frmE_zero h1
    obtain ⟨_, e2⟩ := matE_zero hm
    rw [Int.mul_assoc, ← e2] at e1
    omega
  have HE : RowKit.Hid (∀ w1, Below wb.heap.size wb w1 → Calls Try.prog 106 #[frm X Y p q A n c, .func (.func 121) #[] #[.pointer (some ⟨w.heap.size + 1, 0, none⟩), .pointer (some ⟨w.heap.size + 2, 0, none⟩)]] w1 (Framed w1 X Y p q n fun i => cl (lerpC (F i) (G i) (H (i / 4))))) := hid fun w1 hw1 =>
    each_any 121 #[.pointer (some ⟨w.heap.size + 1, 0, none⟩), .pointer (some ⟨w.heap.size + 2, 0, none⟩)] enters_through X Y p q n c A F _ w1 hn ((hF.below hbe).below hw1) fun i w2 hi hw2 =>
      throughc_any X Y p q X Y p q n c' k cm i (F i) (w.heap.size + 1) (w.heap.size + 2) B M G H w2 hi hn (by omega) (((hG.below hbe).below hw1).below hw2) (((hH.below hbe).below hw1).below hw2) ((b1.below hw1 b1.lt).below hw2 (b1.below hw1 b1.lt).lt) ((b2.below hw1 b2.lt).below hw2 (b2.below hw1 b2.lt).lt)
  clear b0 b1 b2 b3 hbe hwb h1 hF hG hH hm hk
  have hmf : ∀ (fn : Fn) (first cap : Array Value) (w : World), (Instr.makeFunc fn first cap).run Try.prog w = .ok (.func fn first cap) w := fun _ _ _ _ => rfl
  go_enter Try.func57, Try.ntmps57
  go_wp2_with fail
  rw [← HWB.out]
  refine (checkBoth_ok X Y p q X Y p q n c n c' A B wb HC1.out HC2.out).mono ?_
  rintro e w1 ⟨rfl, hb⟩
  have HBB := hid hb
  have m2 := HB2.out.below hb HB2.out.lt
  have e0 := m2.cell 0
  have e1 := m2.cell 1
  have e2 := m2.cell 2
  have e3 := m2.cell 3
  have e4 := m2.cell 4
  simp at e0 e1 e2 e3 e4
  have HM2 := hid m2
  clear hb m2
  go_wp2_with fail
  refine (checkMatte_any _ _ _ _ _ _ _ _).mono ?_
  rintro e w2 ⟨rfl, hb⟩
  have HBW := hid (Below.trans HBB.out (hb.mono HBB.out.size))
  have k0 := HB0.out.below HBW.out HB0.out.lt
  have k1 := HB1.out.below HBW.out HB1.out.lt
  have k2 := HB2.out.below HBW.out HB2.out.lt
  have k3 := HB3.out.below HBW.out HB3.out.lt
  have a0 := k0.cell 0
  have a1 := k0.cell 1
  have a2 := k0.cell 2
  have a3 := k0.cell 3
  have a4 := k0.cell 4
  have b0 := k1.cell 0
  have b1 := k1.cell 1
  have b2 := k1.cell 2
  have b3 := k1.cell 3
  have b4 := k1.cell 4
  have d0 := k2.cell 0
  have d1 := k2.cell 1
  have d2 := k2.cell 2
  have d3 := k2.cell 3
  have d4 := k2.cell 4
  simp at a0 a1 a2 a3 a4 b0 b1 b2 b3 b4 d0 d1 d2 d3 d4
  clear e0 e1 e2 e3 e4 HM2
  have HK3 := hid k3
  clear hb k0 k1 k2 k3
  go_wp2_with fail
  refine (HE.out _ HBW.out).mono ?_
  rintro e w4 ⟨g, d, rfl, q1, q2, q3, q4, q5, q6⟩
  have k3 := HK3.out.below q6 HK3.out.lt
  have z0 := k3.cell 0
  have z1 := k3.cell 1
  have z2 := k3.cell 2
  have z3 := k3.cell 3
  have z4 := k3.cell 4
  have fz := fun i => k3.frozen i
  simp at z0 z1 z2 z3 z4
  have hblk := k3.set5 (.int .i64 X) (.int .i64 Y) (.int .i64 p) (.int .i64 q) (.slice (some ⟨g, 0, none⟩) n d)
  have HBK := hid hblk
  have HQ := hid (And.intro q5 (below_to (below_to HBE.out HBW.out) q6))
  have l3 := HK3.out.lt
  clear hblk k3 q5 q6 a0 a1 a2 a3 a4 b0 b1 b2 b3 b4 d0 d1 d2 d3 d4
  go_wp2_with fail
  refine bodyPost_ret (v := .tuple #[frm X Y p q (some ⟨g, 0, none⟩) n d, .int .i64 0]) (results_row_tmp rfl _ _ _ _ _ _ rfl rfl HBK.out Try.underlying39 rfl (by kernel_rfl)) rfl ?_
  exact ⟨g, d, rfl, q1, q2, by omega, by rw [size_set5]; exact q4, HQ.out.1.far5 (by omega) _ _ _ _ _, below_set5 HQ.out.2 (by omega) _ _ _ _ _⟩
end Go.Proofs.Ytoahfnfmhgeooaa
