/-
  Mix and Through of the program.
-/
import Derived.Test.YtjlghjblpbckfaaFMixC
import Derived.Test.YtjlghjblpbckfaaFCheck
import Derived.Test.YtjlghjblpbckfaaFPlLaw
namespace Go.Proofs.Ytjlghjblpbckfaa
open Go.RowKit Go.Shelf

theorem enters_mix (args : Array Value) (w : World) : (callFunc 90 args).run Try.prog w = .ok (.enter 90 args) w := enters_of Try.func90 (by kernel_rfl) rfl args w
theorem enters_through (args : Array Value) (w : World) : (callFunc 96 args).run Try.prog w = .ok (.enter 96 args) w := enters_of Try.func96 (by kernel_rfl) rfl args w

set_option maxRecDepth 100000 in
set_option maxHeartbeats 1000000 in
theorem checkBoth_ok (X Y p q X' Y' p' q' : Int) (n c n' c' : Nat) (A B : Option Addr) (w : World) (h1 : frmE X Y p q n = 0) (h2 : frmE X' Y' p' q' n' = 0) :
    Calls Try.prog 77 #[frm X Y p q A n c, frm X' Y' p' q' B n' c'] w fun e w' => e = .returned (.int .i64 0) ∧ Below w.heap.size w w' := by
  have z1 : (frmE X Y p q n != 0) = false := by simp [h1]
  clear h1
  go_enter Try.func77, Try.ntmps77
  go_wp2_with fail
  refine (check_any _ _ _ _ _ _ _ _).mono ?_
  rintro e w1 ⟨rfl, hb⟩
  have hp : Blk w1 (w.heap.size + 1) 39 #[.int .i64 X', .int .i64 Y', .int .i64 p', .int .i64 q', .slice B n' c'] := (Blk.new_at _ _ _ (by simp)).below hb (by simp)
  have HBE : RowKit.Hid (Below w.heap.size w w1) := (((Below.refl _ _).alloc (Nat.le_refl _) _).alloc (by simp) _).trans (hb.mono (by simp; omega))
  have c0 := hp.cell 0
  have c1 := hp.cell 1
  have c2 := hp.cell 2
  have c3 := hp.cell 3
  have c4 := hp.cell 4
  simp at c0 c1 c2 c3 c4
  clear hp hb
  go_wp2_with fail
  refine (check_any _ _ _ _ _ _ _ _).mono ?_
  rintro e w2 ⟨rfl, hb⟩
  have HB2 := hid (below_to HBE.out hb)
  clear hb
  go_wp2_with fail
  go_ret
  exact ⟨rfl, HB2.out⟩

/-- Two regions that are not the same. -/
def apartB (X Y p q X' Y' p' q' : Int) : Prop := ¬ (X = X' ∧ Y = Y' ∧ p = p' ∧ q = q')
/-- A frame of nothing and an error. -/
def ErrOut (w : World) (E : Int) (e : Ending) (w' : World) : Prop := e = .returned (.tuple #[.agg zfrm, .int .i64 E]) ∧ Below w.heap.size w w'
theorem neq_reg {X Y p q X' Y' p' q' : Int} (h : apartB X Y p q X' Y' p' q') : (X == X') = false ∨ (X' = X ∧ (Y == Y') = false) ∨ (X' = X ∧ Y' = Y ∧ (p == p') = false) ∨ (X' = X ∧ Y' = Y ∧ p' = p ∧ (q == q') = false) := by
  unfold apartB at h
  by_cases h1 : X = X' <;> by_cases h2 : Y = Y' <;> by_cases h3 : p = p' <;> by_cases h4 : q = q' <;> simp_all

set_option maxRecDepth 100000 in
set_option maxHeartbeats 2000000 in
theorem mix_apart0 (X Y X' Y' p' q' : Int) (p q n c n' c' t : Nat) (A B : Option Addr) (w : World) (h1 : frmE X Y p q n = 0) (h2 : frmE X' Y' p' q' n' = 0) (hq : (X == X') = false) :
    Calls Try.prog 48 #[frm X Y p q A n c, frm X' Y' p' q' B n' c', .float .f32 t] w (ErrOut w 5) := by
  obtain ⟨wb, hwb⟩ : ∃ wb, wb = (((w.alloc (.cells #[.int .i64 X, .int .i64 Y, .int .i64 p, .int .i64 q, .slice A n c] 39)).alloc (.cells #[.int .i64 X', .int .i64 Y', .int .i64 p', .int .i64 q', .slice B n' c'] 39)).alloc (.cells #[.float .f32 t] 40)).alloc (.cells zfrm 39) := ⟨_, rfl⟩
  have b0 : Blk wb w.heap.size 39 #[.int .i64 X, .int .i64 Y, .int .i64 p, .int .i64 q, .slice A n c] := by rw [hwb]; exact (((Blk.new_at _ _ _ rfl).alloc _).alloc _).alloc _
  have b1 : Blk wb (w.heap.size + 1) 39 #[.int .i64 X', .int .i64 Y', .int .i64 p', .int .i64 q', .slice B n' c'] := by rw [hwb]; exact ((Blk.new_at _ _ _ (by simp)).alloc _).alloc _
  have b2 : Blk wb (w.heap.size + 2) 40 #[.float .f32 t] := by rw [hwb]; exact (Blk.new_at _ _ _ (by simp)).alloc _
  have b3 : Blk wb (w.heap.size + 3) 39 zfrm := by rw [hwb]; exact Blk.new_at _ _ _ (by simp)
  have hbe : Below w.heap.size w wb := by rw [hwb]; exact ((((Below.refl _ _).alloc (Nat.le_refl _) _).alloc (by simp) _).alloc (by simp; omega) _).alloc (by simp; omega) _
  have HB0 := hid b0
  have HB1 := hid b1
  have HB2 := hid b2
  have HB3 := hid b3
  have HBE := hid hbe
  have HWB := hid hwb
  have HC1 := hid h1
  have HC2 := hid h2
  clear b0 b1 b2 b3 hbe hwb h1 h2
  go_enter Try.func48, Try.ntmps48
  go_wp2_with fail
  rw [← HWB.out]
  refine (checkBoth_ok X Y p q X' Y' p' q' n c n' c' A B wb HC1.out HC2.out).mono ?_
  rintro e w1 ⟨rfl, hb⟩
  have k0 := HB0.out.below hb HB0.out.lt
  have k1 := HB1.out.below hb HB1.out.lt
  have k3 := HB3.out.below hb HB3.out.lt
  have a0 := k0.cell 0
  have a1 := k0.cell 1
  have a2 := k0.cell 2
  have a3 := k0.cell 3
  have a4 := k0.cell 4
  have b0 := k1.cell 0
  have b1 := k1.cell 1
  have b2 := k1.cell 2
  have b3 := k1.cell 3
  have b4 := k1.cell 4
  simp at a0 a1 a2 a3 a4 b0 b1 b2 b3 b4
  have z0 := k3.cell 0
  have z1 := k3.cell 1
  have z2 := k3.cell 2
  have z3 := k3.cell 3
  have z4 := k3.cell 4
  have fz := fun i => k3.frozen i
  simp at z0 z1 z2 z3 z4
  have hblk := k3.set5 (.int .i64 0) (.int .i64 0) (.int .i64 0) (.int .i64 0) (.slice none 0 0)
  have HBK := hid hblk
  have HB := hid (below_to HBE.out hb)
  clear hb k0 k1 k3 hblk
  go_wp2_with fail
  refine bodyPost_ret (v := .tuple #[.agg zfrm, .int .i64 5]) (results_row_tmp rfl _ _ _ _ _ _ rfl rfl HBK.out Try.underlying39 rfl (by kernel_rfl)) rfl ?_
  exact ⟨rfl, below_set5 HB.out (by omega) _ _ _ _ _⟩

set_option maxRecDepth 100000 in
set_option maxHeartbeats 2000000 in
theorem mix_apart1 (X Y Y' p' q' : Int) (p q n c n' c' t : Nat) (A B : Option Addr) (w : World) (h1 : frmE X Y p q n = 0) (h2 : frmE X Y' p' q' n' = 0) (hq : (Y == Y') = false) :
    Calls Try.prog 48 #[frm X Y p q A n c, frm X Y' p' q' B n' c', .float .f32 t] w (ErrOut w 5) := by
  obtain ⟨wb, hwb⟩ : ∃ wb, wb = (((w.alloc (.cells #[.int .i64 X, .int .i64 Y, .int .i64 p, .int .i64 q, .slice A n c] 39)).alloc (.cells #[.int .i64 X, .int .i64 Y', .int .i64 p', .int .i64 q', .slice B n' c'] 39)).alloc (.cells #[.float .f32 t] 40)).alloc (.cells zfrm 39) := ⟨_, rfl⟩
  have b0 : Blk wb w.heap.size 39 #[.int .i64 X, .int .i64 Y, .int .i64 p, .int .i64 q, .slice A n c] := by rw [hwb]; exact (((Blk.new_at _ _ _ rfl).alloc _).alloc _).alloc _
  have b1 : Blk wb (w.heap.size + 1) 39 #[.int .i64 X, .int .i64 Y', .int .i64 p', .int .i64 q', .slice B n' c'] := by rw [hwb]; exact ((Blk.new_at _ _ _ (by simp)).alloc _).alloc _
  have b2 : Blk wb (w.heap.size + 2) 40 #[.float .f32 t] := by rw [hwb]; exact (Blk.new_at _ _ _ (by simp)).alloc _
  have b3 : Blk wb (w.heap.size + 3) 39 zfrm := by rw [hwb]; exact Blk.new_at _ _ _ (by simp)
  have hbe : Below w.heap.size w wb := by rw [hwb]; exact ((((Below.refl _ _).alloc (Nat.le_refl _) _).alloc (by simp) _).alloc (by simp; omega) _).alloc (by simp; omega) _
  have HB0 := hid b0
  have HB1 := hid b1
  have HB2 := hid b2
  have HB3 := hid b3
  have HBE := hid hbe
  have HWB := hid hwb
  have HC1 := hid h1
  have HC2 := hid h2
  clear b0 b1 b2 b3 hbe hwb h1 h2
  go_enter Try.func48, Try.ntmps48
  go_wp2_with fail
  rw [← HWB.out]
  refine (checkBoth_ok X Y p q X Y' p' q' n c n' c' A B wb HC1.out HC2.out).mono ?_
  rintro e w1 ⟨rfl, hb⟩
  have k0 := HB0.out.below hb HB0.out.lt
  have k1 := HB1.out.below hb HB1.out.lt
  have k3 := HB3.out.below hb HB3.out.lt
  have a0 := k0.cell 0
  have a1 := k0.cell 1
  have a2 := k0.cell 2
  have a3 := k0.cell 3
  have a4 := k0.cell 4
  have b0 := k1.cell 0
  have b1 := k1.cell 1
  have b2 := k1.cell 2
  have b3 := k1.cell 3
  have b4 := k1.cell 4
  simp at a0 a1 a2 a3 a4 b0 b1 b2 b3 b4
  have z0 := k3.cell 0
  have z1 := k3.cell 1
  have z2 := k3.cell 2
  have z3 := k3.cell 3
  have z4 := k3.cell 4
  have fz := fun i => k3.frozen i
  simp at z0 z1 z2 z3 z4
  have hblk := k3.set5 (.int .i64 0) (.int .i64 0) (.int .i64 0) (.int .i64 0) (.slice none 0 0)
  have HBK := hid hblk
  have HB := hid (below_to HBE.out hb)
  clear hb k0 k1 k3 hblk
  go_wp2_with fail
  refine bodyPost_ret (v := .tuple #[.agg zfrm, .int .i64 5]) (results_row_tmp rfl _ _ _ _ _ _ rfl rfl HBK.out Try.underlying39 rfl (by kernel_rfl)) rfl ?_
  exact ⟨rfl, below_set5 HB.out (by omega) _ _ _ _ _⟩

set_option maxRecDepth 100000 in
set_option maxHeartbeats 2000000 in
theorem mix_apart2 (X Y p' q' : Int) (p q n c n' c' t : Nat) (A B : Option Addr) (w : World) (h1 : frmE X Y p q n = 0) (h2 : frmE X Y p' q' n' = 0) (hq : ((p : Int) == p') = false) :
    Calls Try.prog 48 #[frm X Y p q A n c, frm X Y p' q' B n' c', .float .f32 t] w (ErrOut w 5) := by
  obtain ⟨wb, hwb⟩ : ∃ wb, wb = (((w.alloc (.cells #[.int .i64 X, .int .i64 Y, .int .i64 p, .int .i64 q, .slice A n c] 39)).alloc (.cells #[.int .i64 X, .int .i64 Y, .int .i64 p', .int .i64 q', .slice B n' c'] 39)).alloc (.cells #[.float .f32 t] 40)).alloc (.cells zfrm 39) := ⟨_, rfl⟩
  have b0 : Blk wb w.heap.size 39 #[.int .i64 X, .int .i64 Y, .int .i64 p, .int .i64 q, .slice A n c] := by rw [hwb]; exact (((Blk.new_at _ _ _ rfl).alloc _).alloc _).alloc _
  have b1 : Blk wb (w.heap.size + 1) 39 #[.int .i64 X, .int .i64 Y, .int .i64 p', .int .i64 q', .slice B n' c'] := by rw [hwb]; exact ((Blk.new_at _ _ _ (by simp)).alloc _).alloc _
  have b2 : Blk wb (w.heap.size + 2) 40 #[.float .f32 t] := by rw [hwb]; exact (Blk.new_at _ _ _ (by simp)).alloc _
  have b3 : Blk wb (w.heap.size + 3) 39 zfrm := by rw [hwb]; exact Blk.new_at _ _ _ (by simp)
  have hbe : Below w.heap.size w wb := by rw [hwb]; exact ((((Below.refl _ _).alloc (Nat.le_refl _) _).alloc (by simp) _).alloc (by simp; omega) _).alloc (by simp; omega) _
  have HB0 := hid b0
  have HB1 := hid b1
  have HB2 := hid b2
  have HB3 := hid b3
  have HBE := hid hbe
  have HWB := hid hwb
  have HC1 := hid h1
  have HC2 := hid h2
  clear b0 b1 b2 b3 hbe hwb h1 h2
  go_enter Try.func48, Try.ntmps48
  go_wp2_with fail
  rw [← HWB.out]
  refine (checkBoth_ok X Y p q X Y p' q' n c n' c' A B wb HC1.out HC2.out).mono ?_
  rintro e w1 ⟨rfl, hb⟩
  have k0 := HB0.out.below hb HB0.out.lt
  have k1 := HB1.out.below hb HB1.out.lt
  have k3 := HB3.out.below hb HB3.out.lt
  have a0 := k0.cell 0
  have a1 := k0.cell 1
  have a2 := k0.cell 2
  have a3 := k0.cell 3
  have a4 := k0.cell 4
  have b0 := k1.cell 0
  have b1 := k1.cell 1
  have b2 := k1.cell 2
  have b3 := k1.cell 3
  have b4 := k1.cell 4
  simp at a0 a1 a2 a3 a4 b0 b1 b2 b3 b4
  have z0 := k3.cell 0
  have z1 := k3.cell 1
  have z2 := k3.cell 2
  have z3 := k3.cell 3
  have z4 := k3.cell 4
  have fz := fun i => k3.frozen i
  simp at z0 z1 z2 z3 z4
  have hblk := k3.set5 (.int .i64 0) (.int .i64 0) (.int .i64 0) (.int .i64 0) (.slice none 0 0)
  have HBK := hid hblk
  have HB := hid (below_to HBE.out hb)
  clear hb k0 k1 k3 hblk
  go_wp2_with fail
  refine bodyPost_ret (v := .tuple #[.agg zfrm, .int .i64 5]) (results_row_tmp rfl _ _ _ _ _ _ rfl rfl HBK.out Try.underlying39 rfl (by kernel_rfl)) rfl ?_
  exact ⟨rfl, below_set5 HB.out (by omega) _ _ _ _ _⟩

set_option maxRecDepth 100000 in
set_option maxHeartbeats 2000000 in
theorem mix_apart3 (X Y q' : Int) (p q n c n' c' t : Nat) (A B : Option Addr) (w : World) (h1 : frmE X Y p q n = 0) (h2 : frmE X Y p q' n' = 0) (hq : ((q : Int) == q') = false) :
    Calls Try.prog 48 #[frm X Y p q A n c, frm X Y p q' B n' c', .float .f32 t] w (ErrOut w 5) := by
  obtain ⟨wb, hwb⟩ : ∃ wb, wb = (((w.alloc (.cells #[.int .i64 X, .int .i64 Y, .int .i64 p, .int .i64 q, .slice A n c] 39)).alloc (.cells #[.int .i64 X, .int .i64 Y, .int .i64 p, .int .i64 q', .slice B n' c'] 39)).alloc (.cells #[.float .f32 t] 40)).alloc (.cells zfrm 39) := ⟨_, rfl⟩
  have b0 : Blk wb w.heap.size 39 #[.int .i64 X, .int .i64 Y, .int .i64 p, .int .i64 q, .slice A n c] := by rw [hwb]; exact (((Blk.new_at _ _ _ rfl).alloc _).alloc _).alloc _
  have b1 : Blk wb (w.heap.size + 1) 39 #[.int .i64 X, .int .i64 Y, .int .i64 p, .int .i64 q', .slice B n' c'] := by rw [hwb]; exact ((Blk.new_at _ _ _ (by simp)).alloc _).alloc _
  have b2 : Blk wb (w.heap.size + 2) 40 #[.float .f32 t] := by rw [hwb]; exact (Blk.new_at _ _ _ (by simp)).alloc _
  have b3 : Blk wb (w.heap.size + 3) 39 zfrm := by rw [hwb]; exact Blk.new_at _ _ _ (by simp)
  have hbe : Below w.heap.size w wb := by rw [hwb]; exact ((((Below.refl _ _).alloc (Nat.le_refl _) _).alloc (by simp) _).alloc (by simp; omega) _).alloc (by simp; omega) _
  have HB0 := hid b0
  have HB1 := hid b1
  have HB2 := hid b2
  have HB3 := hid b3
  have HBE := hid hbe
  have HWB := hid hwb
  have HC1 := hid h1
  have HC2 := hid h2
  clear b0 b1 b2 b3 hbe hwb h1 h2
  go_enter Try.func48, Try.ntmps48
  go_wp2_with fail
  rw [← HWB.out]
  refine (checkBoth_ok X Y p q X Y p q' n c n' c' A B wb HC1.out HC2.out).mono ?_
  rintro e w1 ⟨rfl, hb⟩
  have k0 := HB0.out.below hb HB0.out.lt
  have k1 := HB1.out.below hb HB1.out.lt
  have k3 := HB3.out.below hb HB3.out.lt
  have a0 := k0.cell 0
  have a1 := k0.cell 1
  have a2 := k0.cell 2
  have a3 := k0.cell 3
  have a4 := k0.cell 4
  have b0 := k1.cell 0
  have b1 := k1.cell 1
  have b2 := k1.cell 2
  have b3 := k1.cell 3
  have b4 := k1.cell 4
  simp at a0 a1 a2 a3 a4 b0 b1 b2 b3 b4
  have z0 := k3.cell 0
  have z1 := k3.cell 1
  have z2 := k3.cell 2
  have z3 := k3.cell 3
  have z4 := k3.cell 4
  have fz := fun i => k3.frozen i
  simp at z0 z1 z2 z3 z4
  have hblk := k3.set5 (.int .i64 0) (.int .i64 0) (.int .i64 0) (.int .i64 0) (.slice none 0 0)
  have HBK := hid hblk
  have HB := hid (below_to HBE.out hb)
  clear hb k0 k1 k3 hblk
  go_wp2_with fail
  refine bodyPost_ret (v := .tuple #[.agg zfrm, .int .i64 5]) (results_row_tmp rfl _ _ _ _ _ _ rfl rfl HBK.out Try.underlying39 rfl (by kernel_rfl)) rfl ?_
  exact ⟨rfl, below_set5 HB.out (by omega) _ _ _ _ _⟩

theorem mix_apart (X Y X' Y' p' q' : Int) (p q n c n' c' t : Nat) (A B : Option Addr) (w : World) (h1 : frmE X Y p q n = 0) (h2 : frmE X' Y' p' q' n' = 0) (hne : apartB X Y p q X' Y' p' q') :
    Calls Try.prog 48 #[frm X Y p q A n c, frm X' Y' p' q' B n' c', .float .f32 t] w (ErrOut w 5) := by
  rcases neq_reg hne with hq | ⟨e1, hq⟩ | ⟨e1, e2, hq⟩ | ⟨e1, e2, e3, hq⟩
  · exact mix_apart0 X Y X' Y' p' q' p q n c n' c' t A B w h1 h2 hq
  · rw [e1] at h2 ⊢; exact mix_apart1 X Y Y' p' q' p q n c n' c' t A B w h1 h2 hq
  · rw [e1, e2] at h2 ⊢; exact mix_apart2 X Y p' q' p q n c n' c' t A B w h1 h2 hq
  · rw [e1, e2, e3] at h2 ⊢; exact mix_apart3 X Y q' p q n c n' c' t A B w h1 h2 hq

set_option maxRecDepth 100000 in
set_option maxHeartbeats 2000000 in
theorem mix_same (X Y : Int) (p q n c c' t : Nat) (A B : Option Addr) (F G : Nat → Nat) (w : World) (h1 : frmE X Y p q n = 0) (hn : n ≤ 65536) (hF : Src w A n F) (hG : Src w B n G) :
    Calls Try.prog 48 #[frm X Y p q A n c, frm X Y p q B n c', .float .f32 t] w (FramedOk w X Y p q n fun i => cl (lerpC (F i) (G i) t)) := by
  obtain ⟨wb, hwb⟩ : ∃ wb, wb = (((w.alloc (.cells #[.int .i64 X, .int .i64 Y, .int .i64 p, .int .i64 q, .slice A n c] 39)).alloc (.cells #[.int .i64 X, .int .i64 Y, .int .i64 p, .int .i64 q, .slice B n c'] 39)).alloc (.cells #[.float .f32 t] 40)).alloc (.cells zfrm 39) := ⟨_, rfl⟩
  have b0 : Blk wb w.heap.size 39 #[.int .i64 X, .int .i64 Y, .int .i64 p, .int .i64 q, .slice A n c] := by rw [hwb]; exact (((Blk.new_at _ _ _ rfl).alloc _).alloc _).alloc _
  have b1 : Blk wb (w.heap.size + 1) 39 #[.int .i64 X, .int .i64 Y, .int .i64 p, .int .i64 q, .slice B n c'] := by rw [hwb]; exact ((Blk.new_at _ _ _ (by simp)).alloc _).alloc _
  have b2 : Blk wb (w.heap.size + 2) 40 #[.float .f32 t] := by rw [hwb]; exact (Blk.new_at _ _ _ (by simp)).alloc _
  have b3 : Blk wb (w.heap.size + 3) 39 zfrm := by rw [hwb]; exact Blk.new_at _ _ _ (by simp)
  have hbe : Below w.heap.size w wb := by rw [hwb]; exact ((((Below.refl _ _).alloc (Nat.le_refl _) _).alloc (by simp) _).alloc (by simp; omega) _).alloc (by simp; omega) _
  have HB0 := hid b0
  have HB1 := hid b1
  have HB2 := hid b2
  have HB3 := hid b3
  have HBE := hid hbe
  have HWB := hid hwb
  have HC1 := hid h1
  have HC2 := hid h1
  have HE : RowKit.Hid (∀ w1, Below wb.heap.size wb w1 → Calls Try.prog 89 #[frm X Y p q A n c, .func (.func 90) #[] #[.pointer (some ⟨w.heap.size + 1, 0, none⟩), .pointer (some ⟨w.heap.size + 2, 0, none⟩)]] w1 (Framed w1 X Y p q n fun i => cl (lerpC (F i) (G i) t))) := hid fun w1 hw1 =>
    each_any 90 #[.pointer (some ⟨w.heap.size + 1, 0, none⟩), .pointer (some ⟨w.heap.size + 2, 0, none⟩)] enters_mix X Y p q n c A F _ w1 hn ((hF.below hbe).below hw1) fun i w2 hi hw2 =>
      mixc_any X Y p q n c' i (F i) t (w.heap.size + 1) (w.heap.size + 2) B G w2 hi (((hG.below hbe).below hw1).below hw2) ((b1.below hw1 b1.lt).below hw2 (b1.below hw1 b1.lt).lt) ((b2.below hw1 b2.lt).below hw2 (b2.below hw1 b2.lt).lt)
  clear b0 b1 b2 b3 hbe hwb h1 hF hG
  have hmf : ∀ (fn : Fn) (first cap : Array Value) (w : World), (Instr.makeFunc fn first cap).run Try.prog w = .ok (.func fn first cap) w := fun _ _ _ _ => rfl
  go_enter Try.func48, Try.ntmps48
  go_wp2_with fail
  rw [← HWB.out]
  refine (checkBoth_ok X Y p q X Y p q n c n c' A B wb HC1.out HC2.out).mono ?_
  rintro e w1 ⟨rfl, hb⟩
  have k0 := HB0.out.below hb HB0.out.lt
  have k1 := HB1.out.below hb HB1.out.lt
  have k3 := HB3.out.below hb HB3.out.lt
  have a0 := k0.cell 0
  have a1 := k0.cell 1
  have a2 := k0.cell 2
  have a3 := k0.cell 3
  have a4 := k0.cell 4
  have b0 := k1.cell 0
  have b1 := k1.cell 1
  have b2 := k1.cell 2
  have b3 := k1.cell 3
  have b4 := k1.cell 4
  simp at a0 a1 a2 a3 a4 b0 b1 b2 b3 b4
  have HBB := hid hb
  have HK3 := hid k3
  clear hb k0 k1 k3
  go_wp2_with fail
  refine (HE.out _ HBB.out).mono ?_
  rintro e w4 ⟨g, d, rfl, q1, q2, q3, q4, q5, q6⟩
  have k3 := HK3.out.below q6 HK3.out.lt
  have z0 := k3.cell 0
  have z1 := k3.cell 1
  have z2 := k3.cell 2
  have z3 := k3.cell 3
  have z4 := k3.cell 4
  have fz := fun i => k3.frozen i
  simp at z0 z1 z2 z3 z4
  have hblk := k3.set5 (.int .i64 X) (.int .i64 Y) (.int .i64 p) (.int .i64 q) (.slice (some ⟨g, 0, none⟩) n d)
  have HBK := hid hblk
  have HQ := hid (And.intro q5 (below_to (below_to HBE.out HBB.out) q6))
  have l3 := HK3.out.lt
  clear hblk k3 q5 q6 a0 a1 a2 a3 a4 b0 b1 b2 b3 b4
  go_wp2_with fail
  refine bodyPost_ret (v := .tuple #[frm X Y p q (some ⟨g, 0, none⟩) n d, .int .i64 0]) (results_row_tmp rfl _ _ _ _ _ _ rfl rfl HBK.out Try.underlying39 rfl (by kernel_rfl)) rfl ?_
  exact ⟨g, d, rfl, q1, q2, by omega, by rw [size_set5]; exact q4, HQ.out.1.far5 (by omega) _ _ _ _ _, below_set5 HQ.out.2 (by omega) _ _ _ _ _⟩
end Go.Proofs.Ytjlghjblpbckfaa
