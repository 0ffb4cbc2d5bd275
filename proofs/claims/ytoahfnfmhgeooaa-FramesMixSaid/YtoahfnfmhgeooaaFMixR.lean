/-
  Mix and Through of the reference.
-/
import Derived.Test.YtoahfnfmhgeooaaFThr
import Derived.Test.YtoahfnfmhgeooaaFBoth
namespace Go.Proofs.Ytoahfnfmhgeooaa
open Go.RowKit Go.Shelf

theorem enters_mixr (args : Array Value) (w : World) : (callFunc 118 args).run Try.prog w = .ok (.enter 118 args) w := enters_of Try.func118 (by kernel_rfl) rfl args w
theorem enters_throughr (args : Array Value) (w : World) : (callFunc 124 args).run Try.prog w = .ok (.enter 124 args) w := enters_of Try.func124 (by kernel_rfl) rfl args w

set_option maxRecDepth 100000 in
set_option maxHeartbeats 2000000 in
theorem mixr_apart0 (X Y X' Y' p' q' : Int) (p q n c n' c' t : Nat) (A B : Option Addr) (w : World) (hq : (X == X') = false) :
    Calls Try.prog 56 #[frm X Y p q A n c, frm X' Y' p' q' B n' c', .float .f32 t] w (ErrOut w 5) := by
  obtain ⟨wb, hwb⟩ : ∃ wb, wb = (((w.alloc (.cells #[.int .i64 X, .int .i64 Y, .int .i64 p, .int .i64 q, .slice A n c] 39)).alloc (.cells #[.int .i64 X', .int .i64 Y', .int .i64 p', .int .i64 q', .slice B n' c'] 39)).alloc (.cells #[.float .f32 t] 40)).alloc (.cells zfrm 39) := ⟨_, rfl⟩
  have b0 : Blk wb w.heap.size 39 #[.int .i64 X, .int .i64 Y, .int .i64 p, .int .i64 q, .slice A n c] := by rw [hwb]; exact (((Blk.new_at _ _ _ rfl).alloc _).alloc _).alloc _
  have b1 : Blk wb (w.heap.size + 1) 39 #[.int .i64 X', .int .i64 Y', .int .i64 p', .int .i64 q', .slice B n' c'] := by rw [hwb]; exact ((Blk.new_at _ _ _ (by simp)).alloc _).alloc _
  have b2 : Blk wb (w.heap.size + 2) 40 #[.float .f32 t] := by rw [hwb]; exact (Blk.new_at _ _ _ (by simp)).alloc _
  have b3 : Blk wb (w.heap.size + 3) 39 zfrm := by rw [hwb]; exact Blk.new_at _ _ _ (by simp)
  have hbe : Below w.heap.size w wb := by rw [hwb]; exact ((((Below.refl _ _).alloc (Nat.le_refl _) _).alloc (by simp) _).alloc (by simp; omega) _).alloc (by simp; omega) _
  have HB0 := hid b0
  have HB1 := hid b1
  have HB2 := hid b2
  have HB3 := hid b3
  have HBE := hid hbe
  have HWB := hid hwb
  have b3c := b3.set5 (.int .i64 0) (.int .i64 0) (.int .i64 0) (.int .i64 0) (.slice none 0 0)
  have HBK := hid b3c
  clear b0 b1 b2 b3 hbe hwb
  clear b3c
  go_enter Try.func56, Try.ntmps56
  go_wp2_with fail
  refine bodyPost_ret (v := .tuple #[.agg zfrm, .int .i64 5]) (results_row_tmp rfl _ _ _ _ _ _ rfl rfl (Blk.new_at _ _ _ (by simp)) Try.underlying39 rfl (by kernel_rfl)) rfl ?_
  exact ⟨rfl, ((((Below.refl _ _).alloc (Nat.le_refl _) _).alloc (by simp) _).alloc (by simp; omega) _).alloc (by simp; omega) _⟩

set_option maxRecDepth 100000 in
set_option maxHeartbeats 2000000 in
theorem mixr_apart1 (X Y Y' p' q' : Int) (p q n c n' c' t : Nat) (A B : Option Addr) (w : World) (hq : (Y == Y') = false) :
    Calls Try.prog 56 #[frm X Y p q A n c, frm X Y' p' q' B n' c', .float .f32 t] w (ErrOut w 5) := by
  obtain ⟨wb, hwb⟩ : ∃ wb, wb = (((w.alloc (.cells #[.int .i64 X, .int .i64 Y, .int .i64 p, .int .i64 q, .slice A n c] 39)).alloc (.cells #[.int .i64 X, .int .i64 Y', .int .i64 p', .int .i64 q', .slice B n' c'] 39)).alloc (.cells #[.float .f32 t] 40)).alloc (.cells zfrm 39) := ⟨_, rfl⟩
  have b0 : Blk wb w.heap.size 39 #[.int .i64 X, .int .i64 Y, .int .i64 p, .int .i64 q, .slice A n c] := by rw [hwb]; exact (((Blk.new_at _ _ _ rfl).alloc _).alloc _).alloc _
  have b1 : Blk wb (w.heap.size + 1) 39 #[.int .i64 X, .int .i64 Y', .int .i64 p', .int .i64 q', .slice B n' c'] := by rw [hwb]; exact ((Blk.new_at _ _ _ (by simp)).alloc _).alloc _
  have b2 : Blk wb (w.heap.size + 2) 40 #[.float .f32 t] := by rw [hwb]; exact (Blk.new_at _ _ _ (by simp)).alloc _
  have b3 : Blk wb (w.heap.size + 3) 39 zfrm := by rw [hwb]; exact Blk.new_at _ _ _ (by simp)
  have hbe : Below w.heap.size w wb := by rw [hwb]; exact ((((Below.refl _ _).alloc (Nat.le_refl _) _).alloc (by simp) _).alloc (by simp; omega) _).alloc (by simp; omega) _
  have HB0 := hid b0
  have HB1 := hid b1
  have HB2 := hid b2
  have HB3 := hid b3
  have HBE := hid hbe
  have HWB := hid hwb
  have b3c := b3.set5 (.int .i64 0) (.int .i64 0) (.int .i64 0) (.int .i64 0) (.slice none 0 0)
  have HBK := hid b3c
  clear b0 b1 b2 b3 hbe hwb
  clear b3c
  go_enter Try.func56, Try.ntmps56
  go_wp2_with fail
  refine bodyPost_ret (v := .tuple #[.agg zfrm, .int .i64 5]) (results_row_tmp rfl _ _ _ _ _ _ rfl rfl (Blk.new_at _ _ _ (by simp)) Try.underlying39 rfl (by kernel_rfl)) rfl ?_
  exact ⟨rfl, ((((Below.refl _ _).alloc (Nat.le_refl _) _).alloc (by simp) _).alloc (by simp; omega) _).alloc (by simp; omega) _⟩

set_option maxRecDepth 100000 in
set_option maxHeartbeats 2000000 in
theorem mixr_apart2 (X Y p' q' : Int) (p q n c n' c' t : Nat) (A B : Option Addr) (w : World) (hq : ((p : Int) == p') = false) :
    Calls Try.prog 56 #[frm X Y p q A n c, frm X Y p' q' B n' c', .float .f32 t] w (ErrOut w 5) := by
  obtain ⟨wb, hwb⟩ : ∃ wb, wb = (((w.alloc (.cells #[.int .i64 X, .int .i64 Y, .int .i64 p, .int .i64 q, .slice A n c] 39)).alloc (.cells #[.int .i64 X, .int .i64 Y, .int .i64 p', .int .i64 q', .slice B n' c'] 39)).alloc (.cells #[.float .f32 t] 40)).alloc (.cells zfrm 39) := ⟨_, rfl⟩
  have b0 : Blk wb w.heap.size 39 #[.int .i64 X, .int .i64 Y, .int .i64 p, .int .i64 q, .slice A n c] := by rw [hwb]; exact (((Blk.new_at _ _ _ rfl).alloc _).alloc _).alloc _
  have b1 : Blk wb (w.heap.size + 1) 39 #[.int .i64 X, .int .i64 Y, .int .i64 p', .int .i64 q', .slice B n' c'] := by rw [hwb]; exact ((Blk.new_at _ _ _ (by simp)).alloc _).alloc _
  have b2 : Blk wb (w.heap.size + 2) 40 #[.float .f32 t] := by rw [hwb]; exact (Blk.new_at _ _ _ (by simp)).alloc _
  have b3 : Blk wb (w.heap.size + 3) 39 zfrm := by rw [hwb]; exact Blk.new_at _ _ _ (by simp)
  have hbe : Below w.heap.size w wb := by rw [hwb]; exact ((((Below.refl _ _).alloc (Nat.le_refl _) _).alloc (by simp) _).alloc (by simp; omega) _).alloc (by simp; omega) _
  have HB0 := hid b0
  have HB1 := hid b1
  have HB2 := hid b2
  have HB3 := hid b3
  have HBE := hid hbe
  have HWB := hid hwb
  have b3c := b3.set5 (.int .i64 0) (.int .i64 0) (.int .i64 0) (.int .i64 0) (.slice none 0 0)
  have HBK := hid b3c
  clear b0 b1 b2 b3 hbe hwb
  clear b3c
  go_enter Try.func56, Try.ntmps56
  go_wp2_with fail
  refine bodyPost_ret (v := .tuple #[.agg zfrm, .int .i64 5]) (results_row_tmp rfl _ _ _ _ _ _ rfl rfl (Blk.new_at _ _ _ (by simp)) Try.underlying39 rfl (by kernel_rfl)) rfl ?_
  exact ⟨rfl, ((((Below.refl _ _).alloc (Nat.le_refl _) _).alloc (by simp) _).alloc (by simp; omega) _).alloc (by simp; omega) _⟩

set_option maxRecDepth 100000 in
set_option maxHeartbeats 2000000 in
theorem mixr_apart3 (X Y q' : Int) (p q n c n' c' t : Nat) (A B : Option Addr) (w : World) (hq : ((q : Int) == q') = false) :
    Calls Try.prog 56 #[frm X Y p q A n c, frm X Y p q' B n' c', .float .f32 t] w (ErrOut w 5) := by
  obtain ⟨wb, hwb⟩ : ∃ wb, wb = (((w.alloc (.cells #[.int .i64 X, .int .i64 Y, .int .i64 p, .int .i64 q, .slice A n c] 39)).alloc (.cells #[.int .i64 X, .int .i64 Y, .int .i64 p, .int .i64 q', .slice B n' c'] 39)).alloc (.cells #[.float .f32 t] 40)).alloc (.cells zfrm 39) := ⟨_, rfl⟩
  have b0 : Blk wb w.heap.size 39 #[.int .i64 X, .int .i64 Y, .int .i64 p, .int .i64 q, .slice A n c] := by rw [hwb]; exact (((Blk.new_at _ _ _ rfl).alloc _).alloc _).alloc _
  have b1 : Blk wb (w.heap.size + 1) 39 #[.int .i64 X, .int .i64 Y, .int .i64 p, .int .i64 q', .slice B n' c'] := by rw [hwb]; exact ((Blk.new_at _ _ _ (by simp)).alloc _).alloc _
  have b2 : Blk wb (w.heap.size + 2) 40 #[.float .f32 t] := by rw [hwb]; exact (Blk.new_at _ _ _ (by simp)).alloc _
  have b3 : Blk wb (w.heap.size + 3) 39 zfrm := by rw [hwb]; exact Blk.new_at _ _ _ (by simp)
  have hbe : Below w.heap.size w wb := by rw [hwb]; exact ((((Below.refl _ _).alloc (Nat.le_refl _) _).alloc (by simp) _).alloc (by simp; omega) _).alloc (by simp; omega) _
  have HB0 := hid b0
  have HB1 := hid b1
  have HB2 := hid b2
  have HB3 := hid b3
  have HBE := hid hbe
  have HWB := hid hwb
  have b3c := b3.set5 (.int .i64 0) (.int .i64 0) (.int .i64 0) (.int .i64 0) (.slice none 0 0)
  have HBK := hid b3c
  clear b0 b1 b2 b3 hbe hwb
  clear b3c
  go_enter Try.func56, Try.ntmps56
  go_wp2_with fail
  refine bodyPost_ret (v := .tuple #[.agg zfrm, .int .i64 5]) (results_row_tmp rfl _ _ _ _ _ _ rfl rfl (Blk.new_at _ _ _ (by simp)) Try.underlying39 rfl (by kernel_rfl)) rfl ?_
  exact ⟨rfl, ((((Below.refl _ _).alloc (Nat.le_refl _) _).alloc (by simp) _).alloc (by simp; omega) _).alloc (by simp; omega) _⟩

theorem mixr_apart (X Y X' Y' p' q' : Int) (p q n c n' c' t : Nat) (A B : Option Addr) (w : World) (hne : apartB X Y p q X' Y' p' q') :
    Calls Try.prog 56 #[frm X Y p q A n c, frm X' Y' p' q' B n' c', .float .f32 t] w (ErrOut w 5) := by
  rcases neq_reg hne with hq | ⟨e1, hq⟩ | ⟨e1, e2, hq⟩ | ⟨e1, e2, e3, hq⟩
  · exact mixr_apart0 X Y X' Y' p' q' p q n c n' c' t A B w hq
  · rw [e1]; exact mixr_apart1 X Y Y' p' q' p q n c n' c' t A B w hq
  · rw [e1, e2]; exact mixr_apart2 X Y p' q' p q n c n' c' t A B w hq
  · rw [e1, e2, e3]; exact mixr_apart3 X Y q' p q n c n' c' t A B w hq

set_option maxRecDepth 100000 in
set_option maxHeartbeats 2000000 in
theorem thrr_apart0 (X Y X' Y' p' q' mx my ma mb : Int) (p q n c n' c' k cm : Nat) (A B M : Option Addr) (w : World) (hq : (X == X') = false) :
    Calls Try.prog 59 #[frm X Y p q A n c, frm X' Y' p' q' B n' c', frm mx my ma mb M k cm] w (ErrOut w 5) := by
  obtain ⟨wb, hwb⟩ : ∃ wb, wb = (((w.alloc (.cells #[.int .i64 X, .int .i64 Y, .int .i64 p, .int .i64 q, .slice A n c] 39)).alloc (.cells #[.int .i64 X', .int .i64 Y', .int .i64 p', .int .i64 q', .slice B n' c'] 39)).alloc (.cells #[.int .i64 mx, .int .i64 my, .int .i64 ma, .int .i64 mb, .slice M k cm] 76)).alloc (.cells zfrm 39) := ⟨_, rfl⟩
  have b0 : Blk wb w.heap.size 39 #[.int .i64 X, .int .i64 Y, .int .i64 p, .int .i64 q, .slice A n c] := by rw [hwb]; exact (((Blk.new_at _ _ _ rfl).alloc _).alloc _).alloc _
  have b1 : Blk wb (w.heap.size + 1) 39 #[.int .i64 X', .int .i64 Y', .int .i64 p', .int .i64 q', .slice B n' c'] := by rw [hwb]; exact ((Blk.new_at _ _ _ (by simp)).alloc _).alloc _
  have b2 : Blk wb (w.heap.size + 2) 76 #[.int .i64 mx, .int .i64 my, .int .i64 ma, .int .i64 mb, .slice M k cm] := by rw [hwb]; exact (Blk.new_at _ _ _ (by simp)).alloc _
  have b3 : Blk wb (w.heap.size + 3) 39 zfrm := by rw [hwb]; exact Blk.new_at _ _ _ (by simp)
  have hbe : Below w.heap.size w wb := by rw [hwb]; exact ((((Below.refl _ _).alloc (Nat.le_refl _) _).alloc (by simp) _).alloc (by simp; omega) _).alloc (by simp; omega) _
  have HB0 := hid b0
  have HB1 := hid b1
  have HB2 := hid b2
  have HB3 := hid b3
  have HBE := hid hbe
  have HWB := hid hwb
  have b3c := b3.set5 (.int .i64 0) (.int .i64 0) (.int .i64 0) (.int .i64 0) (.slice none 0 0)
  have HBK := hid b3c
  clear b0 b1 b2 b3 hbe hwb
  clear b3c
  go_enter Try.func59, Try.ntmps59
  go_wp2_with fail
  refine bodyPost_ret (v := .tuple #[.agg zfrm, .int .i64 5]) (results_row_tmp rfl _ _ _ _ _ _ rfl rfl (Blk.new_at _ _ _ (by simp)) Try.underlying39 rfl (by kernel_rfl)) rfl ?_
  exact ⟨rfl, ((((Below.refl _ _).alloc (Nat.le_refl _) _).alloc (by simp) _).alloc (by simp; omega) _).alloc (by simp; omega) _⟩

set_option maxRecDepth 100000 in
set_option maxHeartbeats 2000000 in
theorem thrr_apart1 (X Y Y' p' q' mx my ma mb : Int) (p q n c n' c' k cm : Nat) (A B M : Option Addr) (w : World) (hq : (Y == Y') = false) :
    Calls Try.prog 59 #[frm X Y p q A n c, frm X Y' p' q' B n' c', frm mx my ma mb M k cm] w (ErrOut w 5) := by
  obtain ⟨wb, hwb⟩ : ∃ wb, wb = (((w.alloc (.cells #[.int .i64 X, .int .i64 Y, .int .i64 p, .int .i64 q, .slice A n c] 39)).alloc (.cells #[.int .i64 X, .int .i64 Y', .int .i64 p', .int .i64 q', .slice B n' c'] 39)).alloc (.cells #[.int .i64 mx, .int .i64 my, .int .i64 ma, .int .i64 mb, .slice M k cm] 76)).alloc (.cells zfrm 39) := ⟨_, rfl⟩
  have b0 : Blk wb w.heap.size 39 #[.int .i64 X, .int .i64 Y, .int .i64 p, .int .i64 q, .slice A n c] := by rw [hwb]; exact (((Blk.new_at _ _ _ rfl).alloc _).alloc _).alloc _
  have b1 : Blk wb (w.heap.size + 1) 39 #[.int .i64 X, .int .i64 Y', .int .i64 p', .int .i64 q', .slice B n' c'] := by rw [hwb]; exact ((Blk.new_at _ _ _ (by simp)).alloc _).alloc _
  have b2 : Blk wb (w.heap.size + 2) 76 #[.int .i64 mx, .int .i64 my, .int .i64 ma, .int .i64 mb, .slice M k cm] := by rw [hwb]; exact (Blk.new_at _ _ _ (by simp)).alloc _
  have b3 : Blk wb (w.heap.size + 3) 39 zfrm := by rw [hwb]; exact Blk.new_at _ _ _ (by simp)
  have hbe : Below w.heap.size w wb := by rw [hwb]; exact ((((Below.refl _ _).alloc (Nat.le_refl _) _).alloc (by simp) _).alloc (by simp; omega) _).alloc (by simp; omega) _
  have HB0 := hid b0
  have HB1 := hid b1
  have HB2 := hid b2
  have HB3 := hid b3
  have HBE := hid hbe
  have HWB := hid hwb
  have b3c := b3.set5 (.int .i64 0) (.int .i64 0) (.int .i64 0) (.int .i64 0) (.slice none 0 0)
  have HBK := hid b3c
  clear b0 b1 b2 b3 hbe hwb
  clear b3c
  go_enter Try.func59, Try.ntmps59
  go_wp2_with fail
  refine bodyPost_ret (v := .tuple #[.agg zfrm, .int .i64 5]) (results_row_tmp rfl _ _ _ _ _ _ rfl rfl (Blk.new_at _ _ _ (by simp)) Try.underlying39 rfl (by kernel_rfl)) rfl ?_
  exact ⟨rfl, ((((Below.refl _ _).alloc (Nat.le_refl _) _).alloc (by simp) _).alloc (by simp; omega) _).alloc (by simp; omega) _⟩

set_option maxRecDepth 100000 in
set_option maxHeartbeats 2000000 in
theorem thrr_apart2 (X Y p' q' mx my ma mb : Int) (p q n c n' c' k cm : Nat) (A B M : Option Addr) (w : World) (hq : ((p : Int) == p') = false) :
    Calls Try.prog 59 #[frm X Y p q A n c, frm X Y p' q' B n' c', frm mx my ma mb M k cm] w (ErrOut w 5) := by
  obtain ⟨wb, hwb⟩ : ∃ wb, wb = (((w.alloc (.cells #[.int .i64 X, .int .i64 Y, .int .i64 p, .int .i64 q, .slice A n c] 39)).alloc (.cells #[.int .i64 X, .int .i64 Y, .int .i64 p', .int .i64 q', .slice B n' c'] 39)).alloc (.cells #[.int .i64 mx, .int .i64 my, .int .i64 ma, .int .i64 mb, .slice M k cm] 76)).alloc (.cells zfrm 39) := ⟨_, rfl⟩
  have b0 : Blk wb w.heap.size 39 #[.int .i64 X, .int .i64 Y, .int .i64 p, .int .i64 q, .slice A n c] := by rw [hwb]; exact (((Blk.new_at _ _ _ rfl).alloc _).alloc _).alloc _
  have b1 : Blk wb (w.heap.size + 1) 39 #[.int .i64 X, .int .i64 Y, .int .i64 p', .int .i64 q', .slice B n' c'] := by rw [hwb]; exact ((Blk.new_at _ _ _ (by simp)).alloc _).alloc _
  have b2 : Blk wb (w.heap.size + 2) 76 #[.int .i64 mx, .int .i64 my, .int .i64 ma, .int .i64 mb, .slice M k cm] := by rw [hwb]; exact (Blk.new_at _ _ _ (by simp)).alloc _
  have b3 : Blk wb (w.heap.size + 3) 39 zfrm := by rw [hwb]; exact Blk.new_at _ _ _ (by simp)
  have hbe : Below w.heap.size w wb := by rw [hwb]; exact ((((Below.refl _ _).alloc (Nat.le_refl _) _).alloc (by simp) _).alloc (by simp; omega) _).alloc (by simp; omega) _
  have HB0 := hid b0
  have HB1 := hid b1
  have HB2 := hid b2
  have HB3 := hid b3
  have HBE := hid hbe
  have HWB := hid hwb
  have b3c := b3.set5 (.int .i64 0) (.int .i64 0) (.int .i64 0) (.int .i64 0) (.slice none 0 0)
  have HBK := hid b3c
  clear b0 b1 b2 b3 hbe hwb
  clear b3c
  go_enter Try.func59, Try.ntmps59
  go_wp2_with fail
  refine bodyPost_ret (v := .tuple #[.agg zfrm, .int .i64 5]) (results_row_tmp rfl _ _ _ _ _ _ rfl rfl (Blk.new_at _ _ _ (by simp)) Try.underlying39 rfl (by kernel_rfl)) rfl ?_
  exact ⟨rfl, ((((Below.refl _ _).alloc (Nat.le_refl _) _).alloc (by simp) _).alloc (by simp; omega) _).alloc (by simp; omega) _⟩

set_option maxRecDepth 100000 in
set_option maxHeartbeats 2000000 in
theorem thrr_apart3 (X Y q' mx my ma mb : Int) (p q n c n' c' k cm : Nat) (A B M : Option Addr) (w : World) (hq : ((q : Int) == q') = false) :
    Calls Try.prog 59 #[frm X Y p q A n c, frm X Y p q' B n' c', frm mx my ma mb M k cm] w (ErrOut w 5) := by
  obtain ⟨wb, hwb⟩ : ∃ wb, wb = (((w.alloc (.cells #[.int .i64 X, .int .i64 Y, .int .i64 p, .int .i64 q, .slice A n c] 39)).alloc (.cells #[.int .i64 X, .int .i64 Y, .int .i64 p, .int .i64 q', .slice B n' c'] 39)).alloc (.cells #[.int .i64 mx, .int .i64 my, .int .i64 ma, .int .i64 mb, .slice M k cm] 76)).alloc (.cells zfrm 39) := ⟨_, rfl⟩
  have b0 : Blk wb w.heap.size 39 #[.int .i64 X, .int .i64 Y, .int .i64 p, .int .i64 q, .slice A n c] := by rw [hwb]; exact (((Blk.new_at _ _ _ rfl).alloc _).alloc _).alloc _
  have b1 : Blk wb (w.heap.size + 1) 39 #[.int .i64 X, .int .i64 Y, .int .i64 p, .int .i64 q', .slice B n' c'] := by rw [hwb]; exact ((Blk.new_at _ _ _ (by simp)).alloc _).alloc _
  have b2 : Blk wb (w.heap.size + 2) 76 #[.int .i64 mx, .int .i64 my, .int .i64 ma, .int .i64 mb, .slice M k cm] := by rw [hwb]; exact (Blk.new_at _ _ _ (by simp)).alloc _
  have b3 : Blk wb (w.heap.size + 3) 39 zfrm := by rw [hwb]; exact Blk.new_at _ _ _ (by simp)
  have hbe : Below w.heap.size w wb := by rw [hwb]; exact ((((Below.refl _ _).alloc (Nat.le_refl _) _).alloc (by simp) _).alloc (by simp; omega) _).alloc (by simp; omega) _
  have HB0 := hid b0
  have HB1 := hid b1
  have HB2 := hid b2
  have HB3 := hid b3
  have HBE := hid hbe
  have HWB := hid hwb
  have b3c := b3.set5 (.int .i64 0) (.int .i64 0) (.int .i64 0) (.int .i64 0) (.slice none 0 0)
  have HBK := hid b3c
  clear b0 b1 b2 b3 hbe hwb
  clear b3c
  go_enter Try.func59, Try.ntmps59
  go_wp2_with fail
  refine bodyPost_ret (v := .tuple #[.agg zfrm, .int .i64 5]) (results_row_tmp rfl _ _ _ _ _ _ rfl rfl (Blk.new_at _ _ _ (by simp)) Try.underlying39 rfl (by kernel_rfl)) rfl ?_
  exact ⟨rfl, ((((Below.refl _ _).alloc (Nat.le_refl _) _).alloc (by simp) _).alloc (by simp; omega) _).alloc (by simp; omega) _⟩

set_option maxRecDepth 100000 in
set_option maxHeartbeats 2000000 in
theorem thrr_apartm0 (X Y mx my ma mb : Int) (p q n c c' k cm : Nat) (A B M : Option Addr) (w : World) (hq : (X == mx) = false) :
    Calls Try.prog 59 #[frm X Y p q A n c, frm X Y p q B n c', frm mx my ma mb M k cm] w (ErrOut w 5) := by
  obtain ⟨wb, hwb⟩ : ∃ wb, wb = (((w.alloc (.cells #[.int .i64 X, .int .i64 Y, .int .i64 p, .int .i64 q, .slice A n c] 39)).alloc (.cells #[.int .i64 X, .int .i64 Y, .int .i64 p, .int .i64 q, .slice B n c'] 39)).alloc (.cells #[.int .i64 mx, .int .i64 my, .int .i64 ma, .int .i64 mb, .slice M k cm] 76)).alloc (.cells zfrm 39) := ⟨_, rfl⟩
  have b0 : Blk wb w.heap.size 39 #[.int .i64 X, .int .i64 Y, .int .i64 p, .int .i64 q, .slice A n c] := by rw [hwb]; exact (((Blk.new_at _ _ _ rfl).alloc _).alloc _).alloc _
  have b1 : Blk wb (w.heap.size + 1) 39 #[.int .i64 X, .int .i64 Y, .int .i64 p, .int .i64 q, .slice B n c'] := by rw [hwb]; exact ((Blk.new_at _ _ _ (by simp)).alloc _).alloc _
  have b2 : Blk wb (w.heap.size + 2) 76 #[.int .i64 mx, .int .i64 my, .int .i64 ma, .int .i64 mb, .slice M k cm] := by rw [hwb]; exact (Blk.new_at _ _ _ (by simp)).alloc _
  have b3 : Blk wb (w.heap.size + 3) 39 zfrm := by rw [hwb]; exact Blk.new_at _ _ _ (by simp)
  have hbe : Below w.heap.size w wb := by rw [hwb]; exact ((((Below.refl _ _).alloc (Nat.le_refl _) _).alloc (by simp) _).alloc (by simp; omega) _).alloc (by simp; omega) _
  have HB0 := hid b0
  have HB1 := hid b1
  have HB2 := hid b2
  have HB3 := hid b3
  have HBE := hid hbe
  have HWB := hid hwb
  have b3c := b3.set5 (.int .i64 0) (.int .i64 0) (.int .i64 0) (.int .i64 0) (.slice none 0 0)
  have HBK := hid b3c
  clear b0 b1 b2 b3 hbe hwb
  clear b3c
  go_enter Try.func59, Try.ntmps59
  go_wp2_with fail
  refine bodyPost_ret (v := .tuple #[.agg zfrm, .int .i64 5]) (results_row_tmp rfl _ _ _ _ _ _ rfl rfl (Blk.new_at _ _ _ (by simp)) Try.underlying39 rfl (by kernel_rfl)) rfl ?_
  exact ⟨rfl, ((((Below.refl _ _).alloc (Nat.le_refl _) _).alloc (by simp) _).alloc (by simp; omega) _).alloc (by simp; omega) _⟩

set_option maxRecDepth 100000 in
set_option maxHeartbeats 2000000 in
theorem thrr_apartm1 (X Y my ma mb : Int) (p q n c c' k cm : Nat) (A B M : Option Addr) (w : World) (hq : (Y == my) = false) :
    Calls Try.prog 59 #[frm X Y p q A n c, frm X Y p q B n c', frm X my ma mb M k cm] w (ErrOut w 5) := by
  obtain ⟨wb, hwb⟩ : ∃ wb, wb = (((w.alloc (.cells #[.int .i64 X, .int .i64 Y, .int .i64 p, .int .i64 q, .slice A n c] 39)).alloc (.cells #[.int .i64 X, .int .i64 Y, .int .i64 p, .int .i64 q, .slice B n c'] 39)).alloc (.cells #[.int .i64 X, .int .i64 my, .int .i64 ma, .int .i64 mb, .slice M k cm] 76)).alloc (.cells zfrm 39) := ⟨_, rfl⟩
  have b0 : Blk wb w.heap.size 39 #[.int .i64 X, .int .i64 Y, .int .i64 p, .int .i64 q, .slice A n c] := by rw [hwb]; exact (((Blk.new_at _ _ _ rfl).alloc _).alloc _).alloc _
  have b1 : Blk wb (w.heap.size + 1) 39 #[.int .i64 X, .int .i64 Y, .int .i64 p, .int .i64 q, .slice B n c'] := by rw [hwb]; exact ((Blk.new_at _ _ _ (by simp)).alloc _).alloc _
  have b2 : Blk wb (w.heap.size + 2) 76 #[.int .i64 X, .int .i64 my, .int .i64 ma, .int .i64 mb, .slice M k cm] := by rw [hwb]; exact (Blk.new_at _ _ _ (by simp)).alloc _
  have b3 : Blk wb (w.heap.size + 3) 39 zfrm := by rw [hwb]; exact Blk.new_at _ _ _ (by simp)
  have hbe : Below w.heap.size w wb := by rw [hwb]; exact ((((Below.refl _ _).alloc (Nat.le_refl _) _).alloc (by simp) _).alloc (by simp; omega) _).alloc (by simp; omega) _
  have HB0 := hid b0
  have HB1 := hid b1
  have HB2 := hid b2
  have HB3 := hid b3
  have HBE := hid hbe
  have HWB := hid hwb
  have b3c := b3.set5 (.int .i64 0) (.int .i64 0) (.int .i64 0) (.int .i64 0) (.slice none 0 0)
  have HBK := hid b3c
  clear b0 b1 b2 b3 hbe hwb
  clear b3c
  go_enter Try.func59, Try.ntmps59
  go_wp2_with fail
  refine bodyPost_ret (v := .tuple #[.agg zfrm, .int .i64 5]) (results_row_tmp rfl _ _ _ _ _ _ rfl rfl (Blk.new_at _ _ _ (by simp)) Try.underlying39 rfl (by kernel_rfl)) rfl ?_
  exact ⟨rfl, ((((Below.refl _ _).alloc (Nat.le_refl _) _).alloc (by simp) _).alloc (by simp; omega) _).alloc (by simp; omega) _⟩

set_option maxRecDepth 100000 in
set_option maxHeartbeats 2000000 in
theorem thrr_apartm2 (X Y ma mb : Int) (p q n c c' k cm : Nat) (A B M : Option Addr) (w : World) (hq : ((p : Int) == ma) = false) :
    Calls Try.prog 59 #[frm X Y p q A n c, frm X Y p q B n c', frm X Y ma mb M k cm] w (ErrOut w 5) := by
  obtain ⟨wb, hwb⟩ : ∃ wb, wb = (((w.alloc (.cells #[.int .i64 X, .int .i64 Y, .int .i64 p, .int .i64 q, .slice A n c] 39)).alloc (.cells #[.int .i64 X, .int .i64 Y, .int .i64 p, .int .i64 q, .slice B n c'] 39)).alloc (.cells #[.int .i64 X, .int .i64 Y, .int .i64 ma, .int .i64 mb, .slice M k cm] 76)).alloc (.cells zfrm 39) := ⟨_, rfl⟩
  have b0 : Blk wb w.heap.size 39 #[.int .i64 X, .int .i64 Y, .int .i64 p, .int .i64 q, .slice A n c] := by rw [hwb]; exact (((Blk.new_at _ _ _ rfl).alloc _).alloc _).alloc _
  have b1 : Blk wb (w.heap.size + 1) 39 #[.int .i64 X, .int .i64 Y, .int .i64 p, .int .i64 q, .slice B n c'] := by rw [hwb]; exact ((Blk.new_at _ _ _ (by simp)).alloc _).alloc _
  have b2 : Blk wb (w.heap.size + 2) 76 #[.int .i64 X, .int .i64 Y, .int .i64 ma, .int .i64 mb, .slice M k cm] := by rw [hwb]; exact (Blk.new_at _ _ _ (by simp)).alloc _
  have b3 : Blk wb (w.heap.size + 3) 39 zfrm := by rw [hwb]; exact Blk.new_at _ _ _ (by simp)
  have hbe : Below w.heap.size w wb := by rw [hwb]; exact ((((Below.refl _ _).alloc (Nat.le_refl _) _).alloc (by simp) _).alloc (by simp; omega) _).alloc (by simp; omega) _
  have HB0 := hid b0
  have HB1 := hid b1
  have HB2 := hid b2
  have HB3 := hid b3
  have HBE := hid hbe
  have HWB := hid hwb
  have b3c := b3.set5 (.int .i64 0) (.int .i64 0) (.int .i64 0) (.int .i64 0) (.slice none 0 0)
  have HBK := hid b3c
  clear b0 b1 b2 b3 hbe hwb
  clear b3c
  go_enter Try.func59, Try.ntmps59
  go_wp2_with fail
  refine bodyPost_ret (v := .tuple #[.agg zfrm, .int .i64 5]) (results_row_tmp rfl _ _ _ _ _ _ rfl rfl (Blk.new_at _ _ _ (by simp)) Try.underlying39 rfl (by kernel_rfl)) rfl ?_
  exact ⟨rfl, ((((Below.refl _ _).alloc (Nat.le_refl _) _).alloc (by simp) _).alloc (by simp; omega) _).alloc (by simp; omega) _⟩

set_option maxRecDepth 100000 in
set_option maxHeartbeats 2000000 in
theorem thrr_apartm3 (X Y mb : Int) (p q n c c' k cm : Nat) (A B M : Option Addr) (w : World) (hq : ((q : Int) == mb) = false) :
    Calls Try.prog 59 #[frm X Y p q A n c, frm X Y p q B n c', frm X Y p mb M k cm] w (ErrOut w 5) := by
  obtain ⟨wb, hwb⟩ : ∃ wb, wb = (((w.alloc (.cells #[.int .i64 X, .int .i64 Y, .int .i64 p, .int .i64 q, .slice A n c] 39)).alloc (.cells #[.int .i64 X, .int .i64 Y, .int .i64 p, .int .i64 q, .slice B n c'] 39)).alloc (.cells #[.int .i64 X, .int .i64 Y, .int .i64 p, .int .i64 mb, .slice M k cm] 76)).alloc (.cells zfrm 39) := ⟨_, rfl⟩
  have b0 : Blk wb w.heap.size 39 #[.int .i64 X, .int .i64 Y, .int .i64 p, .int .i64 q, .slice A n c] := by rw [hwb]; exact (((Blk.new_at _ _ _ rfl).alloc _).alloc _).alloc _
  have b1 : Blk wb (w.heap.size + 1) 39 #[.int .i64 X, .int .i64 Y, .int .i64 p, .int .i64 q, .slice B n c'] := by rw [hwb]; exact ((Blk.new_at _ _ _ (by simp)).alloc _).alloc _
  have b2 : Blk wb (w.heap.size + 2) 76 #[.int .i64 X, .int .i64 Y, .int .i64 p, .int .i64 mb, .slice M k cm] := by rw [hwb]; exact (Blk.new_at _ _ _ (by simp)).alloc _
  have b3 : Blk wb (w.heap.size + 3) 39 zfrm := by rw [hwb]; exact Blk.new_at _ _ _ (by simp)
  have hbe : Below w.heap.size w wb := by rw [hwb]; exact ((((Below.refl _ _).alloc (Nat.le_refl _) _).alloc (by simp) _).alloc (by simp; omega) _).alloc (by simp; omega) _
  have HB0 := hid b0
  have HB1 := hid b1
  have HB2 := hid b2
  have HB3 := hid b3
  have HBE := hid hbe
  have HWB := hid hwb
  have b3c := b3.set5 (.int .i64 0) (.int .i64 0) (.int .i64 0) (.int .i64 0) (.slice none 0 0)
  have HBK := hid b3c
  clear b0 b1 b2 b3 hbe hwb
  clear b3c
  go_enter Try.func59, Try.ntmps59
  go_wp2_with fail
  refine bodyPost_ret (v := .tuple #[.agg zfrm, .int .i64 5]) (results_row_tmp rfl _ _ _ _ _ _ rfl rfl (Blk.new_at _ _ _ (by simp)) Try.underlying39 rfl (by kernel_rfl)) rfl ?_
  exact ⟨rfl, ((((Below.refl _ _).alloc (Nat.le_refl _) _).alloc (by simp) _).alloc (by simp; omega) _).alloc (by simp; omega) _⟩

theorem thrr_apart (X Y X' Y' p' q' mx my ma mb : Int) (p q n c n' c' k cm : Nat) (A B M : Option Addr) (w : World) (hne : apartB X Y p q X' Y' p' q') :
    Calls Try.prog 59 #[frm X Y p q A n c, frm X' Y' p' q' B n' c', frm mx my ma mb M k cm] w (ErrOut w 5) := by
  rcases neq_reg hne with hq | ⟨e1, hq⟩ | ⟨e1, e2, hq⟩ | ⟨e1, e2, e3, hq⟩
  · exact thrr_apart0 X Y X' Y' p' q' mx my ma mb p q n c n' c' k cm A B M w hq
  · rw [e1]; exact thrr_apart1 X Y Y' p' q' mx my ma mb p q n c n' c' k cm A B M w hq
  · rw [e1, e2]; exact thrr_apart2 X Y p' q' mx my ma mb p q n c n' c' k cm A B M w hq
  · rw [e1, e2, e3]; exact thrr_apart3 X Y q' mx my ma mb p q n c n' c' k cm A B M w hq

theorem thrr_apartm (X Y mx my ma mb : Int) (p q n c c' k cm : Nat) (A B M : Option Addr) (w : World) (hne : apartB X Y p q mx my ma mb) :
    Calls Try.prog 59 #[frm X Y p q A n c, frm X Y p q B n c', frm mx my ma mb M k cm] w (ErrOut w 5) := by
  rcases neq_reg hne with hq | ⟨e1, hq⟩ | ⟨e1, e2, hq⟩ | ⟨e1, e2, e3, hq⟩
  · exact thrr_apartm0 X Y mx my ma mb p q n c c' k cm A B M w hq
  · rw [e1]; exact thrr_apartm1 X Y my ma mb p q n c c' k cm A B M w hq
  · rw [e1, e2]; exact thrr_apartm2 X Y ma mb p q n c c' k cm A B M w hq
  · rw [e1, e2, e3]; exact thrr_apartm3 X Y mb p q n c c' k cm A B M w hq

set_option maxRecDepth 100000 in
set_option maxHeartbeats 2000000 in
theorem mixr_same (X Y : Int) (p q n c c' t : Nat) (A B : Option Addr) (F G : Nat → Nat) (w : World) (hn : n ≤ 65536) (hn4 : n % 4 = 0) (hnc : n ≤ c) (hcm : c ≤ maxLen) (hn0 : 0 < n) (hF : Src w A n F) (hG : Src w B n G) :
    Calls Try.prog 56 #[frm X Y p q A n c, frm X Y p q B n c', .float .f32 t] w (FramedOk w X Y p q n fun i => cl (lerpC (F i) (G i) t)) := by
  obtain ⟨wb, hwb⟩ : ∃ wb, wb = (((w.alloc (.cells #[.int .i64 X, .int .i64 Y, .int .i64 p, .int .i64 q, .slice A n c] 39)).alloc (.cells #[.int .i64 X, .int .i64 Y, .int .i64 p, .int .i64 q, .slice B n c'] 39)).alloc (.cells #[.float .f32 t] 40)).alloc (.cells zfrm 39) := ⟨_, rfl⟩
  have b0 : Blk wb w.heap.size 39 #[.int .i64 X, .int .i64 Y, .int .i64 p, .int .i64 q, .slice A n c] := by rw [hwb]; exact (((Blk.new_at _ _ _ rfl).alloc _).alloc _).alloc _
  have b1 : Blk wb (w.heap.size + 1) 39 #[.int .i64 X, .int .i64 Y, .int .i64 p, .int .i64 q, .slice B n c'] := by rw [hwb]; exact ((Blk.new_at _ _ _ (by simp)).alloc _).alloc _
  have b2 : Blk wb (w.heap.size + 2) 40 #[.float .f32 t] := by rw [hwb]; exact (Blk.new_at _ _ _ (by simp)).alloc _
  have b3 : Blk wb (w.heap.size + 3) 39 zfrm := by rw [hwb]; exact Blk.new_at _ _ _ (by simp)
  have hbe : Below w.heap.size w wb := by rw [hwb]; exact ((((Below.refl _ _).alloc (Nat.le_refl _) _).alloc (by simp) _).alloc (by simp; omega) _).alloc (by simp; omega) _
  have HB0 := hid b0
  have HB1 := hid b1
  have HB2 := hid b2
  have HB3 := hid b3
  have HBE := hid hbe
  have HWB := hid hwb
  have HE := hid (both_any 118 #[.pointer (some ⟨w.heap.size + 2, 0, none⟩)] enters_mixr X Y X Y p q p q n c n c' A B F G (fun i => cl (lerpC (F i) (G i) t)) wb hn hn4 hnc hcm hn0 (Nat.le_refl _) (hF.below hbe) (hG.below hbe) fun i w1 hi hw1 =>
    mixr_any (F i) (G i) t (w.heap.size + 2) _ _ w1 (b2.below hw1 b2.lt))
  clear b0 b1 b2 b3 hbe hF hG
  have hmf : ∀ (fn : Fn) (first cap : Array Value) (w : World), (Instr.makeFunc fn first cap).run Try.prog w = .ok (.func fn first cap) w := fun _ _ _ _ => rfl
  clear hwb
  go_enter Try.func56, Try.ntmps56
  go_wp2_with fail
  rw [← HWB.out]
  refine HE.out.mono ?_
  rintro e w4 ⟨g, d, rfl, q1, q2, q3, q4, q5, q6⟩
  have k3 := HB3.out.below q6 HB3.out.lt
  have z0 := k3.cell 0
  have z1 := k3.cell 1
  have z2 := k3.cell 2
  have z3 := k3.cell 3
  have z4 := k3.cell 4
  have fz := fun i => k3.frozen i
  simp at z0 z1 z2 z3 z4
  have hblk := k3.set5 (.int .i64 X) (.int .i64 Y) (.int .i64 p) (.int .i64 q) (.slice (some ⟨g, 0, none⟩) n d)
  have HBK := hid hblk
  have HQ := hid (And.intro q5 (below_to HBE.out q6))
  have l3 := HB3.out.lt
  clear hblk k3 q5 q6
  go_wp2_with fail
  refine bodyPost_ret (v := .tuple #[frm X Y p q (some ⟨g, 0, none⟩) n d, .int .i64 0]) (results_row_tmp rfl _ _ _ _ _ _ rfl rfl HBK.out Try.underlying39 rfl (by kernel_rfl)) rfl ?_
  have hsz := HBE.out.size
  exact ⟨g, d, rfl, q1, q2, by omega, by rw [size_set5]; exact q4, HQ.out.1.far5 (by omega) _ _ _ _ _, below_set5 HQ.out.2 (by omega) _ _ _ _ _⟩

set_option maxRecDepth 100000 in
set_option maxHeartbeats 2000000 in
theorem thrr_same (X Y : Int) (p q n c c' k cm : Nat) (A B M : Option Addr) (F G H : Nat → Nat) (w : World) (h1 : frmE X Y p q n = 0) (hm : matE X Y p q k = 0) (hn : n ≤ 65536) (hn4 : n % 4 = 0) (hnc : n ≤ c) (hcm : c ≤ maxLen) (hn0 : 0 < n) (hF : Src w A n F) (hG : Src w B n G) (hH : Src w M k H) :
    Calls Try.prog 59 #[frm X Y p q A n c, frm X Y p q B n c', frm X Y p q M k cm] w (FramedOk w X Y p q n fun i => cl (lerpC (F i) (G i) (H (i / 4)))) := by
  obtain ⟨wb, hwb⟩ : ∃ wb, wb = (((w.alloc (.cells #[.int .i64 X, .int .i64 Y, .int .i64 p, .int .i64 q, .slice A n c] 39)).alloc (.cells #[.int .i64 X, .int .i64 Y, .int .i64 p, .int .i64 q, .slice B n c'] 39)).alloc (.cells #[.int .i64 X, .int .i64 Y, .int .i64 p, .int .i64 q, .slice M k cm] 76)).alloc (.cells zfrm 39) := ⟨_, rfl⟩
  have b0 : Blk wb w.heap.size 39 #[.int .i64 X, .int .i64 Y, .int .i64 p, .int .i64 q, .slice A n c] := by rw [hwb]; exact (((Blk.new_at _ _ _ rfl).alloc _).alloc _).alloc _
  have b1 : Blk wb (w.heap.size + 1) 39 #[.int .i64 X, .int .i64 Y, .int .i64 p, .int .i64 q, .slice B n c'] := by rw [hwb]; exact ((Blk.new_at _ _ _ (by simp)).alloc _).alloc _
  have b2 : Blk wb (w.heap.size + 2) 76 #[.int .i64 X, .int .i64 Y, .int .i64 p, .int .i64 q, .slice M k cm] := by rw [hwb]; exact (Blk.new_at _ _ _ (by simp)).alloc _
  have b3 : Blk wb (w.heap.size + 3) 39 zfrm := by rw [hwb]; exact Blk.new_at _ _ _ (by simp)
  have hbe : Below w.heap.size w wb := by rw [hwb]; exact ((((Below.refl _ _).alloc (Nat.le_refl _) _).alloc (by simp) _).alloc (by simp; omega) _).alloc (by simp; omega) _
  have HB0 := hid b0
  have HB1 := hid b1
  have HB2 := hid b2
  have HB3 := hid b3
  have HBE := hid hbe
  have HWB := hid hwb
  have hk : n / 4 ≤ k ∧ n ≤ 4 * k := by
    obtain ⟨_, e1⟩ := frmE_zero h1
    obtain ⟨_, e2⟩ := matE_zero hm
    rw [Int.mul_assoc, ← e2] at e1
    omega
  have HE := hid (both_any 124 #[.pointer (some ⟨w.heap.size + 2, 0, none⟩)] enters_throughr X Y X Y p q p q n c n c' A B F G (fun i => cl (lerpC (F i) (G i) (H (i / 4)))) wb hn hn4 hnc hcm hn0 (Nat.le_refl _) (hF.below hbe) (hG.below hbe) fun i w1 hi hw1 =>
    throughr_any (F i) (G i) _ X Y p q k cm (i / 4) (w.heap.size + 2) M H w1 (by omega) ((hH.below hbe).below hw1) (b2.below hw1 b2.lt))
  clear b0 b1 b2 b3 hbe hF hG hH hk h1 hm
  have hmf : ∀ (fn : Fn) (first cap : Array Value) (w : World), (Instr.makeFunc fn first cap).run Try.prog w = .ok (.func fn first cap) w := fun _ _ _ _ => rfl
  clear hwb
  go_enter Try.func59, Try.ntmps59
  go_wp2_with fail
  rw [← HWB.out]
  refine HE.out.mono ?_
  rintro e w4 ⟨g, d, rfl, q1, q2, q3, q4, q5, q6⟩
  have k3 := HB3.out.below q6 HB3.out.lt
  have z0 := k3.cell 0
  have z1 := k3.cell 1
  have z2 := k3.cell 2
  have z3 := k3.cell 3
  have z4 := k3.cell 4
  have fz := fun i => k3.frozen i
  simp at z0 z1 z2 z3 z4
  have hblk := k3.set5 (.int .i64 X) (.int .i64 Y) (.int .i64 p) (.int .i64 q) (.slice (some ⟨g, 0, none⟩) n d)
  have HBK := hid hblk
  have HQ := hid (And.intro q5 (below_to HBE.out q6))
  have l3 := HB3.out.lt
  clear hblk k3 q5 q6
  go_wp2_with fail
  refine bodyPost_ret (v := .tuple #[frm X Y p q (some ⟨g, 0, none⟩) n d, .int .i64 0]) (results_row_tmp rfl _ _ _ _ _ _ rfl rfl HBK.out Try.underlying39 rfl (by kernel_rfl)) rfl ?_
  have hsz := HBE.out.size
  exact ⟨g, d, rfl, q1, q2, by omega, by rw [size_set5]; exact q4, HQ.out.1.far5 (by omega) _ _ _ _ _, below_set5 HQ.out.2 (by omega) _ _ _ _ _⟩
end Go.Proofs.Ytoahfnfmhgeooaa
