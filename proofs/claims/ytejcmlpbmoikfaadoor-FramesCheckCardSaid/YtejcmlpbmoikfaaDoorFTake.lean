/-
  Take, Clean, and the errors of At, Print and Total, in the program.
-/
import Derived.Test.YtejcmlpbmoikfaaDoorFAt
namespace Go.Proofs.YtejcmlpbmoikfaaDoor
open Go.RowKit Go.Shelf
attribute [local go_sem] run_store_float

set_option maxRecDepth 100000 in
theorem take_short (B : Option Addr) (m d : Nat) (w : World) (hm : m < 4) : Calls Tryd.prog 7 #[.slice B m d] w (PixOut w 2 fun _ => 0) := by
  have h1 : (m : Int) < 4 := by omega
  have HBK : RowKit.Hid (Blk (w.alloc (.cells zpix 32)) w.heap.size 32 zpix) := Blk.new_at _ _ _ rfl
  go_enter Tryd.func7, Tryd.ntmps7
  go_wp2_with fail
  refine bodyPost_ret (v := .tuple #[pix fun _ => 0, .int .i64 2]) (results_row_tmp rfl _ _ _ _ _ _ rfl rfl HBK.out Tryd.underlying32 rfl (by kernel_rfl)) rfl ⟨rfl, ?_⟩
  exact (Below.refl _ _).alloc (Nat.le_refl _) _

set_option maxRecDepth 100000 in
theorem take_long (B : Option Addr) (m d : Nat) (G : Nat → Nat) (w : World) (hm : 4 ≤ m) (hmd : m ≤ d) (hd : d ≤ maxLen) (hG : Src w B m G) : Calls Tryd.prog 7 #[.slice B m d] w (PixOut w 0 G) := by
  obtain ⟨b, off, rfl, hb, hR⟩ := hG (by omega)
  have h1 : ¬ (m : Int) < 4 := by omega
  have h2 : (4 : Int) ≤ (d : Int) := by omega
  unfold maxLen at hd
  have d0 := hR 0 (by omega)
  have d1 := hR 1 (by omega)
  have d2 := hR 2 (by omega)
  have d3 := hR 3 (by omega)
  rw [Nat.add_zero] at d0
  have harr := fun (w : World) (a : Option Addr) (cp : Nat) => run_arrayAt (P := Tryd.prog) w 32 30 4 a 4 cp Tryd.underlying32 (Nat.le_refl 4)
  have HBK : RowKit.Hid (Blk (w.alloc (.cells (pixC G) 32)) w.heap.size 32 (pixC G)) := Blk.new_at _ _ _ rfl
  clear hR
  go_enter Tryd.func7, Tryd.ntmps7
  go_wp2_with fail
  refine bodyPost_ret (v := .tuple #[pix G, .int .i64 0]) (results_row_tmp rfl _ _ _ _ _ _ rfl rfl HBK.out Tryd.underlying32 rfl (by kernel_rfl)) rfl ⟨rfl, ?_⟩
  exact (Below.refl _ _).alloc (Nat.le_refl _) _

set_option maxRecDepth 100000 in
set_option maxHeartbeats 1000000 in
theorem clean_bad (X Y p q : Int) (n c : Nat) (A : Option Addr) (w : World) (h : ¬ frmE X Y p q n = 0) : Calls Tryd.prog 9 #[frm X Y p q A n c] w (ErrOut w (frmE X Y p q n)) := by
  have z1 : (frmE X Y p q n != 0) = true := by simp [h]
  clear h
  go_enter Tryd.func9, Tryd.ntmps9
  go_wp2_with fail
  refine (check_any _ _ _ _ _ _ _ _).mono ?_
  rintro e w1 ⟨rfl, hb⟩
  have hr : Blk w1 (w.heap.size + 1) 26 zfrm := (Blk.new_at _ _ _ (by simp)).below hb (by simp)
  have HBE : RowKit.Hid (Below w.heap.size w w1) := (((Below.refl _ _).alloc (Nat.le_refl _) _).alloc (by simp) _).trans (hb.mono (by simp; omega))
  have z2 := hr.cell 0
  have z3 := hr.cell 1
  have z4 := hr.cell 2
  have z5 := hr.cell 3
  have z6 := hr.cell 4
  have fz := fun i => hr.frozen i
  simp at z2 z3 z4 z5 z6
  have HBK := hid (hr.set5 (.int .i64 0) (.int .i64 0) (.int .i64 0) (.int .i64 0) (.slice none 0 0))
  clear hb hr
  go_wp2_with fail
  refine bodyPost_ret (v := .tuple #[.agg zfrm, .int .i64 (frmE X Y p q n)]) (results_row_tmp rfl _ _ _ _ _ _ rfl rfl HBK.out Tryd.underlying26 rfl (by kernel_rfl)) rfl ?_
  exact ⟨rfl, below_set5 HBE.out (by omega) _ _ _ _ _⟩

set_option maxRecDepth 100000 in
set_option maxHeartbeats 1000000 in
theorem clean_ok (X Y : Int) (p q n c : Nat) (A : Option Addr) (F : Nat → Nat) (w : World) (h : frmE X Y p q n = 0) (hF : Src w A n F) : Calls Tryd.prog 9 #[frm X Y p q A n c] w (FramedOk w X Y p q n fun t => cl (F t)) := by
  have z1 : (frmE X Y p q n != 0) = false := by simp [h]
  obtain ⟨hr1, hn4⟩ := frmE_zero h
  obtain ⟨p1, p2, q1, q2, pq, x1, x2, y1, y2⟩ := regE_zero hr1
  have hn2 : n ≤ 65536 := by rw [Int.mul_assoc] at hn4; omega
  have HN := hid hn2
  have HCL : RowKit.Hid (∀ w1, Below w.heap.size w w1 → Calls Tryd.prog 22 #[frm X Y p q A n c] w1 (FRow w1 X Y p q n fun t => cl (F t))) := hid fun w1 h => cleaned_any X Y p q n c A F w1 hn2 (hF.below h)
  clear h hr1 hn4 hn2 hF pq
  have hz : Blk ((w.alloc (.cells #[.int .i64 X, .int .i64 Y, .int .i64 p, .int .i64 q, .slice A n c] 26)).alloc (.cells zfrm 26)) (w.heap.size + 1) 26 zfrm := Blk.new_at _ _ _ (by simp)
  have hf : Blk ((w.alloc (.cells #[.int .i64 X, .int .i64 Y, .int .i64 p, .int .i64 q, .slice A n c] 26)).alloc (.cells zfrm 26)) w.heap.size 26 #[.int .i64 X, .int .i64 Y, .int .i64 p, .int .i64 q, .slice A n c] := (Blk.new_at _ _ _ rfl).alloc _
  have hbe : Below w.heap.size w ((w.alloc (.cells #[.int .i64 X, .int .i64 Y, .int .i64 p, .int .i64 q, .slice A n c] 26)).alloc (.cells zfrm 26)) := ((Below.refl _ _).alloc (Nat.le_refl _) _).alloc (by simp) _
  have HZ := hid hz
  have HFB := hid hf
  have HB := hid hbe
  clear hz hf hbe
  go_enter Tryd.func9, Tryd.ntmps9
  go_wp2_with fail
  refine (check_any _ _ _ _ _ _ _ _).mono ?_
  rintro e w1 ⟨rfl, hb⟩
  have HZ1 := hid (HZ.out.below hb HZ.out.lt)
  have hf1 := HFB.out.below hb HFB.out.lt
  have HB1 := hid (below_to HB.out hb)
  have f0 := hf1.cell 0
  have f1 := hf1.cell 1
  have f2 := hf1.cell 2
  have f3 := hf1.cell 3
  have f4 := hf1.cell 4
  simp at f0 f1 f2 f3 f4
  have lf := hf1.lt
  clear hf1 hb
  go_wp2_with fail
  refine (HCL.out _ HB1.out).mono ?_
  rintro e w2 ⟨S, rfl, hS, hrow, hb⟩
  have hz2 := HZ1.out.below hb HZ1.out.lt
  have z2 := hz2.cell 0
  have z3 := hz2.cell 1
  have z4 := hz2.cell 2
  have z5 := hz2.cell 3
  have z6 := hz2.cell 4
  have fz := fun i => hz2.frozen i
  simp at z2 z3 z4 z5 z6
  have HBK := hid (hz2.set5 (.int .i64 X) (.int .i64 Y) (.int .i64 p) (.int .i64 q) (.slice (some ⟨S, 0, none⟩) n n))
  have HB2 := hid (below_to HB1.out hb)
  have HROW := hid hrow
  have hsz : w.heap.size + 1 < S := Nat.lt_of_lt_of_le HZ1.out.lt hS
  have HSZ := hid hsz
  clear hz2 hb hS hrow hsz f0 f1 f2 f3 f4 lf
  go_wp2_with fail
  refine bodyPost_ret (v := .tuple #[frm X Y p q (some ⟨S, 0, none⟩) n n, .int .i64 0]) (results_row_tmp rfl _ _ _ _ _ _ rfl rfl HBK.out Tryd.underlying26 rfl (by kernel_rfl)) rfl ?_
  have hl := HROW.out.lt
  have hs := HSZ.out
  have hn := HN.out
  refine ⟨S, n, rfl, Nat.le_refl _, by unfold maxLen; omega, by omega, by rw [size_set5]; exact hl, ?_, below_set5 HB2.out (by omega) _ _ _ _ _⟩
  have hrd : Rd w2 S 0 n (fun t => cl (F t)) := fun t ht => by
    rw [Nat.zero_add, HROW.out.cell ht]
  exact hrd.far5 (by omega) _ _ _ _ _

set_option maxRecDepth 100000 in
set_option maxHeartbeats 1000000 in
theorem checkPixel_bad (X Y p q x y : Int) (n c : Nat) (A : Option Addr) (w : World) (h : ¬ frmE X Y p q n = 0) :
    Calls Tryd.prog 23 #[frm X Y p q A n c, .int .i64 x, .int .i64 y] w fun e w' => e = .returned (.int .i64 (frmE X Y p q n)) ∧ Below w.heap.size w w' := by
  have g1 : (frmE X Y p q n != 0) = true := by simp [h]
  clear h
  go_enter Tryd.func23, Tryd.ntmps23
  go_wp2_with fail
  refine (check_any _ _ _ _ _ _ _ _).mono ?_
  rintro e w1 ⟨rfl, hb⟩
  have HBE := hid (below_box hb)
  clear hb
  go_wp2_with fail
  go_ret
  exact ⟨rfl, HBE.out⟩

set_option maxRecDepth 100000 in
set_option maxHeartbeats 1000000 in
theorem at_bad (X Y p q x y : Int) (n c : Nat) (A : Option Addr) (w : World) (h : ¬ frmE X Y p q n = 0) :
    Calls Tryd.prog 10 #[frm X Y p q A n c, .int .i64 x, .int .i64 y] w (PixOut w (frmE X Y p q n) (fun _ => 0)) := by
  have z9 : (frmE X Y p q n != 0) = true := by simp [h]
  have HC : RowKit.Hid (∀ w, Calls Tryd.prog 23 #[frm X Y p q A n c, .int .i64 x, .int .i64 y] w fun e w' => e = .returned (.int .i64 (frmE X Y p q n)) ∧ Below w.heap.size w w') := hid fun w => checkPixel_bad X Y p q x y n c A w h
  have HZ : RowKit.Hid (Blk ((w.alloc (.cells #[.int .i64 X, .int .i64 Y, .int .i64 p, .int .i64 q, .slice A n c] 26)).alloc (.cells zpix 32)) (w.heap.size + 1) 32 zpix) := Blk.new_at _ _ _ (by simp)
  have HB : RowKit.Hid (Below w.heap.size w ((w.alloc (.cells #[.int .i64 X, .int .i64 Y, .int .i64 p, .int .i64 q, .slice A n c] 26)).alloc (.cells zpix 32))) := ((Below.refl _ _).alloc (Nat.le_refl _) _).alloc (by simp) _
  clear h
  go_enter Tryd.func10, Tryd.ntmps10
  go_wp2_with fail
  refine (HC.out _).mono ?_
  rintro e w1 ⟨rfl, hb⟩
  have hz := HZ.out.below hb HZ.out.lt
  have z0 := hz.cell 0
  have z1 := hz.cell 1
  have z2 := hz.cell 2
  have z3 := hz.cell 3
  have fz := fun i => hz.frozen i
  simp at z0 z1 z2 z3
  have HBK := hid (hz.set4 (.float .f32 0) (.float .f32 0) (.float .f32 0) (.float .f32 0))
  have HE := hid (below_to HB.out hb)
  clear hz hb
  go_wp2_with fail
  refine bodyPost_ret (v := .tuple #[pix fun _ => 0, .int .i64 (frmE X Y p q n)]) (results_row_tmp rfl _ _ _ _ _ _ rfl rfl HBK.out Tryd.underlying32 rfl (by kernel_rfl)) rfl ⟨rfl, ?_⟩
  exact below_set4 HE.out (by omega) _ _ _ _

set_option maxRecDepth 100000 in
set_option maxHeartbeats 1000000 in
theorem total_bad (X Y p q : Int) (n c : Nat) (A : Option Addr) (w : World) (h : ¬ frmE X Y p q n = 0) :
    Calls Tryd.prog 12 #[frm X Y p q A n c] w (PixOut w (frmE X Y p q n) (fun _ => 0)) := by
  have z9 : (frmE X Y p q n != 0) = true := by simp [h]
  have HZ : RowKit.Hid (Blk ((w.alloc (.cells #[.int .i64 X, .int .i64 Y, .int .i64 p, .int .i64 q, .slice A n c] 26)).alloc (.cells zpix 32)) (w.heap.size + 1) 32 zpix) := Blk.new_at _ _ _ (by simp)
  have HB : RowKit.Hid (Below w.heap.size w ((w.alloc (.cells #[.int .i64 X, .int .i64 Y, .int .i64 p, .int .i64 q, .slice A n c] 26)).alloc (.cells zpix 32))) := ((Below.refl _ _).alloc (Nat.le_refl _) _).alloc (by simp) _
  clear h
  go_enter Tryd.func12, Tryd.ntmps12
  go_wp2_with fail
  refine (check_any _ _ _ _ _ _ _ _).mono ?_
  rintro e w1 ⟨rfl, hb⟩
  have hz := HZ.out.below hb HZ.out.lt
  have z0 := hz.cell 0
  have z1 := hz.cell 1
  have z2 := hz.cell 2
  have z3 := hz.cell 3
  have fz := fun i => hz.frozen i
  simp at z0 z1 z2 z3
  have HBK := hid (hz.set4 (.float .f32 0) (.float .f32 0) (.float .f32 0) (.float .f32 0))
  have HE := hid (below_to HB.out hb)
  clear hz hb
  go_wp2_with fail
  refine bodyPost_ret (v := .tuple #[pix fun _ => 0, .int .i64 (frmE X Y p q n)]) (results_row_tmp rfl _ _ _ _ _ _ rfl rfl HBK.out Tryd.underlying32 rfl (by kernel_rfl)) rfl ⟨rfl, ?_⟩
  exact below_set4 HE.out (by omega) _ _ _ _

set_option maxRecDepth 100000 in
set_option maxHeartbeats 1000000 in
theorem print_bad (X Y p q : Int) (n c : Nat) (A : Option Addr) (w : World) (h : ¬ frmE X Y p q n = 0) :
    Calls Tryd.prog 11 #[frm X Y p q A n c] w fun e w' => (∃ s, e = .returned (.tuple #[s, .int .i64 (frmE X Y p q n)])) ∧ Below w.heap.size w w' := by
  have z9 : (frmE X Y p q n != 0) = true := by simp [h]
  clear h
  go_enter Tryd.func11, Tryd.ntmps11
  go_wp2_with fail
  refine (check_any _ _ _ _ _ _ _ _).mono ?_
  rintro e w1 ⟨rfl, hb⟩
  have HBE := hid (below_box hb)
  clear hb
  go_wp2_with fail
  go_ret2
  exact ⟨⟨_, rfl⟩, HBE.out⟩
end Go.Proofs.YtejcmlpbmoikfaaDoor
