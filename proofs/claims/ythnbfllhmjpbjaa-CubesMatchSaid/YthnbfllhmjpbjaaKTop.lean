/-
  Cubes: Tetra, Linear and Entry of the program.
-/
import Derived.Test.YthnbfllhmjpbjaaKLook
import Derived.Test.YthnbfllhmjpbjaaKLin
import Derived.Test.YthnbfllhmjpbjaaKTet
namespace Go.Proofs.Ythnbfllhmjpbjaa
open Go.RowKit
attribute [local go_sem] run_store_float

theorem results_row_tmp {P : Program} {fn : Func} {p u : Tmp} {ty : TypeId} (h : fn.results = #[.cell p ty, .tmp u]) (tmps : Array Value) (w : World) (g : Nat) (t : TypeId) (cs : Array Value) (d : TypeDesc)
    (hp : tmps.getD p undef = .pointer (some ⟨g, 0, none⟩)) {v2 : Value} (hv : tmps.getD u undef = v2) (hg : Blk w g t cs)
    (hu : P.underlying ty = some d) (hd : (match d with | .struct _ | .array _ _ => true | _ => false) = true) (hi : (P.info? ty).map (·.size) = some cs.size) :
    (results fn tmps).run P w = .ok (.tuple #[.agg cs, v2]) w := by
  subst hv
  rw [results_cell_tmp h, hp]
  simp [asAddr, run_loadVar_row (P := P) w g t ty cs (0, 0) d hg hu hd hi]

theorem enters_tet (args : Array Value) (w : World) : (callFunc 69 args).run Try.prog w = .ok (.enter 69 args) w := enters_of Try.func69 (by kernel_rfl) rfl args w
theorem enters_lin (args : Array Value) (w : World) : (callFunc 70 args).run Try.prog w = .ok (.enter 70 args) w := enters_of Try.func70 (by kernel_rfl) rfl args w
theorem enters_entry1 (args : Array Value) (w : World) : (callFunc 67 args).run Try.prog w = .ok (.enter 67 args) w := enters_of Try.func67 (by kernel_rfl) rfl args w

theorem sp_cell {s L H : Nat} (p : Nat → Nat) (h1 : 2 ≤ (s : Int)) (h2 : (s : Int) ≤ 17) : ∀ k, k < 3 → spN s L H p k + 2 ≤ s := fun k _ => by
  have := pl_wf (L := L) (H := H) (p k) h1 h2
  unfold spN; omega
theorem sp_share {s L H : Nat} (p : Nat → Nat) (h1 : 2 ≤ (s : Int)) (h2 : (s : Int) ≤ 17) : ∀ k, k < 3 → isN .f32 (spX s L H p k) = false := fun k _ => fin_not_nan (pl_wf (L := L) (H := H) (p k) h1 h2).2.2

def tetP (s L H : Nat) (F p : Nat → Nat) : Nat → Nat := lookC (tetC s F (spN s L H p) (spX s L H p)) p
def linP (s L H : Nat) (F p : Nat → Nat) : Nat → Nat := lookC (linC s F (spN s L H p) (spX s L H p)) p

def PixE (f : Nat → Nat) (E : Int) (w : World) (e : Ending) (w' : World) : Prop := e = .returned (.tuple #[pix f, .int .i64 E]) ∧ Below w.heap.size w w'

set_option maxRecDepth 100000 in
set_option maxHeartbeats 2000000 in
theorem tetraT_any (s L H n c : Nat) (A : Option Addr) (F p : Nat → Nat) (w : World) (hC : CubOk s L H n) (hnc : n ≤ c) (hF : Src w A n F) :
    Calls Try.prog 12 #[cub s L H A n c, pix p] w (PixE (tetP s L H F p) 0 w) := by
  have z1 : (cubE s L H n != 0) = false := by rw [hC.zero]; rfl
  have hl : ∀ w1, Below w.heap.size w w1 → Calls Try.prog 68 #[cub s L H A n c, .func (.func 69) #[] #[], pix p] w1 fun e w' => e = .returned (pix (tetP s L H F p)) ∧ Below w1.heap.size w1 w' := fun w1 h1 =>
    looked_any 69 enters_tet s L H n c A p _ w1 hC fun _ w2 h2 => tetra_any s L H n c A F _ _ w2 hC (sp_cell p hC.s1 hC.s2) (sp_share p hC.s1 hC.s2) hnc (hF.below (below_to h1 h2))
  have HL := hid hl
  clear hl hC hF
  rw [pix_cells p] at *
  go_enter Try.func12, Try.ntmps12
  obtain ⟨W0, hW0⟩ : ∃ W0, ((w.alloc (.cells #[.int .i64 s, .float .f32 L, .float .f32 H, .slice A n c] 25)).alloc (.cells (pA p) 27)).alloc (.cells zpix 27) = W0 := ⟨_, rfl⟩
  have q0 : Blk W0 w.heap.size 25 #[.int .i64 s, .float .f32 L, .float .f32 H, .slice A n c] := by rw [← hW0]; exact ((Blk.new_at _ _ _ rfl).alloc _).alloc _
  have q1 : Blk W0 (w.heap.size + 1) 27 (pA p) := by rw [← hW0]; exact (Blk.new_at _ _ _ (by simp)).alloc _
  have q2 : Blk W0 (w.heap.size + 1 + 1) 27 zpix := by rw [← hW0]; exact Blk.new_at _ _ _ (by simp)
  have q3 : Below w.heap.size w W0 := by rw [← hW0]; exact (((Below.refl _ _).alloc (Nat.le_refl _) _).alloc (by simp) _).alloc (by simp; omega) _
  have HW := hid hW0
  have Q0 := hid q0
  have Q1 := hid q1
  have Q2 := hid q2
  have Q3 := hid q3
  clear hW0 q0 q1 q2 q3
  go_wp2_with fail
  rw [HW.out]
  refine (check_any _ _ _ _ _ _ _).mono ?_
  rintro e w1 ⟨rfl, hb1⟩
  have r0 := Q0.out.below hb1 Q0.out.lt
  have r1 := Q1.out.below hb1 Q1.out.lt
  have R2 := hid (Q2.out.below hb1 Q2.out.lt)
  have R3 := hid (below_to Q3.out hb1)
  have c0 := r0.cell 0
  have c1 := r0.cell 1
  have c2 := r0.cell 2
  have c3 := r0.cell 3
  have d0 := r1.cell 0
  have d1 := r1.cell 1
  have d2 := r1.cell 2
  have d3 := r1.cell 3
  simp at c0 c1 c2 c3 d0 d1 d2 d3
  clear hb1 r0 r1 Q0 Q1 Q2 Q3 HW
  go_wp2_with fail
  refine (HL.out w1 R3.out).mono ?_
  rintro e w2 ⟨rfl, hb2⟩
  have y := R2.out.below hb2 R2.out.lt
  have HY := hid y
  have HE := hid (below_to R3.out hb2)
  have y0 := y.cell 0
  have y1 := y.cell 1
  have y2 := y.cell 2
  have y3 := y.cell 3
  have yf := fun i => y.frozen i
  simp at y0 y1 y2 y3
  rw [pix_cells (tetP s L H F p)]
  clear hb2 y c0 c1 c2 c3 d0 d1 d2 d3 R2 R3
  go_wp2
  have hblk := HY.out.set4 (.float .f32 (tetP s L H F p 0)) (.float .f32 (tetP s L H F p 1)) (.float .f32 (tetP s L H F p 2)) (.float .f32 (tetP s L H F p 3))
  have hb := below_set4 HE.out (g := w.heap.size + 1 + 1) (by omega) (.float .f32 (tetP s L H F p 0)) (.float .f32 (tetP s L H F p 1)) (.float .f32 (tetP s L H F p 2)) (.float .f32 (tetP s L H F p 3))
  exact bodyPost_ret (v := .tuple #[pix (tetP s L H F p), .int .i64 0]) (results_row_tmp rfl _ _ _ _ _ _ rfl rfl hblk Try.underlying27 rfl (by kernel_rfl)) rfl ⟨rfl, hb⟩

set_option maxRecDepth 100000 in
set_option maxHeartbeats 2000000 in
theorem linearL_any (s L H n c : Nat) (A : Option Addr) (F p : Nat → Nat) (w : World) (hC : CubOk s L H n) (hnc : n ≤ c) (hF : Src w A n F) :
    Calls Try.prog 13 #[cub s L H A n c, pix p] w (PixE (linP s L H F p) 0 w) := by
  have z1 : (cubE s L H n != 0) = false := by rw [hC.zero]; rfl
  have hl : ∀ w1, Below w.heap.size w w1 → Calls Try.prog 68 #[cub s L H A n c, .func (.func 70) #[] #[], pix p] w1 fun e w' => e = .returned (pix (linP s L H F p)) ∧ Below w1.heap.size w1 w' := fun w1 h1 =>
    looked_any 70 enters_lin s L H n c A p _ w1 hC fun _ w2 h2 => linear_any s L H n c A F _ _ w2 hC (sp_cell p hC.s1 hC.s2) hnc (hF.below (below_to h1 h2))
  have HL := hid hl
  clear hl hC hF
  rw [pix_cells p] at *
  go_enter Try.func13, Try.ntmps13
  obtain ⟨W0, hW0⟩ : ∃ W0, ((w.alloc (.cells #[.int .i64 s, .float .f32 L, .float .f32 H, .slice A n c] 25)).alloc (.cells (pA p) 27)).alloc (.cells zpix 27) = W0 := ⟨_, rfl⟩
  have q0 : Blk W0 w.heap.size 25 #[.int .i64 s, .float .f32 L, .float .f32 H, .slice A n c] := by rw [← hW0]; exact ((Blk.new_at _ _ _ rfl).alloc _).alloc _
  have q1 : Blk W0 (w.heap.size + 1) 27 (pA p) := by rw [← hW0]; exact (Blk.new_at _ _ _ (by simp)).alloc _
  have q2 : Blk W0 (w.heap.size + 1 + 1) 27 zpix := by rw [← hW0]; exact Blk.new_at _ _ _ (by simp)
  have q3 : Below w.heap.size w W0 := by rw [← hW0]; exact (((Below.refl _ _).alloc (Nat.le_refl _) _).alloc (by simp) _).alloc (by simp; omega) _
  have HW := hid hW0
  have Q0 := hid q0
  have Q1 := hid q1
  have Q2 := hid q2
  have Q3 := hid q3
  clear hW0 q0 q1 q2 q3
  go_wp2_with fail
  rw [HW.out]
  refine (check_any _ _ _ _ _ _ _).mono ?_
  rintro e w1 ⟨rfl, hb1⟩
  have r0 := Q0.out.below hb1 Q0.out.lt
  have r1 := Q1.out.below hb1 Q1.out.lt
  have R2 := hid (Q2.out.below hb1 Q2.out.lt)
  have R3 := hid (below_to Q3.out hb1)
  have c0 := r0.cell 0
  have c1 := r0.cell 1
  have c2 := r0.cell 2
  have c3 := r0.cell 3
  have d0 := r1.cell 0
  have d1 := r1.cell 1
  have d2 := r1.cell 2
  have d3 := r1.cell 3
  simp at c0 c1 c2 c3 d0 d1 d2 d3
  clear hb1 r0 r1 Q0 Q1 Q2 Q3 HW
  go_wp2_with fail
  refine (HL.out w1 R3.out).mono ?_
  rintro e w2 ⟨rfl, hb2⟩
  have y := R2.out.below hb2 R2.out.lt
  have HY := hid y
  have HE := hid (below_to R3.out hb2)
  have y0 := y.cell 0
  have y1 := y.cell 1
  have y2 := y.cell 2
  have y3 := y.cell 3
  have yf := fun i => y.frozen i
  simp at y0 y1 y2 y3
  rw [pix_cells (linP s L H F p)]
  clear hb2 y c0 c1 c2 c3 d0 d1 d2 d3 R2 R3
  go_wp2
  have hblk := HY.out.set4 (.float .f32 (linP s L H F p 0)) (.float .f32 (linP s L H F p 1)) (.float .f32 (linP s L H F p 2)) (.float .f32 (linP s L H F p 3))
  have hb := below_set4 HE.out (g := w.heap.size + 1 + 1) (by omega) (.float .f32 (linP s L H F p 0)) (.float .f32 (linP s L H F p 1)) (.float .f32 (linP s L H F p 2)) (.float .f32 (linP s L H F p 3))
  exact bodyPost_ret (v := .tuple #[pix (linP s L H F p), .int .i64 0]) (results_row_tmp rfl _ _ _ _ _ _ rfl rfl hblk Try.underlying27 rfl (by kernel_rfl)) rfl ⟨rfl, hb⟩
end Go.Proofs.Ythnbfllhmjpbjaa
