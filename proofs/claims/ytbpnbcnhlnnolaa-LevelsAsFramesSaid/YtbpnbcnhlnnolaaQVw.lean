/-
  Vignettes: the function values; the reference's pixel.
-/
import Derived.Test.YtbpnbcnhlnnolaaQVg
import Derived.Lib.ItoaWalk
namespace Go.Proofs.Ytbpnbcnhlnnolaa
open Go.RowKit Go.Shelf
open Ieee (Datum Format signed)
attribute [local go_sem] run_store_float

theorem enters_dark1 (args : Array Value) (w : World) : (callFunc 130 args).run Try.prog w = .ok (.enter 130 args) w := enters_of Try.func130 (by kernel_rfl) rfl args w
theorem enters_vig11 (args : Array Value) (w : World) : (callFunc 126 args).run Try.prog w = .ok (.enter 126 args) w := enters_of Try.func126 (by kernel_rfl) rfl args w
theorem enters_vig1 (args : Array Value) (w : World) : (callFunc 124 args).run Try.prog w = .ok (.enter 124 args) w := enters_of Try.func124 (by kernel_rfl) rfl args w

theorem dark1_any (c m b : Nat) (w : World) (hb : Blk w b 40 #[.float .f32 m]) : Calls Try.prog 130 #[.float .f32 c, .pointer (some ⟨b, 0, none⟩)] w fun e w' => e = .returned (.float .f32 (cop .mul .f32 (cl c) (cl m))) ∧ Below w.heap.size w w' := by
  have c0 := hb.cell 0
  simp at c0
  clear hb
  go_enter Try.func130, Try.ntmps130
  go_wp2_with (go_at_call 50; refine (fix_any _ _).mono ?_; rintro e w1 ⟨rfl, rfl⟩)
  go_ret
  exact ⟨ret_f' (by unfold cl; rw [cn_fop]), below_drewN (Below.refl _ _) _⟩

theorem vig11_any (i : Int) (c m b : Nat) (w : World) (hb : Blk w b 40 #[.float .f32 m]) : Calls Try.prog 126 #[.int .i64 i, .float .f32 c, .pointer (some ⟨b, 0, none⟩)] w (Gave w (cop .mul .f32 (cl c) (cl m))) := by
  have c0 := hb.cell 0
  simp at c0
  clear hb
  go_enter Try.func126, Try.ntmps126
  go_wp2
  go_ret
  exact ⟨_, rfl, by unfold cl; rw [cn_fop], below_drewN (Below.refl _ _) _⟩

/-- A pixel under a vignette. -/
def vpx (V P : Nat → Nat) (x y : Int) : Nat → Nat := col P fun k => cop .mul .f32 (cl (P k)) (cl (ligC V x y))

set_option maxRecDepth 100000 in
set_option maxHeartbeats 4000000 in
theorem vig1_any (V P : Nat → Nat) (x y : Int) (b : Nat) (h : vfin V) (hx : x.natAbs < 16777216) (hy : y.natAbs < 16777216) (w : World) (hb : Blk w b 86 (vigA V)) : Calls Try.prog 124 #[.int .i64 x, .int .i64 y, pix P, .pointer (some ⟨b, 0, none⟩)] w fun e w' => e = .returned (pix (vpx V P x y)) ∧ Below w.heap.size w w' := by
  have hmf : ∀ (fn : Fn) (first cap : Array Value) (w : World), (Instr.makeFunc fn first cap).run Try.prog w = .ok (.func fn first cap) w := fun _ _ _ _ => rfl
  have c0 := hb.cell 0
  have c1 := hb.cell 1
  have c2 := hb.cell 2
  have c3 := hb.cell 3
  have c4 := hb.cell 4
  have lb := hb.lt
  simp at c0 c1 c2 c3 c4
  have HL := hid fun w => lightAt_any V x y h hx hy w
  clear h hb
  rw [pix_cells P]
  go_enter Try.func124, Try.ntmps124
  go_wp2_with fail
  refine (HL.out _).mono ?_
  rintro e w1 ⟨rfl, hb1⟩
  have hp : Blk w1 w.heap.size 47 (pixA P) := ((Blk.new_at _ _ _ rfl).alloc _).below hb1 (by simp; omega)
  have hz : Blk w1 (w.heap.size + 1) 47 zpix4 := (Blk.new_at _ _ _ (by simp)).below hb1 (by simp)
  have hbe : Below w.heap.size w w1 := (((Below.refl _ _).alloc (Nat.le_refl _) _).alloc (by simp) _).trans (hb1.mono (by simp; omega))
  have hs1 := hz.lt
  have hs0 := hp.lt
  generalize hm : ligC V x y = m at *
  have HM := hid hm
  clear hm
  have p0 := hp.cell 0
  have p1 := hp.cell 1
  have p2 := hp.cell 2
  have p3 := hp.cell 3
  simp at p0 p1 p2 p3
  have HC := hid (coloured_any 126 #[.pointer (some ⟨w1.heap.size, 0, none⟩)] enters_vig11 P (fun k => cop .mul .f32 (cl (P k)) (cl m)) (w1.alloc (.cells #[.float .f32 m] 40))
    (fun k w2 hk hb2 => vig11_any k (P k) m w1.heap.size w2 ((Blk.new_at _ _ _ rfl).below hb2 (by simp))))
  have HZ := hid hz
  have HBE := hid hbe
  rw [pix_cells P] at HC
  clear hb1 hp hz hbe HL c0 c1 c2 c3 c4
  go_wp2_with fail
  refine HC.out.mono ?_
  rintro e w2 ⟨rfl, hb2⟩
  have hz2 : Blk w2 (w.heap.size + 1) 47 zpix4 := (HZ.out.alloc _).below hb2 (by simp; omega)
  have hbe2 : Below w.heap.size w w2 := (HBE.out.alloc HBE.out.size _).trans (hb2.mono (by have := HBE.out.size; simp; omega))
  have z0 := hz2.cell 0
  have z1 := hz2.cell 1
  have z2 := hz2.cell 2
  have z3 := hz2.cell 3
  have fz := fun i => hz2.frozen i
  simp at z0 z1 z2 z3
  have HR := hid (hz2.set4 (.float .f32 (col P (fun k => cop .mul .f32 (cl (P k)) (cl m)) 0)) (.float .f32 (col P (fun k => cop .mul .f32 (cl (P k)) (cl m)) 1)) (.float .f32 (col P (fun k => cop .mul .f32 (cl (P k)) (cl m)) 2)) (.float .f32 (col P (fun k => cop .mul .f32 (cl (P k)) (cl m)) 3)))
  have HB2 := hid hbe2
  rw [pix_cells]
  clear hb2 hz2 hbe2 HC p0 p1 p2 p3
  go_wp2_with fail
  refine bodyPost_ret (v := pix (col P fun k => cop .mul .f32 (cl (P k)) (cl m))) (results_cell_row rfl _ _ _ _ _ _ _ rfl HR.out Try.underlying47 rfl (by kernel_rfl)) rfl ⟨?_, (((HB2.out.setCell (by simp) _).setCell (by simp) _).setCell (by simp) _).setCell (by simp) _⟩
  unfold vpx
  rw [HM.out]

end Go.Proofs.Ytbpnbcnhlnnolaa
