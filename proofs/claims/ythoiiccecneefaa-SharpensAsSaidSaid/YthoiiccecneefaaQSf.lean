/-
  SharpensAsSaid: the function value that makes pixels.
-/
import Derived.Test.YthoiiccecneefaaQSe
namespace Go.Proofs.Ythoiiccecneefaa
open Go.RowKit Go.Shelf
attribute [local go_sem] run_store_float

theorem enters_shLaw2 (args : Array Value) (w : World) : (callFunc 37 args).run Try.prog w = .ok (.enter 37 args) w := enters_of Try.func37 (by kernel_rfl) rfl args w
theorem cl_shP (F : Nat → Nat) (p q i j am le : Nat) (k : Nat) : cl (shP F p q i j am le k) = shP F p q i j am le k := by
  unfold shP col
  split
  · exact cl_shC ..
  · exact cl_cl _

set_option maxRecDepth 100000 in
set_option maxHeartbeats 4000000 in
theorem shLaw2_any (X Y : Int) (p q n c i j am le fb bu ba bl : Nat) (A : Option Addr) (F : Nat → Nat) (w : World) (hi : i < p) (hj : j < q) (hn : n = 4 * (p * q)) (hnc : n ≤ c) (hcm : c ≤ maxLen) (hn2 : n ≤ 65536)
    (hp2 : p ≤ 256) (hq2 : q ≤ 256) (x1 : -1048576 ≤ X) (x2 : X + p ≤ 1048576) (y1 : -1048576 ≤ Y) (y2 : Y + q ≤ 1048576) (hF : Src w A n F) (hf : Blk w fb 26 #[.int .i64 X, .int .i64 Y, .int .i64 p, .int .i64 q, .slice A n c])
    (hu : Blk w bu 61 #[.func (.func 36) #[] #[.pointer (some ⟨fb, 0, none⟩)]]) (ha : Blk w ba 40 #[.float .f32 am]) (hl : Blk w bl 40 #[.float .f32 le]) :
    Calls Try.prog 37 #[.int .i64 (X + i), .int .i64 (Y + j), .pointer (some ⟨bu, 0, none⟩), .pointer (some ⟨ba, 0, none⟩), .pointer (some ⟨bl, 0, none⟩)] w (PixGave w (shP F p q i j am le)) := by
  have u0 := hu.cell 0
  have a0 := ha.cell 0
  have l0 := hl.cell 0
  have lu := hu.lt
  have la := ha.lt
  have ll := hl.lt
  simp at u0 a0 l0
  have hal : Below w.heap.size w (w.alloc (.cells zpx 47)) := (Below.refl _ _).alloc (Nat.le_refl _) _
  have HP := hid (sharpOf_any X Y p q n c i j am le fb A F (w.alloc (.cells zpx 47)) hi hj hn hnc hcm hn2 hp2 hq2 x1 x2 y1 y2 (hF.below hal) (hf.below hal hf.lt))
  have HCL := hid (cl_shP F p q i j am le)
  obtain ⟨Q, hQ⟩ : ∃ Q, Q = shP F p q i j am le := ⟨_, rfl⟩
  rw [← hQ] at HP HCL ⊢
  obtain ⟨x, hx⟩ : ∃ x, x = X + (i : Int) := ⟨_, rfl⟩
  obtain ⟨y, hy⟩ : ∃ y, y = Y + (j : Int) := ⟨_, rfl⟩
  rw [← hx, ← hy] at HP ⊢
  clear hF hf hu ha hl hn hnc hcm hn2 hp2 hq2 x1 x2 y1 y2 hi hj hal hQ hx hy
  go_enter Try.func37, Try.ntmps37
  go_wp2_with fail
  refine HP.out.mono ?_
  rintro e w1 ⟨rfl, hb⟩
  have hr := (Blk.new_at (b := w.heap.size) w 47 zpx rfl).below hb (by simp)
  have r0 := hr.cell 0
  have r1 := hr.cell 1
  have r2 := hr.cell 2
  have r3 := hr.cell 3
  have fz := fun i => hr.frozen i
  simp at r0 r1 r2 r3
  have HBK := hid (hr.set4 (.float .f32 (Q 0)) (.float .f32 (Q 1)) (.float .f32 (Q 2)) (.float .f32 (Q 3)))
  have HBE := hid (show Below w.heap.size w w1 from ((Below.refl _ _).alloc (Nat.le_refl _) _).trans (hb.mono (by simp)))
  clear hb hr u0 a0 l0
  go_wp2_with fail
  refine bodyPost_ret (v := pix Q) (results_cell_row rfl _ _ _ _ _ _ _ rfl HBK.out Try.underlying47 rfl (by kernel_rfl)) rfl ⟨Q, rfl, fun k _ => HCL.out k, ?_⟩
  exact (((HBE.out.setCell (by simp) _).setCell (by simp) _).setCell (by simp) _).setCell (by simp) _
end Go.Proofs.Ythoiiccecneefaa
