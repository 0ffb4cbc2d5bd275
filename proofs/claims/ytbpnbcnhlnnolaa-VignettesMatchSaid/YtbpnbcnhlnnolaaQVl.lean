/-
  Vignettes: the law's function value.
-/
import Derived.Test.YtbpnbcnhlnnolaaQVr
import Derived.Test.YtbpnbcnhlnnolaaQVp
import Derived.Test.YtbpnbcnhlnnolaaFSame
namespace Go.Proofs.Ytbpnbcnhlnnolaa
open Go.RowKit Go.Shelf
open Ieee (Datum Format signed)
attribute [local go_sem] run_store_float

/-- What stands in the boxes of the law's function value. -/
structure VK (V : Nat → Nat) (X Y : Int) (p q n c : Nat) (A : Option Addr) (vb fb : Nat) (w : World) (wr : World) : Prop where
  v : Blk wr vb 86 (vigA V)
  f : Blk wr fb 26 #[.int .i64 X, .int .i64 Y, .int .i64 p, .int .i64 q, .slice A n c]
  r : ∃ c0 c1 c2 c3 : Value, Blk wr w.heap.size 47 #[c0, c1, c2, c3]
  be : Below w.heap.size w wr
  lv : vb < w.heap.size
  lf : fb < w.heap.size
abbrev VKC (V : Nat → Nat) (X Y : Int) (p q n c : Nat) (A : Option Addr) (vb fb : Nat) (w : World) (w' : World) : Prop := w'.cell? ⟨vb, 0, none⟩ = some (.float .f32 (V 0)) ∧ w'.cell? ⟨vb, 1, none⟩ = some (.float .f32 (V 1)) ∧ w'.cell? ⟨vb, 2, none⟩ = some (.float .f32 (V 2)) ∧ w'.cell? ⟨vb, 3, none⟩ = some (.float .f32 (V 3)) ∧ w'.cell? ⟨vb, 4, none⟩ = some (.float .f32 (V 4)) ∧ w'.cell? ⟨fb, 0, none⟩ = some (.int .i64 X) ∧ w'.cell? ⟨fb, 1, none⟩ = some (.int .i64 Y) ∧ w'.cell? ⟨fb, 2, none⟩ = some (.int .i64 p) ∧ w'.cell? ⟨fb, 3, none⟩ = some (.int .i64 q) ∧ w'.cell? ⟨fb, 4, none⟩ = some (.slice A n c) ∧ VK V X Y p q n c A vb fb w w'
section
variable {V : Nat → Nat} {X Y : Int} {p q n c : Nat} {A : Option Addr} {vb fb : Nat} {w wr w1 : World}
theorem VK.held (h : VK V X Y p q n c A vb fb w wr) : VKC V X Y p q n c A vb fb w wr := ⟨h.v.cell 0, h.v.cell 1, h.v.cell 2, h.v.cell 3, h.v.cell 4, h.f.cell 0, h.f.cell 1, h.f.cell 2, h.f.cell 3, h.f.cell 4, h⟩
theorem VK.below (h : VK V X Y p q n c A vb fb w wr) (hb : Below wr.heap.size wr w1) : VK V X Y p q n c A vb fb w w1 := by
  obtain ⟨c0, c1, c2, c3, h1⟩ := h.r
  exact ⟨h.v.below hb h.v.lt, h.f.below hb h.f.lt, ⟨c0, c1, c2, c3, h1.below hb h1.lt⟩, below_to h.be hb, h.lv, h.lf⟩
theorem VKC.on (hb : Below wr.heap.size wr w1) (h : VKC V X Y p q n c A vb fb w wr) : VKC V X Y p q n c A vb fb w w1 := (h.2.2.2.2.2.2.2.2.2.2.below hb).held
theorem VKC.set4 (h : VKC V X Y p q n c A vb fb w wr) (u0 u1 u2 u3 : Value) : VKC V X Y p q n c A vb fb w ((((wr.setCell ⟨w.heap.size, 0, none⟩ u0).setCell ⟨w.heap.size, 1, none⟩ u1).setCell ⟨w.heap.size, 2, none⟩ u2).setCell ⟨w.heap.size, 3, none⟩ u3) := by
  have hk := h.2.2.2.2.2.2.2.2.2.2
  obtain ⟨c0, c1, c2, c3, h1⟩ := hk.r
  have lv := hk.lv
  have lf := hk.lf
  exact VK.held ⟨(((hk.v.far (by simp; omega) _).far (by simp; omega) _).far (by simp; omega) _).far (by simp; omega) _, (((hk.f.far (by simp; omega) _).far (by simp; omega) _).far (by simp; omega) _).far (by simp; omega) _, ⟨_, _, _, _, h1.set4 u0 u1 u2 u3⟩, (((hk.be.setCell (by simp) _).setCell (by simp) _).setCell (by simp) _).setCell (by simp) _, lv, lf⟩
end

theorem cl_col (f g : Nat → Nat) (hg : ∀ k, cl (g k) = g k) (k : Nat) : cl (col f g k) = col f g k := by
  unfold col
  split
  · exact hg k
  · exact cl_cl _

set_option maxRecDepth 100000 in
set_option maxHeartbeats 8000000 in
theorem vigLaw1_any (V : Nat → Nat) (X Y : Int) (p q n c : Nat) (A : Option Addr) (F : Nat → Nat) (vb fb i j : Nat) (w : World) (h : vfin V) (hi : i < p) (hj : j < q) (hn : n = 4 * (p * q)) (hnc : n ≤ c) (hcm : c ≤ maxLen) (hn2 : n ≤ 65536)
    (hp2 : p ≤ 256) (hq2 : q ≤ 256) (x1 : -1048576 ≤ X) (x2 : X ≤ 1048576) (y1 : -1048576 ≤ Y) (y2 : Y ≤ 1048576) (hF : Src w A n F) (hv : Blk w vb 86 (vigA V)) (hf : Blk w fb 26 #[.int .i64 X, .int .i64 Y, .int .i64 p, .int .i64 q, .slice A n c]) :
    Calls Try.prog 62 #[.int .i64 (X + i), .int .i64 (Y + j), .pointer (some ⟨vb, 0, none⟩), .pointer (some ⟨fb, 0, none⟩)] w (PixGave w (vpx V (fun k => F (4 * (p * j + i) + k)) (X + i) (Y + j))) := by
  have HK : RowKit.Hid (VK V X Y p q n c A vb fb w (w.alloc (.cells zpix4 47)).drew) := ((VK.mk (hv.alloc _) (hf.alloc _) ⟨_, _, _, _, Blk.new_at _ _ _ rfl⟩ ((Below.refl _ _).alloc (Nat.le_refl _) _) hv.lt hf.lt).below (Below.refl _ _).drew)
  have HP := hid fun (w1 : World) (hc : VKC V X Y p q n c A vb fb w w1) => pixelAt_any X Y p q n c i j A F w1 hi hj hn hnc hcm hn2 hp2 hq2 x1 x2 y1 y2 (hF.below hc.2.2.2.2.2.2.2.2.2.2.be)
  have HD : RowKit.Hid (∀ w1, Calls Try.prog 63 #[vig V, .int .i64 (X + i), .int .i64 (Y + j), pix fun k => F (4 * (p * j + i) + k)] w1 fun e w' => e = .returned (.agg (pixA (vpx V (fun k => F (4 * (p * j + i) + k)) (X + i) (Y + j)))) ∧ Below w1.heap.size w1 w') := fun (w1 : World) => dark_any V (fun k => F (4 * (p * j + i) + k)) (X + i) (Y + j) h (by omega) (by omega) w1
  clear h hF hv hf hn
  go_enter Try.func62, Try.ntmps62
  go_wp2_with fail
  go_region_held3 (fun w' => w'.cell? ⟨vb, 0, none⟩ = some (.float .f32 (V 0)) ∧ w'.cell? ⟨vb, 1, none⟩ = some (.float .f32 (V 1)) ∧ w'.cell? ⟨vb, 2, none⟩ = some (.float .f32 (V 2)) ∧ w'.cell? ⟨vb, 3, none⟩ = some (.float .f32 (V 3)) ∧ w'.cell? ⟨vb, 4, none⟩ = some (.float .f32 (V 4)) ∧ w'.cell? ⟨fb, 0, none⟩ = some (.int .i64 X) ∧ w'.cell? ⟨fb, 1, none⟩ = some (.int .i64 Y) ∧ w'.cell? ⟨fb, 2, none⟩ = some (.int .i64 p) ∧ w'.cell? ⟨fb, 3, none⟩ = some (.int .i64 q) ∧ w'.cell? ⟨fb, 4, none⟩ = some (.slice A n c) ∧ VK V X Y p q n c A vb fb w w')
    (first | (with_reducible exact HK.out.held) | (with_reducible exact VKC.on (by assumption) (by assumption)) | (with_reducible exact VKC.set4 (by assumption) _ _ _ _) | (with_reducible assumption))
    (first
      | (go_at_call 38; refine (HP.out _ (by first | assumption | (go_split_ands; assumption))).mono ?_; rintro e w1 ⟨rfl, hb⟩)
      | (go_at_call 63; refine (HD.out _).mono ?_; rintro e w1 ⟨rfl, hb⟩; obtain ⟨d0, d1, d2, d3, hbk⟩ := (VKC.on hb (by first | assumption | (go_split_ands; assumption))).2.2.2.2.2.2.2.2.2.2.r; have s0 := hbk.cell 0; have s1 := hbk.cell 1; have s2 := hbk.cell 2; have s3 := hbk.cell 3; have fz := fun i => hbk.frozen i; simp at s0 s1 s2 s3; have HBK := hid hbk; clear hbk))
  all_goals
    rename_i hH
    have HB := hid hH.2.2.2.2.2.2.2.2.2.2.be
    clear hH
    generalize hg : vpx V (fun k => F (4 * (p * j + i) + k)) (X + i) (Y + j) = g at *
    have HG : RowKit.Hid (∀ k, cl (g k) = g k) := by
      show ∀ k, cl (g k) = g k
      rw [← hg]
      exact cl_col _ _ fun k => cl_cop ..
    have HGG := hid hg
    clear hg
    have HR := hid (HBK.out.set4 (.float .f32 (g 0)) (.float .f32 (g 1)) (.float .f32 (g 2)) (.float .f32 (g 3)))
    go_wp2_with fail
    exact bodyPost_ret (v := pix g) (results_cell_row rfl _ _ _ _ _ _ _ rfl HR.out Try.underlying47 rfl (by kernel_rfl)) rfl ⟨g, rfl, fun k _ => by rw [HGG.out]; exact HG.out k, HB.out⟩

theorem enters_vigLaw1 (args : Array Value) (w : World) : (callFunc 62 args).run Try.prog w = .ok (.enter 62 args) w := enters_of Try.func62 (by kernel_rfl) rfl args w
end Go.Proofs.Ytbpnbcnhlnnolaa
