/-
  GrainsMatch: what the law calls: placed, its function value.
-/
import Derived.Test.YthoiiccecneefaaQGr
import Derived.Test.YthoiiccecneefaaQVl
import Derived.Test.YthoiiccecneefaaQOff
namespace Go.Proofs.Ythoiiccecneefaa
open Go.RowKit Go.Shelf
attribute [local go_sem] run_store_float

/-- The error of a place. -/
def plcE (x y : Int) : Int := if (placeB x && placeB y) = true then 0 else 5
theorem place_in (x : Int) : inB x (-1048576) 1048576 = placeB x := by
  unfold inB placeB
  rw [Bool.decide_and]

set_option maxRecDepth 100000 in
theorem placed_any (x y : Int) (w : World) : Calls Try.prog 23 #[.int .i64 x, .int .i64 y] w fun e w' => e = .returned (.int .i64 (plcE x y)) ∧ w = w' := by
  have hx := place_in x
  have hy := place_in y
  cases h1 : placeB x <;> cases h2 : placeB y
  all_goals
    have HE : RowKit.Hid (plcE x y = if (placeB x && placeB y) = true then 0 else 5) := hid rfl
    rw [h1, h2] at HE
    rw [h1] at hx
    rw [h2] at hy
    clear h1 h2
    go_enter Try.func23, Try.ntmps23
    go_wp2_with (first
      | (go_at_call 46; refine (in_any _ _ _ _).mono ?_; rintro e w' ⟨rfl, rfl⟩; first | rw [hx] | rw [hy])
      | (go_at_call 34; refine (when_any _ _ _).mono ?_; rintro e w' ⟨R1, rfl, hR1, hR2, rfl⟩))
    go_ret
    refine ⟨?_, rfl⟩
    apply ret_int
    have h9 := HE.out
    simp at h9 hR1 hR2
    omega

/-- What stands in the boxes of the law's function value. -/
structure GK (sd z : Int) (s f : Nat) (m : Bool) (num X Y : Int) (p q n c : Nat) (A : Option Addr) (gb nb fb : Nat) (w : World) (wr : World) : Prop where
  g : Blk wr gb 45 (grnA sd z s f m)
  no : Blk wr nb 3 #[.int .i64 num]
  f : Blk wr fb 26 #[.int .i64 X, .int .i64 Y, .int .i64 p, .int .i64 q, .slice A n c]
  r : ∃ c0 c1 c2 c3 : Value, Blk wr w.heap.size 47 #[c0, c1, c2, c3]
  be : Below w.heap.size w wr
  lg : gb < w.heap.size
  ln : nb < w.heap.size
  lf : fb < w.heap.size
abbrev GKC (sd z : Int) (s f : Nat) (m : Bool) (num X Y : Int) (p q n c : Nat) (A : Option Addr) (gb nb fb : Nat) (w : World) (w' : World) : Prop := w'.cell? ⟨gb, 0, none⟩ = some (.int .u32 sd) ∧ w'.cell? ⟨gb, 1, none⟩ = some (.int .i64 z) ∧ w'.cell? ⟨gb, 2, none⟩ = some (.float .f32 s) ∧ w'.cell? ⟨gb, 3, none⟩ = some (.float .f32 f) ∧ w'.cell? ⟨gb, 4, none⟩ = some (.bool m) ∧ w'.cell? ⟨nb, 0, none⟩ = some (.int .i64 num) ∧ w'.cell? ⟨fb, 0, none⟩ = some (.int .i64 X) ∧ w'.cell? ⟨fb, 1, none⟩ = some (.int .i64 Y) ∧ w'.cell? ⟨fb, 2, none⟩ = some (.int .i64 p) ∧ w'.cell? ⟨fb, 3, none⟩ = some (.int .i64 q) ∧ w'.cell? ⟨fb, 4, none⟩ = some (.slice A n c) ∧ GK sd z s f m num X Y p q n c A gb nb fb w w'
section
variable {sd z num X Y : Int} {s f : Nat} {m : Bool} {p q n c : Nat} {A : Option Addr} {gb nb fb : Nat} {w wr w1 : World}
theorem GK.held (h : GK sd z s f m num X Y p q n c A gb nb fb w wr) : GKC sd z s f m num X Y p q n c A gb nb fb w wr := ⟨h.g.cell 0, h.g.cell 1, h.g.cell 2, h.g.cell 3, h.g.cell 4, h.no.cell 0, h.f.cell 0, h.f.cell 1, h.f.cell 2, h.f.cell 3, h.f.cell 4, h⟩
theorem GKC.all (h : GKC sd z s f m num X Y p q n c A gb nb fb w wr) : GK sd z s f m num X Y p q n c A gb nb fb w wr := h.2.2.2.2.2.2.2.2.2.2.2
theorem GK.below (h : GK sd z s f m num X Y p q n c A gb nb fb w wr) (hb : Below wr.heap.size wr w1) : GK sd z s f m num X Y p q n c A gb nb fb w w1 := by
  obtain ⟨c0, c1, c2, c3, h1⟩ := h.r
  exact ⟨h.g.below hb h.g.lt, h.no.below hb h.no.lt, h.f.below hb h.f.lt, ⟨c0, c1, c2, c3, h1.below hb h1.lt⟩, below_to h.be hb, h.lg, h.ln, h.lf⟩
theorem GKC.on (hb : Below wr.heap.size wr w1) (h : GKC sd z s f m num X Y p q n c A gb nb fb w wr) : GKC sd z s f m num X Y p q n c A gb nb fb w w1 := (h.all.below hb).held
theorem GKC.set4 (h : GKC sd z s f m num X Y p q n c A gb nb fb w wr) (u0 u1 u2 u3 : Value) : GKC sd z s f m num X Y p q n c A gb nb fb w ((((wr.setCell ⟨w.heap.size, 0, none⟩ u0).setCell ⟨w.heap.size, 1, none⟩ u1).setCell ⟨w.heap.size, 2, none⟩ u2).setCell ⟨w.heap.size, 3, none⟩ u3) := by
  have hk := h.all
  obtain ⟨c0, c1, c2, c3, h1⟩ := hk.r
  have lg := hk.lg
  have ln := hk.ln
  have lf := hk.lf
  exact GK.held ⟨(((hk.g.far (by simp; omega) _).far (by simp; omega) _).far (by simp; omega) _).far (by simp; omega) _, (((hk.no.far (by simp; omega) _).far (by simp; omega) _).far (by simp; omega) _).far (by simp; omega) _, (((hk.f.far (by simp; omega) _).far (by simp; omega) _).far (by simp; omega) _).far (by simp; omega) _, ⟨_, _, _, _, h1.set4 u0 u1 u2 u3⟩, (((hk.be.setCell (by simp) _).setCell (by simp) _).setCell (by simp) _).setCell (by simp) _, lg, ln, lf⟩
end

theorem cl_graK (a s f c : Nat) : cl (graK a s f c) = graK a s f c := cl_cop ..

set_option maxRecDepth 100000 in
set_option maxHeartbeats 8000000 in
theorem grLaw1_any (sd z num X Y : Int) (s f : Nat) (m : Bool) (p q n c : Nat) (A : Option Addr) (F : Nat → Nat) (gb nb fb i j : Nat) (w : World) (z1 : 1 ≤ z) (z2 : z ≤ 16) (hi : i < p) (hj : j < q) (hn : n = 4 * (p * q)) (hnc : n ≤ c) (hcm : c ≤ maxLen) (hn2 : n ≤ 65536)
    (hp2 : p ≤ 256) (hq2 : q ≤ 256) (x1 : -1048576 ≤ X) (x2 : X + p ≤ 1048576) (y1 : -1048576 ≤ Y) (y2 : Y + q ≤ 1048576) (hF : Src w A n F) (hg : Blk w gb 45 (grnA sd z s f m)) (hno : Blk w nb 3 #[.int .i64 num]) (hf : Blk w fb 26 #[.int .i64 X, .int .i64 Y, .int .i64 p, .int .i64 q, .slice A n c]) :
    Calls Try.prog 31 #[.int .i64 (X + i), .int .i64 (Y + j), .pointer (some ⟨gb, 0, none⟩), .pointer (some ⟨nb, 0, none⟩), .pointer (some ⟨fb, 0, none⟩)] w (PixGave w (grp sd z num (X + i) (Y + j) s f m (fun k => F (4 * (p * j + i) + k)))) := by
  have HK : RowKit.Hid (GK sd z s f m num X Y p q n c A gb nb fb w (w.alloc (.cells zpix4 47)).drew) := ((GK.mk (hg.alloc _) (hno.alloc _) (hf.alloc _) ⟨_, _, _, _, Blk.new_at _ _ _ rfl⟩ ((Below.refl _ _).alloc (Nat.le_refl _) _) hg.lt hno.lt hf.lt).below (Below.refl _ _).drew)
  have HP := hid fun (w1 : World) (hc : GKC sd z s f m num X Y p q n c A gb nb fb w w1) => pixelAt_any X Y p q n c i j A F w1 hi hj hn hnc hcm hn2 hp2 hq2 x1 (by omega) y1 (by omega) (hF.below hc.all.be)
  have HD : RowKit.Hid (∀ w1, Calls Try.prog 25 #[grn sd z s f m, .int .i64 num, .int .i64 (X + i), .int .i64 (Y + j), pix fun k => F (4 * (p * j + i) + k)] w1 fun e w' => e = .returned (.agg (pixA (grp sd z num (X + i) (Y + j) s f m (fun k => F (4 * (p * j + i) + k))))) ∧ Below w1.heap.size w1 w') := fun (w1 : World) => grainedOf_any sd z num (X + i) (Y + j) s f m (fun k => F (4 * (p * j + i) + k)) w1 z1 z2 (by omega) (by omega) (by omega) (by omega)
  clear hF hg hno hf hn
  go_enter Try.func31, Try.ntmps31
  go_wp2_with fail
  go_region_held3 (fun w' => w'.cell? ⟨gb, 0, none⟩ = some (.int .u32 sd) ∧ w'.cell? ⟨gb, 1, none⟩ = some (.int .i64 z) ∧ w'.cell? ⟨gb, 2, none⟩ = some (.float .f32 s) ∧ w'.cell? ⟨gb, 3, none⟩ = some (.float .f32 f) ∧ w'.cell? ⟨gb, 4, none⟩ = some (.bool m) ∧ w'.cell? ⟨nb, 0, none⟩ = some (.int .i64 num) ∧ w'.cell? ⟨fb, 0, none⟩ = some (.int .i64 X) ∧ w'.cell? ⟨fb, 1, none⟩ = some (.int .i64 Y) ∧ w'.cell? ⟨fb, 2, none⟩ = some (.int .i64 p) ∧ w'.cell? ⟨fb, 3, none⟩ = some (.int .i64 q) ∧ w'.cell? ⟨fb, 4, none⟩ = some (.slice A n c) ∧ GK sd z s f m num X Y p q n c A gb nb fb w w')
    (first | (with_reducible exact HK.out.held) | (with_reducible exact GKC.on (by assumption) (by assumption)) | (with_reducible exact GKC.set4 (by assumption) _ _ _ _) | (with_reducible assumption))
    (first
      | (go_at_call 32; refine (HP.out _ (by first | assumption | (go_split_ands; assumption))).mono ?_; rintro e w1 ⟨rfl, hb⟩)
      | (go_at_call 25; refine (HD.out _).mono ?_; rintro e w1 ⟨rfl, hb⟩; obtain ⟨d0, d1, d2, d3, hbk⟩ := (GKC.on hb (by first | assumption | (go_split_ands; assumption))).all.r; have s0 := hbk.cell 0; have s1 := hbk.cell 1; have s2 := hbk.cell 2; have s3 := hbk.cell 3; have fz := fun i => hbk.frozen i; simp at s0 s1 s2 s3; have HBK := hid hbk; clear hbk))
  all_goals
    rename_i hH
    have HB := hid (GKC.all hH).be
    clear hH
    generalize hg : grp sd z num (X + i) (Y + j) s f m (fun k => F (4 * (p * j + i) + k)) = g at *
    have HG : RowKit.Hid (∀ k, cl (g k) = g k) := by
      show ∀ k, cl (g k) = g k
      rw [← hg]
      exact cl_col _ _ fun k => cl_graK ..
    have HGG := hid hg
    clear hg
    have HR := hid (HBK.out.set4 (.float .f32 (g 0)) (.float .f32 (g 1)) (.float .f32 (g 2)) (.float .f32 (g 3)))
    go_wp2_with fail
    exact bodyPost_ret (v := pix g) (results_cell_row rfl _ _ _ _ _ _ _ rfl HR.out Try.underlying47 rfl (by kernel_rfl)) rfl ⟨g, rfl, fun k _ => by rw [HGG.out]; exact HG.out k, HB.out⟩

theorem enters_grLaw1 (args : Array Value) (w : World) : (callFunc 31 args).run Try.prog w = .ok (.enter 31 args) w := enters_of Try.func31 (by kernel_rfl) rfl args w
end Go.Proofs.Ythoiiccecneefaa
