/-
  Grain of the program.
-/
import Derived.Test.YthoiiccecneefaaQGd
import Derived.Test.YthoiiccecneefaaQVp
namespace Go.Proofs.Ythoiiccecneefaa
open Go.RowKit Go.Shelf
attribute [local go_sem] run_store_float

theorem enters_grain1 (args : Array Value) (w : World) : (callFunc 73 args).run Try.prog w = .ok (.enter 73 args) w := enters_of Try.func73 (by kernel_rfl) rfl args w

set_option maxRecDepth 100000 in
set_option maxHeartbeats 4000000 in
theorem grain1_any (sd z num x y : Int) (s f bg bn : Nat) (m : Bool) (P : Nat → Nat) (w : World) (hE : grE z s f = 0) (x1 : -1048576 ≤ x) (x2 : x ≤ 1048576) (y1 : -1048576 ≤ y) (y2 : y ≤ 1048576)
    (hg : Blk w bg 45 (grnA sd z s f m)) (hn : Blk w bn 3 #[.int .i64 num]) :
    Calls Try.prog 73 #[.int .i64 x, .int .i64 y, pix P, .pointer (some ⟨bg, 0, none⟩), .pointer (some ⟨bn, 0, none⟩)] w fun e w' => e = .returned (pix (grp sd z num x y s f m P)) ∧ Below w.heap.size w w' := by
  have HGR := hid fun wz => grained_any sd z num x y s f m P wz
  have hp : (placeB x && placeB y) = true := by simp [placeB]; omega
  have hq : grpE z x y s f = 0 := by unfold grpE; rw [if_pos hE, hp]; rfl
  rw [hq] at HGR
  simp only [if_true] at HGR
  have g0 := hg.cell 0
  have g1 := hg.cell 1
  have g2 := hg.cell 2
  have g3 := hg.cell 3
  have g4 := hg.cell 4
  have n0 := hn.cell 0
  have lg := hg.lt
  have ln := hn.lt
  simp at g0 g1 g2 g3 g4 n0
  have HN : RowKit.Hid (Blk ((w.alloc (.cells (pixA P) 47)).alloc (.cells zpx 47)) w.heap.size 47 (pixA P) ∧ Blk ((w.alloc (.cells (pixA P) 47)).alloc (.cells zpx 47)) (w.heap.size + 1) 47 zpx ∧ Below w.heap.size w ((w.alloc (.cells (pixA P) 47)).alloc (.cells zpx 47))) :=
    hid ⟨(Blk.new_at _ _ _ rfl).alloc _, Blk.new_at _ _ _ (by simp), ((Below.refl _ _).alloc (Nat.le_refl _) _).alloc (by simp) _⟩
  clear hg hn hE hp hq x1 x2 y1 y2
  rw [pix_cells P] at HGR ⊢
  generalize grp sd z num x y s f m P = Q at *
  go_enter Try.func73, Try.ntmps73
  go_wp2_with fail
  refine (HGR.out _).mono ?_
  rintro e w1 ⟨rfl, hb⟩
  have hp1 := HN.out.1.below hb HN.out.1.lt
  have hr1 := HN.out.2.1.below hb HN.out.2.1.lt
  have hbe := below_to HN.out.2.2 hb
  have p0 := hp1.cell 0
  have p1 := hp1.cell 1
  have p2 := hp1.cell 2
  have p3 := hp1.cell 3
  have r0 := hr1.cell 0
  have r1 := hr1.cell 1
  have r2 := hr1.cell 2
  have r3 := hr1.cell 3
  have f1 := fun i => hp1.frozen i
  have f2 := fun i => hr1.frozen i
  have l1 := hp1.lt
  have l2 := hr1.lt
  simp at p0 p1 p2 p3 r0 r1 r2 r3
  have HR := hid (Blk.set4 (show Blk ((((w1.setCell ⟨w.heap.size, 0, none⟩ (.float .f32 (Q 0))).setCell ⟨w.heap.size, 1, none⟩ (.float .f32 (Q 1))).setCell ⟨w.heap.size, 2, none⟩ (.float .f32 (Q 2))).setCell ⟨w.heap.size, 3, none⟩ (.float .f32 (Q 3))) (w.heap.size + 1) 47 zpx from (((hr1.far (p := ⟨w.heap.size, 0, none⟩) (by simp) _).far (p := ⟨w.heap.size, 1, none⟩) (by simp) _).far (p := ⟨w.heap.size, 2, none⟩) (by simp) _).far (p := ⟨w.heap.size, 3, none⟩) (by simp) _) (.float .f32 (Q 0)) (.float .f32 (Q 1)) (.float .f32 (Q 2)) (.float .f32 (Q 3)))
  have HBE := hid hbe
  clear hb hp1 hr1 hbe HGR g0 g1 g2 g3 g4 n0
  rw [pix_cells Q]
  go_wp2_with fail
  refine bodyPost_ret (v := pix Q) (results_cell_row rfl _ _ _ _ _ _ _ rfl HR.out Try.underlying47 rfl (by kernel_rfl)) rfl ⟨rfl, ?_⟩
  exact (((((((HBE.out.setCell (by simp) _).setCell (by simp) _).setCell (by simp) _).setCell (by simp) _).setCell (by simp) _).setCell (by simp) _).setCell (by simp) _).setCell (by simp) _

/-- What stands in the boxes of Grain. -/
structure HB (sd z : Int) (s f : Nat) (m : Bool) (num X Y p q : Int) (n c : Nat) (A : Option Addr) (w wr : World) : Prop where
  fr : Blk wr w.heap.size 26 #[.int .i64 X, .int .i64 Y, .int .i64 p, .int .i64 q, .slice A n c]
  gr : Blk wr (w.heap.size + 1) 45 (grnA sd z s f m)
  nm : Blk wr (w.heap.size + 1 + 1) 3 #[.int .i64 num]
  rs : Blk wr (w.heap.size + 1 + 1 + 1) 26 zfrm
  be : Below w.heap.size w wr
theorem HB.below {sd z : Int} {s f : Nat} {m : Bool} {num X Y p q : Int} {n c : Nat} {A : Option Addr} {w wr w1 : World} (h : HB sd z s f m num X Y p q n c A w wr) (hb : Below wr.heap.size wr w1) : HB sd z s f m num X Y p q n c A w w1 :=
  ⟨h.fr.below hb h.fr.lt, h.gr.below hb h.gr.lt, h.nm.below hb h.nm.lt, h.rs.below hb h.rs.lt, below_to h.be hb⟩
theorem HB.new (sd z : Int) (s f : Nat) (m : Bool) (num X Y p q : Int) (n c : Nat) (A : Option Addr) (w : World) :
    HB sd z s f m num X Y p q n c A w ((((w.alloc (.cells #[.int .i64 X, .int .i64 Y, .int .i64 p, .int .i64 q, .slice A n c] 26)).alloc (.cells (grnA sd z s f m) 45)).alloc (.cells #[.int .i64 num] 3)).alloc (.cells zfrm 26)) :=
  ⟨(((Blk.new_at _ _ _ rfl).alloc _).alloc _).alloc _, ((Blk.new_at _ _ _ (by simp)).alloc _).alloc _, (Blk.new_at _ _ _ (by simp)).alloc _, Blk.new_at _ _ _ (by simp), ((((Below.refl _ _).alloc (Nat.le_refl _) _).alloc (by simp) _).alloc (by simp; omega) _).alloc (by simp; omega) _⟩

set_option maxRecDepth 100000 in
set_option maxHeartbeats 4000000 in
theorem grain_frame (sd z : Int) (s f : Nat) (m : Bool) (num X Y p q : Int) (n c : Nat) (A : Option Addr) (w : World) (h : ¬ frmE X Y p q n = 0) :
    Calls Try.prog 18 #[frm X Y p q A n c, grn sd z s f m, .int .i64 num] w (ErrOut w (frmE X Y p q n)) := by
  have z9 : (frmE X Y p q n != 0) = true := by simp [h]
  clear h
  go_enter Try.func18, Try.ntmps18
  go_wp2_with fail
  refine (check_any _ _ _ _ _ _ _ _).mono ?_
  rintro e w1 ⟨rfl, hb⟩
  have H1 := hid ((HB.new sd z s f m num X Y p q n c A w).below hb)
  have z0 := H1.out.rs.cell 0
  have z1 := H1.out.rs.cell 1
  have z2 := H1.out.rs.cell 2
  have z3 := H1.out.rs.cell 3
  have z4 := H1.out.rs.cell 4
  have fz := fun i => H1.out.rs.frozen i
  simp at z0 z1 z2 z3 z4
  clear hb
  have HBK := hid (H1.out.rs.set5 (.int .i64 0) (.int .i64 0) (.int .i64 0) (.int .i64 0) (.slice none 0 0))
  have HBE := hid H1.out.be
  go_wp2_with fail
  refine bodyPost_ret (v := .tuple #[.agg zfrm, .int .i64 (frmE X Y p q n)]) (results_row_tmp rfl _ _ _ _ _ _ rfl rfl HBK.out Try.underlying26 rfl (by kernel_rfl)) rfl ?_
  exact ⟨rfl, below_set5 HBE.out (by omega) _ _ _ _ _⟩

set_option maxRecDepth 100000 in
set_option maxHeartbeats 4000000 in
theorem grain_bad (sd z : Int) (s f : Nat) (m : Bool) (num X Y p q : Int) (n c : Nat) (A : Option Addr) (w : World) (h : frmE X Y p q n = 0) (h1 : ¬ grE z s f = 0) :
    Calls Try.prog 18 #[frm X Y p q A n c, grn sd z s f m, .int .i64 num] w (ErrOut w (grE z s f)) := by
  have z9 : (frmE X Y p q n != 0) = false := by simp [h]
  have z8 : (grE z s f != 0) = true := by simp [h1]
  clear h h1
  go_enter Try.func18, Try.ntmps18
  go_wp2_with fail
  refine (check_any _ _ _ _ _ _ _ _).mono ?_
  rintro e w1 ⟨rfl, hb⟩
  have H1 := hid ((HB.new sd z s f m num X Y p q n c A w).below hb)
  have g0 := H1.out.gr.cell 0
  have g1 := H1.out.gr.cell 1
  have g2 := H1.out.gr.cell 2
  have g3 := H1.out.gr.cell 3
  have g4 := H1.out.gr.cell 4
  simp at g0 g1 g2 g3 g4
  clear hb
  go_wp2_with fail
  refine (checkGrain_any _ _ _ _ _ _).mono ?_
  rintro e w2 ⟨rfl, hb⟩
  have H2 := hid (H1.out.below hb)
  have z0 := H2.out.rs.cell 0
  have z1 := H2.out.rs.cell 1
  have z2 := H2.out.rs.cell 2
  have z3 := H2.out.rs.cell 3
  have z4 := H2.out.rs.cell 4
  have fz := fun i => H2.out.rs.frozen i
  simp at z0 z1 z2 z3 z4
  clear hb g0 g1 g2 g3 g4
  have HBK := hid (H2.out.rs.set5 (.int .i64 0) (.int .i64 0) (.int .i64 0) (.int .i64 0) (.slice none 0 0))
  have HBE := hid H2.out.be
  go_wp2_with fail
  refine bodyPost_ret (v := .tuple #[.agg zfrm, .int .i64 (grE z s f)]) (results_row_tmp rfl _ _ _ _ _ _ rfl rfl HBK.out Try.underlying26 rfl (by kernel_rfl)) rfl ?_
  exact ⟨rfl, below_set5 HBE.out (by omega) _ _ _ _ _⟩
end Go.Proofs.Ythoiiccecneefaa
