/-
  Sharpening: the function values of the program.
-/
import Derived.Test.YthoiiccecneefaaQSb
import Derived.Test.YthoiiccecneefaaQMg
import Derived.Test.YthoiiccecneefaaQGd
import Derived.Deep.RegionHeld3
import Derived.Deep.DeepCutAuto
import Derived.Deep.CutBlock
import Derived.Lib.ItoaWalk
namespace Go.Proofs.Ythoiiccecneefaa
open Go.RowKit Go.Shelf
attribute [local go_sem] run_store_float

/-- A sharpened channel. -/
def shD (N : Nat → Nat) (cv : Nat) : Nat := cop .sub .f32 cv (mnC N)
def shC (N : Nat → Nat) (cv am le : Nat) : Nat := if magB (shD N cv) le = true then cl cv else cop .add .f32 cv (cop .mul .f32 (shD N cv) am)
theorem cl_shC (N : Nat → Nat) (cv am le : Nat) : cl (shC N cv am le) = shC N cv am le := by
  unfold shC
  split
  · exact cl_cl _
  · exact cn_cop ..
theorem cl_mnC (N : Nat → Nat) : cl (mnC N) = mnC N := cn_cop ..
/-- A sharpened pixel. -/
def shP (F : Nat → Nat) (p q i j am le : Nat) : Nat → Nat := col (fun k => F (4 * (p * j + i) + k)) fun k => shC (nbr F p q i j k) (F (4 * (p * j + i) + k)) am le

set_option maxRecDepth 100000 in
set_option maxHeartbeats 4000000 in
theorem sharp11_any (X Y : Int) (p q n c i j ch cv am le bf bx b1 bl ba : Nat) (A : Option Addr) (F : Nat → Nat) (w : World) (hi : i < p) (hj : j < q) (hch : ch < 4) (hn : n = 4 * (p * q)) (hn2 : n ≤ 65536)
    (hp2 : p ≤ 256) (hq2 : q ≤ 256) (x1 : -1048576 ≤ X) (x2 : X + p ≤ 1048576) (y1 : -1048576 ≤ Y) (y2 : Y + q ≤ 1048576) (hF : Src w A n F)
    (hf : Blk w bf 26 #[.int .i64 X, .int .i64 Y, .int .i64 p, .int .i64 q, .slice A n c]) (hx : Blk w bx 3 #[.int .i64 (X + i)]) (hy : Blk w b1 3 #[.int .i64 (Y + j)]) (hl : Blk w bl 40 #[.float .f32 le]) (ha : Blk w ba 40 #[.float .f32 am]) :
    Calls Try.prog 83 #[.int .i64 ch, .float .f32 cv, .pointer (some ⟨bf, 0, none⟩), .pointer (some ⟨bx, 0, none⟩), .pointer (some ⟨b1, 0, none⟩), .pointer (some ⟨bl, 0, none⟩), .pointer (some ⟨ba, 0, none⟩)] w (Gave w (shC (nbr F p q i j ch) cv am le)) := by
  have f0 := hf.cell 0
  have f1 := hf.cell 1
  have f2 := hf.cell 2
  have f3 := hf.cell 3
  have f4 := hf.cell 4
  have x0 := hx.cell 0
  have y0 := hy.cell 0
  simp at f0 f1 f2 f3 f4 x0 y0
  have HM := hid (meanAround_any X Y p q n c i j ch A F w hi hj hch hn hn2 hp2 hq2 x1 x2 y1 y2 hF)
  obtain ⟨N, hN⟩ : ∃ N, N = nbr F p q i j ch := ⟨_, rfl⟩
  rw [← hN] at HM ⊢
  have HL := hid hl
  have HA := hid ha
  obtain ⟨x, hxx⟩ : ∃ x, x = X + (i : Int) := ⟨_, rfl⟩
  obtain ⟨y, hyy⟩ : ∃ y, y = Y + (j : Int) := ⟨_, rfl⟩
  rw [← hxx] at x0 HM
  rw [← hyy] at y0 HM
  clear hf hx hy hl ha hF hN hn hn2 hp2 hq2 x1 x2 y1 y2 hi hj hch hxx hyy
  cases hB : magB (shD N cv) le
  all_goals
    have HBB := hid hB
    clear hB
    go_enter Try.func83, Try.ntmps83
    go_wp2_with fail
    refine HM.out.mono ?_
    rintro e w2 ⟨b, rfl, hb, hbe⟩
    have hl2 := HL.out.below hbe HL.out.lt
    have ha2 := HA.out.below hbe HA.out.lt
    have HBE := hid hbe
    have HBM := hid hb
    have HL2 := hid hl2
    have HA2 := hid ha2
    clear hb hbe hl2 ha2 f0 f1 f2 f3 f4 x0 y0
    go_upto_region 2 with fail
    generalize hdd : fop .sub .f32 cv b _ = d
    have HD : RowKit.Hid (cl d = cl (shD N cv)) := by
      show cl d = cl (shD N cv)
      rw [← hdd]
      unfold shD
      show cn .f32 _ = cn .f32 _
      exact cnf rfl (by have := HBM.out; rw [← this]; exact (cn_cn ..).symm)
    clear hdd
    go_name_world wq hwq
    have HQ : RowKit.Hid (Blk wq bl 40 #[.float .f32 le] ∧ Blk wq ba 40 #[.float .f32 am] ∧ Below w.heap.size w wq) := by
      show _ ∧ _ ∧ _
      rw [← hwq]
      exact ⟨HL2.out.below (below_drewN (Below.refl _ _) _) HL2.out.lt, HA2.out.below (below_drewN (Below.refl _ _) _) HA2.out.lt, below_drewN HBE.out _⟩
    clear hwq HL2 HA2 HBE
    have l0 := HQ.out.1.cell 0
    have a0 := HQ.out.2.1.cell 0
    simp at l0 a0
    go_region_held3 (fun w' => w'.cell? ⟨bl, 0, none⟩ = some (.float .f32 le) ∧ w'.cell? ⟨ba, 0, none⟩ = some (.float .f32 am)) (go_keep)
      (first | (go_at_call 85; with_reducible refine (magnf_any _ _).mono ?_; rintro e w' ⟨m, rfl, hm, n1, rfl⟩; have ho := (magB_of (le := le) hm HD.out).trans HBB.out; clear hm))
    rename_i hH
    clear hH
    go_wp2_with fail
    go_ret
    refine ⟨_, rfl, ?_, below_drewN HQ.out.2.2 _⟩
    have hB := HBB.out
    first
      | (unfold shC
         rw [if_pos hB])
      | (unfold shC
         rw [if_neg (by rw [hB]; simp)]
         have hd := HD.out
         exact (cnf rfl (cnf (show cn .f32 d = cn .f32 (shD N cv) from hd) rfl)).trans (cn_cop ..))

theorem enters_sharp11 (args : Array Value) (w : World) : (callFunc 83 args).run Try.prog w = .ok (.enter 83 args) w := enters_of Try.func83 (by kernel_rfl) rfl args w
theorem enters_sharp1 (args : Array Value) (w : World) : (callFunc 82 args).run Try.prog w = .ok (.enter 82 args) w := enters_of Try.func82 (by kernel_rfl) rfl args w

/-- What stands in the boxes of Sharpen's function value. -/
structure SK (x y : Int) (P : Nat → Nat) (w wr : World) : Prop where
  x : Blk wr w.heap.size 3 #[.int .i64 x]
  y : Blk wr (w.heap.size + 1) 3 #[.int .i64 y]
  p : Blk wr (w.heap.size + 1 + 1) 47 (pixA P)
  r : Blk wr (w.heap.size + 1 + 1 + 1) 47 zpx
  be : Below w.heap.size w wr
theorem SK.below {x y : Int} {P : Nat → Nat} {w wr w1 : World} (h : SK x y P w wr) (hb : Below wr.heap.size wr w1) : SK x y P w w1 :=
  ⟨h.x.below hb h.x.lt, h.y.below hb h.y.lt, h.p.below hb h.p.lt, h.r.below hb h.r.lt, below_to h.be hb⟩
theorem SK.new (x y : Int) (P : Nat → Nat) (w : World) : SK x y P w ((((w.alloc (.cells #[.int .i64 x] 3)).alloc (.cells #[.int .i64 y] 3)).alloc (.cells (pixA P) 47)).alloc (.cells zpx 47)) :=
  ⟨(((Blk.new_at _ _ _ rfl).alloc _).alloc _).alloc _, ((Blk.new_at _ _ _ (by simp)).alloc _).alloc _, (Blk.new_at _ _ _ (by simp)).alloc _, Blk.new_at _ _ _ (by simp), ((((Below.refl _ _).alloc (Nat.le_refl _) _).alloc (by simp) _).alloc (by simp; omega) _).alloc (by simp; omega) _⟩

set_option maxRecDepth 100000 in
set_option maxHeartbeats 4000000 in
theorem sharp1_any (X Y : Int) (p q n c i j am le bf bl ba : Nat) (A : Option Addr) (F : Nat → Nat) (w : World) (hi : i < p) (hj : j < q) (hn : n = 4 * (p * q)) (hn2 : n ≤ 65536)
    (hp2 : p ≤ 256) (hq2 : q ≤ 256) (x1 : -1048576 ≤ X) (x2 : X + p ≤ 1048576) (y1 : -1048576 ≤ Y) (y2 : Y + q ≤ 1048576) (hF : Src w A n F)
    (hf : Blk w bf 26 #[.int .i64 X, .int .i64 Y, .int .i64 p, .int .i64 q, .slice A n c]) (hl : Blk w bl 40 #[.float .f32 le]) (ha : Blk w ba 40 #[.float .f32 am]) :
    Calls Try.prog 82 #[.int .i64 (X + i), .int .i64 (Y + j), pix fun k => F (4 * (p * j + i) + k), .pointer (some ⟨bf, 0, none⟩), .pointer (some ⟨bl, 0, none⟩), .pointer (some ⟨ba, 0, none⟩)] w fun e w' => e = .returned (pix (shP F p q i j am le)) ∧ Below w.heap.size w w' := by
  have hmf : ∀ (fn : Fn) (first cap : Array Value) (w : World), (Instr.makeFunc fn first cap).run Try.prog w = .ok (.func fn first cap) w := fun _ _ _ _ => rfl
  obtain ⟨P, hP⟩ : ∃ P, P = fun k => F (4 * (p * j + i) + k) := ⟨_, rfl⟩
  have HN := hid (SK.new (X + i) (Y + j) P w)
  have HCO : RowKit.Hid (∀ wz, SK (X + i) (Y + j) P w wz → Calls Try.prog 68 #[pix P, .func (.func 83) #[] #[.pointer (some ⟨bf, 0, none⟩), .pointer (some ⟨w.heap.size, 0, none⟩), .pointer (some ⟨w.heap.size + 1, 0, none⟩), .pointer (some ⟨bl, 0, none⟩), .pointer (some ⟨ba, 0, none⟩)]] wz fun e w' => e = .returned (pix (shP F p q i j am le)) ∧ Below wz.heap.size wz w') :=
    hid fun wz hz => by
      have hbz := hz.be
      have h := coloured_any 83 #[.pointer (some ⟨bf, 0, none⟩), .pointer (some ⟨w.heap.size, 0, none⟩), .pointer (some ⟨w.heap.size + 1, 0, none⟩), .pointer (some ⟨bl, 0, none⟩), .pointer (some ⟨ba, 0, none⟩)] enters_sharp11 P (fun k => shC (nbr F p q i j k) (P k) am le) wz (fun k w1 hk hb =>
        have hb2 := below_to hbz hb
        sharp11_any X Y p q n c i j k (P k) am le bf w.heap.size (w.heap.size + 1) bl ba A F w1 hi hj (by omega) hn hn2 hp2 hq2 x1 x2 y1 y2 (hF.below hb2) (hf.below hb2 hf.lt) (hz.x.below hb hz.x.lt) (hz.y.below hb hz.y.lt) (hl.below hb2 hl.lt) (ha.below hb2 ha.lt))
      rw [hP] at h ⊢
      exact h
  rw [← hP]
  obtain ⟨x, hx⟩ : ∃ x, x = X + (i : Int) := ⟨_, rfl⟩
  obtain ⟨y, hy⟩ : ∃ y, y = Y + (j : Int) := ⟨_, rfl⟩
  rw [← hx, ← hy] at HN HCO ⊢
  obtain ⟨Q, hQ⟩ : ∃ Q, Q = shP F p q i j am le := ⟨_, rfl⟩
  rw [← hQ] at HCO ⊢
  rw [pix_cells P] at HCO ⊢
  have lf := hf.lt
  have ll := hl.lt
  have la := ha.lt
  clear hF hf hl ha hn hn2 hp2 hq2 x1 x2 y1 y2 hi hj hx hy hQ hP
  go_enter Try.func82, Try.ntmps82
  go_wp2_with fail
  refine (HCO.out _ HN.out).mono ?_
  rintro e w2 ⟨rfl, hb⟩
  have H2 := hid (HN.out.below hb)
  have r0 := H2.out.r.cell 0
  have r1 := H2.out.r.cell 1
  have r2 := H2.out.r.cell 2
  have r3 := H2.out.r.cell 3
  have fz := fun i => H2.out.r.frozen i
  simp at r0 r1 r2 r3
  have HBK := hid (H2.out.r.set4 (.float .f32 (Q 0)) (.float .f32 (Q 1)) (.float .f32 (Q 2)) (.float .f32 (Q 3)))
  have HBE := hid H2.out.be
  clear hb HCO HN
  rw [pix_cells Q]
  go_wp2_with fail
  refine bodyPost_ret (v := pix Q) (results_cell_row rfl _ _ _ _ _ _ _ rfl HBK.out Try.underlying47 rfl (by kernel_rfl)) rfl ⟨rfl, ?_⟩
  exact (((HBE.out.setCell (by simp; omega) _).setCell (by simp; omega) _).setCell (by simp; omega) _).setCell (by simp; omega) _
end Go.Proofs.Ythoiiccecneefaa
