/-
  Vignette, in the program.
-/
import Derived.Test.YtbpnbcnhlnnolaaQVe
import Derived.Test.YtbpnbcnhlnnolaaQVw
namespace Go.Proofs.Ytbpnbcnhlnnolaa
open Go.RowKit Go.Shelf
open Ieee (Datum Format signed)
attribute [local go_sem] run_store_float

/-- What stands in the boxes of Vignette behind a call. -/
structure VB (V : Nat → Nat) (X Y p q : Int) (n c : Nat) (A : Option Addr) (w : World) (wr : World) : Prop where
  f : Blk wr w.heap.size 26 #[.int .i64 X, .int .i64 Y, .int .i64 p, .int .i64 q, .slice A n c]
  v : Blk wr (w.heap.size + 1) 86 (vigA V)
  r : Blk wr (w.heap.size + 1 + 1) 26 zfrm
  be : Below w.heap.size w wr
theorem VB.below {V : Nat → Nat} {X Y p q : Int} {n c : Nat} {A : Option Addr} {w wr w1 : World} (h : VB V X Y p q n c A w wr) (hb : Below wr.heap.size wr w1) : VB V X Y p q n c A w w1 :=
  ⟨h.f.below hb h.f.lt, h.v.below hb h.v.lt, h.r.below hb h.r.lt, below_to h.be hb⟩
theorem VB.new (V : Nat → Nat) (X Y p q : Int) (n c : Nat) (A : Option Addr) (w : World) : VB V X Y p q n c A w (((w.alloc (.cells #[.int .i64 X, .int .i64 Y, .int .i64 p, .int .i64 q, .slice A n c] 26)).alloc (.cells (vigA V) 86)).alloc (.cells zfrm 26)) :=
  ⟨((Blk.new_at _ _ _ rfl).alloc _).alloc _, (Blk.new_at _ _ _ (by simp)).alloc _, Blk.new_at _ _ _ (by simp), (((Below.refl _ _).alloc (Nat.le_refl _) _).alloc (by simp) _).alloc (by simp; omega) _⟩

set_option maxRecDepth 100000 in
set_option maxHeartbeats 4000000 in
theorem vig_frame (V : Nat → Nat) (X Y p q : Int) (n c : Nat) (A : Option Addr) (w : World) (h : ¬ frmE X Y p q n = 0) :
    Calls Try.prog 60 #[frm X Y p q A n c, vig V] w (ErrOut w (frmE X Y p q n)) := by
  have z9 : (frmE X Y p q n != 0) = true := by simp [h]
  clear h
  rw [vig_cells]
  go_enter Try.func60, Try.ntmps60
  go_wp2_with fail
  refine (check_any _ _ _ _ _ _ _ _).mono ?_
  rintro e w1 ⟨rfl, hb⟩
  have H1 := hid ((VB.new V X Y p q n c A w).below hb)
  have z0 := H1.out.r.cell 0
  have z1 := H1.out.r.cell 1
  have z2 := H1.out.r.cell 2
  have z3 := H1.out.r.cell 3
  have z4 := H1.out.r.cell 4
  have fz := fun i => H1.out.r.frozen i
  have v0 := H1.out.v.cell 0
  have v1 := H1.out.v.cell 1
  have v2 := H1.out.v.cell 2
  have v3 := H1.out.v.cell 3
  have v4 := H1.out.v.cell 4
  have l1 := H1.out.r.lt
  have l2 := H1.out.v.lt
  have l3 := H1.out.f.lt
  simp at z0 z1 z2 z3 z4 v0 v1 v2 v3 v4
  clear hb
  have HBK := hid (H1.out.r.set5 (.int .i64 0) (.int .i64 0) (.int .i64 0) (.int .i64 0) (.slice none 0 0))
  have HBE := hid H1.out.be
  go_wp2_with fail
  refine bodyPost_ret (v := .tuple #[.agg zfrm, .int .i64 (frmE X Y p q n)]) (results_row_tmp rfl _ _ _ _ _ _ rfl rfl HBK.out Try.underlying26 rfl (by kernel_rfl)) rfl ?_
  exact ⟨rfl, below_set5 HBE.out (by omega) _ _ _ _ _⟩

set_option maxRecDepth 100000 in
set_option maxHeartbeats 4000000 in
theorem vig_form (V : Nat → Nat) (X Y p q : Int) (n c : Nat) (A : Option Addr) (w : World) (h : frmE X Y p q n = 0) (h1 : allB (fun k => fin (V k)) 5 = false) :
    Calls Try.prog 60 #[frm X Y p q A n c, vig V] w (ErrOut w (2)) := by
  have z9 : (frmE X Y p q n != 0) = false := by simp [h]
  clear h
  rw [vig_cells]
  go_enter Try.func60, Try.ntmps60
  go_wp2_with fail
  refine (check_any _ _ _ _ _ _ _ _).mono ?_
  rintro e w1 ⟨rfl, hb⟩
  have H1 := hid ((VB.new V X Y p q n c A w).below hb)
  have z0 := H1.out.r.cell 0
  have z1 := H1.out.r.cell 1
  have z2 := H1.out.r.cell 2
  have z3 := H1.out.r.cell 3
  have z4 := H1.out.r.cell 4
  have fz := fun i => H1.out.r.frozen i
  have v0 := H1.out.v.cell 0
  have v1 := H1.out.v.cell 1
  have v2 := H1.out.v.cell 2
  have v3 := H1.out.v.cell 3
  have v4 := H1.out.v.cell 4
  have l1 := H1.out.r.lt
  have l2 := H1.out.v.lt
  have l3 := H1.out.f.lt
  simp at z0 z1 z2 z3 z4 v0 v1 v2 v3 v4
  clear hb
  have hr5 : Rd (w1.alloc (.cells (vigA V) 40)) w1.heap.size 0 5 V := fun k hk => by rw [Nat.zero_add]; exact five_cell (Blk.new_at _ _ _ rfl) k hk
  have HA := hid (areNumbers_any w1.heap.size 0 5 5 V _ (by omega) hr5)
  clear hr5
  go_wp2_with fail
  refine HA.out.mono ?_
  rintro e w2 ⟨rfl, hw2⟩
  have H2 : RowKit.Hid (VB V X Y p q n c A w w2) := by
    show VB V X Y p q n c A w w2
    rw [← hw2]
    exact H1.out.below ((Below.refl _ _).alloc (Nat.le_refl _) _)
  clear hw2 HA H1 z0 z1 z2 z3 z4 fz v0 v1 v2 v3 v4 l1 l2 l3
  have z0 := H2.out.r.cell 0
  have z1 := H2.out.r.cell 1
  have z2 := H2.out.r.cell 2
  have z3 := H2.out.r.cell 3
  have z4 := H2.out.r.cell 4
  have fz := fun i => H2.out.r.frozen i
  have v0 := H2.out.v.cell 0
  have v1 := H2.out.v.cell 1
  have v2 := H2.out.v.cell 2
  have v3 := H2.out.v.cell 3
  have v4 := H2.out.v.cell 4
  have l1 := H2.out.r.lt
  have l2 := H2.out.v.lt
  have l3 := H2.out.f.lt
  simp at z0 z1 z2 z3 z4 v0 v1 v2 v3 v4
  have HBK := hid (H2.out.r.set5 (.int .i64 0) (.int .i64 0) (.int .i64 0) (.int .i64 0) (.slice none 0 0))
  have HBE := hid H2.out.be
  go_wp2_with (go_at_call 100; refine (isWithin_any _ _ _ _).mono ?_; rintro e w' ⟨rfl, rfl⟩)
  refine bodyPost_ret (v := .tuple #[.agg zfrm, .int .i64 (2)]) (results_row_tmp rfl _ _ _ _ _ _ rfl rfl HBK.out Try.underlying26 rfl (by kernel_rfl)) rfl ?_
  exact ⟨rfl, below_set5 HBE.out (by omega) _ _ _ _ _⟩

set_option maxRecDepth 100000 in
set_option maxHeartbeats 4000000 in
theorem vig_order (V : Nat → Nat) (X Y p q : Int) (n c : Nat) (A : Option Addr) (w : World) (h : frmE X Y p q n = 0) (h1 : allB (fun k => fin (V k)) 5 = true) (h2 : (FloatKind.f32.format.order (V 3) (V 2) == some .gt) = false) :
    Calls Try.prog 60 #[frm X Y p q A n c, vig V] w (ErrOut w (8)) := by
  have z9 : (frmE X Y p q n != 0) = false := by simp [h]
  have hle := leq_of (allB_at h1 3 (by omega)) (allB_at h1 2 (by omega))
  rw [h2] at hle
  clear h
  rw [vig_cells]
  go_enter Try.func60, Try.ntmps60
  go_wp2_with fail
  refine (check_any _ _ _ _ _ _ _ _).mono ?_
  rintro e w1 ⟨rfl, hb⟩
  have H1 := hid ((VB.new V X Y p q n c A w).below hb)
  have z0 := H1.out.r.cell 0
  have z1 := H1.out.r.cell 1
  have z2 := H1.out.r.cell 2
  have z3 := H1.out.r.cell 3
  have z4 := H1.out.r.cell 4
  have fz := fun i => H1.out.r.frozen i
  have v0 := H1.out.v.cell 0
  have v1 := H1.out.v.cell 1
  have v2 := H1.out.v.cell 2
  have v3 := H1.out.v.cell 3
  have v4 := H1.out.v.cell 4
  have l1 := H1.out.r.lt
  have l2 := H1.out.v.lt
  have l3 := H1.out.f.lt
  simp at z0 z1 z2 z3 z4 v0 v1 v2 v3 v4
  clear hb
  have hr5 : Rd (w1.alloc (.cells (vigA V) 40)) w1.heap.size 0 5 V := fun k hk => by rw [Nat.zero_add]; exact five_cell (Blk.new_at _ _ _ rfl) k hk
  have HA := hid (areNumbers_any w1.heap.size 0 5 5 V _ (by omega) hr5)
  clear hr5
  go_wp2_with fail
  refine HA.out.mono ?_
  rintro e w2 ⟨rfl, hw2⟩
  have H2 : RowKit.Hid (VB V X Y p q n c A w w2) := by
    show VB V X Y p q n c A w w2
    rw [← hw2]
    exact H1.out.below ((Below.refl _ _).alloc (Nat.le_refl _) _)
  clear hw2 HA H1 z0 z1 z2 z3 z4 fz v0 v1 v2 v3 v4 l1 l2 l3
  have z0 := H2.out.r.cell 0
  have z1 := H2.out.r.cell 1
  have z2 := H2.out.r.cell 2
  have z3 := H2.out.r.cell 3
  have z4 := H2.out.r.cell 4
  have fz := fun i => H2.out.r.frozen i
  have v0 := H2.out.v.cell 0
  have v1 := H2.out.v.cell 1
  have v2 := H2.out.v.cell 2
  have v3 := H2.out.v.cell 3
  have v4 := H2.out.v.cell 4
  have l1 := H2.out.r.lt
  have l2 := H2.out.v.lt
  have l3 := H2.out.f.lt
  simp at z0 z1 z2 z3 z4 v0 v1 v2 v3 v4
  have HBK := hid (H2.out.r.set5 (.int .i64 0) (.int .i64 0) (.int .i64 0) (.int .i64 0) (.slice none 0 0))
  have HBE := hid H2.out.be
  go_wp2_with (go_at_call 100; refine (isWithin_any _ _ _ _).mono ?_; rintro e w' ⟨rfl, rfl⟩)
  refine bodyPost_ret (v := .tuple #[.agg zfrm, .int .i64 (8)]) (results_row_tmp rfl _ _ _ _ _ _ rfl rfl HBK.out Try.underlying26 rfl (by kernel_rfl)) rfl ?_
  exact ⟨rfl, below_set5 HBE.out (by omega) _ _ _ _ _⟩

set_option maxRecDepth 100000 in
set_option maxHeartbeats 4000000 in
theorem vig_range (V : Nat → Nat) (X Y p q : Int) (n c : Nat) (A : Option Addr) (w : World) (h : frmE X Y p q n = 0) (h1 : allB (fun k => fin (V k)) 5 = true) (h2 : (FloatKind.f32.format.order (V 3) (V 2) == some .gt) = true) (h3 : wiB (V 4) 0 1065353216 = false) :
    Calls Try.prog 60 #[frm X Y p q A n c, vig V] w (ErrOut w (3)) := by
  have z9 : (frmE X Y p q n != 0) = false := by simp [h]
  have hle := leq_of (allB_at h1 3 (by omega)) (allB_at h1 2 (by omega))
  rw [h2] at hle
  clear h
  rw [vig_cells]
  go_enter Try.func60, Try.ntmps60
  go_wp2_with fail
  refine (check_any _ _ _ _ _ _ _ _).mono ?_
  rintro e w1 ⟨rfl, hb⟩
  have H1 := hid ((VB.new V X Y p q n c A w).below hb)
  have z0 := H1.out.r.cell 0
  have z1 := H1.out.r.cell 1
  have z2 := H1.out.r.cell 2
  have z3 := H1.out.r.cell 3
  have z4 := H1.out.r.cell 4
  have fz := fun i => H1.out.r.frozen i
  have v0 := H1.out.v.cell 0
  have v1 := H1.out.v.cell 1
  have v2 := H1.out.v.cell 2
  have v3 := H1.out.v.cell 3
  have v4 := H1.out.v.cell 4
  have l1 := H1.out.r.lt
  have l2 := H1.out.v.lt
  have l3 := H1.out.f.lt
  simp at z0 z1 z2 z3 z4 v0 v1 v2 v3 v4
  clear hb
  have hr5 : Rd (w1.alloc (.cells (vigA V) 40)) w1.heap.size 0 5 V := fun k hk => by rw [Nat.zero_add]; exact five_cell (Blk.new_at _ _ _ rfl) k hk
  have HA := hid (areNumbers_any w1.heap.size 0 5 5 V _ (by omega) hr5)
  clear hr5
  go_wp2_with fail
  refine HA.out.mono ?_
  rintro e w2 ⟨rfl, hw2⟩
  have H2 : RowKit.Hid (VB V X Y p q n c A w w2) := by
    show VB V X Y p q n c A w w2
    rw [← hw2]
    exact H1.out.below ((Below.refl _ _).alloc (Nat.le_refl _) _)
  clear hw2 HA H1 z0 z1 z2 z3 z4 fz v0 v1 v2 v3 v4 l1 l2 l3
  have z0 := H2.out.r.cell 0
  have z1 := H2.out.r.cell 1
  have z2 := H2.out.r.cell 2
  have z3 := H2.out.r.cell 3
  have z4 := H2.out.r.cell 4
  have fz := fun i => H2.out.r.frozen i
  have v0 := H2.out.v.cell 0
  have v1 := H2.out.v.cell 1
  have v2 := H2.out.v.cell 2
  have v3 := H2.out.v.cell 3
  have v4 := H2.out.v.cell 4
  have l1 := H2.out.r.lt
  have l2 := H2.out.v.lt
  have l3 := H2.out.f.lt
  simp at z0 z1 z2 z3 z4 v0 v1 v2 v3 v4
  have HBK := hid (H2.out.r.set5 (.int .i64 0) (.int .i64 0) (.int .i64 0) (.int .i64 0) (.slice none 0 0))
  have HBE := hid H2.out.be
  go_wp2_with (go_at_call 100; refine (isWithin_any _ _ _ _).mono ?_; rintro e w' ⟨rfl, rfl⟩)
  refine bodyPost_ret (v := .tuple #[.agg zfrm, .int .i64 (3)]) (results_row_tmp rfl _ _ _ _ _ _ rfl rfl HBK.out Try.underlying26 rfl (by kernel_rfl)) rfl ?_
  exact ⟨rfl, below_set5 HBE.out (by omega) _ _ _ _ _⟩


/-- Vignette, where nothing is wrong. -/
theorem vig_makes (V : Nat → Nat) (F : Nat → Nat) (X Y : Int) (p q : Nat) (b : Nat) (w : World) (h : vfin V) (hp2 : p ≤ 256) (hq2 : q ≤ 256) (x1 : -1048576 ≤ X) (x2 : X ≤ 1048576) (y1 : -1048576 ≤ Y) (y2 : Y ≤ 1048576) (hb : Blk w b 86 (vigA V)) :
    PixMakes 124 #[.pointer (some ⟨b, 0, none⟩)] w X Y p q F (fun i j => vpx V (fun k => F (4 * (p * j + i) + k)) (X + i) (Y + j)) := fun i j w1 hi hj hb1 =>
  vig1_any V (fun k => F (4 * (p * j + i) + k)) (X + i) (Y + j) b h (by omega) (by omega) w1 (hb.below hb1 hb.lt)

set_option maxRecDepth 100000 in
set_option maxHeartbeats 4000000 in
theorem vignette_ok (V : Nat → Nat) (X Y : Int) (p q n c : Nat) (A : Option Addr) (F : Nat → Nat) (w : World) (hE : frmE X Y p q n = 0) (hnc : n ≤ c) (hcm : c ≤ maxLen) (hF : Src w A n F) (h1 : allB (fun k => fin (V k)) 5 = true) (h2 : (FloatKind.f32.format.order (V 3) (V 2) == some .gt) = true) (h3 : wiB (V 4) 0 1065353216 = true) :
    Calls Try.prog 60 #[frm X Y p q A n c, vig V] w fun e w' => ∃ g d, e = .returned (.tuple #[frm X Y p q (some ⟨g, 0, none⟩) n d, .int .i64 0]) ∧ Src w' (some ⟨g, 0, none⟩) n (gI (fun i j => vpx V (fun k => F (4 * (p * j + i) + k)) (X + i) (Y + j)) p) ∧ Below w.heap.size w w' := by
  have z9 : (frmE X Y p q n != 0) = false := by simp [hE]
  obtain ⟨hreg, hn4⟩ := frmE_zero hE
  obtain ⟨a1, a2, b1, b2, ab, x1, x2, y1, y2⟩ := regE_zero hreg
  have hn : n = 4 * (p * q) := by
    have e : 4 * (p : Int) * (q : Int) = ((4 * (p * q) : Nat) : Int) := by rw [Int.mul_assoc]; simp
    rw [e] at hn4
    exact_mod_cast hn4
  have hpq : p * q ≤ 16384 := by
    have e : (p : Int) * (q : Int) = ((p * q : Nat) : Int) := by simp
    rw [e] at ab
    omega
  have hle := leq_of (allB_at h1 3 (by omega)) (allB_at h1 2 (by omega))
  rw [h2] at hle
  have HF := hid hF
  have HEX := hid fun (w2 : World) (b : Nat) (hb : Below w.heap.size w w2) (hk : Blk w2 b 86 (vigA V)) => eachPixel_any 124 #[.pointer (some ⟨b, 0, none⟩)] enters_vig1 X Y p q n c A F (fun i j => vpx V (fun k => F (4 * (p * j + i) + k)) (X + i) (Y + j)) w2 hn (by omega) hnc hcm (by omega) (by omega) (by omega) (by omega) (by omega) (by omega) (by omega) (by omega) (hF.below hb) (vig_makes V F X Y p q b w2 (vfin_of h1) (by omega) (by omega) (by omega) (by omega) (by omega) (by omega) hk)
  have hmf : ∀ (fn : Fn) (first cap : Array Value) (w : World), (Instr.makeFunc fn first cap).run Try.prog w = .ok (.func fn first cap) w := fun _ _ _ _ => rfl
  clear hE hreg hn4 hn hF hpq ab
  rw [vig_cells]
  go_enter Try.func60, Try.ntmps60
  go_wp2_with fail
  refine (check_any _ _ _ _ _ _ _ _).mono ?_
  rintro e w1 ⟨rfl, hb⟩
  have H1 := hid ((VB.new V X Y p q n c A w).below hb)
  have z0 := H1.out.r.cell 0
  have z1 := H1.out.r.cell 1
  have z2 := H1.out.r.cell 2
  have z3 := H1.out.r.cell 3
  have z4 := H1.out.r.cell 4
  have fz := fun i => H1.out.r.frozen i
  have v0 := H1.out.v.cell 0
  have v1 := H1.out.v.cell 1
  have v2 := H1.out.v.cell 2
  have v3 := H1.out.v.cell 3
  have v4 := H1.out.v.cell 4
  have l1 := H1.out.r.lt
  have l2 := H1.out.v.lt
  have l3 := H1.out.f.lt
  simp at z0 z1 z2 z3 z4 v0 v1 v2 v3 v4
  clear hb
  have hr5 : Rd (w1.alloc (.cells (vigA V) 40)) w1.heap.size 0 5 V := fun k hk => by rw [Nat.zero_add]; exact five_cell (Blk.new_at _ _ _ rfl) k hk
  have HA := hid (areNumbers_any w1.heap.size 0 5 5 V _ (by omega) hr5)
  clear hr5
  go_wp2_with fail
  refine HA.out.mono ?_
  rintro e w2 ⟨rfl, hw2⟩
  have H2 : RowKit.Hid (VB V X Y p q n c A w w2) := by
    show VB V X Y p q n c A w w2
    rw [← hw2]
    exact H1.out.below ((Below.refl _ _).alloc (Nat.le_refl _) _)
  clear hw2 HA H1 z0 z1 z2 z3 z4 fz v0 v1 v2 v3 v4 l1 l2 l3
  have z0 := H2.out.r.cell 0
  have z1 := H2.out.r.cell 1
  have z2 := H2.out.r.cell 2
  have z3 := H2.out.r.cell 3
  have z4 := H2.out.r.cell 4
  have fz := fun i => H2.out.r.frozen i
  have v0 := H2.out.v.cell 0
  have v1 := H2.out.v.cell 1
  have v2 := H2.out.v.cell 2
  have v3 := H2.out.v.cell 3
  have v4 := H2.out.v.cell 4
  have l1 := H2.out.r.lt
  have l2 := H2.out.v.lt
  have l3 := H2.out.f.lt
  simp at z0 z1 z2 z3 z4 v0 v1 v2 v3 v4
  have f0 := H2.out.f.cell 0
  have f1 := H2.out.f.cell 1
  have f2 := H2.out.f.cell 2
  have f3 := H2.out.f.cell 3
  have f4 := H2.out.f.cell 4
  simp at f0 f1 f2 f3 f4
  have HX := hid (HEX.out _ _ H2.out.be H2.out.v)
  have HH2 := H2
  clear HEX
  go_wp2_with (go_at_call 100; refine (isWithin_any _ _ _ _).mono ?_; rintro e w' ⟨rfl, rfl⟩)
  refine HX.out.mono ?_
  rintro e w4 ⟨g, d, rfl, q1, q2, q3, q4, q5, q6⟩
  have H4 := HH2.out.below q6
  have HBK := hid (H4.r.set5 (.int .i64 X) (.int .i64 Y) (.int .i64 p) (.int .i64 q) (.slice (some ⟨g, 0, none⟩) n d))
  have u0 := H4.r.cell 0
  have u1 := H4.r.cell 1
  have u2 := H4.r.cell 2
  have u3 := H4.r.cell 3
  have u4 := H4.r.cell 4
  have uf := fun i => H4.r.frozen i
  simp at u0 u1 u2 u3 u4
  have HBE := hid H4.be
  have hs2 := HH2.out.r.lt
  have HQ5 := hid (And.intro q4 q5)
  clear H4 q4 q5 q6 HX z0 z1 z2 z3 z4 fz v0 v1 v2 v3 v4 f0 f1 f2 f3 f4
  go_wp2_with fail
  refine bodyPost_ret (v := .tuple #[frm X Y p q (some ⟨g, 0, none⟩) n d, .int .i64 0]) (results_row_tmp rfl _ _ _ _ _ _ rfl rfl HBK.out Try.underlying26 rfl (by kernel_rfl)) rfl ?_
  exact ⟨g, d, rfl, Src.of_rd (HQ5.out.2.far5 (by omega) _ _ _ _ _) (by rw [size_set5]; exact HQ5.out.1), below_set5 HBE.out (by omega) _ _ _ _ _⟩
end Go.Proofs.Ytbpnbcnhlnnolaa
