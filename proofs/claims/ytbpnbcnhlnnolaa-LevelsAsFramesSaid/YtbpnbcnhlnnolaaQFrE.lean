/-
  Frame of levels: what it answers where something is wrong ahead of the levels.
-/
import Derived.Test.YtbpnbcnhlnnolaaQInt
import Derived.Test.YtbpnbcnhlnnolaaQLev
import Derived.Test.YtbpnbcnhlnnolaaQVp
import Derived.Test.YtbpnbcnhlnnolaaFCheck
namespace Go.Proofs.Ytbpnbcnhlnnolaa
open Go.RowKit Go.Shelf

/-- What stands in the boxes of Frame. -/
structure FB (x y a b : Int) (w : World) (wr : World) : Prop where
  f : Blk wr w.heap.size 23 #[.int .i64 x, .int .i64 y, .int .i64 a, .int .i64 b]
  r : Blk wr (w.heap.size + 1) 26 zfrm
  be : Below w.heap.size w wr
theorem FB.below {x y a b : Int} {w wr w1 : World} (h : FB x y a b w wr) (hb : Below wr.heap.size wr w1) : FB x y a b w w1 :=
  ⟨h.f.below hb h.f.lt, h.r.below hb h.r.lt, below_to h.be hb⟩
theorem FB.new (x y a b : Int) (w : World) : FB x y a b w ((w.alloc (.cells #[.int .i64 x, .int .i64 y, .int .i64 a, .int .i64 b] 23)).alloc (.cells zfrm 26)) :=
  ⟨(Blk.new_at _ _ _ rfl).alloc _, Blk.new_at _ _ _ (by simp), ((Below.refl _ _).alloc (Nat.le_refl _) _).alloc (by simp) _⟩

set_option maxRecDepth 100000 in
set_option maxHeartbeats 4000000 in
theorem fr_region (x y a b d : Int) (A : Option Addr) (n c : Nat) (w : World) (h : regE x y a b ≠ 0) :
    Calls Try.prog 20 #[reg x y a b, .slice A n c, .int .i64 d] w (ErrOut w (regE x y a b)) := by
  have z9 : (regE x y a b != 0) = true := by simp [h]
  clear h
  go_enter Try.func20, Try.ntmps20
  go_wp2_with fail
  refine (checkRegion_any _ _ _ _ _).mono ?_
  rintro e w1 ⟨rfl, hb⟩
  have H1 := hid ((FB.new x y a b w).below hb)
  have f2 := H1.out.f.cell 2
  have f3 := H1.out.f.cell 3
  have z0 := H1.out.r.cell 0
  have z1 := H1.out.r.cell 1
  have z2 := H1.out.r.cell 2
  have z3 := H1.out.r.cell 3
  have z4 := H1.out.r.cell 4
  have fz := fun i => H1.out.r.frozen i
  have l2 := H1.out.r.lt
  have l3 := H1.out.f.lt
  simp at z0 z1 z2 z3 z4 f2 f3
  clear hb
  have HBK := hid (H1.out.r.set5 (.int .i64 0) (.int .i64 0) (.int .i64 0) (.int .i64 0) (.slice none 0 0))
  have HBE := hid H1.out.be
  go_wp2_with (go_at_call 80; refine (isDepth_any _ _).mono ?_; rintro e w' ⟨rfl, rfl⟩)
  refine bodyPost_ret (v := .tuple #[.agg zfrm, .int .i64 (regE x y a b)]) (results_row_tmp rfl _ _ _ _ _ _ rfl rfl HBK.out Try.underlying26 rfl (by kernel_rfl)) rfl ?_
  exact ⟨rfl, below_set5 HBE.out (by omega) _ _ _ _ _⟩

set_option maxRecDepth 100000 in
set_option maxHeartbeats 4000000 in
theorem fr_depth (x y a b d : Int) (A : Option Addr) (n c : Nat) (w : World) (h : regE x y a b = 0) (hd : ¬ (1 ≤ d ∧ d ≤ 16)) :
    Calls Try.prog 20 #[reg x y a b, .slice A n c, .int .i64 d] w (ErrOut w (3)) := by
  have z9 : (regE x y a b != 0) = false := by simp [h]
  have hd1 : depB d = false := depB_false.2 (by omega)
  clear h hd
  go_enter Try.func20, Try.ntmps20
  go_wp2_with fail
  refine (checkRegion_any _ _ _ _ _).mono ?_
  rintro e w1 ⟨rfl, hb⟩
  have H1 := hid ((FB.new x y a b w).below hb)
  have f2 := H1.out.f.cell 2
  have f3 := H1.out.f.cell 3
  have z0 := H1.out.r.cell 0
  have z1 := H1.out.r.cell 1
  have z2 := H1.out.r.cell 2
  have z3 := H1.out.r.cell 3
  have z4 := H1.out.r.cell 4
  have fz := fun i => H1.out.r.frozen i
  have l2 := H1.out.r.lt
  have l3 := H1.out.f.lt
  simp at z0 z1 z2 z3 z4 f2 f3
  clear hb
  have HBK := hid (H1.out.r.set5 (.int .i64 0) (.int .i64 0) (.int .i64 0) (.int .i64 0) (.slice none 0 0))
  have HBE := hid H1.out.be
  go_wp2_with (go_at_call 80; refine (isDepth_any _ _).mono ?_; rintro e w' ⟨rfl, rfl⟩)
  refine bodyPost_ret (v := .tuple #[.agg zfrm, .int .i64 (3)]) (results_row_tmp rfl _ _ _ _ _ _ rfl rfl HBK.out Try.underlying26 rfl (by kernel_rfl)) rfl ?_
  exact ⟨rfl, below_set5 HBE.out (by omega) _ _ _ _ _⟩

set_option maxRecDepth 100000 in
set_option maxHeartbeats 4000000 in
theorem fr_form (x y a b d : Int) (A : Option Addr) (n c : Nat) (w : World) (h : regE x y a b = 0) (hd : 1 ≤ d ∧ d ≤ 16) (hn : (n : Int) ≠ 4 * a * b) :
    Calls Try.prog 20 #[reg x y a b, .slice A n c, .int .i64 d] w (ErrOut w (2)) := by
  have z9 : (regE x y a b != 0) = false := by simp [h]
  obtain ⟨a1, a2, b1, b2, ab, x1, x2, y1, y2⟩ := regE_zero h
  obtain ⟨p1, p2⟩ := prod_le a1 a2 b1 b2
  obtain ⟨q1, q2⟩ := prod4_le p1 ab
  have r1 : 4 * a ≤ 1024 := by omega
  have z8 : ((n : Int) != 4 * a * b) = true := by simp [hn]
  have hd1 : depB d = true := depB_true.2 hd
  clear h hd hn
  go_enter Try.func20, Try.ntmps20
  go_wp2_with fail
  refine (checkRegion_any _ _ _ _ _).mono ?_
  rintro e w1 ⟨rfl, hb⟩
  have H1 := hid ((FB.new x y a b w).below hb)
  have f2 := H1.out.f.cell 2
  have f3 := H1.out.f.cell 3
  have z0 := H1.out.r.cell 0
  have z1 := H1.out.r.cell 1
  have z2 := H1.out.r.cell 2
  have z3 := H1.out.r.cell 3
  have z4 := H1.out.r.cell 4
  have fz := fun i => H1.out.r.frozen i
  have l2 := H1.out.r.lt
  have l3 := H1.out.f.lt
  simp at z0 z1 z2 z3 z4 f2 f3
  clear hb
  have HBK := hid (H1.out.r.set5 (.int .i64 0) (.int .i64 0) (.int .i64 0) (.int .i64 0) (.slice none 0 0))
  have HBE := hid H1.out.be
  go_wp2_with (go_at_call 80; refine (isDepth_any _ _).mono ?_; rintro e w' ⟨rfl, rfl⟩)
  refine bodyPost_ret (v := .tuple #[.agg zfrm, .int .i64 (2)]) (results_row_tmp rfl _ _ _ _ _ _ rfl rfl HBK.out Try.underlying26 rfl (by kernel_rfl)) rfl ?_
  exact ⟨rfl, below_set5 HBE.out (by omega) _ _ _ _ _⟩
end Go.Proofs.Ytbpnbcnhlnnolaa
