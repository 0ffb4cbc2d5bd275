/-
  The law LevelsAsFrames.
-/
import Derived.Test.YtbpnbcnhlnnolaaQFrO
import Derived.Test.YtbpnbcnhlnnolaaQOff
import Derived.Test.YtbpnbcnhlnnolaaFMat
namespace Go.Proofs.Ytbpnbcnhlnnolaa
open Go.RowKit Go.Shelf

/-- The boxes of the law. -/
structure LB (X Y a b : Int) (gb : Nat) (vs : Array Value) (w : World) (wr : World) : Prop where
  f : Blk wr w.heap.size 23 #[.int .i64 X, .int .i64 Y, .int .i64 a, .int .i64 b]
  g : Blk wr gb 26 vs
  be : Below w.heap.size w wr
theorem LB.below {X Y a b : Int} {gb : Nat} {vs : Array Value} {w wr w1 : World} (h : LB X Y a b gb vs w wr) (hb : Below wr.heap.size wr w1) : LB X Y a b gb vs w w1 :=
  ⟨h.f.below hb h.f.lt, h.g.below hb h.g.lt, below_to h.be hb⟩
theorem LB.new {X Y a b : Int} {vs : Array Value} {w w1 : World} (hb : Below (w.alloc (.cells #[.int .i64 X, .int .i64 Y, .int .i64 a, .int .i64 b] 23)).heap.size (w.alloc (.cells #[.int .i64 X, .int .i64 Y, .int .i64 a, .int .i64 b] 23)) w1) :
    LB X Y a b w1.heap.size vs w (w1.alloc (.cells vs 26)) :=
  ⟨((Blk.new_at _ _ _ rfl).below hb (by simp)).alloc _, Blk.new_at _ _ _ rfl, (below_box hb).alloc (below_box hb).size _⟩

set_option maxRecDepth 100000 in
set_option maxHeartbeats 4000000 in
theorem laf_region (x y a b d : Int) (A : Option Addr) (n c : Nat) (w : World) (h : regE x y a b ≠ 0) :
    Calls Try.prog 12 #[reg x y a b, .slice A n c, .int .i64 d] w fun e w' => e = .returned (.bool true) ∧ Below w.heap.size w w' := by
  have HC := hid fun w1 => fr_region x y a b d A n c w1 h
  have z9 : (regE x y a b != 0) = true := by simp [h]
  have z7 : (regE x y a b == 0) = false := by simp [h]
  go_enter Try.func12, Try.ntmps12
  go_wp2_with fail
  refine (HC.out _).mono ?_
  rintro e w1 ⟨rfl, hb⟩
  have H1 := hid (LB.new (vs := zfrm) hb)
  have f0 := H1.out.f.cell 0
  have f1 := H1.out.f.cell 1
  have f2 := H1.out.f.cell 2
  have f3 := H1.out.f.cell 3
  simp at f0 f1 f2 f3
  clear hb HC
  go_wp2_with fail
  refine (regionError_any _ _ _ _ _).mono ?_
  rintro e w2 ⟨rfl, hb⟩
  have H2 := hid (H1.out.below hb)
  generalize w1.heap.size = gb at *
  clear hb f0 f1 f2 f3 H1
  have f2 := H2.out.f.cell 2
  have f3 := H2.out.f.cell 3
  simp at f2 f3
  go_wp2_with (first
    | (go_at_call 69; refine (in_any _ _ _ _).mono ?_; rintro e w' ⟨rfl, rfl⟩)
    | (go_at_call 40; refine (when_any _ _ _).mono ?_; rintro e w' ⟨R1, rfl, hR1, hR2, rfl⟩; have HR1 := hid (And.intro hR1 hR2); clear hR1 hR2))
  refine (first_any _ _ _ _ (Blk.new_at _ _ _ rfl)).mono ?_
  rintro e w' ⟨R2, rfl, hR3, hR4, hw'⟩
  have HR2 := hid (And.intro hR3 hR4)
  have H3 : RowKit.Hid (LB x y a b gb zfrm w w') := by
    show LB x y a b gb zfrm w w'
    rw [← hw']
    exact H2.out.below ((Below.refl _ _).alloc (Nat.le_refl _) _)
  clear hR3 hR4 hw' f2 f3 H2
  have f2 := H3.out.f.cell 2
  have f3 := H3.out.f.cell 3
  simp at f2 f3
  go_wp2_with (go_at_call 40; refine (when_any _ _ _).mono ?_; rintro e w' ⟨R3, rfl, hR1, hR2, rfl⟩; have HR3 := hid (And.intro hR1 hR2); clear hR1 hR2)
  refine (first_any _ _ _ _ (Blk.new_at _ _ _ rfl)).mono ?_
  rintro e w'' ⟨R4, rfl, hR3, hR4, hw'⟩
  have hR : R4 = regE x y a b := by
    have h1 := HR1.out
    have h2 := HR2.out
    have h3 := HR3.out
    exact (hR3 (by rw [h2.1 h]; exact h)).trans (h2.1 h)
  have H4 : RowKit.Hid (LB x y a b gb zfrm w w'') := by
    show LB x y a b gb zfrm w w''
    rw [← hw']
    exact H3.out.below ((Below.refl _ _).alloc (Nat.le_refl _) _)
  subst hR
  clear hR3 hR4 hw' f2 f3 H3 HR1 HR2 HR3
  have z0 := H4.out.g.cell 0
  have z1 := H4.out.g.cell 1
  have z2 := H4.out.g.cell 2
  have z3 := H4.out.g.cell 3
  have z4 := H4.out.g.cell 4
  simp at z0 z1 z2 z3 z4
  go_wp2_with (first | (go_at_call 26; refine (finishes_any _).mono ?_; rintro e w' ⟨rfl, n0, rfl⟩) | (go_at_call 33; refine (none_any _).mono ?_; rintro e w5 ⟨rfl, hb5⟩))
  go_ret
  exact ⟨rfl, below_to (below_drewN H4.out.be _) hb5⟩

set_option maxRecDepth 100000 in
set_option maxHeartbeats 4000000 in
theorem laf_depth (x y a b d : Int) (A : Option Addr) (n c : Nat) (w : World) (h : regE x y a b = 0) (hd : ¬ (1 ≤ d ∧ d ≤ 16)) :
    Calls Try.prog 12 #[reg x y a b, .slice A n c, .int .i64 d] w fun e w' => e = .returned (.bool true) ∧ Below w.heap.size w w' := by
  have HC := hid fun w1 => fr_depth x y a b d A n c w1 h hd
  obtain ⟨a1, a2, b1, b2, ab, x1, x2, y1, y2⟩ := regE_zero h
  obtain ⟨p1, p2⟩ := prod_le a1 a2 b1 b2
  obtain ⟨q1, q2⟩ := prod4_le p1 ab
  have r1 : 4 * a ≤ 1024 := by omega
  have HI : RowKit.Hid (inB d 1 16 = false) := hid (by simp [inB]; omega)
  go_enter Try.func12, Try.ntmps12
  go_wp2_with fail
  refine (HC.out _).mono ?_
  rintro e w1 ⟨rfl, hb⟩
  have H1 := hid (LB.new (vs := zfrm) hb)
  have f0 := H1.out.f.cell 0
  have f1 := H1.out.f.cell 1
  have f2 := H1.out.f.cell 2
  have f3 := H1.out.f.cell 3
  simp at f0 f1 f2 f3
  clear hb HC
  go_wp2_with fail
  refine (regionError_any _ _ _ _ _).mono ?_
  rintro e w2 ⟨rfl, hb⟩
  have H2 := hid (H1.out.below hb)
  generalize w1.heap.size = gb at *
  clear hb f0 f1 f2 f3 H1
  have f2 := H2.out.f.cell 2
  have f3 := H2.out.f.cell 3
  simp at f2 f3
  go_wp2_with (first
    | (go_at_call 69; refine (in_any _ _ _ _).mono ?_; rintro e w' ⟨rfl, rfl⟩)
    | (go_at_call 40; refine (when_any _ _ _).mono ?_; rintro e w' ⟨R1, rfl, hR1, hR2, rfl⟩; have HR1 := hid (And.intro hR1 hR2); clear hR1 hR2))
  refine (first_any _ _ _ _ (Blk.new_at _ _ _ rfl)).mono ?_
  rintro e w' ⟨R2, rfl, hR3, hR4, hw'⟩
  have HR2 := hid (And.intro hR3 hR4)
  have H3 : RowKit.Hid (LB x y a b gb zfrm w w') := by
    show LB x y a b gb zfrm w w'
    rw [← hw']
    exact H2.out.below ((Below.refl _ _).alloc (Nat.le_refl _) _)
  clear hR3 hR4 hw' f2 f3 H2
  have f2 := H3.out.f.cell 2
  have f3 := H3.out.f.cell 3
  simp at f2 f3
  go_wp2_with (go_at_call 40; refine (when_any _ _ _).mono ?_; rintro e w' ⟨R3, rfl, hR1, hR2, rfl⟩; have HR3 := hid (And.intro hR1 hR2); clear hR1 hR2)
  refine (first_any _ _ _ _ (Blk.new_at _ _ _ rfl)).mono ?_
  rintro e w'' ⟨R4, rfl, hR3, hR4, hw'⟩
  have hR : R4 = 3 := by
    have h1 := HR1.out
    have h2 := HR2.out
    have h3 := HR3.out
    have e1 := h1.1 (by rw [HI.out]; rfl)
    have e2 := (h2.2 (by trivial)).trans e1
    exact (hR3 (by rw [e2]; decide)).trans e2
  have H4 : RowKit.Hid (LB x y a b gb zfrm w w'') := by
    show LB x y a b gb zfrm w w''
    rw [← hw']
    exact H3.out.below ((Below.refl _ _).alloc (Nat.le_refl _) _)
  subst hR
  clear hR3 hR4 hw' f2 f3 H3 HR1 HR2 HR3
  have z0 := H4.out.g.cell 0
  have z1 := H4.out.g.cell 1
  have z2 := H4.out.g.cell 2
  have z3 := H4.out.g.cell 3
  have z4 := H4.out.g.cell 4
  simp at z0 z1 z2 z3 z4
  go_wp2_with (first | (go_at_call 26; refine (finishes_any _).mono ?_; rintro e w' ⟨rfl, n0, rfl⟩) | (go_at_call 33; refine (none_any _).mono ?_; rintro e w5 ⟨rfl, hb5⟩))
  go_ret
  exact ⟨rfl, below_to (below_drewN H4.out.be _) hb5⟩

set_option maxRecDepth 100000 in
set_option maxHeartbeats 4000000 in
theorem laf_form (x y a b d : Int) (A : Option Addr) (n c : Nat) (w : World) (h : regE x y a b = 0) (hd : 1 ≤ d ∧ d ≤ 16) (hn : (n : Int) ≠ 4 * a * b) :
    Calls Try.prog 12 #[reg x y a b, .slice A n c, .int .i64 d] w fun e w' => e = .returned (.bool true) ∧ Below w.heap.size w w' := by
  have HC := hid fun w1 => fr_form x y a b d A n c w1 h hd hn
  obtain ⟨a1, a2, b1, b2, ab, x1, x2, y1, y2⟩ := regE_zero h
  obtain ⟨p1, p2⟩ := prod_le a1 a2 b1 b2
  obtain ⟨q1, q2⟩ := prod4_le p1 ab
  have r1 : 4 * a ≤ 1024 := by omega
  have z8 : ((n : Int) != 4 * a * b) = true := by simp [hn]
  have HI : RowKit.Hid (inB d 1 16 = true) := hid (by simp [inB]; omega)
  go_enter Try.func12, Try.ntmps12
  go_wp2_with fail
  refine (HC.out _).mono ?_
  rintro e w1 ⟨rfl, hb⟩
  have H1 := hid (LB.new (vs := zfrm) hb)
  have f0 := H1.out.f.cell 0
  have f1 := H1.out.f.cell 1
  have f2 := H1.out.f.cell 2
  have f3 := H1.out.f.cell 3
  simp at f0 f1 f2 f3
  clear hb HC
  go_wp2_with fail
  refine (regionError_any _ _ _ _ _).mono ?_
  rintro e w2 ⟨rfl, hb⟩
  have H2 := hid (H1.out.below hb)
  generalize w1.heap.size = gb at *
  clear hb f0 f1 f2 f3 H1
  have f2 := H2.out.f.cell 2
  have f3 := H2.out.f.cell 3
  simp at f2 f3
  go_wp2_with (first
    | (go_at_call 69; refine (in_any _ _ _ _).mono ?_; rintro e w' ⟨rfl, rfl⟩)
    | (go_at_call 40; refine (when_any _ _ _).mono ?_; rintro e w' ⟨R1, rfl, hR1, hR2, rfl⟩; have HR1 := hid (And.intro hR1 hR2); clear hR1 hR2))
  refine (first_any _ _ _ _ (Blk.new_at _ _ _ rfl)).mono ?_
  rintro e w' ⟨R2, rfl, hR3, hR4, hw'⟩
  have HR2 := hid (And.intro hR3 hR4)
  have H3 : RowKit.Hid (LB x y a b gb zfrm w w') := by
    show LB x y a b gb zfrm w w'
    rw [← hw']
    exact H2.out.below ((Below.refl _ _).alloc (Nat.le_refl _) _)
  clear hR3 hR4 hw' f2 f3 H2
  have f2 := H3.out.f.cell 2
  have f3 := H3.out.f.cell 3
  simp at f2 f3
  go_wp2_with (go_at_call 40; refine (when_any _ _ _).mono ?_; rintro e w' ⟨R3, rfl, hR1, hR2, rfl⟩; have HR3 := hid (And.intro hR1 hR2); clear hR1 hR2)
  refine (first_any _ _ _ _ (Blk.new_at _ _ _ rfl)).mono ?_
  rintro e w'' ⟨R4, rfl, hR3, hR4, hw'⟩
  have hR : R4 = 2 := by
    have h1 := HR1.out
    have h2 := HR2.out
    have h3 := HR3.out
    have e1 := h1.2 (by rw [HI.out]; rfl)
    have e2 := (h2.2 (by trivial)).trans e1
    exact (hR4 e2).trans (h3.1 (by trivial))
  have H4 : RowKit.Hid (LB x y a b gb zfrm w w'') := by
    show LB x y a b gb zfrm w w''
    rw [← hw']
    exact H3.out.below ((Below.refl _ _).alloc (Nat.le_refl _) _)
  subst hR
  clear hR3 hR4 hw' f2 f3 H3 HR1 HR2 HR3
  have z0 := H4.out.g.cell 0
  have z1 := H4.out.g.cell 1
  have z2 := H4.out.g.cell 2
  have z3 := H4.out.g.cell 3
  have z4 := H4.out.g.cell 4
  simp at z0 z1 z2 z3 z4
  go_wp2_with (first | (go_at_call 26; refine (finishes_any _).mono ?_; rintro e w' ⟨rfl, n0, rfl⟩) | (go_at_call 33; refine (none_any _).mono ?_; rintro e w5 ⟨rfl, hb5⟩))
  go_ret
  exact ⟨rfl, below_to (below_drewN H4.out.be _) hb5⟩
end Go.Proofs.Ytbpnbcnhlnnolaa
