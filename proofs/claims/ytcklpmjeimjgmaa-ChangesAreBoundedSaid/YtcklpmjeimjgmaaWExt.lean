/-
  Places of pixels; the least region that has a place more.
-/
import Derived.Test.YtcklpmjeimjgmaaWSame
import Derived.BigRegion
import Derived.Lib.ItoaWalk
import Derived.Lib.MinMax
namespace Go.Proofs.Ytcklpmjeimjgmaa
open Go.RowKit Go.Shelf

theorem Blk.set2 {w : World} {g : Nat} {t : TypeId} {c0 c1 : Value} (h : Blk w g t #[c0, c1]) (u0 u1 : Value) : Blk ((w.setCell ⟨g, 0, none⟩ u0).setCell ⟨g, 1, none⟩ u1) g t #[u0, u1] := by
  simpa using (h.set_ 0 u0).set_ 1 u1
theorem Blk.drew1 {w : World} {g : Nat} {t : TypeId} {cs : Array Value} (h : Blk w g t cs) : Blk w.drew g t cs := h
abbrev pnt (x y : Int) : Value := .agg #[.int .i64 x, .int .i64 y]

set_option maxRecDepth 100000 in
theorem pointOf_any (X Y : Int) (p q k : Nat) (w : World) (hp : 0 < p) (hp2 : p ≤ 256) (hk : k ≤ 65536) (x1 : -1048576 ≤ X) (x2 : X ≤ 1048576) (y1 : -1048576 ≤ Y) (y2 : Y ≤ 1048576) :
    Calls Try.prog 120 #[reg X Y p q, .int .i64 k] w fun e w' => e = .returned (pnt (X + (k % p : Nat)) (Y + (k / p : Nat))) ∧ Below w.heap.size w w' := by
  have z0 : ((p : Int) == 0) = false := by rw [beq_eq_false_iff_ne]; omega
  have h1 : k % p < 256 := Nat.lt_of_lt_of_le (Nat.mod_lt _ hp) hp2
  have h2 : k / p ≤ 65536 := Nat.le_trans (Nat.div_le_self _ _) hk
  have e1 : (k : Int) % (p : Int) = ((k % p : Nat) : Int) := by simp
  have e2 : (k : Int) / (p : Int) = ((k / p : Nat) : Int) := by simp
  generalize k % p = u at *
  generalize k / p = v at *
  go_enter Try.func120, Try.ntmps120
  have HB : RowKit.Hid (Blk ((w.alloc (.cells #[.int .i64 X, .int .i64 Y, .int .i64 p, .int .i64 q] 23)).alloc (.cells #[.int .i64 0, .int .i64 0] 80)) (w.heap.size + 1) 80 #[.int .i64 0, .int .i64 0]) := hid (Blk.new_at _ _ _ (by simp))
  have HE : RowKit.Hid (Below w.heap.size w ((w.alloc (.cells #[.int .i64 X, .int .i64 Y, .int .i64 p, .int .i64 q] 23)).alloc (.cells #[.int .i64 0, .int .i64 0] 80))) := hid (((Below.refl _ _).alloc (Nat.le_refl _) _).alloc (by simp) _)
  go_wp2_with fail
  go_region
  all_goals
    go_wp2_with fail
    refine bodyPost_ret (v := pnt (X + u) (Y + v)) (results_cell_row rfl _ _ _ _ _ _ _ rfl (Blk.new_at _ _ _ (by simp)).drew1 Try.underlying80 rfl (by kernel_rfl)) rfl ⟨rfl, ?_⟩
    exact (((Below.refl _ _).alloc (Nat.le_refl _) _).alloc (by simp) _).drew

theorem Blk.set4i {w : World} {g : Nat} {t : TypeId} {c0 c1 c2 c3 : Value} (h : Blk w g t #[c0, c1, c2, c3]) (u0 u1 u2 u3 : Value) :
    Blk ((((w.setCell ⟨g, 0, none⟩ u0).setCell ⟨g, 1, none⟩ u1).setCell ⟨g, 2, none⟩ u2).setCell ⟨g, 3, none⟩ u3) g t #[u0, u1, u2, u3] := by
  simpa using (((h.set_ 0 u0).set_ 1 u1).set_ 2 u2).set_ 3 u3

set_option maxRecDepth 100000 in
set_option maxHeartbeats 1000000 in
theorem extended_any (r : R4) (x y : Int) (w : World) (X Y : Int) (p q : Nat) (hr : r = (0, 0, 0, 0) ∨ Fits X Y p q r) (hp2 : p ≤ 256) (hq2 : q ≤ 256) (hX : X ≤ x) (hX2 : x + 1 ≤ X + p) (hY : Y ≤ y) (hY2 : y + 1 ≤ Y + q) (x1 : -1048576 ≤ X) (x2 : X ≤ 1048576) (y1 : -1048576 ≤ Y) (y2 : Y ≤ 1048576) :
    Calls Try.prog 128 #[reg r.1 r.2.1 r.2.2.1 r.2.2.2, pnt x y] w fun e w' => e = .returned (reg (extR r x y).1 (extR r x y).2.1 (extR r x y).2.2.1 (extR r x y).2.2.2) ∧ Below w.heap.size w w' := by
  obtain ⟨r1, r2, r3, r4⟩ := r
  dsimp only
  rcases hr with h | ⟨a, b, c, d, e, f⟩
  · injection h with h1 h
    injection h with h2 h
    injection h with h3 h4
    subst h1 h2 h3 h4
    have HX : RowKit.Hid (extR (0, 0, 0, 0) x y = (x, y, 1, 1)) := hid rfl
    rw [HX.out]
    go_enter Try.func128, Try.ntmps128
    go_wp2_with fail
    refine bodyPost_ret (v := reg x y 1 1) (results_cell_row rfl _ _ _ _ _ _ _ rfl (Blk.new_at _ _ _ (by simp)) Try.underlying23 rfl (by kernel_rfl)) rfl ⟨rfl, ?_⟩
    exact (((Below.refl _ _).alloc (Nat.le_refl _) _).alloc (by simp) _).alloc (by simp; omega) _
  · dsimp only at a b c d e f
    have HX : RowKit.Hid (extR (r1, r2, r3, r4) x y = (min r1 x, min r2 y, max (r1 + r3) (x + 1) - min r1 x, max (r2 + r4) (y + 1) - min r2 y)) := hid (by unfold extR; rw [if_neg (by dsimp; omega)])
    rw [HX.out]
    have z0 : (r3 == 0) = false := by rw [beq_eq_false_iff_ne]; omega
    go_enter Try.func128, Try.ntmps128
    go_wp2_with fail
    go_quiet (fail)
    all_goals
      have m1 : X ≤ min r1 x ∧ min r1 x ≤ X + p := by omega
      have m2 : Y ≤ min r2 y ∧ min r2 y ≤ Y + q := by omega
      have m3 : X ≤ max (r1 + r3) (x + 1) ∧ max (r1 + r3) (x + 1) ≤ X + p := by omega
      have m4 : Y ≤ max (r2 + r4) (y + 1) ∧ max (r2 + r4) (y + 1) ≤ Y + q := by omega
      generalize hA1 : min r1 x = a1 at *
      generalize hA2 : min r2 y = a2 at *
      generalize hM1 : max (r1 + r3) (x + 1) = a3 at *
      generalize hM2 : max (r2 + r4) (y + 1) = a4 at *
      go_wp2_with fail
      go_name_world wq hq
      have hB0 : Blk wq w.heap.size 23 #[.int .i64 r1, .int .i64 r2, .int .i64 r3, .int .i64 r4] := by rw [← hq]; exact (((Blk.new_at _ _ _ rfl).alloc _).alloc _).drewN _
      have hB1 : Blk wq (w.heap.size + 1) 80 #[.int .i64 x, .int .i64 y] := by rw [← hq]; exact ((Blk.new_at _ _ _ (by simp)).alloc _).drewN _
      have hB2 : Blk wq (w.heap.size + 1 + 1) 23 #[.int .i64 0, .int .i64 0, .int .i64 0, .int .i64 0] := by rw [← hq]; exact (Blk.new_at _ _ _ (by simp)).drewN _
      have hE : Below w.heap.size w wq := by rw [← hq]; exact below_drewN ((((Below.refl _ _).alloc (Nat.le_refl _) _).alloc (by simp) _).alloc (by simp; omega) _) _
      have b0 := hB0.cell 0
      have b1 := hB0.cell 1
      have b2 := hB0.cell 2
      have b3 := hB0.cell 3
      have p0 := hB1.cell 0
      have p1 := hB1.cell 1
      have z0 := hB2.cell 0
      have z1 := hB2.cell 1
      have z2 := hB2.cell 2
      have z3 := hB2.cell 3
      have fz := fun i => hB2.frozen i
      simp at b0 b1 b2 b3 p0 p1 z0 z1 z2 z3
      have HB := hid hB2
      have HE := hid hE
      clear hq hB0 hB1 hB2 hE
      go_quiet (fail)
      have HX2 : extR (r1, r2, r3, r4) x y = (a1, a2, a3 - a1, a4 - a2) := HX.out
      go_wp2_with fail
      refine bodyPost_ret (v := reg a1 a2 (a3 - a1) (a4 - a2)) (results_cell_row rfl _ _ _ _ _ _ _ rfl ((HB.out.drewN _).set4i (.int .i64 a1) (.int .i64 a2) (.int .i64 (a3 - a1)) (.int .i64 (a4 - a2))) Try.underlying23 rfl (by kernel_rfl)) rfl ⟨by rw [hA1, hA2, hM1, hM2], ?_⟩
      exact ((((below_drewN HE.out _).setCell (by simp; omega) _).setCell (by simp; omega) _).setCell (by simp; omega) _).setCell (by simp; omega) _
end Go.Proofs.Ytcklpmjeimjgmaa
