/-
  Grow, in the program and in the reference; quotients.
-/
import Derived.Test.YtoahfnfmhgeooaaFCom
namespace Go.Proofs.Ytoahfnfmhgeooaa
open Go.RowKit

/-- The error of a grown region. -/
def growE (x y a b n : Int) : Int := if regE x y a b = 0 then (if n < -256 ∨ 256 < n then 3 else regE (x - n) (y - n) (a + 2 * n) (b + 2 * n)) else regE x y a b
def growR (x y a b n : Int) : Value := if growE x y a b n = 0 then reg (x - n) (y - n) (a + 2 * n) (b + 2 * n) else zreg
section
variable {x y a b n : Int}
theorem growE_bad (h : ¬ regE x y a b = 0) : growE x y a b n = regE x y a b := by unfold growE; rw [if_neg h]
theorem growE_range (h : regE x y a b = 0) (h2 : n < -256 ∨ 256 < n) : growE x y a b n = 3 := by unfold growE; rw [if_pos h, if_pos h2]
theorem growE_in (h : regE x y a b = 0) (h2 : ¬ (n < -256 ∨ 256 < n)) : growE x y a b n = regE (x - n) (y - n) (a + 2 * n) (b + 2 * n) := by unfold growE; rw [if_pos h, if_neg h2]
theorem growR_ok (h : growE x y a b n = 0) : growR x y a b n = reg (x - n) (y - n) (a + 2 * n) (b + 2 * n) := by unfold growR; rw [if_pos h]
theorem growR_no (h : ¬ growE x y a b n = 0) : growR x y a b n = zreg := by unfold growR; rw [if_neg h]
end

def Two (w : World) (r : Value) (E : Int) (e : Ending) (w' : World) : Prop := e = .returned (.tuple #[r, .int .i64 E]) ∧ Below w.heap.size w w'

set_option maxRecDepth 100000 in
set_option maxHeartbeats 2000000 in
theorem grow_any (x y a b n : Int) (w : World) (n1 : -9223372036854775808 ≤ n) (n2 : n ≤ 9223372036854775807) : Calls Try.prog 15 #[reg x y a b, .int .i64 n] w (Two w (growR x y a b n) (growE x y a b n)) := by
  by_cases h : regE x y a b = 0
  case' neg =>
    have z : (regE x y a b != 0) = true := by simp [h]
    have H1 := hid (growE_bad (n := n) h)
    have H2 := hid (growR_no (x := x) (y := y) (a := a) (b := b) (n := n) (by rw [H1.out]; exact h))
    clear h
  case' pos =>
    have z : (regE x y a b != 0) = false := by simp [h]
    by_cases h2 : n < -256 ∨ 256 < n
    case' pos =>
      have H1 := hid (growE_range h h2)
      have H2 := hid (growR_no (x := x) (y := y) (a := a) (b := b) (n := n) (by rw [H1.out]; decide))
      clear h
      rcases h2 with h2 | h2
    case' neg =>
      have H1 := hid (growE_in h h2)
      obtain ⟨a1, a2, b1, b2, ab, x1, x2, y1, y2⟩ := regE_zero h
      simp only [not_or, Int.not_lt] at h2
      obtain ⟨h2, h3⟩ := h2
      obtain ⟨E, hE⟩ : ∃ E, regE (x - n) (y - n) (a + 2 * n) (b + 2 * n) = E := ⟨_, rfl⟩
      rw [hE] at H1
      clear h
      by_cases hz : E = 0
      case' pos =>
        have zE : (E != 0) = false := by simp [hz]
        have H2 := hid (growR_ok (x := x) (y := y) (a := a) (b := b) (n := n) (by rw [H1.out]; exact hz))
        have HZ := hid hz
      case' neg =>
        have zE : (E != 0) = true := by simp [hz]
        have H2 := hid (growR_no (x := x) (y := y) (a := a) (b := b) (n := n) (by rw [H1.out]; exact hz))
        have HZ : RowKit.Hid True := hid trivial
      clear hz
  all_goals
    go_enter Try.func15, Try.ntmps15
    go_wp2_with fail
    refine (checkRegion_any _ _ _ _ _).mono ?_
    rintro e w1 ⟨rfl, hb⟩
    have hr : Blk w1 (w.heap.size + 1) 23 #[.int .i64 0, .int .i64 0, .int .i64 0, .int .i64 0] := (Blk.new_at _ _ _ (by simp)).below hb (by simp)
    have hp : Blk w1 w.heap.size 23 #[.int .i64 x, .int .i64 y, .int .i64 a, .int .i64 b] := ((Blk.new_at _ _ _ rfl).alloc _).below hb (by simp; omega)
    have HBE : RowKit.Hid (Below w.heap.size w w1) := (((Below.refl _ _).alloc (Nat.le_refl _) _).alloc (by simp) _).trans (hb.mono (by simp; omega))
    have z0 := hr.cell 0
    have z1 := hr.cell 1
    have z2 := hr.cell 2
    have z3 := hr.cell 3
    have c0 := hp.cell 0
    have c1 := hp.cell 1
    have c2 := hp.cell 2
    have c3 := hp.cell 3
    have fz := fun i => hr.frozen i
    simp at z0 z1 z2 z3 c0 c1 c2 c3
    have HR := hid hr
    have hlt := hr.lt
    clear hb hr hp
    go_wp2_with fail
    first
      | (refine bodyPost_ret (v := .tuple #[zreg, .int .i64 _]) (results_row_tmp rfl _ _ _ _ _ _ rfl rfl (HR.out.set4 _ _ _ _) Try.underlying23 rfl (by kernel_rfl)) rfl ⟨by rw [H1.out, H2.out], below_set4 HBE.out (by omega) _ _ _ _⟩)
      | skip
  all_goals
    
    refine (checkRegion_any _ _ _ _ _).mono ?_
    rintro e w2 ⟨rfl, hb2⟩
    rw [hE]
    have hr : Blk w2 (w.heap.size + 1) 23 #[.int .i64 0, .int .i64 0, .int .i64 0, .int .i64 0] := (HR.out.alloc _).below hb2 (by simp; omega)
    have hp : Blk w2 w1.heap.size 23 #[.int .i64 (x - n), .int .i64 (y - n), .int .i64 (a + 2 * n), .int .i64 (b + 2 * n)] := (Blk.new_at _ _ _ rfl).below hb2 (by simp)
    have HBE2 : RowKit.Hid (Below w.heap.size w w2) := (HBE.out.alloc (by omega) _).trans (hb2.mono (by simp; omega))
    have z0 := hr.cell 0
    have z1 := hr.cell 1
    have z2 := hr.cell 2
    have z3 := hr.cell 3
    have c0 := hp.cell 0
    have c1 := hp.cell 1
    have c2 := hp.cell 2
    have c3 := hp.cell 3
    have fz := fun i => hr.frozen i
    simp at z0 z1 z2 z3 c0 c1 c2 c3
    have HR2 := hid hr
    clear hb2 hr hp
    go_wp2_with fail
    first
      | (refine bodyPost_ret (v := .tuple #[zreg, .int .i64 _]) (results_row_tmp rfl _ _ _ _ _ _ rfl rfl (HR2.out.set4 _ _ _ _) Try.underlying23 rfl (by kernel_rfl)) rfl ⟨by rw [H1.out, H2.out], below_set4 HBE2.out (by omega) _ _ _ _⟩)
      | (refine bodyPost_ret (v := .tuple #[reg (x - n) (y - n) (a + 2 * n) (b + 2 * n), .int .i64 0]) (results_row_tmp rfl _ _ _ _ _ _ rfl rfl (HR2.out.set4 _ _ _ _) Try.underlying23 rfl (by kernel_rfl)) rfl ⟨by rw [H1.out, H2.out, HZ.out], below_set4 HBE2.out (by omega) _ _ _ _⟩)

set_option maxRecDepth 100000 in
set_option maxHeartbeats 2000000 in
theorem grown_any (x y a b n : Int) (w : World) (n1 : -256 ≤ n) (n2 : n ≤ 256) (x1 : -1048576 ≤ x) (x2 : x ≤ 1048576) (y1 : -1048576 ≤ y) (y2 : y ≤ 1048576) (a1 : 1 ≤ a) (a2 : a ≤ 256) (b1 : 1 ≤ b) (b2 : b ≤ 256) :
    Calls Try.prog 76 #[reg x y a b, .int .i64 n] w fun e w' => e = .returned (reg (x - n) (y - n) (a + 2 * n) (b + 2 * n)) ∧ Below w.heap.size w w' := by
  go_enter Try.func76, Try.ntmps76
  go_wp2_with fail
  refine bodyPost_ret (v := reg (x - n) (y - n) (a + 2 * n) (b + 2 * n)) (results_cell_row rfl _ _ _ _ _ _ _ rfl (Blk.new_at _ _ _ (by simp)) Try.underlying23 rfl (by kernel_rfl)) rfl ⟨rfl, ?_⟩
  exact ((Below.refl _ _).alloc (Nat.le_refl _) _).alloc (by simp) _

set_option maxRecDepth 100000 in
set_option maxHeartbeats 2000000 in
theorem growr_any (x y a b n : Int) (w : World) (n1 : -9223372036854775808 ≤ n) (n2 : n ≤ 9223372036854775807) : Calls Try.prog 16 #[reg x y a b, .int .i64 n] w (Two w (growR x y a b n) (growE x y a b n)) := by
  by_cases h : regE x y a b = 0
  case' neg =>
    have z : (regE x y a b != 0) = true := by simp [h]
    have H1 := hid (growE_bad (n := n) h)
    have H2 := hid (growR_no (x := x) (y := y) (a := a) (b := b) (n := n) (by rw [H1.out]; exact h))
    clear h
  case' pos =>
    have z : (regE x y a b != 0) = false := by simp [h]
    by_cases h2 : n < -256 ∨ 256 < n
    case' pos =>
      have H1 := hid (growE_range h h2)
      have H2 := hid (growR_no (x := x) (y := y) (a := a) (b := b) (n := n) (by rw [H1.out]; decide))
      clear h
      rcases h2 with h2 | h2
    case' neg =>
      have H1 := hid (growE_in h h2)
      obtain ⟨a1, a2, b1, b2, ab, x1, x2, y1, y2⟩ := regE_zero h
      simp only [not_or, Int.not_lt] at h2
      obtain ⟨h2, h3⟩ := h2
      obtain ⟨E, hE⟩ : ∃ E, regE (x - n) (y - n) (a + 2 * n) (b + 2 * n) = E := ⟨_, rfl⟩
      rw [hE] at H1
      clear h
      by_cases hz : E = 0
      case' pos =>
        have zE : (E != 0) = false := by simp [hz]
        have H2 := hid (growR_ok (x := x) (y := y) (a := a) (b := b) (n := n) (by rw [H1.out]; exact hz))
        have HZ := hid hz
      case' neg =>
        have zE : (E != 0) = true := by simp [hz]
        have H2 := hid (growR_no (x := x) (y := y) (a := a) (b := b) (n := n) (by rw [H1.out]; exact hz))
        have HZ : RowKit.Hid True := hid trivial
      clear hz
  all_goals
    go_enter Try.func16, Try.ntmps16
    go_wp2_with fail
    refine (regionError_any _ _ _ _ _).mono ?_
    rintro e w1 ⟨rfl, hb⟩
    have hr : Blk w1 (w.heap.size + 1) 23 #[.int .i64 0, .int .i64 0, .int .i64 0, .int .i64 0] := (Blk.new_at _ _ _ (by simp)).below hb (by simp)
    have hp : Blk w1 w.heap.size 23 #[.int .i64 x, .int .i64 y, .int .i64 a, .int .i64 b] := ((Blk.new_at _ _ _ rfl).alloc _).below hb (by simp; omega)
    have HBE : RowKit.Hid (Below w.heap.size w w1) := (((Below.refl _ _).alloc (Nat.le_refl _) _).alloc (by simp) _).trans (hb.mono (by simp; omega))
    have z0 := hr.cell 0
    have z1 := hr.cell 1
    have z2 := hr.cell 2
    have z3 := hr.cell 3
    have c0 := hp.cell 0
    have c1 := hp.cell 1
    have c2 := hp.cell 2
    have c3 := hp.cell 3
    have fz := fun i => hr.frozen i
    simp at z0 z1 z2 z3 c0 c1 c2 c3
    have HR := hid hr
    have hlt := hr.lt
    clear hb hr hp
    go_wp2_with fail
    first
      | (refine bodyPost_ret (v := .tuple #[zreg, .int .i64 _]) (results_row_tmp rfl _ _ _ _ _ _ rfl rfl (HR.out.set4 _ _ _ _) Try.underlying23 rfl (by kernel_rfl)) rfl ⟨by rw [H1.out, H2.out], below_set4 HBE.out (by omega) _ _ _ _⟩)
      | skip
  all_goals
    refine (grown_any _ _ _ _ _ _ (by omega) (by omega) (by omega) (by omega) (by omega) (by omega) (by omega) (by omega) (by omega) (by omega)).mono ?_
    rintro e wg ⟨rfl, hbg⟩
    have hr : Blk wg (w.heap.size + 1) 23 #[.int .i64 0, .int .i64 0, .int .i64 0, .int .i64 0] := HR.out.below hbg HR.out.lt
    have HBG := hid (below_to HBE.out hbg)
    have HR1 := hid hr
    have hlt1 := hr.lt
    have HBX := HBG
    clear hbg hr
    go_wp2_with fail
    
    refine (regionError_any _ _ _ _ _).mono ?_
    rintro e w2 ⟨rfl, hb2⟩
    rw [hE]
    have hr : Blk w2 (w.heap.size + 1) 23 #[.int .i64 0, .int .i64 0, .int .i64 0, .int .i64 0] := (HR1.out.alloc _).below hb2 (by simp; omega)
    have hp : Blk w2 wg.heap.size 23 #[.int .i64 (x - n), .int .i64 (y - n), .int .i64 (a + 2 * n), .int .i64 (b + 2 * n)] := (Blk.new_at _ _ _ rfl).below hb2 (by simp)
    have HBE2 : RowKit.Hid (Below w.heap.size w w2) := (HBG.out.alloc (by omega) _).trans (hb2.mono (by simp; omega))
    have z0 := hr.cell 0
    have z1 := hr.cell 1
    have z2 := hr.cell 2
    have z3 := hr.cell 3
    have c0 := hp.cell 0
    have c1 := hp.cell 1
    have c2 := hp.cell 2
    have c3 := hp.cell 3
    have fz := fun i => hr.frozen i
    simp at z0 z1 z2 z3 c0 c1 c2 c3
    have HR2 := hid hr
    clear hb2 hr hp
    go_wp2_with fail
    first
      | (refine bodyPost_ret (v := .tuple #[zreg, .int .i64 _]) (results_row_tmp rfl _ _ _ _ _ _ rfl rfl (HR2.out.set4 _ _ _ _) Try.underlying23 rfl (by kernel_rfl)) rfl ⟨by rw [H1.out, H2.out], below_set4 HBE2.out (by omega) _ _ _ _⟩)
      | (refine bodyPost_ret (v := .tuple #[reg (x - n) (y - n) (a + 2 * n) (b + 2 * n), .int .i64 0]) (results_row_tmp rfl _ _ _ _ _ _ rfl rfl (HR2.out.set4 _ _ _ _) Try.underlying23 rfl (by kernel_rfl)) rfl ⟨by rw [H1.out, H2.out, HZ.out], below_set4 HBE2.out (by omega) _ _ _ _⟩)

theorem quo (a s : Int) (s1 : 1 ≤ s) (a1 : -4194304 ≤ a) (a2 : a ≤ 4194304) : ∃ q r, a.tdiv s = q ∧ a.tmod s = r ∧ ((0 ≤ r ∧ a / s = q ∧ a % s = r ∧ r < s) ∨ (r < 0 ∧ a / s = q - 1 ∧ a % s = r + s ∧ -s < r)) ∧ -4194304 ≤ q ∧ q ≤ 4194304 := by
  by_cases h : 0 ≤ a
  · refine ⟨a / s, a % s, Int.tdiv_eq_ediv_of_nonneg h, Int.tmod_eq_emod_of_nonneg h, .inl ⟨Int.emod_nonneg a (by omega), rfl, rfl, Int.emod_lt_of_pos a (by omega)⟩, ?_, ?_⟩
    · have := Int.ediv_nonneg h (show 0 ≤ s by omega); omega
    · have := Int.ediv_le_self s h; omega
  · obtain ⟨c, hc⟩ : ∃ c, c = -a := ⟨_, rfl⟩
    have ha : a = -c := by omega
    have e1 : a.tdiv s = -(c / s) := by rw [ha, Int.neg_tdiv, Int.tdiv_eq_ediv_of_nonneg (by omega)]
    have e2 : a.tmod s = -(c % s) := by rw [ha, Int.neg_tmod, Int.tmod_eq_emod_of_nonneg (by omega)]
    have m1 := Int.mul_ediv_add_emod c s
    have m2 := Int.emod_nonneg c (show s ≠ 0 by omega)
    have m3 := Int.emod_lt_of_pos c (show 0 < s by omega)
    have m4 := Int.ediv_le_self s (show 0 ≤ c by omega)
    have m5 := Int.ediv_nonneg (show 0 ≤ c by omega) (show 0 ≤ s by omega)
    refine ⟨_, _, e1, e2, ?_, by omega, by omega⟩
    by_cases hz : c % s = 0
    · have u := (Int.ediv_emod_unique (a := a) (b := s) (r := 0) (q := -(c / s)) (by omega)).2 ⟨by rw [Int.mul_neg]; omega, by omega, by omega⟩
      exact .inl ⟨by omega, u.1, by omega, by omega⟩
    · have u := (Int.ediv_emod_unique (a := a) (b := s) (r := s - c % s) (q := -(c / s) - 1) (by omega)).2 ⟨by rw [Int.mul_sub, Int.mul_neg]; omega, by omega, by omega⟩
      exact .inr ⟨by omega, u.1, by omega, by omega⟩

set_option maxRecDepth 100000 in
set_option maxHeartbeats 1000000 in
theorem divide_any (a s : Int) (w : World) (s1 : 1 ≤ s) (s2 : s ≤ 256) (a1 : -4194304 ≤ a) (a2 : a ≤ 4194304) :
    Calls Try.prog 77 #[.int .i64 a, .int .i64 s] w fun e w' => e = .returned (.tuple #[.int .i64 (a / s), .int .i64 (a % s)]) ∧ Below w.heap.size w w' := by
  have hs : (s == 0) = false := by rw [beq_eq_false_iff_ne]; omega
  obtain ⟨q, r, hq, hr, hc, q1, q2⟩ := quo a s s1 a1 a2
  rcases hc with ⟨r0, h1, h2, r1⟩ | ⟨r0, h1, h2, r1⟩
  all_goals
    rw [h1, h2]
    clear h1 h2
    go_enter Try.func77, Try.ntmps77
    go_wp2_with fail
    go_quiet (fail)
    go_wp2_with fail
    go_ret2
    exact ⟨rfl, below_drewN (Below.refl _ _) _⟩

set_option maxRecDepth 100000 in
set_option maxHeartbeats 1000000 in
theorem quotient_any (a s : Int) (w : World) (s1 : 1 ≤ s) (s2 : s ≤ 256) (a1 : -4194304 ≤ a) (a2 : a ≤ 4194304) :
    Calls Try.prog 78 #[.int .i64 a, .int .i64 s] w fun e w' => e = .returned (.tuple #[.int .i64 (a / s), .int .i64 (a % s)]) ∧ Below w.heap.size w w' := by
  have hs : (s == 0) = false := by rw [beq_eq_false_iff_ne]; omega
  obtain ⟨q, r, hq, hr, hc, q1, q2⟩ := quo a s s1 a1 a2
  rcases hc with ⟨r0, h1, h2, r1⟩ | ⟨r0, h1, h2, r1⟩
  all_goals
    rw [h1, h2]
    clear h1 h2
    go_enter Try.func78, Try.ntmps78
    go_wp2_with fail
    go_quiet (fail)
    go_wp2_with fail
    go_ret2
    exact ⟨rfl, below_drewN (Below.refl _ _) _⟩
end Go.Proofs.Ytoahfnfmhgeooaa
