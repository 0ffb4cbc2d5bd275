/-
  The law NothingChanged.
-/
import Derived.Test.YtcklpmjeimjgmaaWPeak
namespace Go.Proofs.Ytcklpmjeimjgmaa
open Go.RowKit Go.Shelf
attribute [local go_sem] run_store_float

/-- A right frame in the law's box. -/
structure NS (X Y : Int) (p q n ga : Nat) (F : Nat → Nat) (w wr : World) : Prop where
  a : Blk wr w.heap.size 26 #[.int .i64 X, .int .i64 Y, .int .i64 p, .int .i64 q, .slice (some ⟨ga, 0, none⟩) n n]
  fa : Src wr (some ⟨ga, 0, none⟩) n F
  be : Below w.heap.size w wr
theorem NS.below {X Y : Int} {p q n ga : Nat} {F : Nat → Nat} {w wr w1 : World} (h : NS X Y p q n ga F w wr) (hb : Below wr.heap.size wr w1) : NS X Y p q n ga F w w1 :=
  ⟨h.a.below hb h.a.lt, h.fa.below hb, below_to h.be hb⟩

set_option maxRecDepth 100000 in
set_option maxHeartbeats 4000000 in
theorem nothingChanged_any (xa ya pa qa : Int) (A0 : Option Addr) (na ca : Nat) (FA : Nat → Nat) (w : World) (hA : Src w A0 na FA) :
    Calls Try.prog 9 #[frm xa ya pa qa A0 na ca] w fun e w' => e = .returned (.bool true) ∧ Below w.heap.size w w' := by
  have HA := hid hA
  clear hA
  go_enter Try.func9, Try.ntmps9
  go_wp2_with (go_at_call 16; refine (landed_any _).mono ?_; rintro e w' ⟨rfl, rfl⟩)
  have HB0 := hid ((Below.refl w.heap.size w).alloc (Nat.le_refl _) (.cells #[.int .i64 xa, .int .i64 ya, .int .i64 pa, .int .i64 qa, .slice A0 na ca] 26))
  refine (fit_any xa ya pa qa A0 na ca FA _ (HA.out.below HB0.out)).mono ?_
  rintro e w1 hfit
  obtain ⟨X, Y, p, q, N, ga, F, rfl, hok, hreg, hpq, hm0, hm2, p1, p2, q1, q2, x1, x2, y1, y2, hga, hgl, hrd, hb⟩ := fit_nat hfit
  have hbx := (Blk.new_at w 26 #[.int .i64 xa, .int .i64 ya, .int .i64 pa, .int .i64 qa, .slice A0 na ca] rfl).below hb (by simp)
  have HBX := hid hbx
  have hga2 : w.heap.size < ga := by simp at hga; omega
  have HS : RowKit.Hid (NS X Y p q (4 * N) ga F w (((((w1.setCell ⟨w.heap.size, 0, none⟩ (.int .i64 X)).setCell ⟨w.heap.size, 1, none⟩ (.int .i64 Y)).setCell ⟨w.heap.size, 2, none⟩ (.int .i64 p)).setCell ⟨w.heap.size, 3, none⟩ (.int .i64 q)).setCell ⟨w.heap.size, 4, none⟩ (.slice (some ⟨ga, 0, none⟩) (4 * N : Nat) (4 * N : Nat)))) :=
    hid ⟨hbx.set5 _ _ _ _ _, (Src.of_rd hrd hgl).far5 (by omega) _ _ _ _ _, below_set5 (below_to HB0.out hb) (Nat.le_refl _) _ _ _ _ _⟩
  have HPK : RowKit.Hid (∀ wz, NS X Y p q (4 * N) ga F w wz → Calls Try.prog 45 #[frm X Y p q (some ⟨ga, 0, none⟩) (4 * N : Nat) (4 * N : Nat), frm X Y p q (some ⟨ga, 0, none⟩) (4 * N : Nat) (4 * N : Nat)] wz fun e w' => ∃ u v : Int, e = .returned (.tuple #[.float .f32 0, pnt u v, .int .i64 0]) ∧ Below wz.heap.size wz w') :=
    hid fun wz hz => peak_self X Y p q (4 * N) (4 * N) _ F wz hok (by omega) (by omega) p1 (by omega) (by omega) (by omega) (by omega) (by omega) hz.fa
  have HME : RowKit.Hid (∀ wz, NS X Y p q (4 * N) ga F w wz → Calls Try.prog 46 #[frm X Y p q (some ⟨ga, 0, none⟩) (4 * N : Nat) (4 * N : Nat), frm X Y p q (some ⟨ga, 0, none⟩) (4 * N : Nat) (4 * N : Nat)] wz fun e w' => e = .returned (.tuple #[.float .f32 0, .int .i64 0]) ∧ Below wz.heap.size wz w') :=
    hid fun wz hz => mean_self X Y p q (4 * N) (4 * N) _ F wz hok (by omega) (by omega) hz.fa
  have HCH : RowKit.Hid (∀ wz, NS X Y p q (4 * N) ga F w wz → Calls Try.prog 49 #[frm X Y p q (some ⟨ga, 0, none⟩) (4 * N : Nat) (4 * N : Nat), frm X Y p q (some ⟨ga, 0, none⟩) (4 * N : Nat) (4 * N : Nat)] wz fun e w' => e = .returned (.tuple #[reg 0 0 0 0, .int .i64 0, .int .i64 0]) ∧ Below wz.heap.size wz w') :=
    hid fun wz hz => by
      have h1 := changed_any X Y p q (4 * N) (4 * N) (4 * N) _ _ F F wz hok (by rw [hpq]) (Nat.le_refl _) (by unfold maxLen; omega) (Nat.le_refl _) (by unfold maxLen; omega) (by omega) p1 (by omega) (by omega) (by omega) (by omega) (by omega) (by omega) hz.fa hz.fa
      rw [chgR_none _ _ _ _ (difB_self F), chgN_none _ (difB_self F)] at h1
      exact h1
  have HST : RowKit.Hid (∀ wz, NS X Y p q (4 * N) ga F w wz → Calls Try.prog 48 #[frm X Y p q (some ⟨ga, 0, none⟩) (4 * N : Nat) (4 * N : Nat), frm X Y p q (some ⟨ga, 0, none⟩) (4 * N : Nat) (4 * N : Nat)] wz fun e w' => ∃ gb, e = .returned (.tuple #[.slice (some ⟨gb, 0, none⟩) 34 34, .int .i64 0]) ∧ w'.rowIs gb 3 34 (stp (4 * N)) ∧ wz.heap.size ≤ gb ∧ Below wz.heap.size wz w') :=
    hid fun wz hz => steps_self X Y p q (4 * N) (4 * N) _ F wz hok (by omega) (by omega) hz.fa
  have s1 := hbx.lt
  have fz := fun i => hbx.frozen i
  have b0 := hbx.cell 0
  have b1 := hbx.cell 1
  have b2 := hbx.cell 2
  have b3 := hbx.cell 3
  have b4 := hbx.cell 4
  simp at b0 b1 b2 b3 b4
  generalize 4 * N = n at *
  clear hfit hok hreg hpq hm0 hm2 p1 p2 q1 q2 x1 x2 y1 y2 hga hgl hrd hb hbx
  go_wp2_with fail
  refine (HPK.out _ HS.out).mono ?_
  rintro e w2 ⟨u, v, rfl, hb⟩
  have S2 := hid (HS.out.below hb)
  have l2 := S2.out.a.lt
  have c0 := S2.out.a.cell 0
  have c1 := S2.out.a.cell 1
  have c2 := S2.out.a.cell 2
  have c3 := S2.out.a.cell 3
  have c4 := S2.out.a.cell 4
  simp at c0 c1 c2 c3 c4
  clear hb b0 b1 b2 b3 b4 fz s1 HPK HS HBX
  go_wp2_with fail
  refine (HME.out _ (S2.out.below ((Below.refl _ _).alloc (Nat.le_refl _) _))).mono ?_
  rintro e w3 ⟨rfl, hb⟩
  have S3 := hid ((S2.out.below ((Below.refl _ _).alloc (Nat.le_refl _) _)).below hb)
  clear hb c0 c1 c2 c3 c4 l2 HME S2
  have l3 := S3.out.a.lt
  have c0 := S3.out.a.cell 0
  have c1 := S3.out.a.cell 1
  have c2 := S3.out.a.cell 2
  have c3 := S3.out.a.cell 3
  have c4 := S3.out.a.cell 4
  simp at c0 c1 c2 c3 c4
  go_wp2_with fail
  refine (HCH.out _ S3.out).mono ?_
  rintro e w4 ⟨rfl, hb⟩
  have S4 := hid (S3.out.below hb)
  clear hb c0 c1 c2 c3 c4 l3 HCH S3
  have l4 := S4.out.a.lt
  have c0 := S4.out.a.cell 0
  have c1 := S4.out.a.cell 1
  have c2 := S4.out.a.cell 2
  have c3 := S4.out.a.cell 3
  have c4 := S4.out.a.cell 4
  simp at c0 c1 c2 c3 c4
  go_wp2_with fail
  refine (HST.out _ (S4.out.below ((Below.refl _ _).alloc (Nat.le_refl _) _))).mono ?_
  rintro e w5 ⟨gb, rfl, hr, hg, hb⟩
  have S5 := hid ((S4.out.below ((Below.refl _ _).alloc (Nat.le_refl _) _)).below hb)
  have hz := (Blk.new_at w4 23 #[.int .i64 0, .int .i64 0, .int .i64 0, .int .i64 0] rfl).below hb (by simp)
  have z0 := hz.cell 0
  have z1 := hz.cell 1
  have z2 := hz.cell 2
  have z3 := hz.cell 3
  have y0 : w5.cell? ⟨gb, 0, none⟩ = some (.int .i64 (n : Int)) := by
    have := hr.cell (i := 0) (by omega)
    simpa [stp] using this
  simp at z0 z1 z2 z3
  clear hb c0 c1 c2 c3 c4 l4 HST S4 hr hz hg
  have l5 := S5.out.a.lt
  have c0 := S5.out.a.cell 0
  have c1 := S5.out.a.cell 1
  have c2 := S5.out.a.cell 2
  have c3 := S5.out.a.cell 3
  have c4 := S5.out.a.cell 4
  simp at c0 c1 c2 c3 c4
  go_wp2_with fail
  go_quiet (fail)
  go_wp2_with fail
  go_ret
  exact ⟨rfl, below_drewN S5.out.be _⟩
end Go.Proofs.Ytcklpmjeimjgmaa
