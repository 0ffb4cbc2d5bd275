/-
  The law of totals.
-/
import Derived.Test.YtoahfnfmhgeooaaFTotal
import Derived.Test.YtoahfnfmhgeooaaFFit
namespace Go.Proofs.Ytoahfnfmhgeooaa
open Go.RowKit
attribute [local go_sem] run_store_float

/-- What fit made has no error. -/
theorem fit_ok {X Y p q : Int} {N : Nat} (x1 : -1000 ≤ X) (x2 : X ≤ 1000) (y1 : -1000 ≤ Y) (y2 : Y ≤ 1000) (p1 : 1 ≤ p) (p2 : p ≤ 8) (q1 : 1 ≤ q) (q2 : q ≤ 8) (hN : (N : Int) = 4 * p * q) :
    frmE X Y p q N = 0 ∧ ∃ m : Nat, p * q = m ∧ 0 < m ∧ N = 4 * m ∧ m ≤ 64 := by
  have l := Int.mul_le_mul p1 q1 (by omega) (by omega)
  have u := Int.mul_le_mul p2 q2 (by omega) (by omega)
  refine ⟨frmE_ok (regE_ok (sideB_true.2 ⟨p1, by omega⟩) (sideB_true.2 ⟨q1, by omega⟩) (by omega) (atB_true.2 ⟨by omega, by omega⟩) (atB_true.2 ⟨by omega, by omega⟩)) hN, (p * q).toNat, ?_⟩
  rw [Int.mul_assoc] at hN
  omega

theorem pix_cells (f : Nat → Nat) : pix f = .agg #[.float .f32 (f 0), .float .f32 (f 1), .float .f32 (f 2), .float .f32 (f 3)] := rfl

set_option maxRecDepth 100000 in
set_option maxHeartbeats 2000000 in
theorem totals_any (x y a b : Int) (A : Option Addr) (n c : Nat) (F : Nat → Nat) (w : World) (hF : Src w A n F) :
    Calls Try.prog 11 #[frm x y a b A n c] w fun e w' => e = .returned (.bool true) ∧ Below w.heap.size w w' := by
  have HF : RowKit.Hid (∀ w1, Below w.heap.size w w1 → Src w1 A n F) := hid fun w1 h => hF.below h
  clear hF
  go_enter Try.func11, Try.ntmps11
  go_wp2_with fail
  refine (landed_any _).mono ?_
  rintro e w' ⟨rfl, rfl⟩
  go_wp2_with fail
  refine (fit_any _ _ _ _ _ _ _ F _ (HF.out _ ((Below.refl _ _).alloc (Nat.le_refl _) _))).mono ?_
  rintro e w1 ⟨X, Y, p, q, gb, N, g, rfl, x1, x2, y1, y2, p1, p2, q1, q2, hN, hgb, hgl, hrd, hbel⟩
  obtain ⟨hok, m, hpq, hm0, hm, hm2⟩ := fit_ok x1 x2 y1 y2 p1 p2 q1 q2 hN
  clear HF
  have HOK := hid hok
  have HPQ := hid hpq
  have HM := hid hm
  have HRD := hid hrd
  have HBOX := hid (boxed hbel)
  have HBE := hid (below_box hbel)
  have HSZ := hid hbel.size
  have HGB := hid hgb
  have HGL := hid hgl
  clear hok hpq hm hrd hbel hN x1 x2 y1 y2 p1 p2 q1 q2 hgb hgl
  have c0 := HBOX.out.cell 0
  have c1 := HBOX.out.cell 1
  have c2 := HBOX.out.cell 2
  have c3 := HBOX.out.cell 3
  have c4 := HBOX.out.cell 4
  have f0 := fun i => HBOX.out.frozen i
  simp at c0 c1 c2 c3 c4
  go_wp2_with fail
  have S0 := HBOX.out.set5 (.int .i64 X) (.int .i64 Y) (.int .i64 p) (.int .i64 q) (.slice (some ⟨gb, 0, none⟩) N N)
  have B0 := below_set5 HBE.out (Nat.le_refl _) (.int .i64 X) (.int .i64 Y) (.int .i64 p) (.int .i64 q) (.slice (some ⟨gb, 0, none⟩) N N)
  have R0 := HRD.out.far5 (g := w.heap.size) (by have := HGB.out; simp at this; omega) (.int .i64 X) (.int .i64 Y) (.int .i64 p) (.int .i64 q) (.slice (some ⟨gb, 0, none⟩) N N)
  have Z0 := size_set5 w1 w.heap.size (.int .i64 X) (.int .i64 Y) (.int .i64 p) (.int .i64 q) (.slice (some ⟨gb, 0, none⟩) N N)
  have HS0 := hid S0
  have HB0 := hid B0
  have HR0 := hid (Src.of_rd R0 (by rw [Z0]; exact HGL.out))
  clear S0 B0 R0 Z0 HBOX HBE HRD HSZ HGB HGL c0 c1 c2 c3 c4 f0
  refine (totalp_any _ _ _ _ _ _ _ m g _ HOK.out HPQ.out hm0 HM.out (by omega) HR0.out).mono ?_
  rintro e w2 ⟨rfl, hb2⟩
  have hbk := HS0.out.below hb2 HS0.out.lt
  have HB2 := hid (below_to HB0.out hb2)
  have HR2 := hid (HR0.out.below hb2)
  have HBK := hid hbk
  clear hb2 HB0 HR0 HS0
  have c0 := hbk.cell 0
  have c1 := hbk.cell 1
  have c2 := hbk.cell 2
  have c3 := hbk.cell 3
  have c4 := hbk.cell 4
  have hlt := hbk.lt
  simp at c0 c1 c2 c3 c4
  clear hbk
  have px := pix_cells (totC g m)
  go_wp2_with fail
  refine (totalr_any _ _ _ _ _ _ _ m g _ hm0 HM.out (by omega) (HR2.out.below ((Below.refl _ _).alloc (Nat.le_refl _) _))).mono ?_
  rintro e w3 ⟨rfl, hb3⟩
  have HB3 := hid (below_to HB2.out (below_box hb3))
  have hx := boxed hb3
  have d0 := hx.cell 0
  have d1 := hx.cell 1
  have d2 := hx.cell 2
  have d3 := hx.cell 3
  have hs3 := hx.lt
  simp at d0 d1 d2 d3
  clear hb3 hx
  go_wp2_with (go_at_call 33; refine (exact_yes _ _ rfl _).mono ?_; rintro e w' ⟨rfl, rfl⟩)
  go_ret
  exact ⟨rfl, HB3.out.alloc (Nat.le_trans HB2.out.size (by omega)) _⟩
end Go.Proofs.Ytoahfnfmhgeooaa
