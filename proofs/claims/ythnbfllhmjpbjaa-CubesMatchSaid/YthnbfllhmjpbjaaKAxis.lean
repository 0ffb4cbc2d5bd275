/-
  Cubes in the reference: where a value lies on an axis.
-/
import Derived.Test.YthnbfllhmjpbjaaKRef
namespace Go.Proofs.Ythnbfllhmjpbjaa
open Go.RowKit
attribute [local go_sem] run_store_float

set_option maxRecDepth 100000 in
set_option maxHeartbeats 2000000 in
theorem onAxis_any (S : Int) (L H v : Nat) (A : Option Addr) (n c : Nat) (w : World) (hC : CubOk S L H n) :
    Calls Try.prog 20 #[cub S L H A n c, .float .f32 v] w (PlS (plN S L H v) (plS S L H v) w) := by
  have hrun := tC_run hC v
  have s1 := hC.s1
  have s2 := hC.s2
  clear hC
  have HB : RowKit.Hid (Below w.heap.size w (w.alloc (.cells #[.int .i64 S, .float .f32 L, .float .f32 H, .slice A n c] 25))) := hid ((Below.refl _ _).alloc (Nat.le_refl _) _)
  cases hg : FloatKind.f32.format.order (tC S L H v) 0 == some .gt
  · have t1 : ∀ w1 w2 w3 w4, (FloatKind.f32.format.order (fop .mul .f32 (fop .quo .f32 (fop .sub .f32 v L w1) (fop .sub .f32 H L w2) w3) (floatOfInt .f32 (S - 1)) w4) 0 == some .gt) = false := fun w1 w2 w3 w4 => by
      rw [← order_c0, hrun]; exact hg
    have HQ := hid (pl_low hg)
    clear hg hrun
    go_enter Try.func20, Try.ntmps20
    go_wp2_with fail
    go_ret2
    exact ⟨by rw [HQ.out.1, HQ.out.2]; rfl, by first | exact HB.out | exact below_drewN HB.out _ | (simp only [World.drewN_drewN]; exact below_drewN HB.out _)⟩
  · have hnn : isN .f32 (tC S L H v) = false := by
      cases h : isN .f32 (tC S L H v)
      · rfl
      · rw [order_nanl _ _ _ h] at hg; cases hg
    have hv : ∀ w1 w2 w3 w4, fop .mul .f32 (fop .quo .f32 (fop .sub .f32 v L w1) (fop .sub .f32 H L w2) w3) (floatOfInt .f32 (S - 1)) w4 = tC S L H v := fun w1 w2 w3 w4 => by
      have e := hrun w1 w2 w3 w4
      have : isN .f32 (fop .mul .f32 (fop .quo .f32 (fop .sub .f32 v L w1) (fop .sub .f32 H L w2) w3) (floatOfInt .f32 (S - 1)) w4) = false := by rw [← isN_cn, e]; exact hnn
      rw [cn_of_not this] at e
      exact e
    clear hrun
    cases hl : FloatKind.f32.format.order (tC S L H v) (lastB S) == some .lt
    · have HQ := hid (pl_high hg hl)
      have hl2 : (FloatKind.f32.format.order (tC S L H v) (floatOfInt .f32 (S - 1)) == some .lt) = false := hl
      obtain ⟨X, hX⟩ : ∃ X, X = tC S L H v := ⟨_, rfl⟩
      rw [← hX] at hg hv hl2
      clear hl hnn hX
      go_enter Try.func20, Try.ntmps20
      go_wp2_with fail
      go_ret2
      exact ⟨by rw [HQ.out.1, HQ.out.2]; rfl, by first | exact HB.out | exact below_drewN HB.out _ | (simp only [World.drewN_drewN]; exact below_drewN HB.out _)⟩
    · obtain ⟨m, m2, hi, hi2, hf2, q, hq, _⟩ := inside_fv s1 s2 hg hl
      have HQ := hid (pl_in hg hl hi)
      have hl2 : (FloatKind.f32.format.order (tC S L H v) (floatOfInt .f32 (S - 1)) == some .lt) = true := hl
      obtain ⟨k5, k6⟩ : (∀ w, fop .sub .f32 (tC S L H v) (floatOfInt .f32 m) w = cop .sub .f32 (tC S L H v) (floatOfInt .f32 m)) ∧ fdr .sub .f32 (tC S L H v) (floatOfInt .f32 m) = 0 := by
        have hnan := hq.not_nan
        cases hb : floatBits .sub .f32 (tC S L H v) (floatOfInt .f32 m) with
        | none =>
          have e : cop .sub .f32 (tC S L H v) (floatOfInt .f32 m) = qnan .f32 := by simp [cop, hb]
          rw [e, isN_qnan] at hnan; cases hnan
        | some r => exact ⟨fun w => by simp [fop, cop, hb], by simp [fdr, hb]⟩
      have hcv : ∀ w, (convert 22 3 (.float .f32 (tC S L H v))).run Try.prog w = .ok (.int .i64 m) w := fun w =>
        run_convert_float_int w _ _ _ _ _ _ (by rw [Try.underlying22]; rfl) Try.underlying3 hi
      obtain ⟨X, hX⟩ : ∃ X, X = tC S L H v := ⟨_, rfl⟩
      rw [← hX] at hg hv hl2 k5 k6 hcv
      have HX := hid hX
      clear hl hnn hi hi2 hf2 hq hX
      go_enter Try.func20, Try.ntmps20
      go_wp2_with fail
      go_ret2
      exact ⟨by rw [HQ.out.1, HQ.out.2, ← HX.out]; rfl, by first | exact HB.out | exact below_drewN HB.out _ | (simp only [World.drewN_drewN]; exact below_drewN HB.out _)⟩

end Go.Proofs.Ythnbfllhmjpbjaa
