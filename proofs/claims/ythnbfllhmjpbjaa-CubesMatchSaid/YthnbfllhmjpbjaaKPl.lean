/-
  Cubes: where a value lies on an axis: Place, and OnAxis of the reference.
-/
import Derived.Test.YthnbfllhmjpbjaaKChk
import Derived.Test.YthnbfllhmjpbjaaKFlo
namespace Go.Proofs.Ythnbfllhmjpbjaa
open Go.RowKit
attribute [local go_sem] run_store_float

def lastB (S : Int) : Nat := floatOfInt .f32 (S - 1)
/-- A value on an axis, by steps. -/
def tC (S : Int) (L H v : Nat) : Nat := cop .mul .f32 (cop .quo .f32 (cop .sub .f32 (cl v) L) (cop .sub .f32 H L)) (lastB S)
def plN (S : Int) (L H v : Nat) : Int :=
  if (FloatKind.f32.format.order (tC S L H v) 0 == some .gt) = true then (if (FloatKind.f32.format.order (tC S L H v) (lastB S) == some .lt) = true then (floatToIntVal .f32 (tC S L H v) .i64).getD 0 else S - 2) else 0
def plS (S : Int) (L H v : Nat) : Nat :=
  if (FloatKind.f32.format.order (tC S L H v) 0 == some .gt) = true then (if (FloatKind.f32.format.order (tC S L H v) (lastB S) == some .lt) = true then cop .sub .f32 (tC S L H v) (floatOfInt .f32 (plN S L H v)) else 1065353216) else 0

section
variable {S : Int} {L H v : Nat}
theorem pl_low (h : (FloatKind.f32.format.order (tC S L H v) 0 == some .gt) = false) : plN S L H v = 0 ∧ plS S L H v = 0 := by
  unfold plN plS; rw [if_neg (by simp [h]), if_neg (by simp [h])]; exact ⟨rfl, rfl⟩
theorem pl_high (h : (FloatKind.f32.format.order (tC S L H v) 0 == some .gt) = true) (h2 : (FloatKind.f32.format.order (tC S L H v) (lastB S) == some .lt) = false) : plN S L H v = S - 2 ∧ plS S L H v = 1065353216 := by
  unfold plN plS; rw [if_pos h, if_pos h, if_neg (by simp [h2]), if_neg (by simp [h2])]; exact ⟨rfl, rfl⟩
theorem pl_in (h : (FloatKind.f32.format.order (tC S L H v) 0 == some .gt) = true) (h2 : (FloatKind.f32.format.order (tC S L H v) (lastB S) == some .lt) = true) {n : Int} (hn : floatToIntVal .f32 (tC S L H v) .i64 = some n) :
    plN S L H v = n ∧ plS S L H v = cop .sub .f32 (tC S L H v) (floatOfInt .f32 n) := by
  have e : plN S L H v = n := by unfold plN; rw [if_pos h, if_pos h2, hn]; rfl
  exact ⟨e, by unfold plS; rw [if_pos h, if_pos h2, e]⟩
end

theorem last_fv {S : Int} (h1 : 2 ≤ S) (h2 : S ≤ 17) : ∃ m : Nat, S - 1 = (m : Int) ∧ 1 ≤ m ∧ m ≤ 16 ∧ Fv .f32 (lastB S) (m : Rat) := by
  obtain ⟨m, hm⟩ : ∃ m : Nat, S - 1 = (m : Int) := ⟨(S - 1).toNat, by omega⟩
  refine ⟨m, hm, by omega, by omega, ?_⟩
  unfold lastB
  rw [hm]
  exact (of_floor m (by omega)).2.2

/-- What a single between 0 and the last place has. -/
theorem inside_fv {S : Int} {X : Nat} (h1 : 2 ≤ S) (h2 : S ≤ 17) (hg : (FloatKind.f32.format.order X 0 == some .gt) = true) (hl : (FloatKind.f32.format.order X (lastB S) == some .lt) = true) :
    ∃ n : Nat, (n : Int) + 2 ≤ S ∧ floatToIntVal .f32 X .i64 = some (n : Int) ∧ floatToIntVal .f64 (floorB (wid X)) .i64 = some (n : Int) ∧
      (floatToFloatBits .f64 (floorB (wid X)) .f32 = some (floatOfInt .f32 n)) ∧ ∃ q, Fv .f32 (cop .sub .f32 X (floatOfInt .f32 n)) q ∧ 0 ≤ q := by
  obtain ⟨m, hm, m1, m2, hf⟩ := last_fv h1 h2
  have hx : ∃ a, Fv .f32 X a := by
    cases hr : FloatKind.f32.format.read X with
    | nan s t =>
      rw [order_nanl _ _ _ (by unfold isN; rw [hr]; rfl)] at hg; cases hg
    | number s m p => exact ⟨_, s, m, p, hr, rfl⟩
    | infinity s =>
      exfalso
      obtain ⟨s', m', p', hr', _⟩ := hf
      have h0 : FloatKind.f32.format.read 0 = .number false 0 (-149) := by decide +kernel
      cases s
      · simp [Ieee.Format.order, hr, hr', Ieee.Datum.order] at hl
      · simp [Ieee.Format.order, hr, h0, Ieee.Datum.order] at hg
  obtain ⟨a, ha⟩ := hx
  have hz : Fv .f32 0 0 := ⟨false, 0, -149, by decide +kernel, by rw [dv_zero]⟩
  rw [forder ha hz] at hg
  rw [forder ha hf] at hl
  have ha0 : 0 < a := by
    by_cases h : a < 0
    · rw [if_pos h] at hg; cases hg
    · rw [if_neg h] at hg
      by_cases h' : 0 < a
      · exact h'
      · rw [if_neg h'] at hg; cases hg
  have ham : a < (m : Rat) := by
    by_cases h : a < (m : Rat)
    · exact h
    · rw [if_neg h] at hl
      split at hl <;> cases hl
  have hm17 : (m : Rat) ≤ 16 := by
    have : (m : Rat) ≤ ((16 : Nat) : Rat) := by exact_mod_cast m2
    simpa using this
  obtain ⟨n, hn, n17, hfl, hi⟩ := floor_nat ha ha0 (by grind)
  obtain ⟨o1, o2, o3⟩ := of_floor n n17
  have hnm : (n : Int) < (m : Int) := by rw [← hn]; exact Rat.floor_lt_iff.2 (by rw [Rat.intCast_natCast]; exact ham)
  have hle := Rat.floor_le a
  have hlt := Rat.lt_floor_add_one a
  rw [hn] at hle hlt
  rw [Rat.intCast_natCast] at hle
  rw [Rat.intCast_add, Rat.intCast_natCast] at hlt
  have h1' : ((1 : Int) : Rat) = 1 := rfl
  rw [h1'] at hlt
  have hp : (1 : Rat) < pw 127 := by unfold pw; decide +kernel
  obtain ⟨q, hq, hN⟩ := fsub ha o3 (by grind) (by grind)
  exact ⟨n, by omega, hi, by rw [hfl]; exact o1, by rw [hfl]; exact o2, q, hq, hN.2.1 (by grind)⟩

/-- What a place is, whatever the value: in a cell, and a share that is a number. -/
theorem pl_wf {S : Int} {L H : Nat} (v : Nat) (h1 : 2 ≤ S) (h2 : S ≤ 17) : 0 ≤ plN S L H v ∧ plN S L H v + 2 ≤ S ∧ fin (plS S L H v) = true := by
  cases hg : FloatKind.f32.format.order (tC S L H v) 0 == some .gt
  · rw [(pl_low hg).1, (pl_low hg).2]; exact ⟨by omega, by omega, by decide +kernel⟩
  · cases hl : FloatKind.f32.format.order (tC S L H v) (lastB S) == some .lt
    · rw [(pl_high hg hl).1, (pl_high hg hl).2]; exact ⟨by omega, by omega, by decide +kernel⟩
    · obtain ⟨n, n2, hi, _, _, q, hq, _⟩ := inside_fv h1 h2 hg hl
      rw [(pl_in hg hl hi).1, (pl_in hg hl hi).2]
      exact ⟨by omega, n2, fv_fin hq⟩

/-- The steps as a run gives them. -/
theorem tC_run {S : Int} {L H n : Nat} (hC : CubOk S L H n) (v : Nat) (w1 w2 w3 w4 : World) :
    cn .f32 (fop .mul .f32 (fop .quo .f32 (fop .sub .f32 v L w1) (fop .sub .f32 H L w2) w3) (floatOfInt .f32 (S - 1)) w4) = tC S L H v := by
  obtain ⟨m, _, _, _, hf⟩ := last_fv hC.s1 hC.s2
  have hl := hf.cn
  obtain ⟨x, hx⟩ := fin_fv hC.fl
  obtain ⟨y, hy⟩ := fin_fv hC.fh
  have e1 := hx.cn
  have e2 := hy.cn
  unfold lastB at hl
  rw [cn_fop, cn_fop, cn_fop, cn_fop, hl, e1, e2]
  rfl

def PlS (a : Int) (b : Nat) (w : World) (e : Ending) (w' : World) : Prop := e = .returned (.tuple #[.int .i64 a, .float .f32 b]) ∧ Below w.heap.size w w'

set_option maxRecDepth 100000 in
set_option maxHeartbeats 2000000 in
theorem place_any (S : Int) (L H v : Nat) (A : Option Addr) (n c : Nat) (w : World) (hC : CubOk S L H n) :
    Calls Try.prog 14 #[cub S L H A n c, .float .f32 v] w (PlS (plN S L H v) (plS S L H v) w) := by
  have z1 : (cubE S L H n != 0) = false := by rw [hC.zero]; rfl
  have hrun := tC_run hC v
  have s1 := hC.s1
  have s2 := hC.s2
  have HC := hid hC
  clear hC
  cases hg : FloatKind.f32.format.order (tC S L H v) 0 == some .gt
  · have t1 : ∀ w1 w2 w3 w4, (FloatKind.f32.format.order (fop .mul .f32 (fop .quo .f32 (fop .sub .f32 v L w1) (fop .sub .f32 H L w2) w3) (floatOfInt .f32 (S - 1)) w4) 0 == some .gt) = false := fun w1 w2 w3 w4 => by
      rw [← order_c0, hrun]; exact hg
    have HQ := hid (pl_low hg)
    clear hg hrun
    go_enter Try.func14, Try.ntmps14
    go_wp2_with fail
    refine (check_any _ _ _ _ _ _ _).mono ?_
    rintro e w1 ⟨rfl, hb⟩
    have c0 := (boxed hb).cell 0
    have c1 := (boxed hb).cell 1
    have c2 := (boxed hb).cell 2
    simp at c0 c1 c2
    have HB := hid (below_box hb)
    clear hb
    go_wp2
    go_ret2
    exact ⟨by rw [HQ.out.1, HQ.out.2]; rfl, by first | exact HB.out | exact below_drewN HB.out _ | (simp only [World.drewN_drewN]; exact below_drewN HB.out _)⟩
  · have hnn : isN .f32 (tC S L H v) = false := by
      cases h : isN .f32 (tC S L H v)
      · rfl
      · rw [order_nanl _ _ _ h] at hg; cases hg
    have hv : ∀ w1 w2 w3 w4, fop .mul .f32 (fop .quo .f32 (fop .sub .f32 v L w1) (fop .sub .f32 H L w2) w3) (floatOfInt .f32 (S - 1)) w4 = tC S L H v := fun w1 w2 w3 w4 => by
      have e := hrun w1 w2 w3 w4
      have : isN .f32 (fop .mul .f32 (fop .quo .f32 (fop .sub .f32 v L w1) (fop .sub .f32 H L w2) w3) (floatOfInt .f32 (S - 1)) w4) = false := by rw [← isN_cn, e]; exact hnn
      rw [cn_of_not this] at e
      exact e
    clear hrun
    cases hl : FloatKind.f32.format.order (tC S L H v) (lastB S) == some .lt
    · have HQ := hid (pl_high hg hl)
      have hl2 : (FloatKind.f32.format.order (tC S L H v) (floatOfInt .f32 (S - 1)) == some .gt || FloatKind.f32.format.order (tC S L H v) (floatOfInt .f32 (S - 1)) == some .eq) = true := by
        obtain ⟨m, _, _, _, hf⟩ := last_fv s1 s2
        obtain ⟨o, ho⟩ : ∃ o, FloatKind.f32.format.order (tC S L H v) (lastB S) = some o := by
          cases hr : FloatKind.f32.format.read (tC S L H v) with
          | nan s t => unfold isN at hnn; rw [hr] at hnn; cases hnn
          | number s m p => exact ⟨_, forder ⟨s, m, p, hr, rfl⟩ hf⟩
          | infinity s =>
            obtain ⟨s', m', p', hr', _⟩ := hf
            exact ⟨if s = true then .lt else .gt, by simp only [Ieee.Format.order, hr, hr', Ieee.Datum.order]⟩
        have ho' : FloatKind.f32.format.order (tC S L H v) (floatOfInt .f32 (S - 1)) = some o := ho
        rw [ho] at hl
        rw [ho']
        cases o <;> first | rfl | cases hl
      obtain ⟨X, hX⟩ : ∃ X, X = tC S L H v := ⟨_, rfl⟩
      rw [← hX] at hg hv hl2
      clear hl hnn hX
      go_enter Try.func14, Try.ntmps14
      go_wp2_with fail
      refine (check_any _ _ _ _ _ _ _).mono ?_
      rintro e w1 ⟨rfl, hb⟩
      have c0 := (boxed hb).cell 0
      have c1 := (boxed hb).cell 1
      have c2 := (boxed hb).cell 2
      simp at c0 c1 c2
      have HB := hid (below_box hb)
      clear hb
      go_wp2
      go_ret2
      exact ⟨by rw [HQ.out.1, HQ.out.2]; rfl, by first | exact HB.out | exact below_drewN HB.out _ | (simp only [World.drewN_drewN]; exact below_drewN HB.out _)⟩
    · obtain ⟨m, m2, hi, hi2, hf2, q, hq, _⟩ := inside_fv s1 s2 hg hl
      have HQ := hid (pl_in hg hl hi)
      have hl2 : (FloatKind.f32.format.order (tC S L H v) (floatOfInt .f32 (S - 1)) == some .gt || FloatKind.f32.format.order (tC S L H v) (floatOfInt .f32 (S - 1)) == some .eq) = false := by
        have hl' : (FloatKind.f32.format.order (tC S L H v) (floatOfInt .f32 (S - 1)) == some .lt) = true := hl
        generalize FloatKind.f32.format.order (tC S L H v) (floatOfInt .f32 (S - 1)) = o at *
        cases o with
        | none => cases hl'
        | some o => cases o <;> first | rfl | cases hl'
      obtain ⟨k1, k2⟩ := widF _ hnn
      have HN := hid (isN_wid _ hnn)
      have k3 : ∀ w, fcv .f64 (floorB (wid (tC S L H v))) .f32 w = floatOfInt .f32 m := fun w => fcvv hf2 w
      have k4 : fcd .f64 (floorB (wid (tC S L H v))) .f32 = 0 := fcdv hf2
      obtain ⟨k5, k6⟩ : (∀ w, fop .sub .f32 (tC S L H v) (floatOfInt .f32 m) w = cop .sub .f32 (tC S L H v) (floatOfInt .f32 m)) ∧ fdr .sub .f32 (tC S L H v) (floatOfInt .f32 m) = 0 := by
        have hnan := hq.not_nan
        cases hb : floatBits .sub .f32 (tC S L H v) (floatOfInt .f32 m) with
        | none =>
          have e : cop .sub .f32 (tC S L H v) (floatOfInt .f32 m) = qnan .f32 := by simp [cop, hb]
          rw [e, isN_qnan] at hnan; cases hnan
        | some r => exact ⟨fun w => by simp [fop, cop, hb], by simp [fdr, hb]⟩
      have hcv : ∀ w, (convert 45 3 (.float .f64 (floorB (wid (tC S L H v))))).run Try.prog w = .ok (.int .i64 m) w := fun w =>
        run_convert_float_int w _ _ _ _ _ _ (by rw [Try.underlying45]; rfl) Try.underlying3 hi2
      obtain ⟨X, hX⟩ : ∃ X, X = tC S L H v := ⟨_, rfl⟩
      rw [← hX] at hg hv hl2 k1 k2 k3 k4 k5 k6 hcv HN
      have HX := hid hX
      clear hl hnn hi hi2 hf2 hq hX
      go_enter Try.func14, Try.ntmps14
      go_wp2_with fail
      refine (check_any _ _ _ _ _ _ _).mono ?_
      rintro e w1 ⟨rfl, hb⟩
      have c0 := (boxed hb).cell 0
      have c1 := (boxed hb).cell 1
      have c2 := (boxed hb).cell 2
      simp at c0 c1 c2
      have HB := hid (below_box hb)
      clear hb
      go_wp2_with (go_at_call 71; refine (floor_any _ HN.out _).mono ?_; rintro e w' ⟨rfl, rfl⟩)
      go_ret2
      exact ⟨by rw [HQ.out.1, HQ.out.2, HX.out]; rfl, by first | exact HB.out | exact below_drewN HB.out _ | (simp only [World.drewN_drewN]; exact below_drewN HB.out _)⟩
end Go.Proofs.Ythnbfllhmjpbjaa
