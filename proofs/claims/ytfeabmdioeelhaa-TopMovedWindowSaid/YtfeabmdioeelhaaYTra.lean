/-
  Windows: what they have is a number; moved, they have the same at moved places; singles as integers.
-/
import Derived.Test.YtfeabmdioeelhaaYCvr
namespace Go.Proofs.Ytfeabmdioeelhaa
open Go.RowKit Go.Shelf
open Ieee (Datum Format signed)

theorem fv_two : Fv .f32 1073741824 2 := by
  have h := ofInt_fv (n := 2) (by decide)
  have e : floatOfInt .f32 2 = 1073741824 := by decide +kernel
  rw [e] at h; exact h
theorem fv_three : Fv .f32 1077936128 3 := by
  have h := ofInt_fv (n := 3) (by decide)
  have e : floatOfInt .f32 3 = 1077936128 := by decide +kernel
  rw [e] at h; exact h

theorem lim_num {t : Nat} (h : isN .f32 t = false) : ∃ q, Fv .f32 (limC t 0 1065353216) q ∧ 0 ≤ q ∧ q ≤ 1 := by
  unfold limC
  by_cases h1 : (FloatKind.f32.format.order t 0 == some .lt) = true
  · rw [if_pos h1]
    exact ⟨0, by unfold cl; rw [cn_nul]; exact fv_nul, by decide, by decide⟩
  · rw [if_neg h1]
    by_cases h2 : (FloatKind.f32.format.order t 1065353216 == some .gt) = true
    · rw [if_pos h2]
      exact ⟨1, by unfold cl; rw [cn_one]; exact fv_one, by decide, by decide⟩
    · rw [if_neg h2]
      have ht : cl t = t := cn_of_not h
      rw [ht]
      cases hr : FloatKind.f32.format.read t with
      | nan s u => unfold isN at h; rw [hr] at h; cases h
      | infinity s =>
        exfalso
        obtain ⟨s0, m0, p0, r0, _⟩ := fv_nul
        obtain ⟨s1, m1, p1, r1, _⟩ := fv_one
        unfold Format.order at h1 h2
        rw [hr, r0] at h1
        rw [hr, r1] at h2
        cases s
        · exact h2 rfl
        · exact h1 rfl
      | number s m p =>
        have hv : Fv .f32 t (dv s m p) := ⟨s, m, p, hr, rfl⟩
        have e1 := forder hv fv_nul
        have e2 := forder hv fv_one
        refine ⟨_, hv, ?_, ?_⟩
        · by_cases hc : dv s m p < 0
          · rw [if_pos hc] at e1; rw [e1] at h1; exact absurd rfl h1
          · exact Rat.not_lt.1 hc
        · by_cases hc : 1 < dv s m p
          · rw [if_neg (by grind), if_pos hc] at e2; rw [e2] at h2; exact absurd rfl h2
          · exact Rat.not_lt.1 hc

theorem pw_small : pw (-126) ≤ 1 := by rw [← pw_zero]; exact pw_le (by decide)

theorem sm_num {t : Nat} (h : isN .f32 t = false) : ∃ q, Fv .f32 (smC t) q ∧ -3 ≤ q ∧ q ≤ 9 := by
  obtain ⟨q, hq, q0, q1⟩ := lim_num h
  have hp := pw127
  have hs := pw_small
  unfold smC
  dsimp only
  generalize limC t 0 1065353216 = s at *
  have b1 : q * q ≤ q * 1 := Rat.mul_le_mul_of_nonneg_left q1 q0
  have b2 : 0 ≤ q * q := Rat.mul_nonneg q0 q0
  obtain ⟨r1, f1, n1, n1', _⟩ := fmul hq hq (by grind) (by grind)
  obtain ⟨c1, c2⟩ := n1 1 (by grind) (by grind)
  have c3 := n1' b2
  obtain ⟨r2, f2, n2, n2', _⟩ := fmul fv_two hq (by grind) (by grind)
  obtain ⟨d1, d2⟩ := n2 2 (by grind) (by grind)
  have d3 := n2' (by grind)
  obtain ⟨r3, f3, n3, _⟩ := fsub fv_three f2 (by grind) (by grind)
  obtain ⟨e1, e2⟩ := n3 3 (by grind) (by grind)
  have g1 : -1 ≤ r3 := by grind
  have g2 : r3 ≤ 4 := by grind
  have g3 : r1 ≤ 2 := by grind
  have k1 : r1 * r3 ≤ r1 * 4 := Rat.mul_le_mul_of_nonneg_left g2 c3
  have k2 : r1 * (-1) ≤ r1 * r3 := Rat.mul_le_mul_of_nonneg_left g1 c3
  obtain ⟨r4, f4, n4, _⟩ := fmul f1 f3 (by grind) (by grind)
  obtain ⟨m1, m2⟩ := n4 8 (by grind) (by grind)
  exact ⟨r4, f4, by grind, by grind⟩

/-- What fades is a number. -/
theorem fad_num {d S : Nat} (h : (FloatKind.f32.format.order d 0 == some .gt) = true) : ∃ q, Fv .f32 (fadC d S) q ∧ -16 ≤ q ∧ q ≤ 16 := by
  unfold fadC
  by_cases h1 : (FloatKind.f32.format.order d S == some .lt) = true
  · rw [if_pos h1]
    have hq : ∃ r, floatBits .quo .f32 d S = some r := by
      obtain ⟨s0, m0, p0, r0, v0⟩ := fv_nul
      unfold Format.order at h h1
      have e : floatBits .quo .f32 d S = ((FloatKind.f32.format.read d).quotient (FloatKind.f32.format.fractionBits + 2) (FloatKind.f32.format.read S)).map FloatKind.f32.format.write := rfl
      rw [e]
      cases hd : FloatKind.f32.format.read d with
      | nan s u => rw [hd] at h; simp [Datum.order] at h
      | infinity s =>
        exfalso
        rw [hd, r0] at h
        rw [hd] at h1
        cases s
        · cases hS : FloatKind.f32.format.read S with
          | nan s u => rw [hS] at h1; simp [Datum.order] at h1
          | infinity t => rw [hS] at h1; cases t <;> exact absurd h1 (by decide)
          | number t n j => rw [hS] at h1; exact absurd h1 (by simp [Datum.order])
        · exact absurd h (by simp [Datum.order])
      | number s m i =>
        have hm : m ≠ 0 := by
          intro hm0
          have hv : Fv .f32 d (dv s m i) := ⟨s, m, i, hd, rfl⟩
          have e1 := forder hv fv_nul
          unfold Format.order at e1
          rw [e1] at h
          rw [hm0, dv_zero] at h
          simp at h
        cases hS : FloatKind.f32.format.read S with
        | nan s u => rw [hd, hS] at h1; simp [Datum.order] at h1
        | infinity t => exact ⟨_, rfl⟩
        | number t n j =>
          unfold Datum.quotient
          dsimp only
          by_cases hn : n = 0
          · rw [if_pos hn, if_neg hm]; exact ⟨_, rfl⟩
          · rw [if_neg hn]; exact ⟨_, rfl⟩
    obtain ⟨r, hr⟩ := hq
    rw [cop_some hr]
    obtain ⟨q, hv, a, b⟩ := sm_num (floatBits_not_nan hr)
    have hp := pw127
    obtain ⟨r5, f5, n5, _⟩ := fsub fv_one hv (by grind) (by grind)
    obtain ⟨e1, e2⟩ := n5 10 (by grind) (by grind)
    exact ⟨r5, f5, by grind, by grind⟩
  · rw [if_neg h1]
    exact ⟨0, fv_nul, by decide, by decide⟩

theorem bey_num (d S : Nat) : ∃ q, Fv .f32 (beyC d S) q ∧ -16 ≤ q ∧ q ≤ 16 := by
  unfold beyC
  by_cases h : (FloatKind.f32.format.order d 0 == some .gt) = true
  · rw [if_pos h]; exact fad_num h
  · rw [if_neg h]; exact ⟨1, fv_one, by decide, by decide⟩
theorem cov0_num (K : Int) (X Y W H S n : Nat) (P Q : Nat → Int) (x y : Int) : ∃ q, Fv .f32 (cov0 K X Y W H S n P Q x y) q ∧ -16 ≤ q ∧ q ≤ 16 := by
  unfold cov0
  split
  · exact bey_num _ _
  · split
    · exact bey_num _ _
    · unfold b2f
      split
      · exact ⟨1, fv_one, by decide, by decide⟩
      · exact ⟨0, fv_nul, by decide, by decide⟩
theorem covC_num (o : Bool) (K : Int) (X Y W H S n : Nat) (P Q : Nat → Int) (x y : Int) : isN .f32 (covC o K X Y W H S n P Q x y) = false := by
  obtain ⟨q, hq, a, b⟩ := cov0_num K X Y W H S n P Q x y
  unfold covC
  split
  · have hp := pw127
    obtain ⟨r5, f5, _⟩ := fsub fv_one hq (by grind) (by grind)
    exact f5.not_nan
  · exact hq.not_nan

/-- Moved by whole numbers: the same at moved places. -/
theorem cov_moved (o : Bool) (K : Int) (X Y W H S n : Nat) (P Q : Nat → Int) (x y dx dy zx zy : Int) (hX : Fv .f32 X (zx : Rat)) (hY : Fv .f32 Y (zy : Rat)) (x1 : -2097152 ≤ x) (x2 : x ≤ 2097152) (y1 : -2097152 ≤ y) (y2 : y ≤ 2097152)
    (hdx : dx.natAbs ≤ 1000) (hdy : dy.natAbs ≤ 1000) (hzx : zx.natAbs ≤ 100000) (hzy : zy.natAbs ≤ 100000) :
    covC o K (mvC K X dx) (mvC K Y dy) W H S n (fun i => P i + dx) (fun i => Q i + dy) (x + dx) (y + dy) = covC o K X Y W H S n P Q x y := by
  have e : cov0 K (mvC K X dx) (mvC K Y dy) W H S n (fun i => P i + dx) (fun i => Q i + dy) (x + dx) (y + dy) = cov0 K X Y W H S n P Q x y := by
    unfold cov0
    by_cases h3 : K = 3
    · subst h3
      rw [if_neg (by decide), if_neg (by decide), if_neg (by decide), if_neg (by decide), parB_moved]
    · have eX : cop .sub .f32 (floatOfInt .f32 (x + dx)) (mvC K X dx) = cop .sub .f32 (floatOfInt .f32 x) X := by
        unfold mvC
        rw [if_neg h3, add_int (by omega) hX, sub_int (by omega) (ofInt_fv (n := zx + dx) (by omega)), sub_int (by omega) hX, show x + dx - (zx + dx) = x - zx by omega]
      have eY : cop .sub .f32 (floatOfInt .f32 (y + dy)) (mvC K Y dy) = cop .sub .f32 (floatOfInt .f32 y) Y := by
        unfold mvC
        rw [if_neg h3, add_int (by omega) hY, sub_int (by omega) (ofInt_fv (n := zy + dy) (by omega)), sub_int (by omega) hY, show y + dy - (zy + dy) = y - zy by omega]
      rw [eX, eY]
      by_cases h1 : K = 1
      · rw [if_pos h1, if_pos h1]
      · rw [if_neg h1, if_neg h1]
        by_cases h2 : K = 2
        · rw [if_pos h2, if_pos h2]
        · rw [if_neg h2, if_neg h2, parB_moved]
  unfold covC
  rw [e]
end Go.Proofs.Ytfeabmdioeelhaa
