/-
  Numbers that are not below 0: squares, their sums, and the root.
-/
import Derived.Test.YthoiiccecneefaaQVw
namespace Go.Proofs.Ythoiiccecneefaa
open Go.RowKit Go.Shelf
open Ieee (Datum Format signed)

/-- No NaN, and without a sign. -/
def NN (k : FloatKind) (b : Nat) : Prop := (k.format.read b).isNaN = false ∧ (k.format.read b).neg = false
theorem read_word_nn (k : FloatKind) (r : Nat) (h : r ≤ k.format.infRung) : NN k (k.format.word false r) := by
  refine ⟨word_not_nan k false r h, ?_⟩
  have hw : k.format.word false r = r := by unfold Format.word; simp
  rw [hw]
  have hlt : r < k.format.signWeight := by
    cases k
    · have h' : r ≤ 2139095040 := h
      show r < 2147483648
      omega
    · have h' : r ≤ 9218868437227405312 := h
      show r < 9223372036854775808
      omega
  unfold Format.read
  dsimp only
  rw [Nat.div_eq_of_lt hlt]
  split
  · rfl
  · split
    · rfl
    · split <;> rfl
theorem write_nn (k : FloatKind) (d : Datum) (h1 : d.isNaN = false) (h2 : d.neg = false) : NN k (k.format.write d) := by
  cases d with
  | nan s t => cases h1
  | infinity s =>
    have : s = false := h2
    subst this
    exact read_word_nn k _ (Nat.le_refl _)
  | number s m e =>
    have : s = false := h2
    subst this
    unfold Format.write Format.nearest
    dsimp only
    split
    · exact read_word_nn k _ (Nat.zero_le _)
    · exact read_word_nn k _ (Nat.min_le_right ..)

theorem mul_self_nn {x : Nat} (h : isN .f32 x = false) : ∃ a, floatBits .mul .f32 x x = some a ∧ NN .f32 a := by
  unfold isN at h
  show ∃ a, Option.map _ ((FloatKind.f32.format.read x).product (FloatKind.f32.format.read x)) = some a ∧ _
  cases hd : FloatKind.f32.format.read x with
  | nan s t => rw [hd] at h; cases h
  | infinity s => exact ⟨_, rfl, write_nn .f32 _ rfl (by cases s <;> rfl)⟩
  | number s m i => exact ⟨_, rfl, write_nn .f32 _ rfl (by cases s <;> rfl)⟩
theorem add_nn {a b : Nat} (ha : NN .f32 a) (hb : NN .f32 b) : ∃ c, floatBits .add .f32 a b = some c ∧ NN .f32 c := by
  show ∃ c, Option.map _ ((FloatKind.f32.format.read a).sum (FloatKind.f32.format.read b)) = some c ∧ _
  obtain ⟨a1, a2⟩ := ha
  obtain ⟨b1, b2⟩ := hb
  cases hd : FloatKind.f32.format.read a with
  | nan s t => rw [hd] at a1; cases a1
  | infinity s =>
    rw [hd] at a2
    have : s = false := a2
    subst this
    cases he : FloatKind.f32.format.read b with
    | nan s t => rw [he] at b1; cases b1
    | infinity t =>
      rw [he] at b2
      have : t = false := b2
      subst this
      exact ⟨_, rfl, write_nn .f32 _ rfl rfl⟩
    | number t n j => exact ⟨_, rfl, write_nn .f32 _ rfl rfl⟩
  | number s m i =>
    rw [hd] at a2
    have : s = false := a2
    subst this
    cases he : FloatKind.f32.format.read b with
    | nan s t => rw [he] at b1; cases b1
    | infinity t =>
      rw [he] at b2
      have : t = false := b2
      subst this
      exact ⟨_, rfl, write_nn .f32 _ rfl rfl⟩
    | number t n j =>
      rw [he] at b2
      have : t = false := b2
      subst this
      refine ⟨_, rfl, write_nn .f32 _ rfl ?_⟩
      show (if signed false m (i - min i j).toNat + signed false n (j - min i j).toNat = 0 then (false && false) else decide (signed false m (i - min i j).toNat + signed false n (j - min i j).toNat < 0)) = false
      have e : ∀ m u, 0 ≤ signed false m u := fun m u => by unfold signed; simp only [Bool.false_eq_true, if_false]; exact Int.natCast_nonneg _
      have e1 := e m (i - min i j).toNat
      have e2 := e n (j - min i j).toNat
      split
      · rfl
      · exact decide_eq_false (by omega)

theorem root_nn {v : Nat} (h : NN .f32 v) : isN .f32 (rooC v) = false := by
  have hv : isN .f32 v = false := h.1
  have hw : NN .f64 (wid v) := write_nn .f64 _ h.1 h.2
  have hs : ∃ R, FloatKind.f64.format.sqrt (wid v) = some R := by
    unfold Format.sqrt
    obtain ⟨w1, w2⟩ := hw
    cases hd : FloatKind.f64.format.read (wid v) with
    | nan s t => rw [hd] at w1; cases w1
    | infinity s =>
      rw [hd] at w2
      have : s = false := w2
      subst this
      exact ⟨_, rfl⟩
    | number s m i =>
      rw [hd] at w2
      have : s = false := w2
      subst this
      unfold Datum.root
      dsimp only
      split
      · exact ⟨_, rfl⟩
      · exact ⟨_, rfl⟩
  obtain ⟨R, hR⟩ := hs
  obtain ⟨r, hr⟩ := Option.isSome_iff_exists.1 (sqrt_some hv hR)
  unfold rooC
  rw [if_neg (by rw [hv]; simp), hR]
  simp only [hr, Option.getD_some]
  rw [isN_cn]
  unfold floatToFloatBits at hr
  rw [if_neg (by decide)] at hr
  cases hd : FloatKind.f64.decode R with
  | nan s t => rw [hd] at hr; cases hr
  | infinity s =>
    rw [hd] at hr
    injection hr with hr
    rw [← hr]
    exact write_not_nan .f32 (.infinity s) rfl
  | number s m e =>
    rw [hd] at hr
    simp only at hr
    split at hr
    · cases hr
    · injection hr with hr; rw [← hr]; exact write_not_nan .f32 (.number s m e) rfl

/-- What a root's operations give in a run: they draw nothing. -/
theorem root_run {v : Nat} (h : NN .f32 v) : ∃ R r, (∀ w, fcv .f32 v .f64 w = wid v) ∧ fcd .f32 v .f64 = 0 ∧ (∀ w, fsq (wid v) w = R) ∧ fsd (wid v) = 0 ∧ (∀ w, fcv .f64 R .f32 w = r) ∧ fcd .f64 R .f32 = 0 ∧ isN .f32 r = false ∧ cl r = rooC v := by
  have hv : isN .f32 v = false := h.1
  have hn := root_nn h
  have hw : NN .f64 (wid v) := write_nn .f64 _ h.1 h.2
  have hs : ∃ R, FloatKind.f64.format.sqrt (wid v) = some R := by
    unfold Format.sqrt
    obtain ⟨w1, w2⟩ := hw
    cases hd : FloatKind.f64.format.read (wid v) with
    | nan s t => rw [hd] at w1; cases w1
    | infinity s =>
      rw [hd] at w2
      have : s = false := w2
      subst this
      exact ⟨_, rfl⟩
    | number s m i =>
      rw [hd] at w2
      have : s = false := w2
      subst this
      unfold Datum.root
      dsimp only
      split
      · exact ⟨_, rfl⟩
      · exact ⟨_, rfl⟩
  obtain ⟨R, hR⟩ := hs
  obtain ⟨r, hr⟩ := Option.isSome_iff_exists.1 (sqrt_some hv hR)
  have hroo : rooC v = cn .f32 r := by
    unfold rooC
    rw [if_neg (by rw [hv]; simp), hR]
    simp only [hr, Option.getD_some]
  refine ⟨R, r, fun w => fcvv (widen_some v hv) w, fcdv (widen_some v hv), fun w => by unfold fsq; rw [hR]; rfl, by unfold fsd; rw [hR], fun w => fcvv hr w, fcdv hr, ?_, hroo.symm⟩
  rw [hroo, isN_cn] at hn
  exact hn
theorem sub_fin {x y : Nat} (h : isN .f32 x = false) (hy : fin y = true) : floatBits .sub .f32 x y = some (cop .sub .f32 x y) := by
  refine some_cop ?_
  obtain ⟨q, t, n, j, hr, _⟩ := fin_fv hy
  show (Option.map _ ((FloatKind.f32.format.read x).sum (FloatKind.f32.format.read y).opposite)).isSome = true
  rw [hr]
  unfold isN at h
  cases hd : FloatKind.f32.format.read x with
  | nan s t => rw [hd] at h; cases h
  | infinity s => rfl
  | number s m i => rfl
end Go.Proofs.Ythoiiccecneefaa
