/-
  Windows: Moved of the program, where nothing is wrong.
-/
import Derived.Test.YtfeabmdioeelhaaYMov
namespace Go.Proofs.Ytfeabmdioeelhaa
open Go.RowKit Go.Shelf
open Ieee (Datum Format signed)
attribute [local go_sem] run_store_float

theorem fin_fv {b : Nat} (h : fin b = true) : ∃ q, Fv .f32 b q := by
  have h' : b % 2147483648 < 2139095040 := by simpa [fin] using h
  cases hr : FloatKind.f32.format.read b with
  | number s m p => exact ⟨_, s, m, p, hr, rfl⟩
  | nan s t =>
    exfalso
    have e := read_isNaN FloatKind.f32.format b (by decide)
    rw [hr] at e
    have e2 : FloatKind.f32.format.infRung = 2139095040 := rfl
    have e3 : FloatKind.f32.format.signWeight = 2147483648 := rfl
    rw [e2, e3] at e
    have : decide (2139095040 < b % 2147483648) = false := by simp; omega
    rw [this] at e
    cases e
  | infinity s =>
    exfalso
    unfold Format.read at hr
    dsimp only at hr
    have e2 : FloatKind.f32.format.infRung = 2139095040 := rfl
    have e3 : FloatKind.f32.format.signWeight = 2147483648 := rfl
    rw [e2, e3] at hr
    split at hr
    · cases hr
    · first
        | cases hr
        | (split at hr
           · cases hr
           · rename_i h2; exact h2 h')

/-- A sum of numbers is none of the open ones. -/
theorem add_some {x y : Nat} {a b : Rat} (hx : Fv .f32 x a) (hy : Fv .f32 y b) : floatBits .add .f32 x y = some (cop .add .f32 x y) := by
  obtain ⟨s, m, i, hr, rfl⟩ := hx
  obtain ⟨t, n, j, hr', rfl⟩ := hy
  obtain ⟨u, M, hs, hv⟩ := sum_val s t m n i j
  have e : floatBits .add .f32 x y = some (FloatKind.f32.format.write (.number u M (min i j))) := by
    show Option.map _ ((FloatKind.f32.format.read x).sum (FloatKind.f32.format.read y)) = _
    rw [hr, hr', hs]; rfl
  rw [cop_some e, e]
theorem sub_some {x y : Nat} {a b : Rat} (hx : Fv .f32 x a) (hy : Fv .f32 y b) : floatBits .sub .f32 x y = some (cop .sub .f32 x y) := by
  obtain ⟨s, m, i, hr, rfl⟩ := hx
  obtain ⟨t, n, j, hr', rfl⟩ := hy
  obtain ⟨u, M, hs, hv⟩ := sum_val s (!t) m n i j
  have e : floatBits .sub .f32 x y = some (FloatKind.f32.format.write (.number u M (min i j))) := by
    show Option.map _ ((FloatKind.f32.format.read x).sum (FloatKind.f32.format.read y).opposite) = _
    rw [hr, hr']
    show Option.map _ ((Datum.number s m i).sum (Datum.number (!t) n j)) = _
    rw [hs]; rfl
  rw [cop_some e, e]
end Go.Proofs.Ytfeabmdioeelhaa
