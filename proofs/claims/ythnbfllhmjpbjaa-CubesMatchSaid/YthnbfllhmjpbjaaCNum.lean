/-
  Colours: a pixel cleaned, floors of singles, tests for numbers.
-/
import Derived.Test.YthnbfllhmjpbjaaCHsvP
import Derived.Test.YthnbfllhmjpbjaaRatL
import Derived.LoopTactic
import Derived.Laws.Cover3
namespace Go.Proofs.Ythnbfllhmjpbjaa
open Go.RowKit
attribute [local go_sem] run_store_float

abbrev pixA (f : Nat → Nat) : Array Value := #[.float .f32 (f 0), .float .f32 (f 1), .float .f32 (f 2), .float .f32 (f 3)]
abbrev zpix : Array Value := #[.float .f32 0, .float .f32 0, .float .f32 0, .float .f32 0]

theorem run_index_pix (f : Nat → Nat) (k : Nat) (hk : k < 4) (w : World) : (Instr.index 27 (.agg #[.float .f32 (f 0), .float .f32 (f 1), .float .f32 (f 2), .float .f32 (f 3)]) (.int .i64 (k : Int))).run Try.prog w = .ok (.float .f32 (f k)) w := by
  have : k = 0 ∨ k = 1 ∨ k = 2 ∨ k = 3 := by omega
  rcases this with h | h | h | h <;> subst h <;> simp [Instr.index, run_underlying Try.underlying27, asIntOf, go_sem]

/-- The relation of the loop of cleaned. -/
structure CRel (f : Nat → Nat) (w : World) (k : Nat) (wr : World) : Prop where
  b0 : Blk wr w.heap.size 27 (pixA fun j => if j < k then cl (f j) else f j)
  b1 : Blk wr (w.heap.size + 1) 27 zpix
  be : Below w.heap.size w wr
theorem CRel.step {f : Nat → Nat} {w wr : World} {k : Nat} (h : CRel f w k wr) (hk : k < 4) : CRel f w (k + 1) (wr.setCell ⟨w.heap.size, k, none⟩ (.float .f32 (cl (f k)))) := by
  refine ⟨?_, h.b1.far (by simp) _, h.be.setCell (by simp) _⟩
  have := h.b0.set_ k (.float .f32 (cl (f k)))
  have hk4 : k = 0 ∨ k = 1 ∨ k = 2 ∨ k = 3 := by omega
  rcases hk4 with rfl | rfl | rfl | rfl <;> simpa [pixA] using this

/-- An infinity of a single. -/
theorem read32_inf {x : Nat} {s : Bool} (h : FloatKind.f32.format.read x = .infinity s) : floatToFloatBits .f64 (floorB (wid x)) .f32 = some (flC x) := by
  have e : wid x = FloatKind.f64.encode (.infinity s) := by
    unfold wid
    have : FloatKind.f32.decode x = .infinity s := h
    rw [this]
  unfold flC
  rw [e]
  cases s <;> decide +kernel

theorem floor_some (x : Nat) (h : isN .f32 x = false) : floatToFloatBits .f64 (floorB (wid x)) .f32 = some (flC x) := by
  cases hr : FloatKind.f32.format.read x with
  | nan s t => unfold isN at h; rw [hr] at h; cases h
  | infinity s => exact read32_inf hr
  | number s m p => exact (ffloor ⟨s, m, p, hr, rfl⟩).1

theorem integralRun (name : String) (way : Ieee.Toward) (x : Nat) (h : isN .f64 x = false) : Extern.MathFloor.toIntegral name way #[.float .f64 x] = pure (.float .f64 (FloatKind.f64.encode ((FloatKind.f64.decode x).integral way))) := by
  have h' : (FloatKind.f64.decode x).isNaN = false := h
  unfold Extern.MathFloor.toIntegral
  conv => lhs; whnf
  clear h
  generalize FloatKind.f64.decode x = d at *
  cases d with
  | nan s t => cases h'
  | number s m e => rfl
  | infinity s => rfl

theorem cf_floor (x : Nat) (h : isN .f64 x = false) (w : World) : (callFunc 122 #[.float .f64 x]).run Try.prog w = .ok (.value (.float .f64 (floorB x))) w := by
  rw [run_callFunc_extern (e := Extern.MathFloor.toIntegral "math.archFloor" .down) Try.func122 (by kernel_rfl) (by kernel_rfl) (by kernel_rfl) (by kernel_rfl) _ w, integralRun _ _ _ h]
  rfl

theorem floor_any (x : Nat) (h : isN .f64 x = false) (w : World) : Calls Try.prog 71 #[.float .f64 x] w fun e w' => e = .returned (.float .f64 (floorB x)) ∧ w = w' := by
  have hf := cf_floor x h
  go_enter Try.func71, Try.ntmps71
  go_wp2
  go_ret
  exact ⟨rfl, rfl⟩

theorem widF (x : Nat) (h : isN .f32 x = false) : (∀ w, fcv .f32 x .f64 w = wid x) ∧ fcd .f32 x .f64 = 0 := ⟨fun w => fcvv (widen_some x h) w, fcdv (widen_some x h)⟩
theorem flF (x : Nat) (h : isN .f32 x = false) : (∀ w, fcv .f64 (floorB (wid x)) .f32 w = flC x) ∧ fcd .f64 (floorB (wid x)) .f32 = 0 := ⟨fun w => fcvv (floor_some x h) w, fcdv (floor_some x h)⟩

/-- A number has a value. -/
theorem fin_fv {b : Nat} (h : fin b = true) : ∃ a, Fv .f32 b a := by
  unfold fin at h
  rw [decide_eq_true_eq] at h
  have hS : FloatKind.f32.format.signWeight = 2147483648 := rfl
  have hB : FloatKind.f32.format.binade = 8388608 := rfl
  have hI : FloatKind.f32.format.infRung = 2139095040 := rfl
  have hr : ∃ s m p, FloatKind.f32.format.read b = .number s m p := by
    unfold Ieee.Format.read
    dsimp only
    rw [hS, hB, hI]
    split
    · exact ⟨_, _, _, rfl⟩
    · exact ⟨_, _, _, rfl⟩
  obtain ⟨s, m, p, hr⟩ := hr
  exact ⟨_, s, m, p, hr, rfl⟩
theorem fv_fin {b : Nat} {a : Rat} (h : Fv .f32 b a) : fin b = true := by
  obtain ⟨s, m, p, hr, _⟩ := h
  unfold fin
  rw [decide_eq_true_eq]
  have hS : FloatKind.f32.format.signWeight = 2147483648 := rfl
  have hB : FloatKind.f32.format.binade = 8388608 := rfl
  have hI : FloatKind.f32.format.infRung = 2139095040 := rfl
  unfold Ieee.Format.read at hr
  dsimp only at hr
  rw [hS, hB, hI] at hr
  by_cases h1 : b % 2147483648 < 8388608
  · omega
  · rw [if_neg h1] at hr
    by_cases h2 : b % 2147483648 < 2139095040
    · exact h2
    · rw [if_neg h2] at hr
      split at hr <;> cases hr
theorem fin_not_nan {b : Nat} (h : fin b = true) : isN .f32 b = false := (fin_fv h).elim fun _ h => h.not_nan

/-- What is left of a number less itself: 0; of another single: a NaN. -/
theorem sub_self (v : Nat) : (FloatKind.f32.format.order (cop .sub .f32 v v) 0 == some .eq) = fin v := by
  by_cases h : fin v = true
  · obtain ⟨a, ha⟩ := fin_fv h
    have hp := pw_pos 127
    obtain ⟨q, hq, hn⟩ := fsub ha ha (by grind) (by grind)
    have h0 : q = 0 := by
      have h1 := hn.2.1 (by grind)
      have h2 := hn.2.2 (by grind)
      grind
    subst h0
    have hz : Fv .f32 0 0 := ⟨false, 0, -149, by decide +kernel, by rw [dv_zero]⟩
    rw [forder hq hz, h]; simp
  · have h' : fin v = false := by simpa using h
    rw [h']
    have hnone : floatBits .sub .f32 v v = none := by
      unfold floatBits Ieee.Format.sub
      cases hr : FloatKind.f32.format.read v with
      | nan s t => simp [Ieee.Datum.sum]
      | infinity s => cases s <;> simp [Ieee.Datum.sum, Ieee.Datum.opposite]
      | number s m p => rw [fv_fin ⟨s, m, p, hr, rfl⟩] at h'; cases h'
    have : cop .sub .f32 v v = qnan .f32 := by simp [cop, hnone]
    rw [this, order_nanl _ _ _ (isN_qnan _)]; rfl

theorem isNum_any (v : Nat) (w : World) : Calls Try.prog 26 #[.float .f32 v] w fun e w' => e = .returned (.bool (fin v)) ∧ ∃ n, w' = w.drewN n := by
  have h1 : ∀ w, (FloatKind.f32.format.order (fop .sub .f32 v v w) 0 == some .eq) = fin v := fun w => by
    rw [← order_c0, cn_fop, ← sub_self]
    congr 2
    unfold cop
    rw [floatBits_cn]
  go_enter Try.func26, Try.ntmps26
  go_wp2_with fail
  go_ret
  exact ⟨rfl, _, rfl⟩
end Go.Proofs.Ythnbfllhmjpbjaa
