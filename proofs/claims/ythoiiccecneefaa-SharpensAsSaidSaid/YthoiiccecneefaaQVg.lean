/-
  Vignettes: what they leave at a place, in the program and in the reference.
-/
import Derived.Test.YthoiiccecneefaaQSqr
namespace Go.Proofs.Ythoiiccecneefaa
open Go.RowKit Go.Shelf
open Ieee (Datum Format signed)
attribute [local go_sem] run_store_float

abbrev vigA (V : Nat → Nat) : Array Value := #[.float .f32 (V 0), .float .f32 (V 1), .float .f32 (V 2), .float .f32 (V 3), .float .f32 (V 4)]
def vig (V : Nat → Nat) : Value := .agg (vigA V)
theorem vig_cells (V : Nat → Nat) : vig V = .agg #[.float .f32 (V 0), .float .f32 (V 1), .float .f32 (V 2), .float .f32 (V 3), .float .f32 (V 4)] := rfl

/-- How far (x, y) is from the middle. -/
def vrC (V : Nat → Nat) (x y : Int) : Nat := rooC (cop .add .f32 (cop .mul .f32 (cop .sub .f32 (floatOfInt .f32 x) (V 0)) (cop .sub .f32 (floatOfInt .f32 x) (V 0))) (cop .mul .f32 (cop .sub .f32 (floatOfInt .f32 y) (V 1)) (cop .sub .f32 (floatOfInt .f32 y) (V 1))))
/-- What a vignette leaves there. -/
def ligC (V : Nat → Nat) (x y : Int) : Nat := lerpC 1065353216 (V 4) (smC (cop .quo .f32 (cop .sub .f32 (vrC V x y) (V 2)) (cop .sub .f32 (V 3) (V 2))))

/-- All five are numbers. -/
def vfin (V : Nat → Nat) : Prop := ∀ k, k < 5 → fin (V k) = true
theorem vfin.cl {V : Nat → Nat} (h : vfin V) {k : Nat} (hk : k < 5) : cl (V k) = V k := (cn_of_not (fin_not_nan (h k hk)))
theorem vfin.dx {V : Nat → Nat} (h : vfin V) {x : Int} (hx : x.natAbs < 16777216) {k : Nat} (hk : k < 5) : floatBits .sub .f32 (floatOfInt .f32 x) (V k) = some (cop .sub .f32 (floatOfInt .f32 x) (V k)) := by
  obtain ⟨a, ha⟩ := fin_fv (h k hk)
  exact sub_some (ofInt_fv hx) ha
theorem vfin.oi {V : Nat → Nat} (h : vfin V) : floatBits .sub .f32 (V 3) (V 2) = some (cop .sub .f32 (V 3) (V 2)) := by
  obtain ⟨a, ha⟩ := fin_fv (h 3 (by omega))
  obtain ⟨b, hb⟩ := fin_fv (h 2 (by omega))
  exact sub_some ha hb
theorem vr_bits {V : Nat → Nat} {x y : Int} (v : Nat) (hv : cl v = cop .add .f32 (cop .mul .f32 (cop .sub .f32 (floatOfInt .f32 x) (V 0)) (cop .sub .f32 (floatOfInt .f32 x) (V 0))) (cop .mul .f32 (cop .sub .f32 (floatOfInt .f32 y) (V 1)) (cop .sub .f32 (floatOfInt .f32 y) (V 1)))) (w1 w2 w3 : World) :
    cl (fcv .f64 (fsq (fcv .f32 v .f64 w1) w2) .f32 w3) = vrC V x y := by
  rw [root_bits, ← rooC_cl, hv]
  rfl
theorem sq_bits {a b : Nat} (ha : cl a = a) (hb : cl b = b) (w1 w2 w3 : World) : cl (fop .add .f32 (fop .mul .f32 a a w1) (fop .mul .f32 b b w2) w3) = cop .add .f32 (cop .mul .f32 a a) (cop .mul .f32 b b) := by
  unfold cl at *
  rw [cn_fop, cn_fop, cn_fop, ha, hb]
theorem cl_cop (op : BinOp) (a b : Nat) : cl (cop op .f32 a b) = cop op .f32 a b := cn_cop ..
theorem lig_bits {V : Nat → Nat} (h : vfin V) {x y : Int} (r : Nat) (hr : cl r = vrC V x y) (w1 w2 : World) : lerpC 1065353216 (V 4) (smC (fop .quo .f32 (fop .sub .f32 r (V 2) w1) (cop .sub .f32 (V 3) (V 2)) w2)) = ligC V x y := by
  unfold ligC
  rw [← smC_cl]
  congr 2
  have h2 := h.cl (k := 2) (by omega)
  unfold cl at *
  rw [cn_fop, cn_fop, hr, h2, cn_cop]

end Go.Proofs.Ythoiiccecneefaa
