/-
  Contracts of math.Floor and of Ldexp (to a normal double), and counts(): that Exp2(10) is 1024 and Log2(8) is 3.
-/
import Derived.Test.YtbenjfipbeikmaaLog
namespace Go.Proofs.Ytbenjfipbeikmaa
open Go.RowKit

def floorB (x : Nat) : Nat := FloatKind.f64.encode ((FloatKind.f64.decode x).integral .down)

theorem integralRun (name : String) (way : Ieee.Toward) (x : Nat) (h : isN .f64 x = false) : Extern.MathFloor.toIntegral name way #[.float .f64 x] = pure (.float .f64 (FloatKind.f64.encode ((FloatKind.f64.decode x).integral way))) := by
  have h' : (FloatKind.f64.decode x).isNaN = false := h
  unfold Extern.MathFloor.toIntegral
  conv => lhs; whnf
  clear h
  generalize FloatKind.f64.decode x = d at *
  cases d with
  | nan s t => cases h'
  | number s m e => rfl
  | infinity s => rfl

theorem cf_floor (x : Nat) (h : isN .f64 x = false) (w : World) : (callFunc 107 #[.float .f64 x]).run Try.prog w = .ok (.value (.float .f64 (floorB x))) w := by
  rw [run_callFunc_extern (e := Extern.MathFloor.toIntegral "math.archFloor" .down) Try.func107 (by kernel_rfl) (by kernel_rfl) (by kernel_rfl) (by kernel_rfl) _ w, integralRun _ _ _ h]
  rfl

theorem floor_any (x : Nat) (h : isN .f64 x = false) (w : World) : Calls Try.prog 101 #[.float .f64 x] w fun e w' => e = .returned (.float .f64 (floorB x)) ∧ w = w' := by
  have hf := cf_floor x h
  go_enter Try.func101, Try.ntmps101
  go_wp2
  go_ret
  exact ⟨rfl, rfl⟩

/-- The bits of a double whose exponent is set to E. -/
def ldB (x : Nat) (E : Int) : Nat := (bits BinOp.or IntKind.u64 (bits BinOp.andNot IntKind.u64 x 9218868437227405312) ((E + 1023) * 4503599627370496)).toNat

set_option maxRecDepth 100000 in
theorem ldexpl_norm (x : Nat) (k E : Int) (h : Norm x) (hE : wrap64 (wrap64 k + wrap64 (bits BinOp.and IntKind.i64 (wrap64 (↑x / 4503599627370496)) 2047 - 1023)) = E) (hlo : -1022 ≤ E) (hhi : E ≤ 1023) (w : World) :
    Calls Try.prog 62 #[.float .f64 x, .int .i64 k] w (GivesF .f64 (cop .mul .f64 4607182418800017408 (cn .f64 (ldB x E))) w) := by
  have h0 := h.zero
  have h1 := h.nan
  have h2 := h.inf
  go_enter Try.func62, Try.ntmps62
  go_wp2_with (first | (go_at_call 96; refine (isInf_any _ _).mono ?_; rintro e w' ⟨rfl, rfl⟩) | (go_at_call 97; refine (isNaN_any _ _).mono ?_; rintro e w' ⟨rfl, rfl⟩) | (go_at_call 98; refine (normalize_any _ h _).mono ?_; rintro e w' ⟨rfl, rfl⟩))
  go_ret
  refine ⟨_, _, rfl, ?_, rfl⟩
  rw [cn_fop]
  rfl

theorem ldexp_norm (x : Nat) (k E : Int) (h : Norm x) (hE : wrap64 (wrap64 k + wrap64 (bits BinOp.and IntKind.i64 (wrap64 (↑x / 4503599627370496)) 2047 - 1023)) = E) (hlo : -1022 ≤ E) (hhi : E ≤ 1023) (w : World) :
    Calls Try.prog 14 #[.float .f64 x, .int .i64 k] w (GivesF .f64 (cop .mul .f64 4607182418800017408 (cn .f64 (ldB x E))) w) := by
  have HE := hid hE; clear hE
  go_enter Try.func14, Try.ntmps14
  go_wp2_with (go_at_call 62; refine (ldexpl_norm _ _ E h HE.out hlo hhi _).mono ?_; rintro e w' ⟨r, n, rfl, hr, rfl⟩)
  go_ret
  exact ⟨_, _, rfl, hr, rfl⟩

/-- For numbers that are told. -/
theorem ldexp_lit (x : Nat) (k E : Int) (v : Nat) (h : Norm x) (hE : wrap64 (wrap64 k + wrap64 (bits BinOp.and IntKind.i64 (wrap64 (↑x / 4503599627370496)) 2047 - 1023)) = E) (hlo : -1022 ≤ E) (hhi : E ≤ 1023) (hv : cop .mul .f64 4607182418800017408 (cn .f64 (ldB x E)) = v) (w : World) :
    Calls Try.prog 14 #[.float .f64 x, .int .i64 k] w (GivesF .f64 v w) := hv ▸ ldexp_norm x k E h hE hlo hhi w

theorem norm1 : Norm 4607182418800017408 := ⟨by decide +kernel, by decide +kernel, by decide +kernel, by decide +kernel⟩
theorem norm8 : Norm 4620693217682128896 := ⟨by decide +kernel, by decide +kernel, by decide +kernel, by decide +kernel⟩

theorem ldexp_1_10 (w : World) : Calls Try.prog 14 #[.float .f64 4607182418800017408, .int .i64 10] w (GivesF .f64 4652218415073722368 w) :=
  ldexp_lit _ _ 10 _ norm1 (by decide +kernel) (by decide) (by decide) (by decide +kernel) w

theorem log8 : logC 4620693217682128896 = 4613937818241073152 := by decide +kernel
end Go.Proofs.Ytbenjfipbeikmaa
