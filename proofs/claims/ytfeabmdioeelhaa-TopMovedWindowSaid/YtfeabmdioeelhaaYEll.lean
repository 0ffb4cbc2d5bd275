/-
  Windows: lengths, and what ellipses have at places, in the program.
-/
import Derived.Test.YtfeabmdioeelhaaYSqr
namespace Go.Proofs.Ytfeabmdioeelhaa
open Go.RowKit Go.Shelf
open Ieee (Datum Format signed)
attribute [local go_sem] run_store_float

/-- What the square root of a double gives in a run; how often it draws. -/
def fsq (x : Nat) (w : World) : Nat := (FloatKind.f64.format.sqrt x).getD ((Question.nanBits .f64 x x).cut (w.tape w.drawn (.nanBits .f64 x x)))
def fsd (x : Nat) : Nat := match FloatKind.f64.format.sqrt x with | some _ => 0 | none => 1
theorem run_sqrt (x : Nat) (w : World) : (Extern.MathSqrt.sqrt #[.float .f64 x]).run Try.prog w = .ok (.float .f64 (fsq x w)) (w.drewN (fsd x)) := by
  have e : Extern.MathSqrt.sqrt #[.float .f64 x] = (match FloatKind.f64.format.sqrt x with
    | some r => pure (.float .f64 r)
    | none => do pure (.float .f64 (← choose (.nanBits .f64 x x)))) := rfl
  rw [e]
  cases h : FloatKind.f64.format.sqrt x with
  | some r => simp [h, fsq, fsd, World.drewN]
  | none => simp [h, fsq, fsd, Question.forced]; rfl
@[go_sem] theorem cf_sqrt (x : Nat) (w : World) : (callFunc 223 #[.float .f64 x]).run Try.prog w = .ok (.value (.float .f64 (fsq x w))) (w.drewN (fsd x)) := by
  rw [run_callFunc_extern (e := Extern.MathSqrt.sqrt) Try.func223 (by kernel_rfl) (by kernel_rfl) (by kernel_rfl) (by kernel_rfl) _ w, run_sqrt]
  rfl

theorem sqrt_any (x : Nat) (w : World) : Calls Try.prog 183 #[.float .f64 x] w fun e w' => e = .returned (.float .f64 (fsq x w)) ∧ w' = w.drewN (fsd x) := by
  go_enter Try.func183, Try.ntmps183
  go_wp2
  go_ret
  exact ⟨rfl, rfl⟩

/-- The square root of a single. -/
def rooC (v : Nat) : Nat := if isN .f32 v = true then qnan .f32 else match FloatKind.f64.format.sqrt (wid v) with | none => qnan .f32 | some R => cn .f32 ((floatToFloatBits .f64 R .f32).getD 0)

theorem root_bits (v : Nat) (w1 w2 w3 : World) : cl (fcv .f64 (fsq (fcv .f32 v .f64 w1) w2) .f32 w3) = rooC v := by
  by_cases hv : isN .f32 v = true
  · have h1 := widen_nan v hv w1
    have h2 : isN .f64 (fsq (fcv .f32 v .f64 w1) w2) = true := by
      have hs : FloatKind.f64.format.sqrt (fcv .f32 v .f64 w1) = none := by
        obtain ⟨s, t, e⟩ := read_nan (f := FloatKind.f64.format) h1
        unfold Format.sqrt
        rw [e]; rfl
      unfold fsq
      rw [hs]
      simp only [Option.getD_none]
      exact nanCut_isN .f64 (fcv .f32 v .f64 w1) (fcv .f32 v .f64 w1) _
    unfold cl rooC
    rw [if_pos hv, cn_of_nan (narrow_nan _ h2 w3)]
  · have hv' : isN .f32 v = false := by simpa using hv
    have h1 : fcv .f32 v .f64 w1 = wid v := fcvv (widen_some v hv') w1
    rw [h1]
    unfold rooC
    rw [if_neg hv]
    cases hs : FloatKind.f64.format.sqrt (wid v) with
    | none =>
      have h2 : isN .f64 (fsq (wid v) w2) = true := by
        unfold fsq
        rw [hs]
        simp only [Option.getD_none]
        exact nanCut_isN .f64 (wid v) (wid v) _
      exact cn_of_nan (narrow_nan _ h2 w3)
    | some R =>
      have h2 : fsq (wid v) w2 = R := by unfold fsq; rw [hs]; rfl
      rw [h2]
      have h3 := sqrt_some hv' hs
      obtain ⟨r, hr⟩ := Option.isSome_iff_exists.1 h3
      rw [fcvv hr]
      simp only [hr, Option.getD_some]
      rfl
theorem isN_cl (v : Nat) : isN .f32 (cl v) = isN .f32 v := isN_cn ..
theorem rooC_cl (v : Nat) : rooC (cl v) = rooC v := by
  by_cases h : isN .f32 v = true
  · unfold rooC
    rw [if_pos (by rw [isN_cl]; exact h), if_pos h]
  · unfold cl; rw [cn_of_not (by simpa using h)]

/-- The sum of the squares of the first n. -/
def sqC (F : Nat → Nat) : Nat → Nat
  | 0 => 0
  | n + 1 => cop .add .f32 (sqC F n) (cop .mul .f32 (F n) (F n))
theorem cl_sqC (F : Nat → Nat) (n : Nat) : cl (sqC F n) = sqC F n := by
  cases n with
  | zero => exact cn_nul
  | succ n => exact cn_cop ..

set_option maxHeartbeats 1000000 in
theorem length_any (b off n c : Nat) (F : Nat → Nat) (w : World) (hn : n ≤ 4096) (hr : Rd w b off n F) :
    Calls Try.prog 99 #[.slice (some ⟨b, off, none⟩) n c] w (GaveF w (rooC (sqC F n))) := by
  have HR := hid hr
  clear hr
  go_enter Try.func99, Try.ntmps99
  go_wp2
  go_loopw [3, 8] (fun s i wr => ∃ k m b : Nat, k ≤ n ∧ i = .int .i64 k ∧ s = .float .f32 b ∧ cl b = sqC F k ∧ wr = w.drewN m) (fun _ i _ => n - (intOf i).toNat)
  case atStart => exact ⟨0, 0, 0, Nat.zero_le _, rfl, rfl, cn_nul, rfl⟩
  case round =>
    obtain ⟨k, m, s, hk, rfl, rfl, hs, rfl⟩ := hrel
    have HS := hid hs
    clear hs
    by_cases hlt : k < n
    · have hc : (w.drewN m).cell? ⟨b, off + k, none⟩ = some (.float .f32 (F k)) := HR.out k hlt
      go_wp2
      go_roundw
      case rel =>
        refine ⟨k + 1, _, _, by omega, by go_num, rfl, ?_, rfl⟩
        have hs := HS.out
        unfold cl at hs ⊢
        show _ = cop .add .f32 (sqC F k) (cop .mul .f32 (F k) (F k))
        rw [cn_fop, hs, cn_fop, cop_cn]
      case measure => simp [intOf]; omega
    · obtain rfl : k = n := by omega
      go_wp2_with (go_at_call 183; (with_reducible refine (sqrt_any _ _).mono ?_); rintro e w' ⟨rfl, rfl⟩)
      go_ret
      refine ⟨_, _, rfl, ?_, rfl⟩
      rw [root_bits, ← rooC_cl, HS.out]

theorem sqC_cl {F G : Nat → Nat} : ∀ {n}, (∀ i, i < n → cl (F i) = cl (G i)) → sqC F n = sqC G n
  | 0, _ => rfl
  | n + 1, h => by
    have h1 := h n (by omega)
    show cop .add .f32 (sqC F n) (cop .mul .f32 (F n) (F n)) = cop .add .f32 (sqC G n) (cop .mul .f32 (G n) (G n))
    rw [sqC_cl fun i hi => h i (by omega), ← cop_cn .mul .f32 (F n), ← cop_cn .mul .f32 (G n)]
    unfold cl at h1
    rw [h1]

/-- How far beyond an ellipse: of the differences of the coordinates. -/
def ellC (a b W H : Nat) (r : Ordering) : Nat := cop .mul .f32 (cop .sub .f32 (rooC (sqC (two (cop .quo .f32 a W) (cop .quo .f32 b H)) 2)) 1065353216) (mno r W H)

theorem mno_or (r : Ordering) (x y : Nat) : mno r x y = x ∨ mno r x y = y := by
  unfold mno
  cases r
  · exact .inl rfl
  · dsimp only; split
    · exact .inl rfl
    · exact .inr rfl
  · exact .inr rfl

set_option maxRecDepth 100000 in
set_option maxHeartbeats 1000000 in
theorem ell_any (K : Int) (X Y W H S : Nat) (A : Option Addr) (n c : Nat) (o : Bool) (fx fy : Nat) (w : World) {r : Ordering} (hr : FloatKind.f32.format.order W H = some r) (hW : cl W = W) (hH : cl H = H) (hS : cl S = S) :
    Calls Try.prog 169 #[win K X Y W H S A n c o, .float .f32 fx, .float .f32 fy] w (GaveW w (beyC (ellC (cop .sub .f32 fx X) (cop .sub .f32 fy Y) W H r) S)) := by
  have hm := fun ts t => run_minf (P := Try.prog) hr ts t
  have hM : cl (mno r W H) = mno r W H := by rcases mno_or r W H with e | e <;> rw [e] <;> assumption
  have HE : RowKit.Hid (ellC (cop .sub .f32 fx X) (cop .sub .f32 fy Y) W H r = cop .mul .f32 (cop .sub .f32 (rooC (sqC (two (cop .quo .f32 (cop .sub .f32 fx X) W) (cop .quo .f32 (cop .sub .f32 fy Y) H)) 2)) 1065353216) (mno r W H)) := hid rfl
  have HM := hid hM
  have HS := hid hS
  have HW := hid hW
  have HH := hid hH
  clear hM hS hW hH hr
  generalize mno r W H = M at *
  go_enter Try.func169, Try.ntmps169
  go_wp2_with fail
  refine (length_any _ _ _ _ (two _ _) _ (by omega) (rd_two _ _ _ _ (by simp [World.drewN]))).mono ?_
  rintro e w1 ⟨q, n1, rfl, hq, rfl⟩
  have HQ := hid hq
  clear hq
  go_wp2_with (go_at_call 214; (with_reducible refine (beyond_any _ _ _).mono ?_); rintro e w' ⟨b', n', rfl, hb', rfl⟩; have HB' := hid hb'; clear hb')
  go_ret
  refine ⟨_, rfl, ?_, ?_⟩
  · rw [HB'.out, ← beyC_cl _ _ HS.out]
    congr 1
    rw [HE.out]
    have hq := HQ.out
    have hm := HM.out
    have hw := HW.out
    have hh := HH.out
    unfold cl at hq hm hw hh ⊢
    rw [cn_fop, cn_fop, cn_one, hq, hm]
    congr 3
    refine sqC_cl fun i hi => ?_
    have : i = 0 ∨ i = 1 := by omega
    rcases this with rfl | rfl
    · show cn .f32 (fop .quo .f32 _ W _) = cn .f32 (cop .quo .f32 _ W)
      rw [cn_fop, cn_fop, cop_cn, cn_cop, hw]
    · show cn .f32 (fop .quo .f32 _ H _) = cn .f32 (cop .quo .f32 _ H)
      rw [cn_fop, cn_fop, cop_cn, cn_cop, hh]
  · have h0 : Below w.heap.size w (w.alloc (.cells (winA K X Y W H S A n c o) 25)) := (Below.refl _ _).alloc (Nat.le_refl _) _
    repeat refine below_drewN ?_ _
    refine Below.alloc ?_ (by simp [World.drewN]) _
    repeat refine below_drewN ?_ _
    exact h0
end Go.Proofs.Ytfeabmdioeelhaa
