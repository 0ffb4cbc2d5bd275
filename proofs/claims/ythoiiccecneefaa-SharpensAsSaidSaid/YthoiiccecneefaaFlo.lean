/-
  What an operation on floats gives in a run, whatever its operands: its bits and its draws; and the same read with one NaN for all.
-/
import Derived.WalkKit
import Derived.WalkSpells
import Derived.WalkLawsBesides
import Derived.Deep.Draws
namespace Go.Proofs.Ythoiiccecneefaa
open Go

theorem hid {p : Prop} (h : p) : RowKit.Hid p := h

/-- The one NaN of a kind. -/
def qnan (k : FloatKind) : Nat := match k with | .f32 => 2143289344 | .f64 => 9221120237041090560

/-- Is it a NaN? -/
def isN (k : FloatKind) (b : Nat) : Bool := (k.format.read b).isNaN

/-- The bits, with one NaN for all. -/
def cn (k : FloatKind) (b : Nat) : Nat := if isN k b = true then qnan k else b

/-- An operation with one NaN for all. -/
def cop (op : BinOp) (k : FloatKind) (x y : Nat) : Nat := (floatBits op k x y).getD (qnan k)

/-- What a run gives, at its count of draws. -/
def fop (op : BinOp) (k : FloatKind) (x y : Nat) (w : World) : Nat :=
  (floatBits op k x y).getD ((Question.nanBits k x y).cut (w.tape w.drawn (.nanBits k x y)))

/-- How often it draws. -/
def fdr (op : BinOp) (k : FloatKind) (x y : Nat) : Nat := match floatBits op k x y with | some _ => 0 | none => 1

section
variable {P : Program} (w : World) (t : TypeId) (k : FloatKind) (x y : Nat)
theorem run_fl (op : BinOp) (hop : op = .add ∨ op = .sub ∨ op = .mul ∨ op = .quo) : (binOp op t (.float k x) (.float k y)).run P w = .ok (.float k (fop op k x y w)) (w.drewN (fdr op k x y)) := by
  cases hf : floatBits op k x y with
  | some r => rw [run_float_arith w op t k x y r hf]; simp [fop, fdr, hf, World.drewN]
  | none =>
    unfold floatBits at hf
    rcases hop with rfl | rfl | rfl | rfl <;> simp only at hf <;> simp [binOp, Op.floatArith, hf, fop, fdr, floatBits, Question.forced] <;> rfl
@[go_sem] theorem run_fadd : (binOp .add t (.float k x) (.float k y)).run P w = .ok (.float k (fop .add k x y w)) (w.drewN (fdr .add k x y)) := run_fl w t k x y .add (by simp)
@[go_sem] theorem run_fsub : (binOp .sub t (.float k x) (.float k y)).run P w = .ok (.float k (fop .sub k x y w)) (w.drewN (fdr .sub k x y)) := run_fl w t k x y .sub (by simp)
@[go_sem] theorem run_fmul : (binOp .mul t (.float k x) (.float k y)).run P w = .ok (.float k (fop .mul k x y w)) (w.drewN (fdr .mul k x y)) := run_fl w t k x y .mul (by simp)
@[go_sem] theorem run_fquo : (binOp .quo t (.float k x) (.float k y)).run P w = .ok (.float k (fop .quo k x y w)) (w.drewN (fdr .quo k x y)) := run_fl w t k x y .quo (by simp)
end

theorem isN_qnan (k : FloatKind) : isN k (qnan k) = true := by cases k <;> decide +kernel

theorem read_nan {f : Ieee.Format} {b : Nat} (h : (f.read b).isNaN = true) : ∃ s t, f.read b = .nan s t := by
  cases hd : f.read b with
  | nan s t => exact ⟨s, t, rfl⟩
  | number a b c => rw [hd] at h; cases h
  | infinity s => rw [hd] at h; cases h

/-- A NaN operand: none, whatever else. -/
theorem floatBits_nanl (op : BinOp) (k : FloatKind) (x y : Nat) (h : isN k x = true) : floatBits op k x y = none := by
  obtain ⟨s, t, e⟩ := read_nan (f := k.format) h
  cases op <;> simp [floatBits, Ieee.Format.add, Ieee.Format.sub, Ieee.Format.mul, Ieee.Format.div, e, Ieee.Datum.sum, Ieee.Datum.product, Ieee.Datum.quotient]

theorem floatBits_nanr (op : BinOp) (k : FloatKind) (x y : Nat) (h : isN k y = true) : floatBits op k x y = none := by
  obtain ⟨s, t, e⟩ := read_nan (f := k.format) h
  cases hd : k.format.read x <;> cases op <;> simp [floatBits, Ieee.Format.add, Ieee.Format.sub, Ieee.Format.mul, Ieee.Format.div, e, hd, Ieee.Datum.opposite, Ieee.Datum.sum, Ieee.Datum.product, Ieee.Datum.quotient]

theorem floatBits_cn (op : BinOp) (k : FloatKind) (x y : Nat) : floatBits op k (cn k x) (cn k y) = floatBits op k x y := by
  unfold cn
  by_cases hx : isN k x = true
  · rw [if_pos hx, floatBits_nanl op k x y hx, floatBits_nanl _ _ _ _ (isN_qnan k)]
  · rw [if_neg hx]
    by_cases hy : isN k y = true
    · rw [if_pos hy, floatBits_nanr op k x y hy, floatBits_nanr _ _ _ _ (isN_qnan k)]
    · rw [if_neg hy]


theorem read_isNaN (f : Ieee.Format) (b : Nat) (hb : f.binade ≤ f.infRung) : (f.read b).isNaN = decide (f.infRung < b % f.signWeight) := by
  unfold Ieee.Format.read
  dsimp only
  by_cases h1 : b % f.signWeight < f.binade
  · rw [if_pos h1]; simp [Ieee.Datum.isNaN]; omega
  · rw [if_neg h1]
    by_cases h2 : b % f.signWeight < f.infRung
    · rw [if_pos h2]; simp [Ieee.Datum.isNaN]; omega
    · rw [if_neg h2]
      by_cases h3 : b % f.signWeight = f.infRung
      · rw [if_pos h3]; simp [Ieee.Datum.isNaN]; omega
      · rw [if_neg h3]; simp [Ieee.Datum.isNaN]; omega
theorem isN32 (b : Nat) : isN .f32 b = decide (2139095040 < b % 2147483648) := read_isNaN Ieee.single b (by decide)
theorem isN64 (b : Nat) : isN .f64 b = decide (9218868437227405312 < b % 9223372036854775808) := read_isNaN Ieee.double b (by decide)

theorem nanCut_isN (k : FloatKind) (x y t : Nat) : isN k ((Question.nanBits k x y).cut t) = true := by
  cases k
  · rw [isN32, decide_eq_true_eq]
    unfold Question.cut
    dsimp only
    have h1 : (t / 2) % (2 ^ 23 - 1) < 2 ^ 23 - 1 := Nat.mod_lt _ (by decide)
    have h2 : t % 2 < 2 := Nat.mod_lt _ (by decide)
    generalize (t / 2) % (2 ^ 23 - 1) = r at *
    generalize t % 2 = q at *
    omega
  · rw [isN64, decide_eq_true_eq]
    unfold Question.cut
    dsimp only
    have h1 : (t / 2) % (2 ^ 52 - 1) < 2 ^ 52 - 1 := Nat.mod_lt _ (by decide)
    have h2 : t % 2 < 2 := Nat.mod_lt _ (by decide)
    generalize (t / 2) % (2 ^ 52 - 1) = r at *
    generalize t % 2 = q at *
    omega
theorem nanConvCut_isN (k : FloatKind) (x t : Nat) : isN k ((Question.nanConv k x).cut t) = true := by
  have e : (Question.nanConv k x).cut t = (Question.nanBits k x x).cut t := by cases k <;> rfl
  rw [e]; exact nanCut_isN ..

theorem word_not_nan (k : FloatKind) (neg : Bool) (r : Nat) (h : r ≤ k.format.infRung) : isN k (k.format.word neg r) = false := by
  cases k
  · have h' : r ≤ 2139095040 := h
    rw [isN32]; unfold Ieee.Format.word
    simp only [FloatKind.format, Ieee.single, Ieee.Format.signWeight, Nat.reduceAdd, Nat.reducePow]
    split <;> simp <;> omega
  · have h' : r ≤ 9218868437227405312 := h
    rw [isN64]; unfold Ieee.Format.word
    simp only [FloatKind.format, Ieee.double, Ieee.Format.signWeight, Nat.reduceAdd, Nat.reducePow]
    split <;> simp <;> omega

theorem write_not_nan (k : FloatKind) (d : Ieee.Datum) (h : d.isNaN = false) : isN k (k.format.write d) = false := by
  cases d with
  | nan s t => cases h
  | infinity s => exact word_not_nan k s _ (Nat.le_refl _)
  | number s m e =>
    unfold Ieee.Format.write Ieee.Format.nearest
    dsimp only
    split
    · exact word_not_nan k s _ (Nat.zero_le _)
    · exact word_not_nan k s _ (Nat.min_le_right ..)

theorem sum_not_nan {a b d : Ieee.Datum} (h : a.sum b = some d) : d.isNaN = false := by
  cases a <;> cases b <;> simp only [Ieee.Datum.sum] at h <;> (try split at h) <;> simp at h <;> subst h <;> rfl
theorem product_not_nan {a b d : Ieee.Datum} (h : a.product b = some d) : d.isNaN = false := by
  cases a <;> cases b <;> simp only [Ieee.Datum.product] at h <;> (try split at h) <;> simp at h <;> subst h <;> rfl
theorem quotient_not_nan {n : Nat} {a b d : Ieee.Datum} (h : a.quotient n b = some d) : d.isNaN = false := by
  cases a <;> cases b <;> simp only [Ieee.Datum.quotient] at h <;> (try split at h) <;> (try split at h) <;> simp at h <;> subst h <;> rfl

theorem floatBits_not_nan {op : BinOp} {k : FloatKind} {x y r : Nat} (h : floatBits op k x y = some r) : isN k r = false := by
  unfold floatBits at h
  have key : ∀ {o : Option Ieee.Datum}, (∀ d, o = some d → d.isNaN = false) → o.map k.format.write = some r → isN k r = false := by
    intro o ho hm
    cases o with
    | none => cases hm
    | some d => simp at hm; subst hm; exact write_not_nan k d (ho d rfl)
  split at h
  · exact key (fun d hd => sum_not_nan hd) h
  · exact key (fun d hd => sum_not_nan hd) h
  · exact key (fun d hd => product_not_nan hd) h
  · exact key (fun d hd => quotient_not_nan hd) h
  · cases h

theorem cn_of_not {k : FloatKind} {b : Nat} (h : isN k b = false) : cn k b = b := by simp [cn, h]
theorem cn_of_nan {k : FloatKind} {b : Nat} (h : isN k b = true) : cn k b = qnan k := by simp [cn, h]
theorem isN_cn (k : FloatKind) (b : Nat) : isN k (cn k b) = isN k b := by
  unfold cn
  by_cases h : isN k b = true
  · rw [if_pos h, isN_qnan, h]
  · rw [if_neg h]
theorem cn_cn (k : FloatKind) (b : Nat) : cn k (cn k b) = cn k b := by
  by_cases h : isN k b = true
  · rw [cn_of_nan h, cn_of_nan (isN_qnan k)]
  · have h' : isN k b = false := by simpa using h
    rw [cn_of_not h', cn_of_not h']

/-- What a run gives, with one NaN for all, is the operation on the operands with one NaN for all. -/
theorem cn_fop (op : BinOp) (k : FloatKind) (x y : Nat) (w : World) : cn k (fop op k x y w) = cop op k (cn k x) (cn k y) := by
  unfold fop cop
  rw [floatBits_cn]
  cases h : floatBits op k x y with
  | some r => simp; exact cn_of_not (floatBits_not_nan h)
  | none => simp; exact cn_of_nan (nanCut_isN ..)

theorem cn_cop (op : BinOp) (k : FloatKind) (x y : Nat) : cn k (cop op k x y) = cop op k x y := by
  unfold cop
  cases h : floatBits op k x y with
  | some r => simp; exact cn_of_not (floatBits_not_nan h)
  | none => simp; exact cn_of_nan (isN_qnan k)

theorem order_nanl (k : FloatKind) (x y : Nat) (h : isN k x = true) : k.format.order x y = none := by
  obtain ⟨s, t, e⟩ := read_nan (f := k.format) h
  simp [Ieee.Format.order, e, Ieee.Datum.order]
theorem order_nanr (k : FloatKind) (x y : Nat) (h : isN k y = true) : k.format.order x y = none := by
  obtain ⟨s, t, e⟩ := read_nan (f := k.format) h
  cases hd : k.format.read x <;> simp [Ieee.Format.order, e, hd, Ieee.Datum.order]

/-- An order does not see which NaN. -/
theorem order_cn (k : FloatKind) (x y : Nat) : k.format.order (cn k x) (cn k y) = k.format.order x y := by
  unfold cn
  by_cases hx : isN k x = true
  · rw [if_pos hx, order_nanl k x y hx, order_nanl _ _ _ (isN_qnan k)]
  · rw [if_neg hx]
    by_cases hy : isN k y = true
    · rw [if_pos hy, order_nanr k x y hy, order_nanr _ _ _ (isN_qnan k)]
    · rw [if_neg hy]

theorem order_self (k : FloatKind) (x : Nat) (h : isN k x = false) : k.format.order x x = some .eq := by
  unfold isN at h
  cases hd : k.format.read x with
  | nan s t => rw [hd] at h; cases h
  | infinity s => simp [Ieee.Format.order, hd, Ieee.Datum.order]
  | number s m e => simp [Ieee.Format.order, hd, Ieee.Datum.order]

theorem ne_self (k : FloatKind) (x : Nat) : (k.format.order x x != some .eq) = isN k x := by
  by_cases h : isN k x = true
  · rw [order_nanl k x x h, h]; rfl
  · rw [order_self k x (by simpa using h)]; simp at h; rw [h]; rfl

/-- What a conversion of a float gives in a run; how often it draws. -/
def fcv (s : FloatKind) (b : Nat) (k : FloatKind) (w : World) : Nat :=
  (floatToFloatBits s b k).getD ((if isN s b = true then Question.nanConv k b else Question.floatToFloat b).cut (w.tape w.drawn (if isN s b = true then Question.nanConv k b else Question.floatToFloat b)))
def fcd (s : FloatKind) (b : Nat) (k : FloatKind) : Nat := match floatToFloatBits s b k with | some _ => 0 | none => 1

@[go_sem] theorem run_fcv {P : Program} (w : World) (src dst : TypeId) (s k : FloatKind) (b : Nat) (hs : (P.underlying src).isSome = true) (hd : P.underlying dst = some (.float k)) :
    (convert src dst (.float s b)).run P w = .ok (.float k (fcv s b k w)) (w.drewN (fcd s b k)) := by
  cases hf : floatToFloatBits s b k with
  | some r => rw [run_convert_float_float w src dst s k b r hs hd hf]; simp [fcv, fcd, hf, World.drewN]
  | none =>
    obtain ⟨u, hs'⟩ := Option.isSome_iff_exists.1 hs
    have hsk : ¬ s = k := by intro e; subst e; simp [floatToFloatBits] at hf
    have hi : isN s b = (s.decode b).isNaN := rfl
    unfold floatToFloatBits at hf
    rw [if_neg hsk] at hf
    split at hf
    · rename_i x y he
      have hn : isN s b = true := by rw [hi, he]; rfl
      cases u <;> simp [convert, run_underlying hs', run_underlying hd, Conv.floatToFloat, hsk, he, fcv, fcd, floatToFloatBits, hn, Question.forced] <;> rfl
    · cases hf
    · rename_i x y z he
      have hn : isN s b = false := by rw [hi, he]; rfl
      split at hf
      · rename_i ho
        cases u <;> simp [convert, run_underlying hs', run_underlying hd, Conv.floatToFloat, hsk, he, fcv, fcd, floatToFloatBits, hn, ho, Question.forced] <;> rfl
      · cases hf

@[go_sem] theorem drewN_none (w : World) : w.drewN 0 = w := rfl
theorem fopv {op : BinOp} {k : FloatKind} {x y r : Nat} (h : floatBits op k x y = some r) (w : World) : fop op k x y w = r := by simp [fop, h]
theorem fdrv {op : BinOp} {k : FloatKind} {x y r : Nat} (h : floatBits op k x y = some r) : fdr op k x y = 0 := by simp [fdr, h]
theorem fcvv {s k : FloatKind} {b r : Nat} (h : floatToFloatBits s b k = some r) (w : World) : fcv s b k w = r := by simp [fcv, h]
theorem fcdv {s k : FloatKind} {b r : Nat} (h : floatToFloatBits s b k = some r) : fcd s b k = 0 := by simp [fcd, h]
end Go.Proofs.Ythoiiccecneefaa
