/-
  Sums of singles, in the program and in the reference.
-/
import Derived.Test.YthoiiccecneefaaFMem
import Derived.Deep.QuietTactic
import Derived.BigQuiet
import Derived.Deep.RegionWith
namespace Go.Proofs.Ythoiiccecneefaa
open Go.RowKit

theorem ret_f {k : FloatKind} {a b : Nat} (h : a = b) : Ending.returned (.float k a) = .returned (.float k b) := by rw [h]

/-- The sum of a list of singles' bits, half by half. -/
def sumF : Nat → List Nat → Nat
  | 0, _ => 0
  | _ + 1, [] => 0
  | _ + 1, [x] => cl x
  | f + 1, x :: y :: l => cop .add .f32 (sumF f ((x :: y :: l).take ((l.length + 2) / 2))) (sumF f ((x :: y :: l).drop ((l.length + 2) / 2)))
def sumC (l : List Nat) : Nat := sumF l.length l

/-- The slice at off reads as the list. -/
def Reads (w : World) (b off : Nat) (l : List Nat) : Prop := ∀ i (h : i < l.length), w.cell? ⟨b, off + i, none⟩ = some (.float .f32 l[i])

/-- The world after some draws. -/
structure Drawn (w w' : World) : Prop where
  ex : ∃ k, w' = w.drewN k
theorem drawn_refl (w : World) : Drawn w w := ⟨0, rfl⟩
theorem drawn_drew {w w' : World} (h : Drawn w w') : Drawn w w'.drew := by obtain ⟨k, rfl⟩ := h.ex; exact ⟨k + 1, rfl⟩
theorem drawn_drewN {w w' : World} (h : Drawn w w') (n : Nat) : Drawn w (w'.drewN n) := by obtain ⟨k, rfl⟩ := h.ex; exact ⟨k + n, by simp⟩
theorem drawn_reads {w w' : World} (h : Drawn w w') {b off : Nat} {l : List Nat} (hr : Reads w b off l) : Reads w' b off l := by obtain ⟨k, rfl⟩ := h.ex; exact hr

def SumSaid (F : FuncId) (n : Nat) : Prop := ∀ (l : List Nat) (b off cap : Nat) (w : World), l.length = n → n ≤ cap → cap ≤ maxLen → Reads w b off l → Calls Try.prog F #[.slice (some ⟨b, off, none⟩) n cap] w fun e w' => e = .returned (.float .f32 (sumC l)) ∧ Drawn w w'

theorem sumF_more : ∀ (f g : Nat) (l : List Nat), l.length ≤ f → l.length ≤ g → sumF f l = sumF g l := by
  intro f
  induction f with
  | zero =>
    intro g l h1 h2
    have : l = [] := List.eq_nil_of_length_eq_zero (by omega)
    subst this
    cases g <;> rfl
  | succ f ih =>
    intro g l h1 h2
    cases g with
    | zero =>
      have : l = [] := List.eq_nil_of_length_eq_zero (by omega)
      subst this; rfl
    | succ g =>
      match l, h1, h2 with
      | [], _, _ => rfl
      | [x], _, _ => rfl
      | x :: y :: l, h1, h2 =>
        simp only [sumF]
        simp only [List.length_cons] at h1 h2
        rw [ih g _ (by simp; omega) (by simp; omega), ih g _ (by simp; omega) (by simp; omega)]

theorem sumC_half (l : List Nat) (h : 2 ≤ l.length) : sumC l = cop .add .f32 (sumC (l.take (l.length / 2))) (sumC (l.drop (l.length / 2))) := by
  match l, h with
  | x :: y :: l, _ =>
    unfold sumC
    simp only [List.length_cons]
    rw [show l.length + 1 + 1 = (l.length + 1) + 1 from rfl]
    simp only [sumF]
    rw [sumF_more (l.length + 1) ((x :: y :: l).take ((l.length + 2) / 2)).length _ (by simp; omega) (Nat.le_refl _), sumF_more (l.length + 1) ((x :: y :: l).drop ((l.length + 2) / 2)).length _ (by rw [List.length_drop]; simp only [List.length_cons]; omega) (Nat.le_refl _)]

theorem cn_sumC (l : List Nat) : cn .f32 (sumC l) = sumC l := by
  match l with
  | [] => decide +kernel
  | [x] => exact cn_cn ..
  | x :: y :: l => rw [sumC_half _ (by simp)]; exact cn_cop ..

end Go.Proofs.Ythoiiccecneefaa
