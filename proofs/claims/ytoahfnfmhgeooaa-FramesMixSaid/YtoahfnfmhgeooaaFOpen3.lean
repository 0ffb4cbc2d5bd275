/-
  Mattes as arguments.
-/
import Derived.Test.YtoahfnfmhgeooaaFOpen2
namespace Go.Proofs.Ytoahfnfmhgeooaa
open Go.ChangeShapes Go.WideShapes Go.ChangeAt Go.RowKit Go.Deep

section
variable {H : Type} {enc : TypeId × Value → H} {w : World} {base : Nat} {held : Bool}
theorem cellsMat : Try.prog.cellsOf 76 = 5 := by kernel_rfl

set_option maxRecDepth 100000 in
/-- A matte by value. -/
theorem open_matte {r : Reach} {b0 : Nat} {v : Value} {d : DataW H} {p : List MemPlace} (hv : Value.okWide Try.prog w r b0 76 v) (h : DataW.Trod enc Try.prog w base (fun _ => true) held 76 v d p) :
    ∃ (x y a b : Int) (A : Option Addr) (n c : Nat) (F : Nat → Nat), v = frm x y a b A n c ∧ n ≤ c ∧ c ≤ maxLen ∧ Src w A n F ∧ (∀ i, i < n → F i < 4294967296) ∧
      (Lit.int .i64 x).wf = true ∧ (Lit.int .i64 y).wf = true ∧ (Lit.int .i64 a).wf = true ∧ (Lit.int .i64 b).wf = true := by
  obtain ⟨cs, rfl, hsz⟩ := okWide_struct Try.underlying76 hv
  obtain ⟨fuel, hf⟩ := h
  obtain ⟨xs, n, _, _, hl, hlen, hg⟩ := DataW.trod_struct Try.underlying76 hf
  have hc0 := cellsReg
  have hc1 := cellsSl
  have hc2 := cellsMat
  obtain ⟨l⟩ := cs
  have hl5 : l.length = 5 := by rw [← hc2]; simpa using hsz
  match l, hl5 with
  | [c0, c1, c2, c3, c4], _ =>
    match xs, hlen with
    | [y0, y1], _ =>
      have h0 : DataW.trod enc Try.prog w base (fun _ => true) held n 23 (([c0, c1, c2, c3, c4].drop 0).take (Try.prog.cellsOf 23)) = some y0 := hg 0 _ rfl
      have h1 : DataW.trod enc Try.prog w base (fun _ => true) held n 37 (([c0, c1, c2, c3, c4].drop 4).take (Try.prog.cellsOf 37)) = some y1 := hg 1 _ rfl
      rw [hc0] at h0
      rw [hc1] at h1
      simp at h0 h1
      obtain ⟨x, y, a, b, hcs, hw⟩ := open_reg Try.underlying23 cellsReg Try.underlying3 cellsInt ⟨_, rfl, rfl, rfl⟩ ⟨_, rfl, rfl, rfl⟩ ⟨_, rfl, rfl, rfl⟩ ⟨_, rfl, rfl, rfl⟩ h0
      obtain ⟨A, m, c, F, hcs2, g1, g2, g3, g4⟩ := open_src Try.underlying37 cellsF32 Try.underlying40 h1
      simp at hcs hcs2
      obtain ⟨rfl, rfl, rfl, rfl⟩ := hcs
      subst hcs2
      exact ⟨x, y, a, b, A, m, c, F, rfl, g1, g2, g3, g4, hw⟩

end
end Go.Proofs.Ytoahfnfmhgeooaa
