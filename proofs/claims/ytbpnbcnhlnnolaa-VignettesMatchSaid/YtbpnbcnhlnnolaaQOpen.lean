/-
  A vignette as an argument, opened.
-/
import Derived.Test.YtbpnbcnhlnnolaaFOpen
import Derived.Test.YtbpnbcnhlnnolaaQVg
namespace Go.Proofs.Ytbpnbcnhlnnolaa
open Go.ChangeShapes Go.WideShapes Go.ChangeAt Go.RowKit Go.Deep

section
variable {H : Type} {enc : TypeId × Value → H} {w : World} {base : Nat} {spare : Nat → Bool} {held : Bool}
theorem cellsVig : Try.prog.cellsOf 86 = 5 := by kernel_rfl

set_option maxRecDepth 100000 in
/-- A vignette by value. -/
theorem open_vig {r : Reach} {b0 : Nat} {v : Value} {d : DataW H} {p : List MemPlace} (hv : Value.okWide Try.prog w r b0 86 v) (h : DataW.Trod enc Try.prog w base spare held 86 v d p) :
    ∃ f : Nat → Nat, v = vig f ∧ ∀ k, k < 5 → f k < 4294967296 := by
  obtain ⟨cs, rfl, hsz⟩ := okWide_struct Try.underlying86 hv
  obtain ⟨fuel, hf⟩ := h
  obtain ⟨xs, m, _, _, hl, hlen, hg⟩ := DataW.trod_struct Try.underlying86 hf
  have hc1 := cellsF32
  have hc2 := cellsVig
  obtain ⟨l⟩ := cs
  have hl5 : l.length = 5 := by rw [← hc2]; simpa using hsz
  match l, hl5 with
  | [c0, c1, c2, c3, c4], _ =>
    match xs, hlen with
    | [y0, y1, y2, y3, y4], _ =>
      have h0 : DataW.trod enc Try.prog w base spare held m 40 (([c0, c1, c2, c3, c4].drop 0).take (Try.prog.cellsOf 40)) = some y0 := hg 0 _ rfl
      have h1 : DataW.trod enc Try.prog w base spare held m 40 (([c0, c1, c2, c3, c4].drop 1).take (Try.prog.cellsOf 40)) = some y1 := hg 1 _ rfl
      have h2 : DataW.trod enc Try.prog w base spare held m 40 (([c0, c1, c2, c3, c4].drop 2).take (Try.prog.cellsOf 40)) = some y2 := hg 2 _ rfl
      have h3 : DataW.trod enc Try.prog w base spare held m 40 (([c0, c1, c2, c3, c4].drop 3).take (Try.prog.cellsOf 40)) = some y3 := hg 3 _ rfl
      have h4 : DataW.trod enc Try.prog w base spare held m 40 (([c0, c1, c2, c3, c4].drop 4).take (Try.prog.cellsOf 40)) = some y4 := hg 4 _ rfl
      rw [hc1] at h0 h1 h2 h3 h4
      simp at h0 h1 h2 h3 h4
      obtain ⟨k0, rfl, s0⟩ := open_elem (D := y0.1) (Pl := y0.2) Try.underlying40 h0
      obtain ⟨k1, rfl, s1⟩ := open_elem (D := y1.1) (Pl := y1.2) Try.underlying40 h1
      obtain ⟨k2, rfl, s2⟩ := open_elem (D := y2.1) (Pl := y2.2) Try.underlying40 h2
      obtain ⟨k3, rfl, s3⟩ := open_elem (D := y3.1) (Pl := y3.2) Try.underlying40 h3
      obtain ⟨k4, rfl, s4⟩ := open_elem (D := y4.1) (Pl := y4.2) Try.underlying40 h4
      refine ⟨fun k => if k = 0 then k0 else if k = 1 then k1 else if k = 2 then k2 else if k = 3 then k3 else k4, rfl, ?_⟩
      intro k hk
      have : k = 0 ∨ k = 1 ∨ k = 2 ∨ k = 3 ∨ k = 4 := by omega
      rcases this with rfl | rfl | rfl | rfl | rfl
      · exact s0
      · exact s1
      · exact s2
      · exact s3
      · exact s4
end
end Go.Proofs.Ytbpnbcnhlnnolaa
