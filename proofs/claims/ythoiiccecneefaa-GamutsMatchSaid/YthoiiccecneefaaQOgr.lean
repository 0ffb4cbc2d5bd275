/-
  A grain as an argument, opened.
-/
import Derived.Test.YthoiiccecneefaaFOpen
import Derived.Test.YthoiiccecneefaaQGe
namespace Go.Proofs.Ythoiiccecneefaa
open Go.ChangeShapes Go.WideShapes Go.ChangeAt Go.RowKit Go.Deep

section
variable {H : Type} {enc : TypeId × Value → H} {w : World} {base : Nat} {spare : Nat → Bool} {held : Bool}
theorem cellsGrain : Try.prog.cellsOf 45 = 5 := by kernel_rfl
theorem cellsU32 : Try.prog.cellsOf 27 = 1 := by kernel_rfl
theorem cellsBool : Try.prog.cellsOf 4 = 1 := by kernel_rfl

set_option maxRecDepth 100000 in
/-- A grain by value. -/
theorem open_grain {r : Reach} {b0 : Nat} {v : Value} {d : DataW H} {p : List MemPlace} (hv : Value.okWide Try.prog w r b0 45 v) (h : DataW.Trod enc Try.prog w base spare held 45 v d p) :
    ∃ (sd z : Int) (s f : Nat) (m : Bool), v = grn sd z s f m := by
  obtain ⟨cs, rfl, hsz⟩ := okWide_struct Try.underlying45 hv
  obtain ⟨fuel, hf⟩ := h
  obtain ⟨xs, m, _, _, hl, hlen, hg⟩ := DataW.trod_struct Try.underlying45 hf
  have hc1 := cellsF32
  have hc2 := cellsGrain
  have hc3 := cellsU32
  have hc4 := cellsBool
  have hc5 := cellsInt
  obtain ⟨l⟩ := cs
  have hl5 : l.length = 5 := by rw [← hc2]; simpa using hsz
  match l, hl5 with
  | [c0, c1, c2, c3, c4], _ =>
    match xs, hlen with
    | [y0, y1, y2, y3, y4], _ =>
      have h0 : DataW.trod enc Try.prog w base spare held m 27 (([c0, c1, c2, c3, c4].drop 0).take (Try.prog.cellsOf 27)) = some y0 := hg 0 _ rfl
      have h1 : DataW.trod enc Try.prog w base spare held m 3 (([c0, c1, c2, c3, c4].drop 1).take (Try.prog.cellsOf 3)) = some y1 := hg 1 _ rfl
      have h2 : DataW.trod enc Try.prog w base spare held m 40 (([c0, c1, c2, c3, c4].drop 2).take (Try.prog.cellsOf 40)) = some y2 := hg 2 _ rfl
      have h3 : DataW.trod enc Try.prog w base spare held m 40 (([c0, c1, c2, c3, c4].drop 3).take (Try.prog.cellsOf 40)) = some y3 := hg 3 _ rfl
      have h4 : DataW.trod enc Try.prog w base spare held m 4 (([c0, c1, c2, c3, c4].drop 4).take (Try.prog.cellsOf 4)) = some y4 := hg 4 _ rfl
      rw [hc3] at h0
      rw [hc5] at h1
      rw [hc1] at h2 h3
      rw [hc4] at h4
      simp at h0 h1 h2 h3 h4
      obtain ⟨k0, e0, _, _⟩ := DataW.trod_int Try.underlying27 h0
      obtain ⟨k1, e1, _, _⟩ := DataW.trod_int Try.underlying3 h1
      obtain ⟨k2, rfl, _⟩ := open_elem (D := y2.1) (Pl := y2.2) Try.underlying40 h2
      obtain ⟨k3, rfl, _⟩ := open_elem (D := y3.1) (Pl := y3.2) Try.underlying40 h3
      obtain ⟨k4, e4, _⟩ := DataW.trod_bool Try.underlying4 h4
      simp at e0 e1 e4
      subst e0 e1 e4
      exact ⟨k0, k1, k2, k3, k4, rfl⟩
end
end Go.Proofs.Ythoiiccecneefaa
