/-
  A pixel as an argument, opened.
-/
import Derived.Test.YthoiiccecneefaaQOgr
import Derived.OpenShut
namespace Go.Proofs.Ythoiiccecneefaa
open Go.ChangeShapes Go.WideShapes Go.ChangeAt Go.RowKit Go.Deep

theorem okWide_arr {P : Program} {w : World} {r : Reach} {b0 : Nat} {t : TypeId} {v : Value} {n : Nat} {e : TypeId} (ht : P.underlying t = some (.array n e)) (h : Value.okWide P w r b0 t v) : ∃ cs, v = .agg cs ∧ cs.size = P.cellsOf t := by
  simp only [Value.okWide, ht] at h
  obtain ⟨cs, h1, h2, _⟩ := h
  exact ⟨cs, h1, h2⟩

theorem cellsPix : Try.prog.cellsOf 47 = 4 := by kernel_rfl

section
variable {H : Type} {enc : TypeId × Value → H} {w : World} {base : Nat} {spare : Nat → Bool} {held : Bool}
set_option maxRecDepth 100000 in
/-- A pixel by value. -/
theorem open_pixel {r : Reach} {b0 : Nat} {v : Value} {d : DataW H} {p : List MemPlace} (hv : Value.okWide Try.prog w r b0 47 v) (h : DataW.Trod enc Try.prog w base spare held 47 v d p) :
    ∃ f : Nat → Nat, v = pix f ∧ ∀ k, k < 4 → f k < 4294967296 := by
  obtain ⟨cs, rfl, hsz⟩ := okWide_arr Try.underlying47 hv
  obtain ⟨fuel, hf⟩ := h
  obtain ⟨xs, m, _, _, hl, hlen, hg⟩ := DataW.trod_array Try.underlying47 hf
  have hc1 := cellsF32
  have hc2 := cellsPix
  obtain ⟨l⟩ := cs
  have hl4 : l.length = 4 := by rw [← hc2]; simpa using hsz
  match l, hl4 with
  | [c0, c1, c2, c3], _ =>
    match xs, hlen with
    | [y0, y1, y2, y3], _ =>
      have key : ∀ (i : Nat) (ci : Value) (yi : DataW H × List MemPlace), i < 4 → [c0, c1, c2, c3][i]? = some ci → [y0, y1, y2, y3][i]? = some yi → ∃ k, ci = .float .f32 k ∧ k < 4294967296 := by
        intro i ci yi hi hci hyi
        have h1 : DataW.trod enc Try.prog w base spare held m 40 (([c0, c1, c2, c3].drop (i * 1)).take 1) = some yi := by
          have := hg i hi
          rw [hc1, hyi] at this
          exact this
        have hd : ([c0, c1, c2, c3].drop (i * 1)).take 1 = [ci] := by
          have : i = 0 ∨ i = 1 ∨ i = 2 ∨ i = 3 := by omega
          rcases this with rfl | rfl | rfl | rfl <;> simp at hci <;> subst hci <;> rfl
        rw [hd] at h1
        exact open_elem (D := yi.1) (Pl := yi.2) Try.underlying40 h1
      obtain ⟨k0, rfl, s0⟩ := key 0 c0 y0 (by omega) rfl rfl
      obtain ⟨k1, rfl, s1⟩ := key 1 c1 y1 (by omega) rfl rfl
      obtain ⟨k2, rfl, s2⟩ := key 2 c2 y2 (by omega) rfl rfl
      obtain ⟨k3, rfl, s3⟩ := key 3 c3 y3 (by omega) rfl rfl
      refine ⟨fun k => if k = 0 then k0 else if k = 1 then k1 else if k = 2 then k2 else k3, rfl, ?_⟩
      intro k hk
      have : k = 0 ∨ k = 1 ∨ k = 2 ∨ k = 3 := by omega
      rcases this with rfl | rfl | rfl | rfl
      · exact s0
      · exact s1
      · exact s2
      · exact s3
end
end Go.Proofs.Ythoiiccecneefaa
