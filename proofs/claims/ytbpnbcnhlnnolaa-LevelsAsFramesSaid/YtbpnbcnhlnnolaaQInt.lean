/-
  Slices of whole numbers: how they read; as an argument, opened.
-/
import Derived.Test.YtbpnbcnhlnnolaaFOpen
namespace Go.Proofs.Ytbpnbcnhlnnolaa
open Go.ChangeShapes Go.WideShapes Go.ChangeAt Go.RowKit Go.Deep

/-- n whole numbers from a place on. -/
def RdI (w : World) (b off n : Nat) (L : Nat → Int) : Prop := ∀ k, k < n → w.cell? ⟨b, off + k, none⟩ = some (.int .i64 (L k))
def SrcI (w : World) (A : Option Addr) (n : Nat) (L : Nat → Int) : Prop := 0 < n → ∃ b off, A = some ⟨b, off, none⟩ ∧ b < w.heap.size ∧ RdI w b off n L
theorem RdI.below {w w' : World} {b off n B : Nat} {L : Nat → Int} (h : RdI w b off n L) (hb : Below B w w') (hlt : b < B) : RdI w' b off n L := fun k hk => by
  rw [← h k hk]
  unfold World.cell?
  rw [hb.block b hlt]
theorem SrcI.below {w w' : World} {A : Option Addr} {n : Nat} {L : Nat → Int} (h : SrcI w A n L) (hb : Below w.heap.size w w') : SrcI w' A n L := fun hn => by
  obtain ⟨b, off, rfl, hlt, hr⟩ := h hn
  exact ⟨b, off, rfl, Nat.lt_of_lt_of_le hlt hb.size, hr.below hb hlt⟩
theorem SrcI.drewN {w : World} {A : Option Addr} {n : Nat} {L : Nat → Int} (h : SrcI w A n L) (k : Nat) : SrcI (w.drewN k) A n L := h

section
variable {H : Type} {enc : TypeId × Value → H} {w : World} {base : Nat} {spare : Nat → Bool} {held : Bool}
set_option maxRecDepth 100000 in
/-- A slice of whole numbers. -/
theorem open_ints {r : Reach} {b0 : Nat} {v : Value} {d : DataW H} {p : List MemPlace} (hv : Value.okWide Try.prog w r b0 29 v) (h : DataW.Trod enc Try.prog w base (fun _ => true) held 29 v d p) :
    ∃ (A : Option Addr) (n c : Nat) (L : Nat → Int), v = .slice A n c ∧ n ≤ c ∧ c ≤ maxLen ∧ SrcI w A n L ∧ (∀ i, i < n → (Lit.int .i64 (L i)).wf = true) := by
  obtain ⟨a0, len, cap, rfl⟩ := okWide_slice Try.underlying29 hv
  obtain ⟨fuel, hf⟩ := h
  rcases open_slice1 Try.underlying29 cellsInt hf with ⟨hcs, _⟩ | ⟨a, ln, cp, m, n, V, D, Pl, hcs, _, hl, hm, hmm, _, hx⟩
  · simp [Value.cells] at hcs
    obtain ⟨rfl, rfl, rfl⟩ := hcs
    exact ⟨none, 0, 0, fun _ => 0, rfl, Nat.le_refl _, Nat.zero_le _, fun h => absurd h (by omega), fun i h => absurd h (by omega)⟩
  · simp [Value.cells] at hcs
    obtain ⟨rfl, rfl, rfl⟩ := hcs
    have hmm2 : m = cap := by simpa using hmm
    obtain ⟨L, hL⟩ : ∃ L : Nat → Int, ∀ i, i < len → w.cell? (a.add i) = some (.int .i64 (L i)) ∧ (Lit.int .i64 (L i)).wf = true := by
      have hk : ∀ i, i < len → ∃ k, w.cell? (a.add i) = some (.int .i64 k) ∧ (Lit.int .i64 k).wf = true := fun i hi => by
        obtain ⟨S, hz, _, hw⟩ := DataW.trod_int Try.underlying3 (hx i (by omega)).2
        simp at hz
        exact ⟨S, by rw [← hz]; exact (hx i (by omega)).1, hw⟩
      refine ⟨fun i => if h : i < len then Classical.choose (hk i h) else 0, fun i hi => ?_⟩
      have := Classical.choose_spec (hk i hi)
      simp only [hi, dif_pos]
      exact this
    refine ⟨some a, len, cap, L, rfl, hl, hm, fun hn => ?_, fun i hi => (hL i hi).2⟩
    obtain ⟨b, off, spot⟩ := a
    have hspot : spot = none := by simpa [Addr.add] using World.cell?_spot (hx 0 (by omega)).1
    subst hspot
    refine ⟨b, off, rfl, ?_, fun i hi => ?_⟩
    · have := cell_lt (hL 0 hn).1
      simpa [Addr.add] using this
    · have := (hL i hi).1
      rw [Addr.add_lit] at this
      exact this
end
end Go.Proofs.Ytbpnbcnhlnnolaa
