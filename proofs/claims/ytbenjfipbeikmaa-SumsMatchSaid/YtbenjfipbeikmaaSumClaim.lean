/-
  Proved: 'SumsMatch' of package dyelaw2 returns true for every input and leaves its argument as it was.
  No condition.
-/
import Derived.Test.YtbenjfipbeikmaaRows
import Derived.Test.YtbenjfipbeikmaaSumLaw
import Derived.WalkKit
import Derived.ProofKit
import Derived.Deep.Slices
namespace Go.Proofs.Ytbenjfipbeikmaa.sumsMatch
open Go.ChangeShapes Go.WideShapes Go.ChangeAt Go.RowKit Go.Deep

theorem own : ownKnob Try.prog.godebug = none := by kernel_rfl
theorem laid : laidOutB Try.prog = true := by kernel_rfl

theorem cell_lt {w : World} {a : Addr} {v : Value} (h : w.cell? a = some v) : a.block < w.heap.size := by
  by_cases hlt : a.block < w.heap.size
  · exact hlt
  · exfalso
    have : w.heap[a.block]? = none := Array.getElem?_eq_none (by omega)
    simp [World.cell?, this] at h

theorem open_elem {H : Type} {enc : TypeId × Value → H} {P : Program} {w : World} {base : Nat} {spare : Nat → Bool} {held : Bool} {n : Nat} {t : TypeId} {V : Value} {D : DataW H} {Pl : List MemPlace}
    (ht : P.underlying t = some (.float .f32)) (h : DataW.trod enc P w base spare held n t [V] = some (D, Pl)) : ∃ k, V = .float .f32 k ∧ k < 4294967296 := by
  cases n with
  | zero => simp [DataW.trod] at h
  | succ n =>
    simp only [DataW.trod, ht] at h
    cases V <;> simp at h
    rename_i k b
    obtain ⟨⟨rfl, hw⟩, _⟩ := h
    exact ⟨b, rfl, by simpa [Lit.wf] using hw⟩

set_option maxRecDepth 100000 in
set_option maxHeartbeats 1000000 in
theorem lifted (os : Os) (started : os.Started) (H : Type) (enc : TypeId × Value → H) :
    ReturnsInHanded {} Try.checked os 10 .any (Rows.sumsMatchSpec.pre6 enc Try.prog Try.f10 Rows.sumsMatchRow.domain false) (Rows.sumsMatchSpec.post enc Try.prog Try.f10 false true false false) := by
  refine returnsInHanded_of_change (C := Try.checked) own started (by kernel_rfl) Try.func10
    (ChangeSpec.witness6 (enc := enc) (C := Try.checked) false ⟨#[], #[.slice none 0 0], []⟩ 8 (by kernel_rfl) (by kernel_rfl) (by kernel_rfl) (by kernel_rfl)) ?_
  intro W base args ds gs before hval0 hW _ _
  have hval : ∀ (j : Nat) t v, Try.f10.params[j]? = some t → args[j]? = some v → Value.okWide Try.prog W .any base t v := hval0
  have hW' := hW
  obtain ⟨p, q, hA0, hV, rfl, hfz, hnd⟩ := hW
  have hA : DataW.TrodAll enc Try.prog W 0 (fun _ => true) true Try.f10.params.toList args.toList ds p := hA0
  rw [Try.params10] at hA hval
  obtain ⟨v0, d0, rfl, rfl, h0⟩ := trodAll_one hA
  obtain ⟨rfl, rfl⟩ := trodVars_none hV
  obtain ⟨a0, len, cap, rfl⟩ := okWide_slice Try.underlying54 (hval 0 54 v0 rfl rfl)
  have h0k := h0
  obtain ⟨fuel, hf⟩ := h0
  clear hA0 hval0
  simp only [List.append_nil] at hW'
  have hlt : ∀ x ∈ p, x.block < W.heap.size := fun x hx => by simpa using hW'.lt x hx
  have hargs : ∀ (W' : World), Below W.heap.size W W' → DataW.Trod enc Try.prog W' 0 (fun b => decide (b < W.heap.size)) true 54 (.slice a0 len cap) d0 p :=
    fun W' hn => Below.trod laid (by kernel_rfl) (of_decide_eq_true (by kernel_rfl)) h0k hn hlt
  have key : Calls Try.prog 10 #[.slice a0 len cap] W fun e w' => e = .returned (.bool true) ∧ Below W.heap.size W w' := by
    by_cases hz : len = 0
    · subst hz; exact sums_zero a0 cap W
    by_cases hbig : 300 < len
    · exact sums_big a0 len cap W hbig
    have hcells : Try.prog.cellsOf 22 = 1 := by kernel_rfl
    rcases open_slice1 Try.underlying54 hcells hf with ⟨hcs, _⟩ | ⟨a, len', cap', m, n, V, D, Pl, hcs, _, hl, hm, hmm, _, hx⟩
    · simp [Value.cells] at hcs
      exact absurd hcs.2.1 hz
    · simp [Value.cells] at hcs
      obtain ⟨rfl, rfl, rfl⟩ := hcs
      have hmm2 : m = cap := by simpa using hmm
      clear hmm
      obtain ⟨b, off, spot⟩ := a
      have hspot : spot = none := by simpa [Addr.add] using World.cell?_spot (hx 0 (by omega)).1
      subst hspot
      have hk : ∀ i, i < len → ∃ k, V i = .float .f32 k ∧ k < 4294967296 := fun i hi => open_elem Try.underlying22 (hx i (by omega)).2
      have hc : ∀ i, i < len → ∃ k, W.cell? ⟨b, off + i, none⟩ = some (.float .f32 k) ∧ k < 4294967296 := fun i hi => by
        obtain ⟨k, h1, h2⟩ := hk i hi
        exact ⟨k, by have h3 := (hx i (by omega)).1; rw [Addr.add_lit] at h3; rw [← h1]; exact h3, h2⟩
      obtain ⟨F, hF⟩ : ∃ F : Nat → Nat, ∀ i, i < len → W.cell? ⟨b, off + i, none⟩ = some (.float .f32 (F i)) ∧ F i < 4294967296 := by
        refine ⟨fun i => if h : i < len then Classical.choose (hc i h) else 0, fun i hi => ?_⟩
        have := Classical.choose_spec (hc i hi)
        simp only [hi, dif_pos]
        exact this
      refine sums_main b off len cap ((List.range len).map F) W (by simp) (by omega) (by omega) hl hm ?_ ?_ ?_
      · intro x hx2
        simp [List.getD, hx2]
        exact (hF x hx2).2
      · exact cell_lt (hF 0 (by omega)).1
      · intro i hi
        simp at hi
        rw [(hF i hi).1]; simp
  refine key.mono fun e W' ⟨he, hb⟩ => ?_
  subst he
  exact ⟨_, rfl, _, _, _, [], _, [], hW', trodAll_mk1 (shut_bool Try.underlying4 _), trodAll_mk1 (hargs _ hb), rfl, hb.frame _, fun h => by cases h⟩

theorem holds : Rows.SumsMatchSaid :=
  OpenClaim.holds_of_wide 10 Try.f10 rfl rfl rfl rfl rfl rfl rfl ⟨rfl, rfl, rfl, rfl, rfl⟩ rfl rfl rfl rfl rfl (by kernel_rfl) Try.func10 (by kernel_rfl)
    (of_decide_eq_true (by kernel_rfl)) (by unfold Func.isWrapper; first | (rw [if_pos (by decide +kernel)]; kernel_rfl) | (rw [if_neg (by decide +kernel)]; exact ⟨rfl, rfl⟩))
    (fun os started H enc _ => lifted os started H enc)
end Go.Proofs.Ytbenjfipbeikmaa.sumsMatch
