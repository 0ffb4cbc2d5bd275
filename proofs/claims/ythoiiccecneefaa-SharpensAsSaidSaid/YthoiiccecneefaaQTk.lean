/-
  A call that leaves the world as it is may be taken first, where nobody who could come before it touches what it looks at.
-/
import Derived.Test.YthoiiccecneefaaQNum
import Derived.Deep.RegionHeld3
namespace Go.Proofs.Ythoiiccecneefaa
open Go

section
variable {P : Program} {ops : Array Oper} {Q : Exit → Act → World → Prop} {md : Region.Mode} {S : World → Prop}

/-- What holds of the frame, and does not look at what an operation writes, holds behind it. -/
theorem wpOp_keep {j : Nat} {oj : Oper} {Y : Act → Prop} (hj : ops[j]? = some oj) (hput : ∀ a u, Y a → Y (a.put oj.dst u)) (hdef : ∀ (a : Act) d, Y a → Y { a with defers := d :: a.defers })
    {K : Act → World → Prop} {a : Act} {w : World} (hY : Y a) (h : wpOp P ops Q j K a w) : wpOp P ops Q j (fun a' w' => Y a' ∧ K a' w') a w := by
  unfold wpOp at h ⊢
  rw [hj] at h ⊢
  dsimp only at h ⊢
  by_cases hw : Region.wanted oj (yielded ops a.tmps) = true
  · rw [if_pos hw] at h ⊢
    refine h.imp (fun h => ?_) id
    unfold Oper.wp at h ⊢
    cases hr : (execOp a.eval oj).run P w with
    | ok n w' =>
      rw [hr] at h
      cases n <;> simp only [Oper.upon] at h ⊢
      case value u => exact ⟨hput _ _ hY, h⟩
      case skip => exact ⟨hput _ _ hY, h⟩
      case defer d => exact ⟨hput _ _ (hdef _ _ hY), h⟩
      case enter f args =>
        refine Calls.mono h fun e w'' he => ?_
        cases e with
        | returned u => exact ⟨hput _ _ hY, he⟩
        | panicked c => exact he
        | outgrown => exact he
      case row row args => exact Rows.mono h fun u w'' he => ⟨hput _ _ hY, he⟩
    | halt x w' =>
      rw [hr] at h
      cases x <;> simp only [Oper.upon] at h ⊢
      case panic u => exact h
  · rw [if_neg hw] at h ⊢
    exact ⟨hput _ _ hY, h⟩

/-- In state 'a', in every world that meets S, the operation calls what gives 'v' and leaves the world as it is. -/
def CallsIf (P : Program) (ops : Array Oper) (S : World → Prop) (o : Oper) (v : Value) (a : Act) : Prop :=
  Region.wanted o (yielded ops a.tmps) = true ∧ ∀ w, S w → ∃ f args, (execOp a.eval o).run P w = .ok (.enter f args) w ∧ Calls P f args w fun e w' => e = .returned v ∧ w = w'

theorem CallsIf.step {i : Nat} {o : Oper} {v : Value} {a : Act} (hi : ops[i]? = some o) (hy : CallsIf P ops S o v a) {K : Act → World → Prop} {w : World} (hS : S w) (h : K (a.put o.dst v) w) : wpOp P ops Q i K a w := by
  unfold wpOp
  rw [hi]
  dsimp only
  rw [if_pos hy.1]
  obtain ⟨f, args, hr, hc⟩ := hy.2 w hS
  left
  unfold Oper.wp
  rw [hr]
  simp only [Oper.upon]
  refine Calls.mono hc ?_
  rintro e w'' ⟨rfl, rfl⟩
  exact h

theorem wpAnyH_call {i : Nat} {oi : Oper} {v : Value} (hi : ops[i]? = some oi) (hsel : ∀ (j : Nat) (o : Oper) cs b, ops[j]? = some o → o.op ≠ .select cs b)
    (hQ : ∀ c a w, Q (.panic c) (a.put oi.dst v) w → Q (.panic c) a w) :
    ∀ (fuel : Nat) (L : Array Bool) (a : Act) (w : World),
      (∀ j oj, ops[j]? = some oj → j ≠ i → L.getD j true = false → (∀ e ∈ oj.after, Region.binds md e = true → e.on ≠ i) → oi.apart ops oj = true) →
      i ∈ Region.ready md ops L → CallsIf P ops S oi v a → S w →
      wpAnyH P md ops Q S fuel (L.setIfInBounds i true) (a.put oi.dst v) w → wpAnyH P md ops Q S (fuel + 1) L a w
  | 0, L, a, w, _, hr, hy, hS, H => by
    refine ⟨fun h => absurd hr (by rw [h]; simp), fun j hj => ?_⟩
    by_cases hji : j = i
    · subst hji
      exact hy.step hi hS ⟨hS, H⟩
    · exact absurd (ready_mono hj hji) (by rw [H.1]; simp)
  | fuel + 1, L, a, w, hfree, hr, hy, hS, H => by
    refine ⟨fun h => absurd hr (by rw [h]; simp), fun j hj => ?_⟩
    by_cases hji : j = i
    · subst hji
      exact hy.step hi hS ⟨hS, H⟩
    · obtain ⟨hjun, oj, hoj, hall⟩ := mem_ready.1 hj
      have hun := (mem_ready.1 hr).1
      have hnot : ∀ e ∈ oj.after, Region.binds md e = true → e.on ≠ i := fun e he hb heq => by
        have h1 := hall e he hb
        rw [heq] at h1
        by_cases hlt : i < L.size
        · simp [hlt] at hun h1
          rw [hun] at h1
          cases h1
        · simp [Array.getElem?_eq_none (Nat.le_of_not_lt hlt)] at h1
      have hap := hfree j oj hoj hji hjun hnot
      obtain ⟨s1, s2, s3⟩ := Oper.apart_spec hap
      -- an operation that only hands on the value, in the call's place
      obtain ⟨fo, hfo⟩ : ∃ fo : Oper, fo = { oi with op := Op.move (.const v), guard := none } := ⟨_, rfl⟩
      have hd : fo.dst = oi.dst := by rw [hfo]
      have hlook : fo.looksAt ops = [] := by rw [hfo]; rfl
      have hfap : fo.apart ops oj = true := by
        unfold Oper.apart
        rw [hlook, hd]
        cases h1 : oi.dst with
        | none => cases oj.dst <;> rfl
        | some d =>
          have a1 := s1 d h1
          have a2 := s2 d h1
          cases h2 : oj.dst with
          | none => simp [a1]
          | some d2 =>
            rw [h2] at a2
            simp [a1]
            intro h3
            exact a2 (by rw [h3])
      have hfy : ∀ a, YieldsIf P ops S fo v a := fun a => Or.inl ⟨by rw [hfo]; rfl, fun w _ => by rw [hfo]; rfl⟩
      have hmove : ∀ cs b, fo.op ≠ .select cs b := fun cs b h => by rw [hfo] at h; cases h
      have h1 := H.2 j (ready_mono hj hji)
      rw [← hd] at h1
      have h2 := wpOp_putIf hoj hfap hmove (fun cs b => hsel j oj cs b hoj) (fun c a w h => hQ c a w (by rw [← hd]; exact h)) (hfy a) h1
      have h3 := wpOp_keep (Y := CallsIf P ops S oi v) hoj (fun a u hy => by
          unfold CallsIf at *
          rw [execOp_put oi (fun cs b => hsel i oi cs b hi) a oj.dst u s3, wanted_put oi a oj.dst u s3]
          exact hy) (fun a d hy => hy) hy h2
      refine wpOp_mono (fun a' w' h4 => ⟨h4.2.2.1, ?_⟩) h3
      refine wpAnyH_call hi hsel hQ fuel (L.setIfInBounds j true) a' w' (fun k ok hk hki hkun hno => hfree k ok hk hki ?_ hno) (ready_mono hr (Ne.symm hji)) h4.1 h4.2.2.1 ?_
      · by_cases hjk : j = k
        · subst hjk; exact hjun
        · rw [getD_set_ne true hjk] at hkun
          exact hkun
      · rw [Array.setIfInBounds_comm _ _ hji, ← hd]
        exact h4.2.2.2

theorem wpAnyH_takeC {i : Nat} {oi : Oper} {v : Value} {fuel : Nat} {L : Array Bool} {a : Act} {w : World} (hi : ops[i]? = some oi)
    (hs : Region.noSelect ops = true) (hf : Region.free md ops L i = true) (hr : (Region.ready md ops L).contains i = true)
    (hQ : ∀ c a w, Q (.panic c) (a.put oi.dst v) w → Q (.panic c) a w) (hy : CallsIf P ops S oi v a) (hS : S w)
    (h : wpAnyH P md ops Q S fuel (L.setIfInBounds i true) (a.put oi.dst v) w) : wpAnyH P md ops Q S (fuel + 1) L a w :=
  wpAnyH_call hi (fun j o cs b ho => Region.noSelect_spec hs j o cs b ho) hQ fuel L a w (fun j oj => Region.free_spec hi hf j oj) (by simpa using hr) hy hS h
end
end Go.Proofs.Ythoiiccecneefaa
