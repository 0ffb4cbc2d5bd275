/-
  Singles as rational numbers: the operations.
-/
import Derived.Test.YthoiiccecneefaaRatF
namespace Go.Proofs.Ythoiiccecneefaa
open Ieee (Datum Format signed)

theorem signed_val (s : Bool) (m : Nat) (p b : Int) (h : b ≤ p) : ((signed s m (p - b).toNat : Int) : Rat) * pw b = dv s m p := by
  have e : (((m <<< (p - b).toNat : Nat) : Int) : Rat) * pw b = (m : Rat) * pw p := by
    rw [Nat.shiftLeft_eq, Rat.intCast_natCast, pw_shift]; congr 2; omega
  unfold signed dv
  cases s
  · simpa using e
  · simp only [if_true]
    rw [Rat.intCast_neg, Rat.neg_mul, e]

theorem dv_signed (n : Int) (b : Int) (s : Bool) (hs : n = 0 ∨ s = decide (n < 0)) : dv s n.natAbs b = (n : Rat) * pw b := by
  unfold dv
  rcases hs with h | h
  · subst h; cases s <;> simp
  · subst h
    by_cases hn : n < 0
    · rw [decide_eq_true hn]
      simp only [if_true]
      have : (n : Rat) = -((n.natAbs : Nat) : Rat) := by
        rw [← Rat.intCast_natCast, ← Rat.intCast_neg]; congr 1; omega
      rw [this, Rat.neg_mul]
    · rw [decide_eq_false hn]
      simp only [Bool.false_eq_true, if_false]
      have : (n : Rat) = ((n.natAbs : Nat) : Rat) := by
        rw [← Rat.intCast_natCast]; congr 1; omega
      rw [this]

theorem dv_neg (s : Bool) (m : Nat) (p : Int) : dv (!s) m p = -dv s m p := by
  unfold dv; cases s <;> simp
theorem cop_some {op : BinOp} {k : FloatKind} {x y r : Nat} (h : floatBits op k x y = some r) : cop op k x y = r := by simp [cop, h]

/-- A sum of two data. -/
theorem sum_val (s t : Bool) (m n : Nat) (i j : Int) : ∃ u M, (Datum.number s m i).sum (Datum.number t n j) = some (.number u M (min i j)) ∧ dv u M (min i j) = dv s m i + dv t n j := by
  obtain ⟨T, hT⟩ : ∃ T : Int, T = signed s m (i - min i j).toNat + signed t n (j - min i j).toNat := ⟨_, rfl⟩
  refine ⟨(if T = 0 then s && t else decide (T < 0)), T.natAbs, ?_, ?_⟩
  · rw [hT]; rfl
  · rw [dv_signed T (min i j) _ (by by_cases h : T = 0
                                    · exact Or.inl h
                                    · right; rw [if_neg h]), hT, Rat.intCast_add, Rat.add_mul, signed_val _ _ _ _ (by omega), signed_val _ _ _ _ (by omega)]

theorem fv32_place {b : Nat} {s : Bool} {m : Nat} {p : Int} (h : FloatKind.f32.format.read b = .number s m p) : -149 ≤ p := (read32_num h).2.1

theorem fadd {x y : Nat} {a b : Rat} (hx : Fv .f32 x a) (hy : Fv .f32 y b) (h1 : -pw 127 < a + b) (h2 : a + b < pw 127) : ∃ q, Fv .f32 (cop .add .f32 x y) q ∧ Near 0 q (a + b) := by
  obtain ⟨s, m, i, hr, rfl⟩ := hx
  obtain ⟨t, n, j, hr', rfl⟩ := hy
  obtain ⟨u, M, hs, hv⟩ := sum_val s t m n i j
  have hp := fv32_place hr
  have hp' := fv32_place hr'
  rw [← hv] at h1 h2 ⊢
  obtain ⟨q, hq, _, hn⟩ := fv32 u M (min i j) h1 h2
  refine ⟨q, ?_, hn (by omega)⟩
  rw [cop_some (r := FloatKind.f32.format.nearest u M (min i j))]
  · exact hq
  · show FloatKind.f32.format.add x y = _
    unfold Format.add
    rw [hr, hr', hs]; rfl

theorem fsub {x y : Nat} {a b : Rat} (hx : Fv .f32 x a) (hy : Fv .f32 y b) (h1 : -pw 127 < a - b) (h2 : a - b < pw 127) : ∃ q, Fv .f32 (cop .sub .f32 x y) q ∧ Near 0 q (a - b) := by
  obtain ⟨s, m, i, hr, rfl⟩ := hx
  obtain ⟨t, n, j, hr', rfl⟩ := hy
  obtain ⟨u, M, hs, hv⟩ := sum_val s (!t) m n i j
  have hp := fv32_place hr
  have hp' := fv32_place hr'
  have e : dv s m i - dv t n j = dv s m i + dv (!t) n j := by rw [dv_neg]; grind
  rw [e] at h1 h2 ⊢
  rw [← hv] at h1 h2 ⊢
  obtain ⟨q, hq, _, hn⟩ := fv32 u M (min i j) h1 h2
  refine ⟨q, ?_, hn (by omega)⟩
  rw [cop_some (r := FloatKind.f32.format.nearest u M (min i j))]
  · exact hq
  · show FloatKind.f32.format.sub x y = _
    unfold Format.sub
    rw [hr, hr']
    show ((Datum.number s m i).sum (Datum.number (!t) n j)).map _ = _
    rw [hs]; rfl

theorem fmul {x y : Nat} {a b : Rat} (hx : Fv .f32 x a) (hy : Fv .f32 y b) (h1 : -pw 127 < a * b) (h2 : a * b < pw 127) : ∃ q, Fv .f32 (cop .mul .f32 x y) q ∧ Near (pw (-126)) q (a * b) := by
  obtain ⟨s, m, i, hr, rfl⟩ := hx
  obtain ⟨t, n, j, hr', rfl⟩ := hy
  have e : dv s m i * dv t n j = dv (s ^^ t) (m * n) (i + j) := by
    have e2 : ((m * n : Nat) : Rat) * pw (i + j) = ((m : Rat) * pw i) * ((n : Rat) * pw j) := by rw [pw_add, Rat.natCast_mul]; grind
    unfold dv
    rw [e2]
    cases s <;> cases t <;> simp <;> grind
  rw [e] at h1 h2 ⊢
  obtain ⟨q, hq, hn, _⟩ := fv32 (s ^^ t) (m * n) (i + j) h1 h2
  refine ⟨q, ?_, hn⟩
  rw [cop_some (r := FloatKind.f32.format.nearest (s ^^ t) (m * n) (i + j))]
  · exact hq
  · show FloatKind.f32.format.mul x y = _
    unfold Format.mul
    rw [hr, hr']; rfl

/-- How two numbers stand to each other. -/
theorem forder {k : FloatKind} {x y : Nat} {a b : Rat} (hx : Fv k x a) (hy : Fv k y b) : k.format.order x y = some (if a < b then .lt else if b < a then .gt else .eq) := by
  obtain ⟨s, m, i, hr, rfl⟩ := hx
  obtain ⟨t, n, j, hr', rfl⟩ := hy
  unfold Format.order
  rw [hr, hr']
  have e1 := signed_val s m i (min i j) (by omega)
  have e2 := signed_val t n j (min i j) (by omega)
  have hp := pw_pos (min i j)
  show some (compare (signed s m (i - min i j).toNat) (signed t n (j - min i j).toNat)) = _
  rw [← e1, ← e2]
  generalize signed s m (i - min i j).toNat = A
  generalize signed t n (j - min i j).toNat = B
  congr 1
  have key : ∀ A B : Int, (A : Rat) * pw (min i j) < (B : Rat) * pw (min i j) ↔ A < B := fun A B => by
    rw [Rat.mul_lt_mul_right hp, Rat.intCast_lt_intCast]
  rcases Int.lt_trichotomy A B with h | h | h
  · rw [Int.compare_eq_lt.2 h, if_pos ((key A B).2 h)]
  · subst h
    rw [if_neg (fun h => absurd ((key A A).1 h) (by omega)), if_neg (fun h => absurd ((key A A).1 h) (by omega))]; simp
  · rw [Int.compare_eq_gt.2 h, if_neg (fun h' => absurd ((key A B).1 h') (by omega)), if_pos ((key B A).2 h)]

end Go.Proofs.Ythoiiccecneefaa
