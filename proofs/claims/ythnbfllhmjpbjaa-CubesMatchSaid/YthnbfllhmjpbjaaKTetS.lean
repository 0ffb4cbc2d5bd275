/-
  Cubes in the reference: the axes by their shares, sorted otherwise.
-/
import Derived.Test.YthnbfllhmjpbjaaKLinD
namespace Go.Proofs.Ythnbfllhmjpbjaa
open Go.RowKit Go.Shelf

/-- Two passes of exchanges of neighbours, as far as the exchange c. -/
def bub (g : Nat → Nat → Bool) : Nat → (Nat → Nat)
  | 0 => fun i => i
  | c + 1 => if g (bub g c (c % 2 + 1)) (bub g c (c % 2)) = true then swp (bub g c) (c % 2) (c % 2 + 1) else bub g c

theorem bub_lt (g : Nat → Nat → Bool) : ∀ c k, k < 3 → bub g c k < 3
  | 0, k, hk => hk
  | c + 1, k, hk => by
    unfold bub
    split
    · exact swp_lt (bub_lt g c) (by omega) (by omega) k hk
    · exact bub_lt g c k hk

set_option maxHeartbeats 2000000 in
theorem bub_srt (g : Nat → Nat → Bool) (q : Nat → Rat) (hg : ∀ a b, g a b = decide (q b < q a)) : ∀ m, m < 3 → bub g 4 m = srtF g (fun i => i) 2 m := by
  have t1 : ∀ a b c : Rat, a < b → b < c → a < c := fun a b c h1 h2 => by grind
  have n10 := hg 1 0
  have n20 := hg 2 0
  have n21 := hg 2 1
  have n01 := hg 0 1
  have n02 := hg 0 2
  have n12 := hg 1 2
  intro m hm
  have h3 : m = 0 ∨ m = 1 ∨ m = 2 := by omega
  cases e10 : g 1 0 <;> cases e20 : g 2 0 <;> cases e21 : g 2 1 <;> cases e01 : g 0 1 <;> cases e02 : g 0 2 <;> cases e12 : g 1 2 <;>
    first
      | (exfalso
         rw [e10] at n10; rw [e20] at n20; rw [e21] at n21; rw [e01] at n01; rw [e02] at n02; rw [e12] at n12
         simp only [decide_eq_true_eq, decide_eq_false_iff_not, eq_comm (a := true), eq_comm (a := false)] at n10 n20 n21 n01 n02 n12
         grind)
      | (rcases h3 with rfl | rfl | rfl <;> simp [bub, srtF, insF, swp, e10, e20, e21, e01, e02, e12])

/-- The axes' order, by exchanges of neighbours. -/
def gtX (x : Nat → Nat) (a b : Nat) : Bool := FloatKind.f32.format.order (x a) (x b) == some .gt
theorem bub_congr {g h : Nat → Nat → Bool} (hg : ∀ a b, a < 3 → b < 3 → g a b = h a b) : ∀ c, bub g c = bub h c
  | 0 => rfl
  | c + 1 => by
    unfold bub
    rw [bub_congr hg c, hg _ _ (bub_lt h c _ (by omega)) (bub_lt h c _ (by omega))]
theorem insF_lt {g : Nat → Nat → Bool} : ∀ j e, j < 3 → (∀ x, x < 3 → e x < 3) → ∀ x, x < 3 → insF g j e x < 3
  | 0, e, _, he, x, hx => he x hx
  | j + 1, e, hj, he, x, hx => by
    unfold insF
    split
    · exact insF_lt j _ (by omega) (swp_lt he (by omega) (by omega)) x hx
    · exact he x hx
theorem insF_congr {g h : Nat → Nat → Bool} (hg : ∀ a b, a < 3 → b < 3 → g a b = h a b) : ∀ j e, j < 3 → (∀ x, x < 3 → e x < 3) → insF g j e = insF h j e
  | 0, e, _, _ => rfl
  | j + 1, e, hj, he => by
    unfold insF
    rw [hg _ _ (he _ hj) (he _ (by omega)), insF_congr hg j _ (by omega) (swp_lt he hj (by omega))]
theorem srtF_congr {g h : Nat → Nat → Bool} (hg : ∀ a b, a < 3 → b < 3 → g a b = h a b) : srtF g (fun i => i) 2 = srtF h (fun i => i) 2 := by
  have e1 : srtF g (fun i => i) 1 = srtF h (fun i => i) 1 := insF_congr hg 1 _ (by omega) (fun x hx => hx)
  show insF g 2 (srtF g (fun i => i) 1) = insF h 2 (srtF h (fun i => i) 1)
  rw [e1]
  exact insF_congr hg 2 _ (by omega) (insF_lt 1 _ (by omega) (fun x hx => hx))

theorem bub_ord {x : Nat → Nat} {q : Nat → Rat} (hx : ∀ k, k < 3 → Fv .f32 (x k) (q k)) : ∀ m, m < 3 → bub (gtX x) 4 m = ordO x m := by
  intro m hm
  have h1 : ∀ a b, a < 3 → b < 3 → gtX x a b = decide (q b < q a) := fun a b ha hb => order_gt (hx a ha) (hx b hb)
  have h2 : ∀ a b, a < 3 → b < 3 → gOf (fun i j => cmpC (x j) (x i)) a b = decide (q b < q a) := fun a b ha hb => by
    have e := order_lt (hx b hb) (hx a ha)
    have e2 := order_gt (hx b hb) (hx a ha)
    show decide (cmpC (x b) (x a) < 0) = _
    have e3 : cmpC (x b) (x a) = if q b < q a then -1 else if q a < q b then 1 else 0 := by
      unfold cmpC
      rw [e, e2]
      simp
    rw [e3]
    by_cases h : q b < q a
    · simp [h]
    · by_cases h' : q a < q b <;> simp [h, h']
  unfold ordO
  rw [bub_congr (h := fun a b => decide (q b < q a)) h1, srtF_congr (h := fun a b => decide (q b < q a)) h2]
  exact bub_srt _ q (fun _ _ => rfl) m hm
end Go.Proofs.Ythnbfllhmjpbjaa
