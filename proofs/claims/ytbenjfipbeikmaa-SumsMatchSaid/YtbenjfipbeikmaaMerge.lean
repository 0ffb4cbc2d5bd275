/-
  Merging two sorted parts of a row: the pure side.
-/
import Derived.Test.YtbenjfipbeikmaaShuf
namespace Go.Proofs.Ytbenjfipbeikmaa
open Go.RowKit

/-- The value at A carried to k, those between one to the left. -/
def mvr (d : Nat → Nat) (A k : Nat) : Nat → Nat := fun x => if A ≤ x ∧ x < k then d (x + 1) else if x = k then d A else d x
/-- The value at M carried to k, those between one to the right. -/
def mvl (d : Nat → Nat) (M k : Nat) : Nat → Nat := fun x => if x = k then d M else if k < x ∧ x ≤ M then d (x - 1) else d x

theorem mvr_zero (d : Nat → Nat) (A : Nat) : mvr d A A = d := by
  funext x; unfold mvr; rw [if_neg (by omega)]
  split
  · rename_i h; rw [h]
  · rfl
theorem mvr_succ (d : Nat → Nat) (A k : Nat) (h : A ≤ k) : swp (mvr d A k) k (k + 1) = mvr d A (k + 1) := by
  funext x
  unfold swp mvr
  by_cases h1 : x = k
  · rw [if_pos h1, if_neg (by omega), if_neg (by omega), if_pos (by omega), h1]
  · rw [if_neg h1]
    by_cases h2 : x = k + 1
    · rw [if_pos h2, if_neg (by omega), if_pos rfl, if_neg (by omega), if_pos h2]
    · rw [if_neg h2]
      by_cases h3 : A ≤ x ∧ x < k
      · rw [if_pos h3, if_pos (by omega)]
      · rw [if_neg h3, if_neg h1, if_neg (by omega), if_neg h2]
theorem mvl_zero (d : Nat → Nat) (M : Nat) : mvl d M M = d := by
  funext x; unfold mvl
  by_cases h : x = M
  · rw [if_pos h, h]
  · rw [if_neg h, if_neg (by omega)]
theorem mvl_succ (d : Nat → Nat) (M k : Nat) (h : k + 1 ≤ M) : swp (mvl d M (k + 1)) (k + 1) k = mvl d M k := by
  funext x
  unfold swp mvl
  by_cases h1 : x = k + 1
  · rw [if_pos h1, if_neg (by omega), if_neg (by omega), if_neg (by omega), if_pos (by omega)]
    congr 1; omega
  · rw [if_neg h1]
    by_cases h2 : x = k
    · rw [if_pos h2, if_pos rfl, if_pos h2]
    · rw [if_neg h2, if_neg h1, if_neg h2]
      by_cases h3 : k + 1 < x ∧ x ≤ M
      · rw [if_pos h3, if_pos (by omega)]
      · rw [if_neg h3, if_neg (by omega)]

theorem shuf_mvr (d : Nat → Nat) (A B : Nat) : ∀ k, A ≤ k → k < B → Shuf A B d (mvr d A k) := by
  intro k
  induction k with
  | zero => intro h _; have : A = 0 := by omega
            subst this; rw [mvr_zero]; exact .refl d
  | succ k ih =>
    intro h h2
    by_cases e : A = k + 1
    · rw [← e, mvr_zero]; exact .refl d
    · rw [← mvr_succ d A k (by omega)]
      exact .step (ih (by omega) (by omega)) _ _ ⟨by omega, by omega⟩ ⟨by omega, by omega⟩

theorem shuf_mvl (d : Nat → Nat) (A B M : Nat) (hM : M < B) : ∀ n, ∀ k, k + n = M → A ≤ k → Shuf A B d (mvl d M k) := by
  intro n
  induction n with
  | zero => intro k h _; have : k = M := by omega
            subst this; rw [mvl_zero]; exact .refl d
  | succ n ih =>
    intro k h h2
    rw [← mvl_succ d M k (by omega)]
    exact .step (ih (k + 1) (by omega) (by omega)) _ _ ⟨by omega, by omega⟩ ⟨by omega, by omega⟩

theorem srt_mvr {d : Nat → Nat} {A B i : Nat} (h : Srt d (A + 1) B) (hi : A + 1 ≤ i) (hi2 : i ≤ B) (h1 : ∀ x, A + 1 ≤ x → x < i → kk (d x) < kk (d A)) (h2 : ∀ x, i ≤ x → x < B → kk (d A) ≤ kk (d x)) : Srt (mvr d A (i - 1)) A B := by
  intro x y hx hxy hy
  unfold mvr
  by_cases a1 : A ≤ x ∧ x < i - 1
  · rw [if_pos a1]
    by_cases b1 : A ≤ y ∧ y < i - 1
    · rw [if_pos b1]; exact h _ _ (by omega) (by omega) (by omega)
    · rw [if_neg b1]
      by_cases b2 : y = i - 1
      · rw [if_pos b2]; exact Int.le_of_lt (h1 _ (by omega) (by omega))
      · rw [if_neg b2]; exact h _ _ (by omega) (by omega) (by omega)
  · rw [if_neg a1, if_neg (by omega : ¬ (A ≤ y ∧ y < i - 1))]
    by_cases a2 : x = i - 1
    · rw [if_pos a2]
      by_cases b2 : y = i - 1
      · rw [if_pos b2]; exact Int.le_refl _
      · rw [if_neg b2]; exact h2 _ (by omega) hy
    · rw [if_neg a2, if_neg (by omega)]; exact h _ _ (by omega) (by omega) (by omega)

theorem srt_mvl {d : Nat → Nat} {A M i : Nat} (h : Srt d A M) (hi : A ≤ i) (hi2 : i ≤ M) (h1 : ∀ x, A ≤ x → x < i → kk (d x) ≤ kk (d M)) (h2 : ∀ x, i ≤ x → x < M → kk (d M) < kk (d x)) : Srt (mvl d M i) A (M + 1) := by
  intro x y hx hxy hy
  unfold mvl
  by_cases a1 : x = i
  · rw [if_pos a1]
    by_cases b1 : y = i
    · rw [if_pos b1]; exact Int.le_refl _
    · rw [if_neg b1, if_pos (by omega)]; exact Int.le_of_lt (h2 _ (by omega) (by omega))
  · rw [if_neg a1]
    by_cases a2 : i < x ∧ x ≤ M
    · rw [if_pos a2, if_neg (by omega), if_pos (by omega)]; exact h _ _ (by omega) (by omega) (by omega)
    · rw [if_neg a2]
      by_cases b1 : y = i
      · rw [if_pos b1]; exact h1 _ (by omega) (by omega)
      · rw [if_neg b1]
        by_cases b2 : i < y ∧ y ≤ M
        · rw [if_pos b2]; exact h _ _ (by omega) (by omega) (by omega)
        · rw [if_neg b2]; exact h _ _ (by omega) (by omega) (by omega)

theorem shuf_rot : ∀ n, ∀ (d : Nat → Nat) (a m b : Nat), b - a ≤ n → a ≤ m → m ≤ b → Shuf a b d (rot d a m b) := by
  intro n
  induction n with
  | zero =>
    intro d a m b h h1 h2
    have e : rot d a m b = d := by funext x; unfold rot; rw [if_neg (by omega)]
    rw [e]; exact .refl d
  | succ n ih =>
    intro d a m b h h1 h2
    by_cases z1 : a = m
    · have e : rot d a m b = d := by
        funext x; unfold rot
        by_cases hx : a ≤ x ∧ x < b
        · rw [if_pos hx, if_pos (by omega)]; congr 1; omega
        · rw [if_neg hx]
      rw [e]; exact .refl d
    by_cases z2 : m = b
    · have e : rot d a m b = d := by
        funext x; unfold rot
        by_cases hx : a ≤ x ∧ x < b
        · rw [if_pos hx, if_neg (by omega)]; congr 1; omega
        · rw [if_neg hx]
      rw [e]; exact .refl d
    rcases Nat.lt_trichotomy (m - a) (b - m) with g | g | g
    · rw [← rot_right d a m b g h1 h2]
      exact shuf_trans (shuf_swr d a (b - (m - a)) a b (m - a) (by omega) (by omega) (by omega)) (shuf_mono (ih _ a m (b - (m - a)) (by omega) h1 (by omega)) (by omega) (by omega))
    · rw [← rot_even d a m b g h1 h2]
      exact shuf_swr d a m a b (m - a) (by omega) (by omega) (by omega)
    · rw [← rot_left d a m b g h1 h2]
      exact shuf_trans (shuf_swr d a m a b (b - m) (by omega) (by omega) (by omega)) (shuf_mono (ih _ (a + (b - m)) m b (by omega) (by omega) h2) (by omega) (by omega))

theorem rot_none {d : Nat → Nat} {s M e : Nat} (h1 : s ≤ M) (h2 : M ≤ e) (h : ¬ (s < M ∧ M < e)) : rot d s M e = d := by
  funext x; unfold rot
  by_cases hx : s ≤ x ∧ x < e
  · rw [if_pos hx]
    by_cases z : s = M
    · rw [if_pos (by omega)]; congr 1; omega
    · rw [if_neg (by omega)]; congr 1; omega
  · rw [if_neg hx]

/-- What the search of a merge has found. -/
structure Found (d : Nat → Nat) (A M B s e mid : Nat) : Prop where
  s0 : A ≤ s
  s1 : s ≤ M
  e0 : M ≤ e
  e1 : e ≤ B
  md : mid + M = s + e
  lo : s ≤ mid
  hi : mid ≤ e
  p1 : A < s → e < B → kk (d (s - 1)) ≤ kk (d e)
  p2 : s < M → M < e → kk (d (e - 1)) < kk (d s)

theorem found_parts {d : Nat → Nat} {A M B s e mid : Nat} (f : Found d A M B s e mid) (h1 : Srt d A M) (h2 : Srt d M B) :
    Srt (rot d s M e) A s ∧ Srt (rot d s M e) s mid ∧ Srt (rot d s M e) mid e ∧ Srt (rot d s M e) e B ∧ ∀ x y, A ≤ x → x < mid → mid ≤ y → y < B → kk (rot d s M e x) ≤ kk (rot d s M e y) := by
  have a1 := f.s0; have a2 := f.s1; have a3 := f.e0; have a4 := f.e1; have a5 := f.md; have a6 := f.lo; have a7 := f.hi; have p1 := f.p1; have p2 := f.p2
  have v1 : ∀ x, x < s → rot d s M e x = d x := fun x hx => by unfold rot; rw [if_neg (by omega)]
  have v2 : ∀ x, s ≤ x → x < mid → rot d s M e x = d (x - s + M) := fun x hx hy => by unfold rot; rw [if_pos (by omega), if_pos (by omega)]
  have v3 : ∀ x, mid ≤ x → x < e → rot d s M e x = d (x - mid + s) := fun x hx hy => by unfold rot; rw [if_pos (by omega), if_neg (by omega)]; congr 1; omega
  have v4 : ∀ x, e ≤ x → rot d s M e x = d x := fun x hx => by unfold rot; rw [if_neg (by omega)]
  refine ⟨?_, ?_, ?_, ?_, ?_⟩
  · intro x y g1 g2 g3; rw [v1 x (by omega), v1 y g3]; exact h1 _ _ g1 g2 (by omega)
  · intro x y g1 g2 g3; rw [v2 x g1 (by omega), v2 y (by omega) g3]; exact h2 _ _ (by omega) (by omega) (by omega)
  · intro x y g1 g2 g3; rw [v3 x g1 (by omega), v3 y (by omega) g3]; exact h1 _ _ (by omega) (by omega) (by omega)
  · intro x y g1 g2 g3; rw [v4 x g1, v4 y (by omega)]; exact h2 _ _ (by omega) g2 g3
  · intro x y g1 g2 g3 g4
    by_cases c1 : x < s
    · rw [v1 x c1]
      by_cases c2 : y < e
      · rw [v3 y g3 c2]; exact h1 _ _ g1 (by omega) (by omega)
      · rw [v4 y (by omega)]
        exact Int.le_trans (h1 x (s - 1) g1 (by omega) (by omega)) (Int.le_trans (p1 (by omega) (by omega)) (h2 e y (by omega) (by omega) g4))
    · rw [v2 x (by omega) g2]
      by_cases c2 : y < e
      · rw [v3 y g3 c2]
        exact Int.le_trans (h2 _ (e - 1) (by omega) (by omega) (by omega)) (Int.le_trans (Int.le_of_lt (p2 (by omega) (by omega))) (h1 s _ (by omega) (by omega) (by omega)))
      · rw [v4 y (by omega)]; exact h2 _ _ (by omega) (by omega) g4

theorem sym_end {d1 d2 dd : Nat → Nat} {A B mid : Nat} (hle : ∀ x y, A ≤ x → x < mid → mid ≤ y → y < B → kk (dd x) ≤ kk (dd y))
    (s1 : Shuf A mid dd d1) (t1 : Srt d1 A mid) (s2 : Shuf mid B d1 d2) (t2 : Srt d2 mid B) : Srt d2 A B := by
  have o1 := shuf_out s1
  have o2 := shuf_out s2
  refine srt_join (m := mid) (srt_congr t1 (fun x h1 h2 => o2 x (by omega))) t2 ?_
  intro x y h1 h2 h3 h4
  rw [o2 x (by omega)]
  have q1 : ∀ y, mid ≤ y → y < B → ∀ x, A ≤ x → x < mid → kk (d1 x) ≤ kk (dd y) := fun y g1 g2 => shuf_all s1 (fun v => kk v ≤ kk (dd y)) (fun x g3 g4 => hle x y g3 g4 g1 g2)
  have q2 := shuf_all s2 (fun v => kk (d1 x) ≤ kk v) (fun z g1 g2 => by show kk (d1 x) ≤ kk (d1 z); rw [o1 z (by omega)]; exact q1 z g1 g2 x h1 h2)
  exact q2 y h3 h4

/-- The search's row of tests, at c. -/
structure Srch (d : Nat → Nat) (p s0 r0 s r : Nat) : Prop where
  a : s0 ≤ s
  b : s ≤ r
  c : r ≤ r0
  lo : ∀ x, s0 ≤ x → x < s → kk (d x) ≤ kk (d (p - x))
  hi : ∀ x, r ≤ x → x < r0 → kk (d (p - x)) < kk (d x)

theorem srch_start (d : Nat → Nat) (p s0 r0 : Nat) (h : s0 ≤ r0) : Srch d p s0 r0 s0 r0 := ⟨Nat.le_refl _, h, Nat.le_refl _, fun x _ _ => by omega, fun x _ _ => by omega⟩

theorem srch_up {d : Nat → Nat} {A M B p s0 r0 s r c : Nat} (h : Srch d p s0 r0 s r) (h1 : Srt d A M) (h2 : Srt d M B) (hs : A ≤ s0) (hr : r0 ≤ M) (hp : p < B + s0) (hq : M + r0 ≤ p + 1) (hc : s ≤ c) (hc2 : c < r) (ht : kk (d c) ≤ kk (d (p - c))) : Srch d p s0 r0 (c + 1) r := by
  have := h.a; have := h.b; have := h.c
  refine ⟨by omega, by omega, by omega, ?_, h.hi⟩
  intro x g1 g2
  exact Int.le_trans (h1 x c (by omega) (by omega) (by omega)) (Int.le_trans ht (h2 _ _ (by omega) (by omega) (by omega)))

theorem srch_down {d : Nat → Nat} {A M B p s0 r0 s r c : Nat} (h : Srch d p s0 r0 s r) (h1 : Srt d A M) (h2 : Srt d M B) (hs : A ≤ s0) (hr : r0 ≤ M) (hp : p < B + s0) (hq : M + r0 ≤ p + 1) (hc : s ≤ c) (hc2 : c < r) (ht : kk (d (p - c)) < kk (d c)) : Srch d p s0 r0 s c := by
  have := h.a; have := h.b; have := h.c
  refine ⟨by omega, by omega, by omega, h.lo, ?_⟩
  intro x g1 g2
  exact Int.lt_of_le_of_lt (h2 _ (p - c) (by omega) (by omega) (by omega)) (Int.lt_of_lt_of_le ht (h1 c x (by omega) (by omega) (by omega)))

theorem srch_found {d : Nat → Nat} {A M B p s0 r0 s mid : Nat} (h : Srch d p s0 r0 s s) (hp : p + 1 = mid + M) (hs : A ≤ s0) (hr : r0 ≤ M) (hr2 : r0 ≤ mid) (hp2 : mid + M ≤ B + s0)
    (c1 : s0 = A ∨ mid + M = B + s0) (c2 : r0 = M ∨ r0 = mid) : Found d A M B s (mid + M - s) mid := by
  have g1 := h.a; have g2 := h.c
  refine ⟨by omega, by omega, by omega, by omega, by omega, by omega, by omega, ?_, ?_⟩
  · intro h1 h2
    have h3 := h.lo (s - 1) (by omega) (by omega)
    rw [show p - (s - 1) = mid + M - s from by omega] at h3; exact h3
  · intro h1 h2
    have h3 := h.hi s (Nat.le_refl _) (by omega)
    rw [show p - s = mid + M - s - 1 from by omega] at h3; exact h3
end Go.Proofs.Ytbenjfipbeikmaa
