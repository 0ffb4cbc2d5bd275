/-
  Exchanging values of a row: what it keeps, and what sorted means. No program here.
-/
import Derived.Test.YtbenjfipbeikmaaOrd
namespace Go.Proofs.Ytbenjfipbeikmaa
open Go.RowKit

/-- d with the value at i set to v. -/
def upd (d : Nat → Nat) (i v : Nat) : Nat → Nat := fun x => if x = i then v else d x
/-- d with the values at i and j exchanged. -/
def swp (d : Nat → Nat) (i j : Nat) : Nat → Nat := fun x => if x = i then d j else if x = j then d i else d x

theorem swp_comm (d : Nat → Nat) (i j : Nat) : swp d i j = swp d j i := by
  funext x; unfold swp
  by_cases h1 : x = i
  · by_cases h2 : x = j
    · subst h1; subst h2; simp
    · rw [if_pos h1, if_neg h2, if_pos h1]
  · by_cases h2 : x = j
    · rw [if_neg h1, if_pos h2, if_pos h2]
    · rw [if_neg h1, if_neg h2, if_neg h2, if_neg h1]

/-- n values from A on and from B on exchanged. -/
def swr (d : Nat → Nat) (A B n : Nat) : Nat → Nat := fun x =>
  if A ≤ x ∧ x < A + n then d (x - A + B) else if B ≤ x ∧ x < B + n then d (x - B + A) else d x

theorem swr_zero (d : Nat → Nat) (A B : Nat) : swr d A B 0 = d := by
  funext x; unfold swr; rw [if_neg (by omega), if_neg (by omega)]

theorem swr_succ (d : Nat → Nat) (A B i : Nat) (h : A + (i + 1) ≤ B) : swp (swr d A B i) (A + i) (B + i) = swr d A B (i + 1) := by
  funext x
  unfold swp swr
  by_cases h1 : x = A + i
  · have g1 : ¬ (A ≤ B + i ∧ B + i < A + i) := by omega
    have g2 : B ≤ B + i ∧ B + i < B + i → False := by omega
    rw [if_pos h1, if_neg g1, if_neg (fun h => g2 h), if_pos (by omega)]
    congr 1; omega
  · rw [if_neg h1]
    by_cases h2 : x = B + i
    · rw [if_pos h2, if_neg (by omega : ¬ (A ≤ A + i ∧ A + i < A + i)), if_neg (by omega : ¬ (B ≤ A + i ∧ A + i < B + i)), if_neg (by omega), if_pos (by omega)]
      congr 1; omega
    · rw [if_neg h2]
      by_cases h3 : A ≤ x ∧ x < A + i
      · rw [if_pos h3, if_pos (by omega)]
      · rw [if_neg h3]
        have h3' : ¬ (A ≤ x ∧ x < A + (i + 1)) := by omega
        rw [if_neg h3']
        by_cases h4 : B ≤ x ∧ x < B + i
        · rw [if_pos h4, if_pos (by omega)]
        · rw [if_neg h4, if_neg (by omega)]

/-- From d to d' by exchanges in a row's part. -/
inductive Shuf (a b : Nat) : (Nat → Nat) → (Nat → Nat) → Prop
  | refl (d : Nat → Nat) : Shuf a b d d
  | step {d d' : Nat → Nat} (h : Shuf a b d d') (i j : Nat) (hi : a ≤ i ∧ i < b) (hj : a ≤ j ∧ j < b) : Shuf a b d (swp d' i j)

theorem shuf_trans {a b : Nat} {d d' d'' : Nat → Nat} (h : Shuf a b d d') (g : Shuf a b d' d'') : Shuf a b d d'' := by
  induction g with
  | refl => exact h
  | step g i j hi hj ih => exact .step ih i j hi hj

theorem shuf_mono {a b a' b' : Nat} {d d' : Nat → Nat} (h : Shuf a b d d') (ha : a' ≤ a) (hb : b ≤ b') : Shuf a' b' d d' := by
  induction h with
  | refl => exact .refl _
  | step g i j hi hj ih => exact .step ih i j ⟨by omega, by omega⟩ ⟨by omega, by omega⟩

theorem shuf_out {a b : Nat} {d d' : Nat → Nat} (h : Shuf a b d d') : ∀ x, ¬ (a ≤ x ∧ x < b) → d' x = d x := by
  induction h with
  | refl => intro x _; rfl
  | step g i j hi hj ih =>
    intro x hx
    unfold swp
    rw [if_neg (by rintro rfl; exact hx hi), if_neg (by rintro rfl; exact hx hj)]
    exact ih x hx

theorem shuf_all {a b : Nat} {d d' : Nat → Nat} (h : Shuf a b d d') (P : Nat → Prop) (hp : ∀ x, a ≤ x → x < b → P (d x)) : ∀ x, a ≤ x → x < b → P (d' x) := by
  induction h with
  | refl => exact hp
  | step g i j hi hj ih =>
    intro x h1 h2
    unfold swp
    split
    · exact ih j hj.1 hj.2
    · split
      · exact ih i hi.1 hi.2
      · exact ih x h1 h2

/-- How many of the first N hold. -/
def cnt (p : Nat → Bool) (d : Nat → Nat) : Nat → Nat
  | 0 => 0
  | n + 1 => cnt p d n + (if p (d n) = true then 1 else 0)

theorem cnt_congr (p : Nat → Bool) (d d' : Nat → Nat) : ∀ n, (∀ x, x < n → d x = d' x) → cnt p d n = cnt p d' n := by
  intro n
  induction n with
  | zero => intro _; rfl
  | succ n ih => intro h; simp only [cnt]; rw [ih (fun x hx => h x (by omega)), h n (by omega)]

theorem cnt_upd (p : Nat → Bool) (d : Nat → Nat) (i v : Nat) : ∀ n, i < n → cnt p (upd d i v) n + (if p (d i) = true then 1 else 0) = cnt p d n + (if p v = true then 1 else 0) := by
  intro n
  induction n with
  | zero => intro h; omega
  | succ n ih =>
    intro h
    simp only [cnt]
    by_cases hi : i = n
    · subst hi
      have e : cnt p (upd d i v) i = cnt p d i := cnt_congr p _ _ i (fun x hx => by unfold upd; rw [if_neg (by omega)])
      have e2 : upd d i v i = v := by unfold upd; rw [if_pos rfl]
      rw [e, e2]; omega
    · have := ih (by omega)
      have e2 : upd d i v n = d n := by unfold upd; rw [if_neg (by omega)]
      rw [e2]; omega

theorem swp_upd (d : Nat → Nat) (i j : Nat) : upd (upd d i (d j)) j (d i) = swp d i j := by
  funext x; unfold upd swp
  by_cases h1 : x = j
  · by_cases h2 : x = i
    · subst h1; subst h2; simp
    · rw [if_pos h1, if_neg h2, if_pos h1]
  · rw [if_neg h1, if_neg h1]

theorem cnt_swp (p : Nat → Bool) (d : Nat → Nat) (i j n : Nat) (hi : i < n) (hj : j < n) : cnt p (swp d i j) n = cnt p d n := by
  by_cases h : i = j
  · subst h
    refine cnt_congr p _ _ n (fun x _ => ?_)
    unfold swp; split
    · rename_i e; rw [e]
    · rfl
  · rw [← swp_upd]
    have h1 := cnt_upd p (upd d i (d j)) j (d i) n hj
    have h2 := cnt_upd p d i (d j) n hi
    have e : upd d i (d j) j = d j := by unfold upd; rw [if_neg (by omega)]
    rw [e] at h1; omega

theorem shuf_cnt {a b : Nat} {d d' : Nat → Nat} (h : Shuf a b d d') (p : Nat → Bool) (n : Nat) (hn : b ≤ n) : cnt p d' n = cnt p d n := by
  induction h with
  | refl => rfl
  | step g i j hi hj ih => rw [cnt_swp p _ i j n (by omega) (by omega)]; exact ih

theorem shuf_swr (d : Nat → Nat) (A B a b : Nat) : ∀ n, A + n ≤ B → a ≤ A → B + n ≤ b → Shuf a b d (swr d A B n) := by
  intro n
  induction n with
  | zero => intro _ _ _; rw [swr_zero]; exact .refl d
  | succ n ih =>
    intro h1 h2 h3
    rw [← swr_succ d A B n h1]
    exact .step (ih (by omega) h2 (by omega)) _ _ ⟨by omega, by omega⟩ ⟨by omega, by omega⟩

/-- Where a single stands. -/
def kk (x : Nat) : Int := plc (cl x)

/-- In order from a to b. -/
def Srt (d : Nat → Nat) (a b : Nat) : Prop := ∀ x y, a ≤ x → x ≤ y → y < b → kk (d x) ≤ kk (d y)

theorem srt_one (d : Nat → Nat) (a b : Nat) (h : b ≤ a + 1) : Srt d a b := by
  intro x y h1 h2 h3
  have : x = y := by omega
  subst this; exact Int.le_refl _

theorem srt_sub {d : Nat → Nat} {a b : Nat} (h : Srt d a b) (a' b' : Nat) (ha : a ≤ a') (hb : b' ≤ b) : Srt d a' b' := fun x y h1 h2 h3 => h x y (by omega) h2 (by omega)

theorem srt_congr {d d' : Nat → Nat} {a b : Nat} (h : Srt d a b) (e : ∀ x, a ≤ x → x < b → d' x = d x) : Srt d' a b := by
  intro x y h1 h2 h3
  rw [e x h1 (by omega), e y (by omega) h3]
  exact h x y h1 h2 h3

theorem srt_join {d : Nat → Nat} {a m b : Nat} (h1 : Srt d a m) (h2 : Srt d m b) (h : ∀ x y, a ≤ x → x < m → m ≤ y → y < b → kk (d x) ≤ kk (d y)) : Srt d a b := by
  intro x y h3 h4 h5
  by_cases hx : y < m
  · exact h1 x y h3 h4 hx
  · by_cases hy : m ≤ x
    · exact h2 x y hy h4 h5
    · exact h x y h3 (by omega) (by omega) h5

/-- In order from a to i (with i), the value at j aside. -/
def Ins (d : Nat → Nat) (a i j : Nat) : Prop := ∀ x y, a ≤ x → x < y → y ≤ i → y ≠ j → kk (d x) ≤ kk (d y)

theorem ins_start {d : Nat → Nat} {a i : Nat} (h : Srt d a i) : Ins d a i i := fun x y h1 h2 h3 h4 => h x y h1 (by omega) (by omega)

theorem ins_swp {d : Nat → Nat} {a i j : Nat} (h : Ins d a i j) (h0 : a < j) (h1 : j ≤ i) (hk : kk (d j) < kk (d (j - 1))) : Ins (swp d j (j - 1)) a i (j - 1) := by
  intro x y hx hxy hy hne
  have hv : ∀ z, z ≠ j → z ≠ j - 1 → swp d j (j - 1) z = d z := fun z g1 g2 => by unfold swp; rw [if_neg g1, if_neg g2]
  have hj : swp d j (j - 1) j = d (j - 1) := by unfold swp; rw [if_pos rfl]
  have hj1 : swp d j (j - 1) (j - 1) = d j := by unfold swp; rw [if_neg (by omega), if_pos rfl]
  by_cases e : y = j
  · rw [e, hj]
    by_cases e2 : x = j - 1
    · rw [e2, hj1]; omega
    · rw [hv x (by omega) e2]; exact h x (j - 1) hx (by omega) (by omega) (by omega)
  · rw [hv y e hne]
    by_cases e3 : x = j
    · rw [e3, hj]; exact h (j - 1) y (by omega) (by omega) hy e
    · by_cases e4 : x = j - 1
      · rw [e4, hj1]; exact h j y (by omega) (by omega) hy e
      · rw [hv x e3 e4]; exact h x y hx hxy hy e

theorem ins_end {d : Nat → Nat} {a i j : Nat} (h : Ins d a i j) (h0 : a ≤ j) (h1 : j ≤ i) (hk : a < j → kk (d (j - 1)) ≤ kk (d j)) : Srt d a (i + 1) := by
  intro x y hx hxy hy
  by_cases e0 : x = y
  · subst e0; exact Int.le_refl _
  by_cases e : y = j
  · rw [e]
    have hh := hk (by omega)
    by_cases e2 : x = j - 1
    · rw [e2]; exact hh
    · exact Int.le_trans (h x (j - 1) hx (by omega) (by omega) (by omega)) hh
  · exact h x y hx (by omega) (by omega) e

/-- The parts [a,m) and [m,b) exchanged. -/
def rot (d : Nat → Nat) (a m b : Nat) : Nat → Nat := fun x =>
  if a ≤ x ∧ x < b then (if x < a + (b - m) then d (x - a + m) else d (x - (b - m))) else d x

/-- Exchanging equal parts is what is left of a rotation at its end. -/
theorem rot_even (d : Nat → Nat) (a m b : Nat) (h : m - a = b - m) (h1 : a ≤ m) (h2 : m ≤ b) : swr d a m (m - a) = rot d a m b := by
  funext x
  unfold swr rot
  by_cases g1 : a ≤ x ∧ x < a + (m - a)
  · rw [if_pos g1, if_pos (by omega), if_pos (by omega)]
  · rw [if_neg g1]
    by_cases g2 : m ≤ x ∧ x < m + (m - a)
    · rw [if_pos g2, if_pos (by omega), if_neg (by omega)]; congr 1; omega
    · rw [if_neg g2, if_neg (by omega)]

/-- The left part is longer: its first b-m values exchanged, the rest still to rotate. -/
theorem rot_left (d : Nat → Nat) (a m b : Nat) (h : b - m < m - a) (h1 : a ≤ m) (h2 : m ≤ b) : rot (swr d a m (b - m)) (a + (b - m)) m b = rot d a m b := by
  funext x
  unfold rot swr
  by_cases g : a ≤ x ∧ x < b
  · rw [if_pos g]
    by_cases g1 : a + (b - m) ≤ x ∧ x < b
    · rw [if_pos g1]
      rw [if_neg (by omega : ¬ x < a + (b - m))]
      by_cases g2 : x < a + (b - m) + (b - m)
      · rw [if_pos g2, if_neg (by omega), if_pos (by omega)]; congr 1; omega
      · rw [if_neg g2, if_neg (by omega), if_neg (by omega)]
    · rw [if_neg g1, if_pos (by omega), if_pos (by omega)]
  · rw [if_neg g, if_neg (by omega), if_neg (by omega), if_neg (by omega)]

/-- The right part is longer. -/
theorem rot_right (d : Nat → Nat) (a m b : Nat) (h : m - a < b - m) (h1 : a ≤ m) (h2 : m ≤ b) : rot (swr d a (b - (m - a)) (m - a)) a m (b - (m - a)) = rot d a m b := by
  funext x
  unfold rot swr
  by_cases g : a ≤ x ∧ x < b
  · rw [if_pos g]
    by_cases g1 : a ≤ x ∧ x < b - (m - a)
    · rw [if_pos g1]
      by_cases g2 : x < a + (b - (m - a) - m)
      · rw [if_pos g2, if_neg (by omega), if_neg (by omega), if_pos (by omega)]
      · rw [if_neg g2]
        rw [if_pos (by omega)]
        by_cases g3 : x < a + (b - m)
        · rw [if_pos g3]; congr 1; omega
        · omega
    · rw [if_neg g1, if_neg (by omega)]
      by_cases g3 : x < a + (b - m)
      · omega
      · rw [if_neg g3, if_pos (by omega)]; congr 1; omega
  · rw [if_neg g, if_neg (by omega), if_neg (by omega), if_neg (by omega)]
end Go.Proofs.Ytbenjfipbeikmaa
