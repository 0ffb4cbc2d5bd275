/-
  The middle of a list by ranks: the pure side, and the reference's function.
-/
import Derived.Test.YtbenjfipbeikmaaMid
namespace Go.Proofs.Ytbenjfipbeikmaa
open Go.RowKit

/-- How many stand ahead of the one at i. -/
def ahd (d : Nat → Nat) (i : Nat) : Nat → Nat
  | 0 => 0
  | n + 1 => ahd d i n + (if kk (d n) < kk (d i) ∨ kk (d n) = kk (d i) ∧ n < i then 1 else 0)

def lt_ (K : Int) (x : Nat) : Bool := decide (kk x < K)
def eq_ (K : Int) (x : Nat) : Bool := decide (kk x = K)
def le_ (K : Int) (x : Nat) : Bool := decide (kk x ≤ K)

theorem ahd_cnt (d : Nat → Nat) (i : Nat) : ∀ n, ahd d i n = cnt (lt_ (kk (d i))) d n + cnt (eq_ (kk (d i))) d (min n i) := by
  intro n
  induction n with
  | zero => simp [ahd, cnt]
  | succ n ih =>
    simp only [ahd, cnt, ih]
    by_cases h1 : kk (d n) < kk (d i)
    · have e1 : lt_ (kk (d i)) (d n) = true := decide_eq_true h1
      rw [if_pos (Or.inl h1), if_pos e1]
      by_cases h2 : n < i
      · have e2 : ¬ eq_ (kk (d i)) (d n) = true := by unfold eq_; rw [decide_eq_true_iff]; omega
        rw [show min (n + 1) i = n + 1 from by omega, show min n i = n from by omega]
        simp only [cnt]; rw [if_neg e2]; omega
      · rw [show min (n + 1) i = min n i from by omega]; omega
    · have e1 : ¬ lt_ (kk (d i)) (d n) = true := by unfold lt_; rw [decide_eq_true_iff]; exact h1
      rw [if_neg e1]
      by_cases h2 : n < i
      · rw [show min (n + 1) i = n + 1 from by omega, show min n i = n from by omega]
        simp only [cnt]
        by_cases h3 : kk (d n) = kk (d i)
        · have e2 : eq_ (kk (d i)) (d n) = true := decide_eq_true h3
          rw [if_pos (Or.inr ⟨h3, h2⟩), if_pos e2]; omega
        · have e2 : ¬ eq_ (kk (d i)) (d n) = true := by unfold eq_; rw [decide_eq_true_iff]; exact h3
          rw [if_neg (by omega), if_neg e2]; omega
      · rw [show min (n + 1) i = min n i from by omega, if_neg (by omega)]; omega

theorem cnt_le (p : Nat → Bool) (d : Nat → Nat) : ∀ n, cnt p d n ≤ n := by
  intro n
  induction n with
  | zero => exact Nat.le_refl _
  | succ n ih => simp only [cnt]; split <;> omega
theorem cnt_all (p : Nat → Bool) (d : Nat → Nat) : ∀ n m, m ≤ n → (∀ x, x < m → p (d x) = true) → m ≤ cnt p d n := by
  intro n
  induction n with
  | zero => intro m h _; omega
  | succ n ih =>
    intro m h hp
    simp only [cnt]
    by_cases e : m ≤ n
    · have := ih m e hp; omega
    · have e2 : m = n + 1 := by omega
      subst e2
      have := ih n (Nat.le_refl _) (fun x hx => hp x (by omega))
      rw [if_pos (hp n (by omega))]; omega
theorem cnt_none (p : Nat → Bool) (d : Nat → Nat) (m : Nat) : ∀ n, (∀ x, m ≤ x → x < n → p (d x) = false) → cnt p d n ≤ m := by
  intro n
  induction n with
  | zero => intro _; exact Nat.zero_le _
  | succ n ih =>
    intro hp
    simp only [cnt]
    by_cases e : m ≤ n
    · have := ih (fun x h1 h2 => hp x h1 (by omega))
      rw [if_neg (by rw [hp n e (by omega)]; simp)]; omega
    · have := cnt_le p d n
      split <;> omega
theorem cnt_split (K : Int) (d : Nat → Nat) : ∀ n, cnt (le_ K) d n = cnt (lt_ K) d n + cnt (eq_ K) d n := by
  intro n
  induction n with
  | zero => rfl
  | succ n ih =>
    simp only [cnt, ih]
    unfold le_ lt_ eq_
    simp only [decide_eq_true_iff]
    split <;> split <;> split <;> omega
theorem cnt_nth (p : Nat → Bool) (d : Nat → Nat) : ∀ n r, r < cnt p d n → ∃ i, i < n ∧ p (d i) = true ∧ cnt p d i = r := by
  intro n
  induction n with
  | zero => intro r h; simp [cnt] at h
  | succ n ih =>
    intro r h
    simp only [cnt] at h
    by_cases e : r < cnt p d n
    · obtain ⟨i, h1, h2, h3⟩ := ih r e
      exact ⟨i, by omega, h2, h3⟩
    · by_cases g : p (d n) = true
      · rw [if_pos g] at h
        exact ⟨n, by omega, g, by omega⟩
      · rw [if_neg g] at h; omega
theorem cnt_mono (p : Nat → Bool) (d : Nat → Nat) (i : Nat) (hp : p (d i) = true) : ∀ n, i < n → cnt p d i < cnt p d n := by
  intro n
  induction n with
  | zero => intro h; omega
  | succ n ih =>
    intro h
    simp only [cnt]
    by_cases e : i < n
    · have := ih e; omega
    · have : i = n := by omega
      subst this
      rw [if_pos hp]; omega

/-- Around the middle of a sorted row. -/
theorem around {d2 : Nat → Nat} {N m : Nat} (hs : Srt d2 0 N) (hm : m < N) (K : Int) :
    (cnt (lt_ K) d2 N ≤ m ∧ m < cnt (le_ K) d2 N) ↔ kk (d2 m) = K := by
  constructor
  · rintro ⟨h1, h2⟩
    rcases Int.lt_trichotomy (kk (d2 m)) K with g | g | g
    · have := cnt_all (lt_ K) d2 N (m + 1) (by omega) (fun x hx => decide_eq_true (Int.lt_of_le_of_lt (hs x m (by omega) (by omega) hm) g))
      omega
    · exact g
    · have := cnt_none (le_ K) d2 m N (fun x h3 h4 => decide_eq_false (by have := hs m x (by omega) h3 h4; omega))
      omega
  · intro h
    constructor
    · exact cnt_none (lt_ K) d2 m N (fun x h3 h4 => decide_eq_false (by have := hs m x (by omega) h3 h4; omega))
    · exact cnt_all (le_ K) d2 N (m + 1) (by omega) (fun x hx => decide_eq_true (by have := hs x m (by omega) (by omega) hm; omega))

theorem rank_is {d d2 : Nat → Nat} {N m i : Nat} (hsh : Shuf 0 N d d2) (hs : Srt d2 0 N) (hm : m < N) (hi : i < N) (h : ahd d i N = m) : kk (d i) = kk (d2 m) := by
  rw [ahd_cnt, show min N i = i from by omega] at h
  have h1 := cnt_mono (eq_ (kk (d i))) d i (decide_eq_true rfl) N hi
  have h2 := cnt_split (kk (d i)) d N
  refine ((around hs hm (kk (d i))).1 ⟨?_, ?_⟩).symm
  · rw [shuf_cnt hsh _ N (Nat.le_refl _)]; omega
  · rw [shuf_cnt hsh _ N (Nat.le_refl _)]; omega

theorem rank_ex {d d2 : Nat → Nat} {N m : Nat} (hsh : Shuf 0 N d d2) (hs : Srt d2 0 N) (hm : m < N) : ∃ i, i < N ∧ ahd d i N = m := by
  obtain ⟨K, hK⟩ : ∃ K, K = kk (d2 m) := ⟨_, rfl⟩
  obtain ⟨h1, h2⟩ := (around hs hm K).2 hK.symm
  rw [shuf_cnt hsh _ N (Nat.le_refl _)] at h1 h2
  have h3 := cnt_split K d N
  obtain ⟨i, h4, h5, h6⟩ := cnt_nth (eq_ K) d N (m - cnt (lt_ K) d N) (by omega)
  have h7 : kk (d i) = K := of_decide_eq_true h5
  refine ⟨i, h4, ?_⟩
  rw [ahd_cnt, show min N i = i from by omega, h7]; omega

theorem plc_inj {x y : Nat} (h : plc x = plc y) : x = y := by
  unfold plc at h
  split at h <;> split at h <;> omega
theorem kk_inj {x y : Nat} (h : kk x = kk y) : cl x = cl y := plc_inj h
end Go.Proofs.Ytbenjfipbeikmaa
