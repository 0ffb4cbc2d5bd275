/-
  Plane and FromPlanes of the program.
-/
import Derived.Test.YtejcmlpbmoikfaaDoorFSame
namespace Go.Proofs.YtejcmlpbmoikfaaDoor
open Go.RowKit Go.Shelf
attribute [local go_sem ↓] Go.wp_at_zero Go.wp_at_succ

/-- EqualFunc over exact: two slices that read alike. -/
theorem equalFunc_yes (n c c2 : Nat) (A B : Option Addr) (F G : Nat → Nat) (w : World) (hn : n ≤ 65536) (hF : Src w A n F) (hG : Src w B n G) (hFG : ∀ i, i < n → F i = G i) :
    Calls Tryd.prog 35 #[.slice A n c, .slice B n c2, .func (.func 8) #[] #[]] w fun e w' => e = .returned (.bool true) ∧ w = w' := by
  have HF := hid hF
  have HG := hid hG
  have HFG := hid hFG
  clear hF hG hFG
  go_enter Tryd.func35, Tryd.ntmps35
  go_wp2
  go_loop [17] (fun i => ∃ k : Nat, k ≤ n ∧ i = .int .i64 k) (fun i => n - (intOf i).toNat)
  case atStart => exact ⟨0, Nat.zero_le _, rfl⟩
  case round =>
    obtain ⟨k, hk, rfl⟩ := hrel
    by_cases hlt : k < n
    · obtain ⟨ba, oa, rfl, hba, hRa⟩ := HF.out (by omega)
      obtain ⟨bb, ob, rfl, hbb, hRb⟩ := HG.out (by omega)
      have s1 : w.cell? ⟨ba, oa + k, none⟩ = some (.float .f32 (F k)) := hRa k hlt
      have s2 : w.cell? ⟨bb, ob + k, none⟩ = some (.float .f32 (F k)) := by rw [HFG.out k hlt]; exact hRb k hlt
      clear hRa hRb
      go_wp2_with (go_at_call 8; refine (exact_yes _ _ rfl _).mono ?_; rintro e w' ⟨rfl, rfl⟩)
      go_round
      case rel => exact ⟨k + 1, by omega, by go_num⟩
      case measure => simp [intOf]; omega
    · go_wp2
      go_ret
      exact ⟨rfl, rfl⟩

set_option maxRecDepth 100000 in
set_option maxHeartbeats 1000000 in
/-- The number of a pixel. -/
theorem place_any (X Y : Int) (p q i j : Nat) (w : World) (hi : i < p) (hj : j < q) (hp2 : p ≤ 256) (hq2 : q ≤ 256) (x1 : -1048576 ≤ X) (x2 : X ≤ 1048576) :
    Calls Tryd.prog 42 #[reg X Y p q, .int .i64 (X + i), .int .i64 (Y + j)] w fun e w' => e = .returned (.int .i64 (p * j + i : Nat)) ∧ Below w.heap.size w w' := by
  have hlt := idx_lt hi hj
  have hle : p * q ≤ 65536 := Nat.mul_le_mul hp2 hq2
  obtain ⟨u, hu⟩ : ∃ u, u = p * j := ⟨_, rfl⟩
  rw [← hu] at hlt ⊢
  have e1 : Y + (j : Int) - Y = j := by omega
  have e2 : (j : Int) * (p : Int) = (u : Int) := by rw [hu]; simp [Int.mul_comm]
  have u1 : (u : Int) ≤ 65536 := by omega
  have e3 : (u : Int) + (X + (i : Int)) - X = ((u + i : Nat) : Int) := by omega
  clear hu hlt hle
  go_enter Tryd.func42, Tryd.ntmps42
  go_wp2
  go_ret
  exact ⟨rfl, (Below.refl _ _).alloc (Nat.le_refl _) _⟩

/-- A plane and no error. -/
def PlanedOk (w : World) (m : Nat) (G : Nat → Nat) (e : Ending) (w' : World) : Prop :=
  ∃ b c, e = .returned (.tuple #[.slice (some ⟨b, 0, none⟩) m c, .int .i64 0]) ∧ m ≤ c ∧ c ≤ maxLen ∧ w.heap.size ≤ b ∧ b < w'.heap.size ∧ Rd w' b 0 m G ∧ Below w.heap.size w w'

/-- The planes as a value. -/
abbrev pls (A : Nat → Option Addr) (n c : Nat → Nat) : Array Value := #[.slice (A 0) (n 0) (c 0), .slice (A 1) (n 1) (c 1), .slice (A 2) (n 2) (c 2), .slice (A 3) (n 3) (c 3)]
theorem pls_get (A : Nat → Option Addr) (n c : Nat → Nat) (k : Nat) (hk : k < 4) : (pls A n c)[k]? = some (.slice (A k) (n k) (c k)) := by
  have : k = 0 ∨ k = 1 ∨ k = 2 ∨ k = 3 := by omega
  rcases this with h | h | h | h <;> subst h <;> rfl

/-- The error of planes, the first k looked at. -/
def plK (x y a b : Int) (n : Nat → Nat) (k : Nat) : Int := if regE x y a b = 0 then (if ∀ j, j < k → (n j : Int) = a * b then 0 else 2) else regE x y a b
section
variable {x y a b : Int} {n : Nat → Nat} {k : Nat}
theorem plK_bad (h : ¬ regE x y a b = 0) : plK x y a b n k = regE x y a b := by unfold plK; rw [if_neg h]
theorem plK_ok (h : regE x y a b = 0) (h2 : ∀ j, j < k → (n j : Int) = a * b) : plK x y a b n k = 0 := by unfold plK; rw [if_pos h, if_pos h2]
theorem plK_form (h : regE x y a b = 0) (h2 : ¬ ∀ j, j < k → (n j : Int) = a * b) : plK x y a b n k = 2 := by unfold plK; rw [if_pos h, if_neg h2]
theorem plK_zero : plK x y a b n 0 = regE x y a b := by
  by_cases h : regE x y a b = 0
  · rw [plK_ok h (fun j hj => absurd hj (by omega)), h]
  · exact plK_bad h
theorem plK_of_zero (h : plK x y a b n k = 0) : regE x y a b = 0 ∧ ∀ j, j < k → (n j : Int) = a * b := by
  by_cases h1 : regE x y a b = 0
  · refine ⟨h1, ?_⟩
    by_cases h2 : ∀ j, j < k → (n j : Int) = a * b
    · exact h2
    · rw [plK_form h1 h2] at h; cases h
  · rw [plK_bad h1] at h; exact absurd h h1
theorem all_succ {P : Nat → Prop} (h : ∀ j, j < k → P j) (h2 : P k) : ∀ j, j < k + 1 → P j := fun j hj => by
  rcases Nat.lt_or_ge j k with h3 | h3
  · exact h j h3
  · have : j = k := by omega
    subst this; exact h2
theorem plK_step_yes (h : plK x y a b n k = 0) (h2 : (n k : Int) = a * b) : plK x y a b n (k + 1) = 0 := plK_ok (plK_of_zero h).1 (all_succ (plK_of_zero h).2 h2)
theorem plK_step_no (h : plK x y a b n k = 0) (h2 : ¬ (n k : Int) = a * b) : plK x y a b n (k + 1) = 2 := plK_form (plK_of_zero h).1 (fun hh => h2 (hh k (by omega)))
theorem plK_step_off (h : ¬ plK x y a b n k = 0) : plK x y a b n (k + 1) = plK x y a b n k := by
  by_cases h1 : regE x y a b = 0
  · have h2 : ¬ ∀ j, j < k → (n j : Int) = a * b := fun hh => h (plK_ok h1 hh)
    rw [plK_form h1 h2, plK_form h1 (fun hh => h2 (fun j hj => hh j (by omega)))]
  · rw [plK_bad h1, plK_bad h1]
end

/-- What FromPlanes gives at least: its error, and no singles with one. -/
def FromSome (w : World) (E : Int) (e : Ending) (w' : World) : Prop :=
  ∃ (x y a b : Int) (A : Option Addr) (n c : Nat), e = .returned (.tuple #[frm x y a b A n c, .int .i64 E]) ∧ (E ≠ 0 → n = 0) ∧ Below w.heap.size w w'
/-- A frame and no error. -/
def FramedOk (w : World) (X Y : Int) (p q m : Nat) (F : Nat → Nat) (e : Ending) (w' : World) : Prop :=
  ∃ b c, e = .returned (.tuple #[frm X Y p q (some ⟨b, 0, none⟩) m c, .int .i64 0]) ∧ m ≤ c ∧ c ≤ maxLen ∧ w.heap.size ≤ b ∧ b < w'.heap.size ∧ Rd w' b 0 m F ∧ Below w.heap.size w w'

end Go.Proofs.YtejcmlpbmoikfaaDoor
