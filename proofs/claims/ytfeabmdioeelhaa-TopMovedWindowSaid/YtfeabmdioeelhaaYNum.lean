/-
  Keys: tests of several singles and of points, in the program.
-/
import Derived.Test.YtfeabmdioeelhaaYReg
import Derived.Test.YtfeabmdioeelhaaRatQ
namespace Go.Proofs.Ytfeabmdioeelhaa
open Go.RowKit
attribute [local go_sem] run_store_float

/-- Do the first n hold? -/
def allB (p : Nat → Bool) : Nat → Bool
  | 0 => true
  | n + 1 => allB p n && p n
theorem allB_no {p : Nat → Bool} {k : Nat} (h : p k = false) : ∀ n, k < n → allB p n = false
  | 0, hk => by omega
  | n + 1, hk => by
    unfold allB
    by_cases e : k = n
    · subst e; rw [h]; simp
    · rw [allB_no h n (by omega)]; simp
theorem allB_step {p : Nat → Bool} {k : Nat} (h : allB p k = true) (h2 : p k = true) : allB p (k + 1) = true := by unfold allB; rw [h, h2]; rfl
theorem allB_at {p : Nat → Bool} : ∀ {n}, allB p n = true → ∀ k, k < n → p k = true
  | 0, _, k, hk => by omega
  | n + 1, h, k, hk => by
    unfold allB at h
    rw [Bool.and_eq_true] at h
    by_cases e : k = n
    · subst e; exact h.2
    · exact allB_at h.1 k (by omega)
theorem allB_of {p : Nat → Bool} : ∀ {n}, (∀ k, k < n → p k = true) → allB p n = true
  | 0, _ => rfl
  | _ + 1, h => allB_step (allB_of fun k hk => h k (by omega)) (h _ (by omega))

theorem fin_kind (b : Nat) : fin b = decide (kindC (b % 2147483648) < 3) := by
  unfold fin kindC
  generalize b % 2147483648 = r
  split
  · simp; omega
  · split
    · simp; omega
    · split
      · simp; omega
      · split <;> simp <;> omega

set_option maxHeartbeats 1000000 in
theorem areNumbers_any (b off n c : Nat) (F : Nat → Nat) (w : World) (hn : n ≤ 4096) (hr : Rd w b off n F) :
    Calls Try.prog 75 #[.slice (some ⟨b, off, none⟩) n c] w fun e w' => e = .returned (.bool (allB (fun i => fin (F i)) n)) ∧ w = w' := by
  have HR := hid hr
  clear hr
  go_enter Try.func75, Try.ntmps75
  go_wp2
  go_loop [7] (fun i => ∃ k : Nat, k ≤ n ∧ i = .int .i64 k ∧ allB (fun i => fin (F i)) k = true) (fun i => n - (intOf i).toNat)
  case atStart => exact ⟨0, Nat.zero_le _, rfl, rfl⟩
  case round =>
    obtain ⟨k, hk, rfl, hf⟩ := hrel
    have HF := hid hf
    clear hf
    by_cases hlt : k < n
    · have hc := HR.out k hlt
      have e := fin_kind (F k)
      by_cases h3 : kindC (F k % 2147483648) < 3
      · have HE : RowKit.Hid (fin (F k) = true) := hid (by rw [e]; simpa using h3)
        clear e
        have h3' : ¬ 3 ≤ kindC (F k % 2147483648) := by omega
        clear h3
        go_wp2_with (go_at_call 173; refine (kind_any _ _).mono ?_; rintro e w' ⟨rfl, rfl⟩)
        go_round
        case rel => exact ⟨k + 1, by omega, by go_num, allB_step HF.out HE.out⟩
        case measure => simp [intOf]; omega
      · have HE : RowKit.Hid (fin (F k) = false) := hid (by rw [e]; simpa using h3)
        clear e
        have h3' : 3 ≤ kindC (F k % 2147483648) := by omega
        clear h3
        go_wp2_with (go_at_call 173; refine (kind_any _ _).mono ?_; rintro e w' ⟨rfl, rfl⟩)
        go_ret
        exact ⟨ret_bool (allB_no (p := fun i => fin (F i)) HE.out n hlt).symm, rfl⟩
    · obtain rfl : k = n := by omega
      go_wp2
      go_ret
      exact ⟨ret_bool HF.out.symm, rfl⟩

/-- Is v from lo to hi? -/
def inB (lo hi v : Nat) : Bool := (FloatKind.f32.format.order v lo == some .gt || FloatKind.f32.format.order v lo == some .eq) && (FloatKind.f32.format.order v hi == some .lt || FloatKind.f32.format.order v hi == some .eq)
theorem inB_no {lo hi v : Nat} (h : inB lo hi v = false) : (FloatKind.f32.format.order v lo = none ∨ FloatKind.f32.format.order v lo = some .lt) ∨
    ((FloatKind.f32.format.order v lo = some .gt ∨ FloatKind.f32.format.order v lo = some .eq) ∧ (FloatKind.f32.format.order v hi = none ∨ FloatKind.f32.format.order v hi = some .gt)) := by
  unfold inB at h
  generalize FloatKind.f32.format.order v lo = a at *
  generalize FloatKind.f32.format.order v hi = b at *
  cases a with
  | none => simp
  | some a => cases a <;> simp at h ⊢ <;> (cases b with
    | none => simp
    | some b => cases b <;> simp at h ⊢)
theorem inB_yes {lo hi v : Nat} (h : inB lo hi v = true) : (FloatKind.f32.format.order v lo = some .gt ∨ FloatKind.f32.format.order v lo = some .eq) ∧ (FloatKind.f32.format.order v hi = some .lt ∨ FloatKind.f32.format.order v hi = some .eq) := by
  unfold inB at h
  generalize FloatKind.f32.format.order v lo = a at *
  generalize FloatKind.f32.format.order v hi = b at *
  simpa using h

set_option maxHeartbeats 2000000 in
theorem areWithin_any (lo hi b off n c : Nat) (F : Nat → Nat) (w : World) (hn : n ≤ 4096) (hr : Rd w b off n F) :
    Calls Try.prog 83 #[.float .f32 lo, .float .f32 hi, .slice (some ⟨b, off, none⟩) n c] w fun e w' => e = .returned (.bool (allB (fun i => inB lo hi (F i)) n)) ∧ w = w' := by
  have HR := hid hr
  clear hr
  go_enter Try.func83, Try.ntmps83
  go_wp2
  go_loop [11] (fun i => ∃ k : Nat, k ≤ n ∧ i = .int .i64 k ∧ allB (fun i => inB lo hi (F i)) k = true) (fun i => n - (intOf i).toNat)
  case atStart => exact ⟨0, Nat.zero_le _, rfl, rfl⟩
  case round =>
    obtain ⟨k, hk, rfl, hf⟩ := hrel
    have HF := hid hf
    clear hf
    by_cases hlt : k < n
    · have hc := HR.out k hlt
      cases hi' : inB lo hi (F k)
      · have HE := hid hi'
        have h3 := inB_no hi'
        clear hi'
        rcases h3 with (h3 | h3) | ⟨h3 | h3, h4 | h4⟩
        all_goals
          go_wp2
          go_ret
          exact ⟨ret_bool (allB_no (p := fun i => inB lo hi (F i)) HE.out n hlt).symm, rfl⟩
      · have HE := hid hi'
        have h3 := inB_yes hi'
        clear hi'
        rcases h3 with ⟨h3 | h3, h4 | h4⟩
        all_goals
          go_wp2
          go_round
          case rel => exact ⟨k + 1, by omega, by go_num, allB_step HF.out HE.out⟩
          case measure => simp [intOf]; omega
    · obtain rfl : k = n := by omega
      go_wp2
      go_ret
      exact ⟨ret_bool HF.out.symm, rfl⟩

/-- May n be a coordinate? -/
def plB (n : Int) : Bool := decide (-1048576 ≤ n ∧ n ≤ 1048576)
theorem plB_true {n : Int} : plB n = true ↔ -1048576 ≤ n ∧ n ≤ 1048576 := by simp [plB]
theorem plB_false {n : Int} : plB n = false ↔ n < -1048576 ∨ 1048576 < n := by simp [plB]; omega

theorem isPlace_any (x y : Int) (w : World) : Calls Try.prog 72 #[.int .i64 x, .int .i64 y] w fun e w' => e = .returned (.bool (plB x && plB y)) ∧ w = w' := by
  cases h1 : plB x
  · have H := hid h1
    rcases plB_false.1 h1 with h | h
    · clear h1
      have h' : ¬ -1048576 ≤ x := by omega
      go_enter Try.func72, Try.ntmps72
      go_wp2
      go_ret
      exact ⟨rfl, rfl⟩
    · clear h1
      have h' : -1048576 ≤ x := by omega
      have h'' : ¬ x ≤ 1048576 := by omega
      go_enter Try.func72, Try.ntmps72
      go_wp2
      go_ret
      exact ⟨rfl, rfl⟩
  · obtain ⟨a, b⟩ := plB_true.1 h1
    clear h1
    cases h2 : plB y
    · rcases plB_false.1 h2 with h | h
      · clear h2
        have h' : ¬ -1048576 ≤ y := by omega
        go_enter Try.func72, Try.ntmps72
        go_wp2
        go_ret
        exact ⟨rfl, rfl⟩
      · clear h2
        have h' : -1048576 ≤ y := by omega
        have h'' : ¬ y ≤ 1048576 := by omega
        go_enter Try.func72, Try.ntmps72
        go_wp2
        go_ret
        exact ⟨rfl, rfl⟩
    · obtain ⟨c, d⟩ := plB_true.1 h2
      clear h2
      go_enter Try.func72, Try.ntmps72
      go_wp2
      go_ret
      exact ⟨rfl, rfl⟩
end Go.Proofs.Ytfeabmdioeelhaa
