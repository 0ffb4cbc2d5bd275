/-
  Windows: CheckWindow of the program.
-/
import Derived.Test.YtfeabmdioeelhaaYNum
namespace Go.Proofs.Ytfeabmdioeelhaa
open Go.RowKit
attribute [local go_sem] run_store_float

abbrev pnt (x y : Int) : Value := .agg #[.int .i64 x, .int .i64 y]
abbrev win (K : Int) (X Y W H S : Nat) (A : Option Addr) (n c : Nat) (o : Bool) : Value := .agg #[.int .i64 K, .float .f32 X, .float .f32 Y, .float .f32 W, .float .f32 H, .float .f32 S, .slice A n c, .bool o]
abbrev winA (K : Int) (X Y W H S : Nat) (A : Option Addr) (n c : Nat) (o : Bool) : Array Value := #[.int .i64 K, .float .f32 X, .float .f32 Y, .float .f32 W, .float .f32 H, .float .f32 S, .slice A n c, .bool o]

/-- The points at off read as (P, Q). -/
def RdP (w : World) (b off n : Nat) (P Q : Nat → Int) : Prop := ∀ i, i < n → w.cell? ⟨b, off + i * 2, none⟩ = some (.int .i64 (P i)) ∧ w.cell? ⟨b, off + i * 2 + 1, none⟩ = some (.int .i64 (Q i))
/-- A slice of points that reads as (P, Q), nil let in. -/
def Pts (w : World) (A : Option Addr) (n : Nat) (P Q : Nat → Int) : Prop := 0 < n → ∃ b off, A = some ⟨b, off, none⟩ ∧ b < w.heap.size ∧ RdP w b off n P Q
theorem RdP.below {w w' : World} {b off n : Nat} {P Q : Nat → Int} (h : RdP w b off n P Q) (hb : Below w.heap.size w w') (hlt : b < w.heap.size) : RdP w' b off n P Q :=
  fun i hi => ⟨(hb.cell (p := ⟨b, off + i * 2, none⟩) hlt).trans (h i hi).1, (hb.cell (p := ⟨b, off + i * 2 + 1, none⟩) hlt).trans (h i hi).2⟩
theorem Pts.below {w w' : World} {A : Option Addr} {n : Nat} {P Q : Nat → Int} (h : Pts w A n P Q) (hb : Below w.heap.size w w') : Pts w' A n P Q := fun hn => by
  obtain ⟨b, off, e, hlt, hr⟩ := h hn
  exact ⟨b, off, e, Nat.lt_of_lt_of_le hlt hb.size, hr.below hb hlt⟩

/-- May the first n points be? -/
def ptB (P Q : Nat → Int) (i : Nat) : Bool := plB (P i) && plB (Q i)

theorem far_any (x y : Int) (w : World) : Calls Try.prog 134 #[pnt x y] w fun e w' => e = .returned (.bool (!(plB x && plB y))) ∧ Below w.heap.size w w' := by
  go_enter Try.func134, Try.ntmps134
  go_wp2_with (go_at_call 72; refine (isPlace_any _ _ _).mono ?_; rintro e w' ⟨rfl, rfl⟩)
  go_ret
  exact ⟨ret_bool (by simp), (Below.refl _ _).alloc (Nat.le_refl _) _⟩

set_option maxHeartbeats 1000000 in
/-- The first point that may not be, or -1. -/
theorem indexP_any (A : Option Addr) (n c : Nat) (P Q : Nat → Int) (w : World) (hn : n ≤ 65536) (hP : Pts w A n P Q) :
    Calls Try.prog 198 #[.slice A n c, .func (.func 134) #[] #[]] w fun e w' => (∃ i : Int, e = .returned (.int .i64 i) ∧ decide (0 ≤ i) = !(allB (ptB P Q) n)) ∧ Below w.heap.size w w' := by
  have HP := hid hP
  clear hP
  go_enter Try.func198, Try.ntmps198
  go_wp2
  go_loopw [8] (fun i wr => ∃ k : Nat, k ≤ n ∧ i = .int .i64 k ∧ allB (ptB P Q) k = true ∧ Below w.heap.size w wr) (fun i _ => n - (intOf i).toNat)
  case atStart => exact ⟨0, Nat.zero_le _, rfl, rfl, Below.refl _ _⟩
  case round =>
    obtain ⟨k, hk, rfl, hf, hbe⟩ := hrel
    have HF := hid hf
    have HB := hid hbe
    clear hf
    by_cases hlt : k < n
    · obtain ⟨ba, oa, rfl, hba, hR⟩ := HP.out (by omega)
      have s1 := (hR.below hbe hba k hlt).1
      have s2 := (hR.below hbe hba k hlt).2
      clear hbe hR
      cases hp : ptB P Q k
      · have HE := hid hp
        have hp' : (plB (P k) && plB (Q k)) = false := hp
        clear hp
        go_wp2_with (go_at_call 134; refine (far_any _ _ _).mono ?_; rintro e w' ⟨rfl, hb⟩; have HB2 := hid hb; clear hb)
        go_ret
        exact ⟨⟨_, rfl, by rw [allB_no HE.out n hlt]; simp⟩, below_to HB.out HB2.out⟩
      · have HE := hid hp
        have hp' : (plB (P k) && plB (Q k)) = true := hp
        clear hp
        go_wp2_with (go_at_call 134; refine (far_any _ _ _).mono ?_; rintro e w' ⟨rfl, hb⟩; have HB2 := hid hb; clear hb)
        go_roundw
        case rel => exact ⟨k + 1, by omega, by go_num, allB_step HF.out HE.out, below_to HB.out HB2.out⟩
        case measure => simp [intOf]; omega
    · obtain rfl : k = n := by omega
      clear hbe
      go_wp2
      go_ret
      exact ⟨⟨_, rfl, by rw [HF.out]; rfl⟩, HB.out⟩

theorem containsP_any (A : Option Addr) (n c : Nat) (P Q : Nat → Int) (w : World) (hn : n ≤ 65536) (hP : Pts w A n P Q) :
    Calls Try.prog 130 #[.slice A n c, .func (.func 134) #[] #[]] w fun e w' => e = .returned (.bool (!(allB (ptB P Q) n))) ∧ Below w.heap.size w w' := by
  have HC := hid (indexP_any A n c P Q w hn hP)
  clear hP
  go_enter Try.func130, Try.ntmps130
  go_wp2_with (go_at_call 198; refine HC.out.mono ?_; rintro e w' ⟨⟨i, rfl, hi⟩, hb⟩; have HI := hid hi; have HB := hid hb; clear hi hb)
  go_ret
  exact ⟨ret_bool HI.out, HB.out⟩

/-- Is a single other than 0? -/
def nzB (v : Nat) : Bool := !(FloatKind.f32.format.order v 0 == some .eq)
theorem nz_any (v : Nat) (w : World) : Calls Try.prog 199 #[.float .f32 v] w fun e w' => e = .returned (.bool (nzB v)) ∧ w = w' := by
  go_enter Try.func199, Try.ntmps199
  go_wp2
  go_ret
  exact ⟨ret_bool rfl, rfl⟩

set_option maxHeartbeats 1000000 in
theorem indexF_any (b off n c : Nat) (F : Nat → Nat) (w : World) (hn : n ≤ 65536) (hR : Rd w b off n F) :
    Calls Try.prog 179 #[.slice (some ⟨b, off, none⟩) n c, .func (.func 199) #[] #[]] w fun e w' => (∃ i : Int, e = .returned (.int .i64 i) ∧ decide (0 ≤ i) = !(allB (fun i => !nzB (F i)) n)) ∧ w = w' := by
  have HR := hid hR
  clear hR
  go_enter Try.func179, Try.ntmps179
  go_wp2
  go_loop [8] (fun i => ∃ k : Nat, k ≤ n ∧ i = .int .i64 k ∧ allB (fun i => !nzB (F i)) k = true) (fun i => n - (intOf i).toNat)
  case atStart => exact ⟨0, Nat.zero_le _, rfl, rfl⟩
  case round =>
    obtain ⟨k, hk, rfl, hf⟩ := hrel
    have HF := hid hf
    clear hf
    by_cases hlt : k < n
    · have s1 := HR.out k hlt
      cases hp : nzB (F k)
      · have HE := hid hp
        go_wp2_with (go_at_call 199; refine (nz_any _ _).mono ?_; rintro e w' ⟨rfl, rfl⟩)
        go_round
        case rel => exact ⟨k + 1, by omega, by go_num, allB_step (p := fun i => !nzB (F i)) HF.out (by show (!nzB (F k)) = true; rw [HE.out]; rfl)⟩
        case measure => simp [intOf]; omega
      · have HE := hid hp
        go_wp2_with (go_at_call 199; refine (nz_any _ _).mono ?_; rintro e w' ⟨rfl, rfl⟩)
        go_ret
        exact ⟨⟨_, rfl, by rw [allB_no (p := fun i => !nzB (F i)) (k := k) (by show (!nzB (F k)) = false; rw [HE.out]; rfl) n hlt]; simp⟩, rfl⟩
    · obtain rfl : k = n := by omega
      go_wp2
      go_ret
      exact ⟨⟨_, rfl, by rw [HF.out]; rfl⟩, rfl⟩

theorem containsF_any (b off n c : Nat) (F : Nat → Nat) (w : World) (hn : n ≤ 65536) (hR : Rd w b off n F) :
    Calls Try.prog 88 #[.slice (some ⟨b, off, none⟩) n c, .func (.func 199) #[] #[]] w fun e w' => e = .returned (.bool (!(allB (fun i => !nzB (F i)) n))) ∧ w = w' := by
  have HC := hid (indexF_any b off n c F w hn hR)
  clear hR
  go_enter Try.func88, Try.ntmps88
  go_wp2_with (go_at_call 179; refine HC.out.mono ?_; rintro e w' ⟨⟨i, rfl, hi⟩, rfl⟩; have HI := hid hi; clear hi)
  go_ret
  exact ⟨ret_bool HI.out, rfl⟩

/-- May a window of the kind have n points? -/
def manyB (K : Int) (n : Nat) : Bool := if K = 3 then decide (3 ≤ n ∧ n ≤ 32) else decide (n = 0)
theorem many_any (K : Int) (A : Option Addr) (n c : Nat) (w : World) : Calls Try.prog 133 #[.int .i64 K, .slice A n c] w fun e w' => e = .returned (.bool (manyB K n)) ∧ w = w' := by
  by_cases h : K = 3
  · subst h
    by_cases h1 : 3 ≤ n
    · by_cases h2 : n ≤ 32
      · have h1i : 3 ≤ (n : Int) := by omega
        have h2i : (n : Int) ≤ 32 := by omega
        go_enter Try.func133, Try.ntmps133
        go_wp2
        go_ret
        exact ⟨ret_bool (by unfold manyB; simp [h1, h2]), rfl⟩
      · have h1i : 3 ≤ (n : Int) := by omega
        have h2i : ¬ (n : Int) ≤ 32 := by omega
        go_enter Try.func133, Try.ntmps133
        go_wp2
        go_ret
        exact ⟨ret_bool (by unfold manyB; simp [h2]), rfl⟩
    · have h1i : ¬ 3 ≤ (n : Int) := by omega
      go_enter Try.func133, Try.ntmps133
      go_wp2
      go_ret
      exact ⟨ret_bool (by unfold manyB; simp [h1]), rfl⟩
  · have h3 : (K == 3) = false := by simpa using h
    have HQ : RowKit.Hid (manyB K n = decide (n = 0)) := hid (by unfold manyB; rw [if_neg h])
    clear h
    by_cases h0 : n = 0
    · subst h0
      go_enter Try.func133, Try.ntmps133
      go_wp2
      go_ret
      exact ⟨ret_bool (by rw [HQ.out]; rfl), rfl⟩
    · have h0' : ((n : Int) == 0) = false := by rw [beq_eq_false_iff_ne]; omega
      have HN := hid h0
      clear h0
      go_enter Try.func133, Try.ntmps133
      go_wp2
      go_ret
      exact ⟨ret_bool (by rw [HQ.out]; simp [HN.out]), rfl⟩
end Go.Proofs.Ytfeabmdioeelhaa
