/-
  Windows: the error of a window, in the program.
-/
import Derived.Test.YtfeabmdioeelhaaYWin
namespace Go.Proofs.Ytfeabmdioeelhaa
open Go.RowKit
attribute [local go_sem] run_store_float

def five (X Y W H S : Nat) (i : Nat) : Nat := if i = 0 then X else if i = 1 then Y else if i = 2 then W else if i = 3 then H else S
def two (X Y : Nat) (i : Nat) : Nat := if i = 0 then X else Y
def one1 (X : Nat) (_ : Nat) : Nat := X
theorem rd_five {b : Nat} (w : World) (X Y W H S : Nat) (t : TypeId) (h : b = w.heap.size) : Rd (w.alloc (.cells #[.float .f32 X, .float .f32 Y, .float .f32 W, .float .f32 H, .float .f32 S] t)) b 0 5 (five X Y W H S) := by
  intro i hi
  subst h
  have := (Blk.new w t #[.float .f32 X, .float .f32 Y, .float .f32 W, .float .f32 H, .float .f32 S]).cell i
  rw [Nat.zero_add, this]
  have : i = 0 ∨ i = 1 ∨ i = 2 ∨ i = 3 ∨ i = 4 := by omega
  rcases this with rfl | rfl | rfl | rfl | rfl <;> rfl
theorem rd_two {b : Nat} (w : World) (X Y : Nat) (t : TypeId) (h : b = w.heap.size) : Rd (w.alloc (.cells #[.float .f32 X, .float .f32 Y] t)) b 0 2 (two X Y) := by
  intro i hi
  subst h
  have := (Blk.new w t #[.float .f32 X, .float .f32 Y]).cell i
  rw [Nat.zero_add, this]
  have : i = 0 ∨ i = 1 := by omega
  rcases this with rfl | rfl <;> rfl
theorem rd_one {b : Nat} (w : World) (X : Nat) (t : TypeId) (h : b = w.heap.size) : Rd (w.alloc (.cells #[.float .f32 X] t)) b 0 1 (one1 X) := by
  intro i hi
  subst h
  have := (Blk.new w t #[.float .f32 X]).cell i
  rw [Nat.zero_add, this]
  have : i = 0 := by omega
  subst this; rfl

def numB (X Y W H S : Nat) : Bool := allB (fun i => fin (five X Y W H S i)) 5
def xyB (X Y : Nat) : Bool := allB (fun i => inB 3380609024 1233125376 (two X Y i)) 2
def whB (W H : Nat) : Bool := allB (fun i => inB 0 1233125376 (two W H i)) 2
def softB (S : Nat) : Bool := allB (fun i => inB 0 1166016512 (one1 S i)) 1
def kindB (K : Int) : Bool := decide (1 ≤ K ∧ K ≤ 3)
def eqz (v : Nat) : Bool := FloatKind.f32.format.order v 0 == some .eq
/-- Is a single at odds with the kind? -/
def oddB (K : Int) (X Y W H S : Nat) : Bool := if K = 3 then !(allB (fun i => !nzB (five X Y W H S i)) 5) else if K = 2 then eqz W || eqz H else false

/-- The error of a window. -/
def winE (K : Int) (X Y W H S n : Nat) (P Q : Nat → Int) : Int :=
  if kindB K = false then 1 else if numB X Y W H S = false then 2 else if (xyB X Y && whB W H && softB S && manyB K n) = false then 3
  else if allB (ptB P Q) n = false then 5 else if oddB K X Y W H S = true then 12 else 0

set_option maxHeartbeats 1000000 in
theorem odds_any (K : Int) (X Y W H S : Nat) (A : Option Addr) (n c : Nat) (o : Bool) (w : World) : Calls Try.prog 135 #[win K X Y W H S A n c o] w fun e w' => e = .returned (.bool (oddB K X Y W H S)) ∧ Below w.heap.size w w' := by
  by_cases h3 : K = 3
  · subst h3
    have HQ : RowKit.Hid (oddB 3 X Y W H S = !(allB (fun i => !nzB (five X Y W H S i)) 5)) := hid rfl
    go_enter Try.func135, Try.ntmps135
    go_wp2_with (go_at_call 88; (with_reducible refine (containsF_any _ _ _ _ (five X Y W H S) _ (by omega) (rd_five _ X Y W H S _ (by simp))).mono ?_); rintro e w' ⟨rfl, rfl⟩)
    go_ret
    exact ⟨ret_bool HQ.out.symm, ((Below.refl _ _).alloc (Nat.le_refl _) _).alloc (by simp) _⟩
  · have h3' : (K == 3) = false := by simpa using h3
    by_cases h2 : K = 2
    · subst h2
      have HQ : RowKit.Hid (oddB 2 X Y W H S = (eqz W || eqz H)) := hid rfl
      cases e1 : FloatKind.f32.format.order W 0 == some .eq
      all_goals
        cases e2 : FloatKind.f32.format.order H 0 == some .eq
        all_goals
          have HE : RowKit.Hid ((eqz W || eqz H) = ((FloatKind.f32.format.order W 0 == some .eq) || (FloatKind.f32.format.order H 0 == some .eq))) := hid rfl
          rw [e1, e2] at HE
          go_enter Try.func135, Try.ntmps135
          go_wp2
          go_ret
          exact ⟨ret_bool (by rw [HQ.out, HE.out]; rfl), (Below.refl _ _).alloc (Nat.le_refl _) _⟩
    · have h2' : (K == 2) = false := by simpa using h2
      have HQ : RowKit.Hid (oddB K X Y W H S = false) := hid (by unfold oddB; rw [if_neg h3, if_neg h2])
      clear h3 h2
      go_enter Try.func135, Try.ntmps135
      go_wp2
      go_ret
      exact ⟨ret_bool HQ.out.symm, (Below.refl _ _).alloc (Nat.le_refl _) _⟩

section
variable {K : Int} {X Y W H S n : Nat} {P Q : Nat → Int}
theorem winE_kind (h : kindB K = false) : winE K X Y W H S n P Q = 1 := by unfold winE; rw [if_pos h]
theorem winE_num (h : kindB K = true) (h2 : numB X Y W H S = false) : winE K X Y W H S n P Q = 2 := by unfold winE; rw [if_neg (by simp [h]), if_pos h2]
theorem winE_range (h : kindB K = true) (h2 : numB X Y W H S = true) (h3 : (xyB X Y && whB W H && softB S && manyB K n) = false) : winE K X Y W H S n P Q = 3 := by unfold winE; rw [if_neg (by simp [h]), if_neg (by simp [h2]), if_pos h3]
theorem winE_far (h : kindB K = true) (h2 : numB X Y W H S = true) (h3 : (xyB X Y && whB W H && softB S && manyB K n) = true) (h4 : allB (ptB P Q) n = false) : winE K X Y W H S n P Q = 5 := by
  unfold winE; rw [if_neg (by simp [h]), if_neg (by simp [h2]), if_neg (by rw [h3]; simp), if_pos h4]
theorem winE_odd (h : kindB K = true) (h2 : numB X Y W H S = true) (h3 : (xyB X Y && whB W H && softB S && manyB K n) = true) (h4 : allB (ptB P Q) n = true) : winE K X Y W H S n P Q = if oddB K X Y W H S = true then 12 else 0 := by
  unfold winE; rw [if_neg (by simp [h]), if_neg (by simp [h2]), if_neg (by rw [h3]; simp), if_neg (by simp [h4])]
end

set_option maxRecDepth 100000 in
set_option maxHeartbeats 4000000 in
theorem checkWin_any (K : Int) (X Y W H S : Nat) (A : Option Addr) (n c : Nat) (o : Bool) (P Q : Nat → Int) (w : World) (hP : Pts w A n P Q) :
    Calls Try.prog 52 #[win K X Y W H S A n c o] w fun e w' => e = .returned (.int .i64 (winE K X Y W H S n P Q)) ∧ Below w.heap.size w w' := by
  have HP := hid hP
  clear hP
  cases hk : kindB K
  · have HQ := hid (winE_kind (X := X) (Y := Y) (W := W) (H := H) (S := S) (n := n) (P := P) (Q := Q) hk)
    have hk2 : K < 1 ∨ 3 < K := by simp [kindB] at hk; omega
    clear hk
    rcases hk2 with hk2 | hk2
    · go_enter Try.func52, Try.ntmps52
      go_wp2
      go_ret
      exact ⟨ret_int HQ.out.symm, (Below.refl _ _).alloc (Nat.le_refl _) _⟩
    · have hk3 : ¬ K < 1 := by omega
      go_enter Try.func52, Try.ntmps52
      go_wp2
      go_ret
      exact ⟨ret_int HQ.out.symm, (Below.refl _ _).alloc (Nat.le_refl _) _⟩
  have hk1 : ¬ K < 1 := by simp [kindB] at hk; omega
  have hk2 : ¬ 3 < K := by simp [kindB] at hk; omega
  have HK := hid hk
  clear hk
  cases h1 : numB X Y W H S
  · have HQ := hid (winE_num (n := n) (P := P) (Q := Q) HK.out h1)
    have h1' : allB (fun i => fin (five X Y W H S i)) 5 = false := h1
    clear h1
    go_enter Try.func52, Try.ntmps52
    go_wp2_with (first
      | (go_at_call 75; (with_reducible refine (areNumbers_any _ _ _ _ (five X Y W H S) _ (by omega) (rd_five _ X Y W H S _ (by simp))).mono ?_); rintro e w' ⟨rfl, rfl⟩)
      | (go_at_call 83; (with_reducible refine (areWithin_any 3380609024 _ _ _ _ _ (two X Y) _ (by omega) (rd_two _ X Y _ (by simp))).mono ?_); rintro e w' ⟨rfl, rfl⟩)
      | (go_at_call 83; (with_reducible refine (areWithin_any 0 1233125376 _ _ _ _ (two W H) _ (by omega) (rd_two _ W H _ (by simp))).mono ?_); rintro e w' ⟨rfl, rfl⟩)
      | (go_at_call 83; (with_reducible refine (areWithin_any 0 1166016512 _ _ _ _ (one1 S) _ (by omega) (rd_one _ S _ (by simp))).mono ?_); rintro e w' ⟨rfl, rfl⟩)
      | (go_at_call 133; (with_reducible refine (many_any _ _ _ _ _).mono ?_); rintro e w' ⟨rfl, rfl⟩)
      | (go_at_call 130; (with_reducible refine (containsP_any _ _ _ P Q _ (by omega) (HP.out.below ((((((Below.refl _ _).alloc (Nat.le_refl _) _).alloc (by simp; try omega) _).alloc (by simp; try omega) _).alloc (by simp; try omega) _).alloc (by simp; try omega) _))).mono ?_); rintro e w' ⟨rfl, hb⟩; obtain ⟨hc, hf⟩ := bcell hb; have HB := hid hb; clear hb)
      | (go_at_call 135; (with_reducible refine (odds_any _ _ _ _ _ _ _ _ _ _ _).mono ?_); rintro e w' ⟨rfl, hb⟩; have HB2 := hid hb; clear hb))
    go_ret
    exact ⟨ret_int HQ.out.symm, ((Below.refl _ _).alloc (Nat.le_refl _) _).alloc (by simp; try omega) _⟩
  have h1' : allB (fun i => fin (five X Y W H S i)) 5 = true := h1
  have HN := hid h1
  clear h1
  cases h2 : xyB X Y
  · have HQ := hid (winE_range (n := n) (P := P) (Q := Q) HK.out HN.out (show (xyB X Y && whB W H && softB S && manyB K n) = false by simp [h2]))
    have h2' : allB (fun i => inB 3380609024 1233125376 (two X Y i)) 2 = false := h2
    clear h2
    go_enter Try.func52, Try.ntmps52
    go_wp2_with (first
      | (go_at_call 75; (with_reducible refine (areNumbers_any _ _ _ _ (five X Y W H S) _ (by omega) (rd_five _ X Y W H S _ (by simp))).mono ?_); rintro e w' ⟨rfl, rfl⟩)
      | (go_at_call 83; (with_reducible refine (areWithin_any 3380609024 _ _ _ _ _ (two X Y) _ (by omega) (rd_two _ X Y _ (by simp))).mono ?_); rintro e w' ⟨rfl, rfl⟩)
      | (go_at_call 83; (with_reducible refine (areWithin_any 0 1233125376 _ _ _ _ (two W H) _ (by omega) (rd_two _ W H _ (by simp))).mono ?_); rintro e w' ⟨rfl, rfl⟩)
      | (go_at_call 83; (with_reducible refine (areWithin_any 0 1166016512 _ _ _ _ (one1 S) _ (by omega) (rd_one _ S _ (by simp))).mono ?_); rintro e w' ⟨rfl, rfl⟩)
      | (go_at_call 133; (with_reducible refine (many_any _ _ _ _ _).mono ?_); rintro e w' ⟨rfl, rfl⟩)
      | (go_at_call 130; (with_reducible refine (containsP_any _ _ _ P Q _ (by omega) (HP.out.below ((((((Below.refl _ _).alloc (Nat.le_refl _) _).alloc (by simp; try omega) _).alloc (by simp; try omega) _).alloc (by simp; try omega) _).alloc (by simp; try omega) _))).mono ?_); rintro e w' ⟨rfl, hb⟩; obtain ⟨hc, hf⟩ := bcell hb; have HB := hid hb; clear hb)
      | (go_at_call 135; (with_reducible refine (odds_any _ _ _ _ _ _ _ _ _ _ _).mono ?_); rintro e w' ⟨rfl, hb⟩; have HB2 := hid hb; clear hb))
    go_ret
    exact ⟨ret_int HQ.out.symm, (((Below.refl _ _).alloc (Nat.le_refl _) _).alloc (by simp; try omega) _).alloc (by simp; try omega) _⟩
  have h2' : allB (fun i => inB 3380609024 1233125376 (two X Y i)) 2 = true := h2
  have HX := hid h2
  clear h2
  cases h3 : whB W H
  · have HQ := hid (winE_range (n := n) (P := P) (Q := Q) HK.out HN.out (show (xyB X Y && whB W H && softB S && manyB K n) = false by simp [h3]))
    have h3' : allB (fun i => inB 0 1233125376 (two W H i)) 2 = false := h3
    clear h3
    go_enter Try.func52, Try.ntmps52
    go_wp2_with (first
      | (go_at_call 75; (with_reducible refine (areNumbers_any _ _ _ _ (five X Y W H S) _ (by omega) (rd_five _ X Y W H S _ (by simp))).mono ?_); rintro e w' ⟨rfl, rfl⟩)
      | (go_at_call 83; (with_reducible refine (areWithin_any 3380609024 _ _ _ _ _ (two X Y) _ (by omega) (rd_two _ X Y _ (by simp))).mono ?_); rintro e w' ⟨rfl, rfl⟩)
      | (go_at_call 83; (with_reducible refine (areWithin_any 0 1233125376 _ _ _ _ (two W H) _ (by omega) (rd_two _ W H _ (by simp))).mono ?_); rintro e w' ⟨rfl, rfl⟩)
      | (go_at_call 83; (with_reducible refine (areWithin_any 0 1166016512 _ _ _ _ (one1 S) _ (by omega) (rd_one _ S _ (by simp))).mono ?_); rintro e w' ⟨rfl, rfl⟩)
      | (go_at_call 133; (with_reducible refine (many_any _ _ _ _ _).mono ?_); rintro e w' ⟨rfl, rfl⟩)
      | (go_at_call 130; (with_reducible refine (containsP_any _ _ _ P Q _ (by omega) (HP.out.below ((((((Below.refl _ _).alloc (Nat.le_refl _) _).alloc (by simp; try omega) _).alloc (by simp; try omega) _).alloc (by simp; try omega) _).alloc (by simp; try omega) _))).mono ?_); rintro e w' ⟨rfl, hb⟩; obtain ⟨hc, hf⟩ := bcell hb; have HB := hid hb; clear hb)
      | (go_at_call 135; (with_reducible refine (odds_any _ _ _ _ _ _ _ _ _ _ _).mono ?_); rintro e w' ⟨rfl, hb⟩; have HB2 := hid hb; clear hb))
    go_ret
    exact ⟨ret_int HQ.out.symm, ((((Below.refl _ _).alloc (Nat.le_refl _) _).alloc (by simp; try omega) _).alloc (by simp; try omega) _).alloc (by simp; try omega) _⟩
  have h3' : allB (fun i => inB 0 1233125376 (two W H i)) 2 = true := h3
  have HW := hid h3
  clear h3
  cases h4 : softB S
  · have HQ := hid (winE_range (n := n) (P := P) (Q := Q) HK.out HN.out (show (xyB X Y && whB W H && softB S && manyB K n) = false by simp [h4]))
    have h4' : allB (fun i => inB 0 1166016512 (one1 S i)) 1 = false := h4
    clear h4
    go_enter Try.func52, Try.ntmps52
    go_wp2_with (first
      | (go_at_call 75; (with_reducible refine (areNumbers_any _ _ _ _ (five X Y W H S) _ (by omega) (rd_five _ X Y W H S _ (by simp))).mono ?_); rintro e w' ⟨rfl, rfl⟩)
      | (go_at_call 83; (with_reducible refine (areWithin_any 3380609024 _ _ _ _ _ (two X Y) _ (by omega) (rd_two _ X Y _ (by simp))).mono ?_); rintro e w' ⟨rfl, rfl⟩)
      | (go_at_call 83; (with_reducible refine (areWithin_any 0 1233125376 _ _ _ _ (two W H) _ (by omega) (rd_two _ W H _ (by simp))).mono ?_); rintro e w' ⟨rfl, rfl⟩)
      | (go_at_call 83; (with_reducible refine (areWithin_any 0 1166016512 _ _ _ _ (one1 S) _ (by omega) (rd_one _ S _ (by simp))).mono ?_); rintro e w' ⟨rfl, rfl⟩)
      | (go_at_call 133; (with_reducible refine (many_any _ _ _ _ _).mono ?_); rintro e w' ⟨rfl, rfl⟩)
      | (go_at_call 130; (with_reducible refine (containsP_any _ _ _ P Q _ (by omega) (HP.out.below ((((((Below.refl _ _).alloc (Nat.le_refl _) _).alloc (by simp; try omega) _).alloc (by simp; try omega) _).alloc (by simp; try omega) _).alloc (by simp; try omega) _))).mono ?_); rintro e w' ⟨rfl, hb⟩; obtain ⟨hc, hf⟩ := bcell hb; have HB := hid hb; clear hb)
      | (go_at_call 135; (with_reducible refine (odds_any _ _ _ _ _ _ _ _ _ _ _).mono ?_); rintro e w' ⟨rfl, hb⟩; have HB2 := hid hb; clear hb))
    go_ret
    exact ⟨ret_int HQ.out.symm, (((((Below.refl _ _).alloc (Nat.le_refl _) _).alloc (by simp; try omega) _).alloc (by simp; try omega) _).alloc (by simp; try omega) _).alloc (by simp; try omega) _⟩
  have h4' : allB (fun i => inB 0 1166016512 (one1 S i)) 1 = true := h4
  have HS := hid h4
  clear h4
  cases h5 : manyB K n
  · have HQ := hid (winE_range (P := P) (Q := Q) HK.out HN.out (show (xyB X Y && whB W H && softB S && manyB K n) = false by simp [h5]))
    go_enter Try.func52, Try.ntmps52
    go_wp2_with (first
      | (go_at_call 75; (with_reducible refine (areNumbers_any _ _ _ _ (five X Y W H S) _ (by omega) (rd_five _ X Y W H S _ (by simp))).mono ?_); rintro e w' ⟨rfl, rfl⟩)
      | (go_at_call 83; (with_reducible refine (areWithin_any 3380609024 _ _ _ _ _ (two X Y) _ (by omega) (rd_two _ X Y _ (by simp))).mono ?_); rintro e w' ⟨rfl, rfl⟩)
      | (go_at_call 83; (with_reducible refine (areWithin_any 0 1233125376 _ _ _ _ (two W H) _ (by omega) (rd_two _ W H _ (by simp))).mono ?_); rintro e w' ⟨rfl, rfl⟩)
      | (go_at_call 83; (with_reducible refine (areWithin_any 0 1166016512 _ _ _ _ (one1 S) _ (by omega) (rd_one _ S _ (by simp))).mono ?_); rintro e w' ⟨rfl, rfl⟩)
      | (go_at_call 133; (with_reducible refine (many_any _ _ _ _ _).mono ?_); rintro e w' ⟨rfl, rfl⟩)
      | (go_at_call 130; (with_reducible refine (containsP_any _ _ _ P Q _ (by omega) (HP.out.below ((((((Below.refl _ _).alloc (Nat.le_refl _) _).alloc (by simp; try omega) _).alloc (by simp; try omega) _).alloc (by simp; try omega) _).alloc (by simp; try omega) _))).mono ?_); rintro e w' ⟨rfl, hb⟩; obtain ⟨hc, hf⟩ := bcell hb; have HB := hid hb; clear hb)
      | (go_at_call 135; (with_reducible refine (odds_any _ _ _ _ _ _ _ _ _ _ _).mono ?_); rintro e w' ⟨rfl, hb⟩; have HB2 := hid hb; clear hb))
    go_ret
    exact ⟨ret_int HQ.out.symm, (((((Below.refl _ _).alloc (Nat.le_refl _) _).alloc (by simp; try omega) _).alloc (by simp; try omega) _).alloc (by simp; try omega) _).alloc (by simp; try omega) _⟩
  have HM : RowKit.Hid ((xyB X Y && whB W H && softB S && manyB K n) = true) := hid (by rw [HX.out, HW.out, HS.out, h5]; rfl)
  have hn32 : n ≤ 32 := by
    unfold manyB at h5
    split at h5 <;> simp at h5 <;> omega
  cases h6 : allB (ptB P Q) n
  · have HQ := hid (winE_far HK.out HN.out HM.out h6)
    go_enter Try.func52, Try.ntmps52
    go_wp2_with (first
      | (go_at_call 75; (with_reducible refine (areNumbers_any _ _ _ _ (five X Y W H S) _ (by omega) (rd_five _ X Y W H S _ (by simp))).mono ?_); rintro e w' ⟨rfl, rfl⟩)
      | (go_at_call 83; (with_reducible refine (areWithin_any 3380609024 _ _ _ _ _ (two X Y) _ (by omega) (rd_two _ X Y _ (by simp))).mono ?_); rintro e w' ⟨rfl, rfl⟩)
      | (go_at_call 83; (with_reducible refine (areWithin_any 0 1233125376 _ _ _ _ (two W H) _ (by omega) (rd_two _ W H _ (by simp))).mono ?_); rintro e w' ⟨rfl, rfl⟩)
      | (go_at_call 83; (with_reducible refine (areWithin_any 0 1166016512 _ _ _ _ (one1 S) _ (by omega) (rd_one _ S _ (by simp))).mono ?_); rintro e w' ⟨rfl, rfl⟩)
      | (go_at_call 133; (with_reducible refine (many_any _ _ _ _ _).mono ?_); rintro e w' ⟨rfl, rfl⟩)
      | (go_at_call 130; (with_reducible refine (containsP_any _ _ _ P Q _ (by omega) (HP.out.below ((((((Below.refl _ _).alloc (Nat.le_refl _) _).alloc (by simp; try omega) _).alloc (by simp; try omega) _).alloc (by simp; try omega) _).alloc (by simp; try omega) _))).mono ?_); rintro e w' ⟨rfl, hb⟩; obtain ⟨hc, hf⟩ := bcell hb; have HB := hid hb; clear hb)
      | (go_at_call 135; (with_reducible refine (odds_any _ _ _ _ _ _ _ _ _ _ _).mono ?_); rintro e w' ⟨rfl, hb⟩; have HB2 := hid hb; clear hb))
    go_ret
    exact ⟨ret_int HQ.out.symm, ((((((Below.refl _ _).alloc (Nat.le_refl _) _).alloc (by simp; try omega) _).alloc (by simp; try omega) _).alloc (by simp; try omega) _).alloc (by simp; try omega) _).trans (HB.out.mono (by simp; try omega))⟩
  have HQ := hid (winE_odd HK.out HN.out HM.out h6)
  cases h7 : oddB K X Y W H S
  · have HO := hid h7
    go_enter Try.func52, Try.ntmps52
    go_wp2_with (first
      | (go_at_call 75; (with_reducible refine (areNumbers_any _ _ _ _ (five X Y W H S) _ (by omega) (rd_five _ X Y W H S _ (by simp))).mono ?_); rintro e w' ⟨rfl, rfl⟩)
      | (go_at_call 83; (with_reducible refine (areWithin_any 3380609024 _ _ _ _ _ (two X Y) _ (by omega) (rd_two _ X Y _ (by simp))).mono ?_); rintro e w' ⟨rfl, rfl⟩)
      | (go_at_call 83; (with_reducible refine (areWithin_any 0 1233125376 _ _ _ _ (two W H) _ (by omega) (rd_two _ W H _ (by simp))).mono ?_); rintro e w' ⟨rfl, rfl⟩)
      | (go_at_call 83; (with_reducible refine (areWithin_any 0 1166016512 _ _ _ _ (one1 S) _ (by omega) (rd_one _ S _ (by simp))).mono ?_); rintro e w' ⟨rfl, rfl⟩)
      | (go_at_call 133; (with_reducible refine (many_any _ _ _ _ _).mono ?_); rintro e w' ⟨rfl, rfl⟩)
      | (go_at_call 130; (with_reducible refine (containsP_any _ _ _ P Q _ (by omega) (HP.out.below ((((((Below.refl _ _).alloc (Nat.le_refl _) _).alloc (by simp; try omega) _).alloc (by simp; try omega) _).alloc (by simp; try omega) _).alloc (by simp; try omega) _))).mono ?_); rintro e w' ⟨rfl, hb⟩; obtain ⟨hc, hf⟩ := bcell hb; have HB := hid hb; clear hb)
      | (go_at_call 135; (with_reducible refine (odds_any _ _ _ _ _ _ _ _ _ _ _).mono ?_); rintro e w' ⟨rfl, hb⟩; have HB2 := hid hb; clear hb))
    go_ret
    exact ⟨ret_int (by rw [HQ.out, HO.out]; rfl), (((((((Below.refl _ _).alloc (Nat.le_refl _) _).alloc (by simp; try omega) _).alloc (by simp; try omega) _).alloc (by simp; try omega) _).alloc (by simp; try omega) _).trans (HB.out.mono (by simp; try omega))).trans (HB2.out.mono (by have := HB.out.size; simp at this; omega))⟩
  · have HO := hid h7
    go_enter Try.func52, Try.ntmps52
    go_wp2_with (first
      | (go_at_call 75; (with_reducible refine (areNumbers_any _ _ _ _ (five X Y W H S) _ (by omega) (rd_five _ X Y W H S _ (by simp))).mono ?_); rintro e w' ⟨rfl, rfl⟩)
      | (go_at_call 83; (with_reducible refine (areWithin_any 3380609024 _ _ _ _ _ (two X Y) _ (by omega) (rd_two _ X Y _ (by simp))).mono ?_); rintro e w' ⟨rfl, rfl⟩)
      | (go_at_call 83; (with_reducible refine (areWithin_any 0 1233125376 _ _ _ _ (two W H) _ (by omega) (rd_two _ W H _ (by simp))).mono ?_); rintro e w' ⟨rfl, rfl⟩)
      | (go_at_call 83; (with_reducible refine (areWithin_any 0 1166016512 _ _ _ _ (one1 S) _ (by omega) (rd_one _ S _ (by simp))).mono ?_); rintro e w' ⟨rfl, rfl⟩)
      | (go_at_call 133; (with_reducible refine (many_any _ _ _ _ _).mono ?_); rintro e w' ⟨rfl, rfl⟩)
      | (go_at_call 130; (with_reducible refine (containsP_any _ _ _ P Q _ (by omega) (HP.out.below ((((((Below.refl _ _).alloc (Nat.le_refl _) _).alloc (by simp; try omega) _).alloc (by simp; try omega) _).alloc (by simp; try omega) _).alloc (by simp; try omega) _))).mono ?_); rintro e w' ⟨rfl, hb⟩; obtain ⟨hc, hf⟩ := bcell hb; have HB := hid hb; clear hb)
      | (go_at_call 135; (with_reducible refine (odds_any _ _ _ _ _ _ _ _ _ _ _).mono ?_); rintro e w' ⟨rfl, hb⟩; have HB2 := hid hb; clear hb))
    go_ret
    exact ⟨ret_int (by rw [HQ.out, HO.out]; rfl), (((((((Below.refl _ _).alloc (Nat.le_refl _) _).alloc (by simp; try omega) _).alloc (by simp; try omega) _).alloc (by simp; try omega) _).alloc (by simp; try omega) _).trans (HB.out.mono (by simp; try omega))).trans (HB2.out.mono (by have := HB.out.size; simp at this; omega))⟩
end Go.Proofs.Ytfeabmdioeelhaa
