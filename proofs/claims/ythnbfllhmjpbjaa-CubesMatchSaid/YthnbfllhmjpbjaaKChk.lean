/-
  Cubes: Check.
-/
import Derived.Test.YthnbfllhmjpbjaaKLeaf
namespace Go.Proofs.Ythnbfllhmjpbjaa
open Go.RowKit
attribute [local go_sem] run_store_float

section
variable {S : Int} {L H n : Nat}
theorem cubE_size (h : sizeB S = false) : cubE S L H n = 3 := by unfold cubE; rw [if_pos h]
theorem cubE_len (h : sizeB S = true) (h2 : ¬ (n : Int) = 3 * S * S * S) : cubE S L H n = 2 := by unfold cubE; rw [if_neg (by simp [h]), if_pos h2]
theorem cubE_num (h : sizeB S = true) (h2 : (n : Int) = 3 * S * S * S) (h3 : (fin L && fin H) = false) : cubE S L H n = 2 := by unfold cubE; rw [if_neg (by simp [h]), if_neg (by simp [h2]), if_pos h3]
theorem cubE_ord (h : sizeB S = true) (h2 : (n : Int) = 3 * S * S * S) (h3 : (fin L && fin H) = true) (h4 : (FloatKind.f32.format.order H L == some .gt) = false) : cubE S L H n = 8 := by
  unfold cubE; rw [if_neg (by simp [h]), if_neg (by simp [h2]), if_neg (by simp [h3]), if_pos h4]
theorem cubE_far (h : sizeB S = true) (h2 : (n : Int) = 3 * S * S * S) (h3 : (fin L && fin H) = true) (h4 : (FloatKind.f32.format.order H L == some .gt) = true)
    (h5 : (FloatKind.f32.format.order L 3380609024 == some .lt || FloatKind.f32.format.order H 1233125376 == some .gt) = true) : cubE S L H n = 3 := by
  unfold cubE; rw [if_neg (by simp [h]), if_neg (by simp [h2]), if_neg (by simp [h3]), if_neg (by simp [h4]), if_pos h5]
theorem cubE_ok (h : sizeB S = true) (h2 : (n : Int) = 3 * S * S * S) (h3 : (fin L && fin H) = true) (h4 : (FloatKind.f32.format.order H L == some .gt) = true)
    (h5 : (FloatKind.f32.format.order L 3380609024 == some .lt || FloatKind.f32.format.order H 1233125376 == some .gt) = false) : cubE S L H n = 0 := by
  unfold cubE; rw [if_neg (by simp [h]), if_neg (by simp [h2]), if_neg (by simp [h3]), if_neg (by simp [h4]), if_neg (by simp [h5])]
/-- What a cube without an error has. -/
structure CubOk (S : Int) (L H n : Nat) : Prop where
  s1 : 2 ≤ S
  s2 : S ≤ 17
  len : (n : Int) = 3 * S * S * S
  fl : fin L = true
  fh : fin H = true
  gt : (FloatKind.f32.format.order H L == some .gt) = true
  nl : (FloatKind.f32.format.order L 3380609024 == some .lt) = false
  nh : (FloatKind.f32.format.order H 1233125376 == some .gt) = false
theorem cubE_zero (h : cubE S L H n = 0) : CubOk S L H n := by
  cases h1 : sizeB S
  · rw [cubE_size h1] at h; cases h
  by_cases h2 : (n : Int) = 3 * S * S * S
  · cases h3 : fin L && fin H
    · rw [cubE_num h1 h2 h3] at h; cases h
    cases h4 : FloatKind.f32.format.order H L == some .gt
    · rw [cubE_ord h1 h2 h3 h4] at h; cases h
    cases h5 : FloatKind.f32.format.order L 3380609024 == some .lt || FloatKind.f32.format.order H 1233125376 == some .gt
    · obtain ⟨a, b⟩ := sizeB_true.1 h1
      rw [Bool.and_eq_true] at h3
      rw [Bool.or_eq_false_iff] at h5
      exact ⟨a, b, h2, h3.1, h3.2, h4, h5.1, h5.2⟩
    · rw [cubE_far h1 h2 h3 h4 h5] at h; cases h
  · rw [cubE_len h1 h2] at h; cases h
theorem CubOk.zero (h : CubOk S L H n) : cubE S L H n = 0 :=
  cubE_ok (sizeB_true.2 ⟨h.s1, h.s2⟩) h.len (by simp [h.fl, h.fh]) h.gt (by simp [h.nl, h.nh])
end

theorem order_fin {a b : Nat} (ha : fin a = true) (hb : fin b = true) : ∃ o, FloatKind.f32.format.order a b = some o := by
  obtain ⟨x, hx⟩ := fin_fv ha
  obtain ⟨y, hy⟩ := fin_fv hb
  exact ⟨_, forder hx hy⟩

def two (L H : Nat) (i : Nat) : Nat := if i = 0 then L else H
theorem rd_two (w : World) (L H : Nat) (t : TypeId) : Rd (w.alloc (.cells #[.float .f32 L, .float .f32 H] t)) w.heap.size 0 2 (two L H) := by
  intro i hi
  have := (Blk.new w t #[.float .f32 L, .float .f32 H]).cell i
  rw [Nat.zero_add, this]
  have : i = 0 ∨ i = 1 := by omega
  rcases this with rfl | rfl <;> rfl
theorem finAll_two (L H : Nat) : finAll (two L H) 2 = (fin L && fin H) := by simp [finAll, two]

set_option maxRecDepth 100000 in
set_option maxHeartbeats 1000000 in
theorem check_any (S : Int) (L H : Nat) (A : Option Addr) (n c : Nat) (w : World) :
    Calls Try.prog 16 #[cub S L H A n c] w fun e w' => e = .returned (.int .i64 (cubE S L H n)) ∧ Below w.heap.size w w' := by
  cases h1 : sizeB S
  · have HQ := hid (cubE_size (L := L) (H := H) (n := n) h1)
    go_enter Try.func16, Try.ntmps16
    go_wp2_with (go_at_call 72; refine (isSize_any _ _).mono ?_; rintro e w' ⟨rfl, rfl⟩)
    go_ret
    exact ⟨ret_int HQ.out.symm, (Below.refl _ _).alloc (Nat.le_refl _) _⟩
  obtain ⟨s1, s2⟩ := sizeB_true.1 h1
  obtain ⟨b1, b2, b3, b4, b5, b6⟩ := cube_bd s1 s2
  by_cases h2 : (n : Int) = 3 * S * S * S
  · have z2 : ((n : Int) != 3 * S * S * S) = false := by simp [h2]
    cases h3 : fin L && fin H
    · have HQ := hid (cubE_num h1 h2 h3)
      have e3 : finAll (two L H) 2 = false := by rw [finAll_two, h3]
      clear h2 h3
      go_enter Try.func16, Try.ntmps16
      go_wp2_with (first | (go_at_call 72; refine (isSize_any _ _).mono ?_; rintro e w' ⟨rfl, rfl⟩) | (go_at_call 73; refine (areNumbers_any _ _ _ _ (two L H) _ (by omega) (by have := rd_two (w.alloc (.cells #[.int .i64 S, .float .f32 L, .float .f32 H, .slice A n c] 25)) L H 22; simpa using this)).mono ?_; rintro e w' ⟨rfl, rfl⟩))
      go_ret
      exact ⟨ret_int HQ.out.symm, ((Below.refl _ _).alloc (Nat.le_refl _) _).alloc (by simp) _⟩
    have e3 : finAll (two L H) 2 = true := by rw [finAll_two, h3]
    rw [Bool.and_eq_true] at h3
    obtain ⟨o, ho⟩ := order_fin h3.2 h3.1
    have h3' : (fin L && fin H) = true := by simp [h3.1, h3.2]
    clear h3
    by_cases hg : o = .gt
    · subst hg
      have h4 : (FloatKind.f32.format.order H L == some .gt) = true := by rw [ho]; rfl
      cases h5 : FloatKind.f32.format.order L 3380609024 == some .lt
      · cases h6 : FloatKind.f32.format.order H 1233125376 == some .gt
        · have HQ := hid (cubE_ok h1 h2 h3' h4 (by rw [h5, h6]; rfl))
          clear h2 h3' h4
          go_enter Try.func16, Try.ntmps16
          go_wp2_with (first | (go_at_call 72; refine (isSize_any _ _).mono ?_; rintro e w' ⟨rfl, rfl⟩) | (go_at_call 73; refine (areNumbers_any _ _ _ _ (two L H) _ (by omega) (by have := rd_two (w.alloc (.cells #[.int .i64 S, .float .f32 L, .float .f32 H, .slice A n c] 25)) L H 22; simpa using this)).mono ?_; rintro e w' ⟨rfl, rfl⟩))
          go_ret
          exact ⟨ret_int HQ.out.symm, ((Below.refl _ _).alloc (Nat.le_refl _) _).alloc (by simp) _⟩
        · have HQ := hid (cubE_far h1 h2 h3' h4 (by rw [h5, h6]; rfl))
          clear h2 h3' h4
          go_enter Try.func16, Try.ntmps16
          go_wp2_with (first | (go_at_call 72; refine (isSize_any _ _).mono ?_; rintro e w' ⟨rfl, rfl⟩) | (go_at_call 73; refine (areNumbers_any _ _ _ _ (two L H) _ (by omega) (by have := rd_two (w.alloc (.cells #[.int .i64 S, .float .f32 L, .float .f32 H, .slice A n c] 25)) L H 22; simpa using this)).mono ?_; rintro e w' ⟨rfl, rfl⟩))
          go_ret
          exact ⟨ret_int HQ.out.symm, ((Below.refl _ _).alloc (Nat.le_refl _) _).alloc (by simp) _⟩
      · have HQ := hid (cubE_far h1 h2 h3' h4 (by rw [h5]; rfl))
        clear h2 h3' h4
        go_enter Try.func16, Try.ntmps16
        go_wp2_with (first | (go_at_call 72; refine (isSize_any _ _).mono ?_; rintro e w' ⟨rfl, rfl⟩) | (go_at_call 73; refine (areNumbers_any _ _ _ _ (two L H) _ (by omega) (by have := rd_two (w.alloc (.cells #[.int .i64 S, .float .f32 L, .float .f32 H, .slice A n c] 25)) L H 22; simpa using this)).mono ?_; rintro e w' ⟨rfl, rfl⟩))
        go_ret
        exact ⟨ret_int HQ.out.symm, ((Below.refl _ _).alloc (Nat.le_refl _) _).alloc (by simp) _⟩
    · have h4 : (FloatKind.f32.format.order H L == some .gt) = false := by rw [ho]; cases o <;> first | rfl | exact absurd rfl hg
      have HQ := hid (cubE_ord h1 h2 h3' h4)
      have hlt : o = .lt ∨ o = .eq := by cases o <;> first | exact Or.inl rfl | exact Or.inr rfl | exact absurd rfl hg
      clear h2 h3' h4 hg
      rcases hlt with rfl | rfl
      all_goals
        go_enter Try.func16, Try.ntmps16
        go_wp2_with (first | (go_at_call 72; refine (isSize_any _ _).mono ?_; rintro e w' ⟨rfl, rfl⟩) | (go_at_call 73; refine (areNumbers_any _ _ _ _ (two L H) _ (by omega) (by have := rd_two (w.alloc (.cells #[.int .i64 S, .float .f32 L, .float .f32 H, .slice A n c] 25)) L H 22; simpa using this)).mono ?_; rintro e w' ⟨rfl, rfl⟩))
        go_ret
        exact ⟨ret_int HQ.out.symm, ((Below.refl _ _).alloc (Nat.le_refl _) _).alloc (by simp) _⟩
  · have z2 : ((n : Int) != 3 * S * S * S) = true := by simp [h2]
    have HQ := hid (cubE_len (L := L) (H := H) h1 h2)
    clear h2
    go_enter Try.func16, Try.ntmps16
    go_wp2_with (go_at_call 72; refine (isSize_any _ _).mono ?_; rintro e w' ⟨rfl, rfl⟩)
    go_ret
    exact ⟨ret_int HQ.out.symm, (Below.refl _ _).alloc (Nat.le_refl _) _⟩
end Go.Proofs.Ythnbfllhmjpbjaa
