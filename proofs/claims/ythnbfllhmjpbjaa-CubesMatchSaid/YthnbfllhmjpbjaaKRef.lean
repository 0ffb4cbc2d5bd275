/-
  Cubes in the reference: In, CubeError, EntryOf, OnAxis, broken; and what compares.
-/
import Derived.Test.YthnbfllhmjpbjaaKPl
import Derived.Test.YthnbfllhmjpbjaaKEach
import Derived.Deep.RegionHeld3
namespace Go.Proofs.Ythnbfllhmjpbjaa
open Go.RowKit
attribute [local go_sem] run_store_float

def inB (n l h : Int) : Bool := decide (l ≤ n ∧ n ≤ h)
theorem inB_true {n l h : Int} : inB n l h = true ↔ l ≤ n ∧ n ≤ h := by simp [inB]
theorem inB_false {n l h : Int} : inB n l h = false ↔ n < l ∨ h < n := by simp [inB]; omega
theorem in_any (n l h : Int) (w : World) : Calls Try.prog 17 #[.int .i64 n, .int .i64 l, .int .i64 h] w fun e w' => e = .returned (.bool (inB n l h)) ∧ w = w' := by
  by_cases h1 : l ≤ n
  · by_cases h2 : n ≤ h
    · go_enter Try.func17, Try.ntmps17
      go_wp2
      go_ret
      exact ⟨ret_bool (inB_true.2 ⟨h1, h2⟩).symm, rfl⟩
    · go_enter Try.func17, Try.ntmps17
      go_wp2
      go_ret
      exact ⟨ret_bool (inB_false.2 (by omega)).symm, rfl⟩
  · go_enter Try.func17, Try.ntmps17
    go_wp2
    go_ret
    exact ⟨ret_bool (inB_false.2 (by omega)).symm, rfl⟩

theorem fv_m20 : Fv .f32 1233125376 1048576 := ⟨false, 8388608, -3, by decide +kernel, by unfold dv pw; decide +kernel⟩
theorem fv_nm20 : Fv .f32 3380609024 (-1048576) := ⟨true, 8388608, -3, by decide +kernel, by unfold dv pw; decide +kernel⟩
theorem order_lt {x y : Nat} {a b : Rat} (hx : Fv .f32 x a) (hy : Fv .f32 y b) : (FloatKind.f32.format.order x y == some .lt) = decide (a < b) := by
  rw [forder hx hy]
  by_cases h : a < b
  · rw [if_pos h, decide_eq_true h]; rfl
  · rw [if_neg h, decide_eq_false h]; split <;> rfl
theorem order_gt {x y : Nat} {a b : Rat} (hx : Fv .f32 x a) (hy : Fv .f32 y b) : (FloatKind.f32.format.order x y == some .gt) = decide (b < a) := by
  rw [forder hx hy]
  by_cases h : a < b
  · have : ¬ b < a := by grind
    rw [if_pos h, decide_eq_false this]; rfl
  · rw [if_neg h]
    by_cases h2 : b < a
    · rw [if_pos h2, decide_eq_true h2]; rfl
    · rw [if_neg h2, decide_eq_false h2]; rfl
/-- Ends that lie within the bounds lie within them on the other side, too. -/
theorem ends_in {L H : Nat} (hl : fin L = true) (hh : fin H = true) (hg : (FloatKind.f32.format.order H L == some .gt) = true) :
    ((FloatKind.f32.format.order L 3380609024 == some .lt) = false → (FloatKind.f32.format.order H 3380609024 == some .lt) = false) ∧
      ((FloatKind.f32.format.order H 1233125376 == some .gt) = false → (FloatKind.f32.format.order L 1233125376 == some .gt) = false) := by
  obtain ⟨a, ha⟩ := fin_fv hl
  obtain ⟨b, hb⟩ := fin_fv hh
  rw [order_gt hb ha] at hg
  have hab := of_decide_eq_true hg
  rw [order_lt ha fv_nm20, order_lt hb fv_nm20, order_gt hb fv_m20, order_gt ha fv_m20]
  constructor
  · intro h
    have := of_decide_eq_false h
    exact decide_eq_false (by grind)
  · intro h
    have := of_decide_eq_false h
    exact decide_eq_false (by grind)

set_option maxRecDepth 100000 in
set_option maxHeartbeats 2000000 in
theorem cubeError_any (S : Int) (L H : Nat) (A : Option Addr) (n c : Nat) (w : World) :
    Calls Try.prog 10 #[cub S L H A n c] w fun e w' => e = .returned (.int .i64 (cubE S L H n)) ∧ Below w.heap.size w w' := by
  have hI : inB S 2 17 = sizeB S := rfl
  cases h1 : sizeB S
  · have HQ := hid (cubE_size (L := L) (H := H) (n := n) h1)
    rw [h1] at hI
    go_enter Try.func10, Try.ntmps10
    go_wp2_with (go_at_call 17; refine (in_any _ _ _ _).mono ?_; rintro e w' ⟨rfl, rfl⟩)
    go_ret
    exact ⟨ret_int HQ.out.symm, (Below.refl _ _).alloc (Nat.le_refl _) _⟩
  rw [h1] at hI
  obtain ⟨s1, s2⟩ := sizeB_true.1 h1
  obtain ⟨b1, b2, b3, b4, b5, b6⟩ := cube_bd s1 s2
  by_cases h2 : (n : Int) = 3 * S * S * S
  case neg =>
    have z2 : ((n : Int) != 3 * S * S * S) = true := by simp [h2]
    have HQ := hid (cubE_len (L := L) (H := H) h1 h2)
    clear h2
    go_enter Try.func10, Try.ntmps10
    go_wp2_with (go_at_call 17; refine (in_any _ _ _ _).mono ?_; rintro e w' ⟨rfl, rfl⟩)
    go_ret
    exact ⟨ret_int HQ.out.symm, (Below.refl _ _).alloc (Nat.le_refl _) _⟩
  have z2 : ((n : Int) != 3 * S * S * S) = false := by simp [h2]
  cases hfl : fin L
  · have HQ := hid (cubE_num (L := L) (H := H) h1 h2 (by rw [hfl]; rfl))
    clear h2
    go_enter Try.func10, Try.ntmps10
    go_wp2_with (first | (go_at_call 17; refine (in_any _ _ _ _).mono ?_; rintro e w' ⟨rfl, rfl⟩) | (go_at_call 26; refine (isNum_any _ _).mono ?_; rintro e w' ⟨rfl, m1, rfl⟩))
    go_ret
    exact ⟨ret_int HQ.out.symm, below_drewN ((Below.refl _ _).alloc (Nat.le_refl _) _) _⟩
  cases hfh : fin H
  · have HQ := hid (cubE_num (L := L) (H := H) h1 h2 (by rw [hfl, hfh]; rfl))
    clear h2
    go_enter Try.func10, Try.ntmps10
    go_wp2_with (first | (go_at_call 17; refine (in_any _ _ _ _).mono ?_; rintro e w' ⟨rfl, rfl⟩) | (go_at_call 26; refine (isNum_any _ _).mono ?_; rintro e w' ⟨rfl, m1, rfl⟩))
    go_ret
    exact ⟨ret_int HQ.out.symm, by first | exact below_drewN ((Below.refl _ _).alloc (Nat.le_refl _) _) _ | (simp only [World.drewN_drewN]; exact below_drewN ((Below.refl _ _).alloc (Nat.le_refl _) _) _)⟩
  have h3 : (fin L && fin H) = true := by rw [hfl, hfh]; rfl
  have HE : RowKit.Hid _ := hid (fun hg => ends_in hfl hfh hg)
  cases h4 : FloatKind.f32.format.order H L == some .gt
  · have HQ := hid (cubE_ord h1 h2 h3 h4)
    clear h2 h3
    go_enter Try.func10, Try.ntmps10
    go_wp2_with (first | (go_at_call 17; refine (in_any _ _ _ _).mono ?_; rintro e w' ⟨rfl, rfl⟩) | (go_at_call 26; refine (isNum_any _ _).mono ?_; rintro e w' ⟨rfl, m1, rfl⟩))
    go_ret
    exact ⟨ret_int HQ.out.symm, by first | exact below_drewN ((Below.refl _ _).alloc (Nat.le_refl _) _) _ | (simp only [World.drewN_drewN]; exact below_drewN ((Below.refl _ _).alloc (Nat.le_refl _) _) _)⟩
  obtain ⟨e1, e2⟩ := HE.out h4
  cases h5 : FloatKind.f32.format.order L 3380609024 == some .lt
  · have g5 := e1 h5
    cases h6 : FloatKind.f32.format.order H 1233125376 == some .gt
    · have g6 := e2 h6
      have HQ := hid (cubE_ok h1 h2 h3 h4 (by rw [h5, h6]; rfl))
      clear h2 h3 e1 e2
      go_enter Try.func10, Try.ntmps10
      go_wp2_with (first | (go_at_call 17; refine (in_any _ _ _ _).mono ?_; rintro e w' ⟨rfl, rfl⟩) | (go_at_call 26; refine (isNum_any _ _).mono ?_; rintro e w' ⟨rfl, m1, rfl⟩))
      go_ret
      exact ⟨ret_int HQ.out.symm, by first | exact below_drewN ((Below.refl _ _).alloc (Nat.le_refl _) _) _ | (simp only [World.drewN_drewN]; exact below_drewN ((Below.refl _ _).alloc (Nat.le_refl _) _) _)⟩
    · have HQ := hid (cubE_far h1 h2 h3 h4 (by rw [h5, h6]; rfl))
      clear h2 h3 e1 e2
      cases g6 : FloatKind.f32.format.order L 1233125376 == some .gt
      all_goals
        go_enter Try.func10, Try.ntmps10
        go_wp2_with (first | (go_at_call 17; refine (in_any _ _ _ _).mono ?_; rintro e w' ⟨rfl, rfl⟩) | (go_at_call 26; refine (isNum_any _ _).mono ?_; rintro e w' ⟨rfl, m1, rfl⟩))
        go_ret
        exact ⟨ret_int HQ.out.symm, by first | exact below_drewN ((Below.refl _ _).alloc (Nat.le_refl _) _) _ | (simp only [World.drewN_drewN]; exact below_drewN ((Below.refl _ _).alloc (Nat.le_refl _) _) _)⟩
  · have HQ := hid (cubE_far h1 h2 h3 h4 (by rw [h5]; rfl))
    clear h2 h3 e1 e2
    go_enter Try.func10, Try.ntmps10
    go_wp2_with (first | (go_at_call 17; refine (in_any _ _ _ _).mono ?_; rintro e w' ⟨rfl, rfl⟩) | (go_at_call 26; refine (isNum_any _ _).mono ?_; rintro e w' ⟨rfl, m1, rfl⟩))
    go_ret
    exact ⟨ret_int HQ.out.symm, by first | exact below_drewN ((Below.refl _ _).alloc (Nat.le_refl _) _) _ | (simp only [World.drewN_drewN]; exact below_drewN ((Below.refl _ _).alloc (Nat.le_refl _) _) _)⟩

set_option maxRecDepth 100000 in
set_option maxHeartbeats 2000000 in
theorem entryOf_any (s L H n c i j k : Nat) (A : Option Addr) (F : Nat → Nat) (w : World) (hC : CubOk s L H n) (hi : i < s) (hj : j < s) (hk : k < s) (hF : Src w A n F) :
    Calls Try.prog 19 #[cub s L H A n c, .int .i64 i, .int .i64 j, .int .i64 k] w fun e w' => e = .returned (arr fun m => cl (F (eIx s i j k + m))) ∧ Below w.heap.size w w' := by
  have hlt := eIx_lt hC.len hi hj hk
  have hs2 := hC.s2
  clear hC
  obtain ⟨b, off, rfl, hb, hR⟩ := hF (by omega)
  clear hF
  have p1 : s * k ≤ 17 * 17 := small_mul (by omega) (by omega)
  have p2 : s * (j + s * k) ≤ 17 * 306 := small_mul (by omega) (by omega)
  obtain ⟨u, hu⟩ : ∃ u, u = s * k := ⟨_, rfl⟩
  obtain ⟨v, hv⟩ : ∃ v, v = s * (j + u) := ⟨_, rfl⟩
  obtain ⟨m, hm⟩ : ∃ m, m = 3 * (i + v) := ⟨_, rfl⟩
  have he : eIx s i j k = m := by unfold eIx; rw [hm, hv, hu]
  rw [he] at hlt ⊢
  rw [← hu] at p1 p2
  rw [← hv] at p2
  have e1 : (s : Int) * (k : Int) = (u : Int) := by rw [hu]; simp
  have e2 : (s : Int) * ((j : Int) + (u : Int)) = (v : Int) := by rw [hv]; simp
  have e3 : 3 * ((i : Int) + (v : Int)) = (m : Int) := by rw [hm]; simp
  have u1 : (u : Int) ≤ 306 := by omega
  have u2 : (v : Int) ≤ 6000 := by omega
  have u3 : (m : Int) + 3 ≤ (n : Int) := by omega
  have u6 : (m : Int) ≤ 30000 := by omega
  have i1 : (i : Int) ≤ 17 := by omega
  have j1 : (j : Int) ≤ 17 := by omega
  have w1 : IntKind.i64.wrap ((m : Int) + 1) = (m : Int) + 1 := by rw [IntKind.wrap_i64]; omega
  have w2 : IntKind.i64.wrap ((m : Int) + 2) = (m : Int) + 2 := by rw [IntKind.wrap_i64]; omega
  have t1 : ((m : Int) + 1).toNat = m + 1 := by omega
  have t2 : ((m : Int) + 2).toNat = m + 2 := by omega
  have q0 : (m : Int) < (n : Int) := by omega
  have q1 : (m : Int) + 1 < (n : Int) := by omega
  have q2 : (m : Int) + 2 < (n : Int) := by omega
  have q3 : 0 ≤ (m : Int) + 1 := by omega
  have q4 : 0 ≤ (m : Int) + 2 := by omega
  have d0 := hR m (by omega)
  have d1 := hR (m + 1) (by omega)
  have d2 := hR (m + 2) (by omega)
  clear hR hu hv hm he hs2 hi hj hk hlt
  go_enter Try.func19, Try.ntmps19
  go_wp2_with fail
  have B0 : Blk ((w.alloc (.cells #[.int .i64 s, .float .f32 L, .float .f32 H, .slice (some ⟨b, off, none⟩) n c] 25)).alloc (.cells #[.float .f32 0, .float .f32 0, .float .f32 0] 30)) w.heap.size 25 #[.int .i64 s, .float .f32 L, .float .f32 H, .slice (some ⟨b, off, none⟩) n c] := (Blk.new_at _ _ _ rfl).alloc _
  have B1 : Blk ((w.alloc (.cells #[.int .i64 s, .float .f32 L, .float .f32 H, .slice (some ⟨b, off, none⟩) n c] 25)).alloc (.cells #[.float .f32 0, .float .f32 0, .float .f32 0] 30)) (w.heap.size + 1) 30 #[.float .f32 0, .float .f32 0, .float .f32 0] := Blk.new_at _ _ _ (by simp)
  have BE : Below w.heap.size w ((w.alloc (.cells #[.int .i64 s, .float .f32 L, .float .f32 H, .slice (some ⟨b, off, none⟩) n c] 25)).alloc (.cells #[.float .f32 0, .float .f32 0, .float .f32 0] 30)) := ((Below.refl _ _).alloc (Nat.le_refl _) _).alloc (by simp) _
  replace d0 := (BE.cell (p := ⟨b, off + m, none⟩) hb).trans d0
  replace d1 := (BE.cell (p := ⟨b, off + (m + 1), none⟩) hb).trans d1
  replace d2 := (BE.cell (p := ⟨b, off + (m + 2), none⟩) hb).trans d2
  obtain ⟨W, hW⟩ : ∃ W, (w.alloc (.cells #[.int .i64 s, .float .f32 L, .float .f32 H, .slice (some ⟨b, off, none⟩) n c] 25)).alloc (.cells #[.float .f32 0, .float .f32 0, .float .f32 0] 30) = W := ⟨_, rfl⟩
  rw [hW] at B0 B1 BE d0 d1 d2 ⊢
  clear hW
  have a3 := B0.cell 3
  have z0 := B1.cell 0
  have z1 := B1.cell 1
  have z2 := B1.cell 2
  have f0 := B1.frozen 0
  have f1 := B1.frozen 1
  have f2 := B1.frozen 2
  simp at a3 z0 z1 z2
  have hne : w.heap.size + 1 ≠ b := by omega
  have HB1 := hid B1
  have HBE := hid BE
  clear B0 B1 BE hb
  go_region_held3 (fun w' => w'.cell? ⟨w.heap.size, 3, none⟩ = some (.slice (some ⟨b, off, none⟩) n c) ∧ w'.cell? ⟨b, off + m, none⟩ = some (.float .f32 (F m)) ∧ w'.cell? ⟨b, off + (m + 1), none⟩ = some (.float .f32 (F (m + 1))) ∧ w'.cell? ⟨b, off + (m + 2), none⟩ = some (.float .f32 (F (m + 2)))) (go_keep)
    (first | (go_at_call 57; refine (fix_any _ _).mono ?_; rintro e w' ⟨rfl, rfl⟩))
  all_goals
    go_wp2_with fail
    have hblk := HB1.out.set3 (.float .f32 (cl (F m))) (.float .f32 (cl (F (m + 1)))) (.float .f32 (cl (F (m + 2))))
    have be := ((HBE.out.setCell (p := ⟨w.heap.size + 1, 0, none⟩) (by simp) (.float .f32 (cl (F m)))).setCell (p := ⟨w.heap.size + 1, 1, none⟩) (by simp) (.float .f32 (cl (F (m + 1))))).setCell (p := ⟨w.heap.size + 1, 2, none⟩) (by simp) (.float .f32 (cl (F (m + 2))))
    exact bodyPost_ret (v := arr fun j => cl (F (m + j))) (results_cell_row rfl _ _ _ _ _ _ _ rfl (show Blk (World.drew _) _ _ _ from hblk) Try.underlying30 rfl (by kernel_rfl)) rfl ⟨rfl, be.drew⟩
end Go.Proofs.Ythnbfllhmjpbjaa
