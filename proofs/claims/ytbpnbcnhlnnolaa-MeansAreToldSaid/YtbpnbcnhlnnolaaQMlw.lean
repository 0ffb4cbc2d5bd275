/-
  MeansAreTold: the law's walk.
-/
import Derived.Test.YtbpnbcnhlnnolaaQMl
namespace Go.Proofs.Ytbpnbcnhlnnolaa
open Go.RowKit
open Ieee (Datum Format signed)

theorem share_fv {v : Nat} (h1 : FloatKind.f32.format.order v 0 = some .gt ∨ FloatKind.f32.format.order v 0 = some .eq) (h2 : FloatKind.f32.format.order v 1065353216 = some .lt ∨ FloatKind.f32.format.order v 1065353216 = some .eq) :
    ∃ a : Rat, Fv .f32 v a ∧ 0 ≤ a ∧ a ≤ 1 := by
  have f1 : Fv .f32 1065353216 1 := ⟨false, 8388608, -23, by decide +kernel, by unfold dv pw; decide +kernel⟩
  have f0 : Fv .f32 0 0 := ⟨false, 0, -149, by decide +kernel, (dv_zero _ _).symm⟩
  have r1 : FloatKind.f32.format.read 1065353216 = .number false 8388608 (-23) := by decide +kernel
  have r0 : FloatKind.f32.format.read 0 = .number false 0 (-149) := by decide +kernel
  cases hr : FloatKind.f32.format.read v with
  | nan s t =>
    have : isN .f32 v = true := by unfold isN; rw [hr]; rfl
    rw [order_nanl .f32 _ _ this] at h1
    rcases h1 with h | h <;> cases h
  | infinity s =>
    unfold Format.order at h1 h2
    rw [hr, r0] at h1
    rw [hr, r1] at h2
    cases s
    · rcases h2 with h | h <;> simp [Datum.order] at h
    · rcases h1 with h | h <;> simp [Datum.order] at h
  | number s m p =>
    have hv : Fv .f32 v (dv s m p) := ⟨_, _, _, hr, rfl⟩
    refine ⟨_, hv, ?_, ?_⟩
    · have := forder hv f0
      rw [this] at h1
      by_cases c : dv s m p < 0
      · rw [if_pos c] at h1
        rcases h1 with h | h <;> cases h
      · grind
    · have := forder hv f1
      rw [this] at h2
      by_cases c : dv s m p < 1
      · grind
      · rw [if_neg c] at h2
        by_cases c2 : 1 < dv s m p
        · rw [if_pos c2] at h2
          rcases h2 with h | h <;> cases h
        · grind

set_option maxRecDepth 100000 in
set_option maxHeartbeats 2000000 in
theorem means_out (v : Nat) (d x y : Int) (h : (FloatKind.f32.format.order v 0 == some .gt || FloatKind.f32.format.order v 0 == some .eq) = false ∨ (FloatKind.f32.format.order v 1065353216 == some .lt || FloatKind.f32.format.order v 1065353216 == some .eq) = false ∨ inB d 1 16 = false) (w : World) :
    Calls Try.prog 13 #[.float .f32 v, .int .i64 d, .int .i64 x, .int .i64 y] w fun e w' => e = .returned (.bool true) ∧ Below w.heap.size w w' := by
  cases h1 : (FloatKind.f32.format.order v 0 == some .gt || FloatKind.f32.format.order v 0 == some .eq) <;>
  cases h2 : (FloatKind.f32.format.order v 1065353216 == some .lt || FloatKind.f32.format.order v 1065353216 == some .eq) <;>
  cases h3 : inB d 1 16 <;>
  first
    | (exfalso; rw [h1, h2, h3] at h; simp at h; done)
    | (clear h
       go_enter Try.func13, Try.ntmps13
       go_wp2_with (first | (go_at_call 26; refine (finishes_any _).mono ?_; rintro e w' ⟨rfl, n0, rfl⟩) | (go_at_call 69; refine (in_any _ _ _ _).mono ?_; rintro e w' ⟨rfl, rfl⟩))
       go_ret
       exact ⟨rfl, by first | exact below_drewN (below_drewN (Below.refl _ _) _) _ | exact below_drewN (Below.refl _ _) _⟩)

theorem sumZ_bound {f : Nat → Int} {M : Int} : ∀ {n : Nat}, (∀ t : Nat, t < n → 0 ≤ f t ∧ f t ≤ M) → 0 ≤ sumZ f n ∧ sumZ f n ≤ n * M
  | 0, _ => by simp [sumZ]
  | n + 1, h => by
    have i := sumZ_bound (n := n) fun t ht => h t (by omega)
    have g := h n (by omega)
    have e : ((n + 1 : Nat) : Int) * M = (n : Int) * M + M := by rw [Int.natCast_add, Int.add_mul]; simp
    rw [e]
    simp only [sumZ]
    omega

set_option maxRecDepth 100000 in
set_option maxHeartbeats 4000000 in
theorem means_in (v : Nat) (d x y : Int) (h1 : (FloatKind.f32.format.order v 0 == some .gt || FloatKind.f32.format.order v 0 == some .eq) = true) (h2 : (FloatKind.f32.format.order v 1065353216 == some .lt || FloatKind.f32.format.order v 1065353216 == some .eq) = true) (h3 : 1 ≤ d ∧ d ≤ 16) (w : World) :
    Calls Try.prog 13 #[.float .f32 v, .int .i64 d, .int .i64 x, .int .i64 y] w fun e w' => e = .returned (.bool true) ∧ Below w.heap.size w w' := by
  have h3' : inB d 1 16 = true := by unfold inB; simp; omega
  obtain ⟨a, hv, a0, a1⟩ := share_fv (v := v) (by simpa using h1) (by simpa using h2)
  have hS := sum_kap hv a0 a1 h3
  obtain ⟨yy, _, _, hk⟩ := kap hv a0 a1 h3
  have hb := mx_bound h3
  obtain ⟨L, HLd, hL⟩ := ldexp_mx h3
  obtain ⟨G, hG⟩ : ∃ G : Nat → Int, G = fun j => lvC v (odC (tk (ob (Int.tmod x 1000)) (ob (Int.tmod y 1000)) j)) d := ⟨_, rfl⟩
  have hsum : sumZ G 64 = sumZ (fun t => lvC v (odC t) d) 64 := by rw [hG]; exact sum_tk (fun t => lvC v (odC t) d) (ob_lt _) (ob_lt _)
  have hGb : ∀ j : Nat, j < 64 → 0 ≤ G j ∧ G j ≤ 65535 := fun j hj => by
    have ht : tk (ob (Int.tmod x 1000)) (ob (Int.tmod y 1000)) j < 64 := by
      unfold tk
      have := oC_bound ((ob (Int.tmod x 1000) + j % 8) % 8) ((ob (Int.tmod y 1000) + j / 8) % 8) 3 (Nat.le_refl _)
      omega
    have := (hk _ ht).1
    rw [hG]
    dsimp only
    omega
  have HGB := hid hGb
  have HGB2 := hid fun (n : Nat) (hn : n ≤ 64) => sumZ_bound (f := G) (M := 65535) (n := n) fun t ht => hGb t (by omega)
  rw [← hsum] at hS
  have HEND := hid (mean_end hv a0 a1 h3 (HGB2.out 64 (by omega)).1 (by have := (HGB2.out 64 (by omega)).2; omega) hS hL)
  have HL := fun (off : Nat) w => level_ok v off d h3 w
  have HO := fun (X Y : Int) w => offset_ok 1 0 X Y 0 (by omega) w
  have HGd := hid (show ∀ (j : Nat), G j = lvC v (ofC 1 0 (Int.tmod x 1000 + ((j % 8 : Nat) : Int)) (Int.tmod y 1000 + ((j / 8 : Nat) : Int)) 0) d from fun j => by rw [hG, ofC_1, tk_ord])
  have hp := pw_mx d
  have hn := hv.not_nan
  have f1 := fun w => fcvv (widen_some v hn) w
  have f2 := fcdv (widen_some v hn)
  have g1 := h3.1
  have g2 := h3.2
  have hx1 := Int.tmod_lt_of_pos x (by decide : (0 : Int) < 1000)
  have hx2 : -1000 < Int.tmod x 1000 := Int.lt_tmod_of_pos x (by decide)
  have hy1 := Int.tmod_lt_of_pos y (by decide : (0 : Int) < 1000)
  have hy2 : -1000 < Int.tmod y 1000 := Int.lt_tmod_of_pos y (by decide)
  clear hL hS hsum hk hG hGb hv a0 a1 h3 hn
  go_enter Try.func13, Try.ntmps13
  go_wp2_with (first | (go_at_call 26; refine (finishes_any _).mono ?_; rintro e w' ⟨rfl, n0, rfl⟩) | (go_at_call 69; refine (in_any _ _ _ _).mono ?_; rintro e w' ⟨rfl, rfl⟩))
  go_loopw [9, 33] (fun s i wr => ∃ k : Nat, k ≤ 64 ∧ i = .int .i64 k ∧ s = .int .i64 (sumZ G k) ∧ Below w.heap.size w wr) (fun _ i _ => 64 - (intOf i).toNat)
  case atStart => exact ⟨0, by omega, rfl, rfl, below_drewN (Below.refl _ _) _⟩
  case round =>
    obtain ⟨k, hk, rfl, rfl, hbe⟩ := hrel
    have HBE := hid hbe
    clear hbe
    by_cases hlt : k < 64
    · have hb1 := HGB2.out k hk
      have hb2 := HGB.out k hlt
      have HS : RowKit.Hid (sumZ G (k + 1) = sumZ G k + G k) := rfl
      have HGk := hid (HGd.out k)
      generalize sumZ G k = s0 at *
      clear HEND
      go_wp2_with (first | (go_at_call 66; refine (HO _ _ _).mono ?_; rintro e w1 ⟨rfl, hb3⟩) | (go_at_call 64; refine (HL _ _).mono ?_; rintro e w' ⟨rfl, n2, rfl⟩))
      go_roundw
      case rel => exact ⟨k + 1, by omega, by go_num, by
        have e := HGk.out
        have e8 : ((k % 8 : Nat) : Int) = (k : Int) % 8 := by omega
        have e9 : ((k / 8 : Nat) : Int) = (k : Int) / 8 := by omega
        rw [e8, e9] at e
        rw [HS.out, ← e]
        congr 1
        simp only [wrap64]
        omega, below_drewN (below_to HBE.out hb3) _⟩
      case measure => simp [intOf]; omega
    · have hk5 : k = 64 := by omega
      subst hk5
      obtain ⟨Q1, Q2, Q3, Q4, e1, e2, e3, e4, e5⟩ := HEND.out
      have hb1 := HGB2.out 64 hk
      generalize sumZ G 64 = S at *
      have k1 := fun w => fopv e1 w
      have k2 := fdrv e1
      have k3 := fun w => fopv e2 w
      have k4 := fdrv e2
      have k5 := fun w => fopv e3 w
      have k6 := fdrv e3
      have k7 := fun w => fopv e4 w
      have k8 := fdrv e4
      clear e1 e2 e3 e4 HEND
      rcases e5 with e5 | e5 <;>
      (go_wp2_with (first | (go_at_call 21; refine (abs_any _ _).mono ?_; rintro e w' ⟨rfl, rfl⟩) | (go_at_call 22; refine (HLd _).mono ?_; rintro e w' ⟨rfl, n3, rfl⟩))
       go_ret
       exact ⟨rfl, below_drewN HBE.out _⟩)

theorem meansAreTold_any (v : Nat) (d x y : Int) (w : World) : Calls Try.prog 13 #[.float .f32 v, .int .i64 d, .int .i64 x, .int .i64 y] w fun e w' => e = .returned (.bool true) ∧ Below w.heap.size w w' := by
  cases h1 : (FloatKind.f32.format.order v 0 == some .gt || FloatKind.f32.format.order v 0 == some .eq) with
  | false => exact means_out v d x y (Or.inl h1) w
  | true =>
    cases h2 : (FloatKind.f32.format.order v 1065353216 == some .lt || FloatKind.f32.format.order v 1065353216 == some .eq) with
    | false => exact means_out v d x y (Or.inr (Or.inl h2)) w
    | true =>
      by_cases h3 : 1 ≤ d ∧ d ≤ 16
      · exact means_in v d x y h1 h2 h3 w
      · exact means_out v d x y (Or.inr (Or.inr (by unfold inB; simp; omega))) w
end Go.Proofs.Ytbpnbcnhlnnolaa
