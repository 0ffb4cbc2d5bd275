/-
  Colours: hue, saturation and value of a pixel in the program.
-/
import Derived.Test.YtcmakibomdinbaaCHsvR
namespace Go.Proofs.Ytcmakibomdinbaa
open Go.RowKit

theorem nanF (w : World) : cl (fcv .f64 9221120237041090561 .f32 w) = 2143289344 := by
  have h : isN .f64 9221120237041090561 = true := by decide +kernel
  unfold cl
  apply cn_of_nan
  unfold fcv
  have hn : floatToFloatBits .f64 9221120237041090561 .f32 = none := by decide +kernel
  rw [hn]
  simp only [h, if_true, Option.getD_none]
  exact nanConvCut_isN ..

theorem mathNaN_any (w : World) : Calls Try.prog 129 #[] w fun e w' => e = .returned (.float .f64 9221120237041090561) ∧ w = w' := by
  go_enter Try.func129, Try.ntmps129
  go_wp2
  go_ret
  exact ⟨rfl, rfl⟩

theorem theNaNp_any (w : World) : Calls Try.prog 76 #[] w fun e w' => e = .returned (.float .f32 2143289344) ∧ ∃ n, w' = w.drewN n := by
  have H := hid nanF
  go_enter Try.func76, Try.ntmps76
  go_wp2_with (first | (go_at_call 129; refine (mathNaN_any _).mono ?_; rintro e w' ⟨rfl, rfl⟩) | (go_at_call 77; refine (clean_any _ _).mono ?_; rintro e w' ⟨rfl, rfl⟩))
  go_ret
  exact ⟨ret_f (H.out _), _, rfl⟩

/-- Some single that is G behind Clean. -/
def Gave (w : World) (G : Nat) (e : Ending) (w' : World) : Prop := ∃ v, e = .returned (.float .f32 v) ∧ cl v = G ∧ Below w.heap.size w w'

set_option maxRecDepth 100000 in
set_option maxHeartbeats 4000000 in
theorem hue_any (f : Nat → Nat) (V D0 : Nat) (w : World) (C0 : cn .f32 (f 0) = f 0) (C1 : cn .f32 (f 1) = f 1) (C2 : cn .f32 (f 2) = f 2) :
    Calls Try.prog 78 #[pix f, .float .f32 V, .float .f32 D0] w (Gave w (hueC f V (cn .f32 D0))) := by
  have px := pix_cells f
  have H0 := hid C0
  have H1 := hid C1
  have H2 := hid C2
  by_cases hd : (FloatKind.f32.format.order (cn .f32 D0) 0 == some .eq) = true
  · have HH : RowKit.Hid (hueC f V (cn .f32 D0) = 0) := hid (by unfold hueC; rw [if_pos hd])
    rw [order_c0] at hd
    clear C0 C1 C2
    go_enter Try.func78, Try.ntmps78
    go_wp2_with fail
    go_ret
    exact ⟨_, rfl, by rw [HH.out]; exact cn0, (Below.refl _ _).alloc (Nat.le_refl _) _⟩
  · have HH0 : hueC f V (cn .f32 D0) = upC (cop .quo .f32 (sixC f V (cn .f32 D0)) 1086324736) := by unfold hueC; rw [if_neg hd]
    rw [order_c0] at hd
    have hd1 := Bool.eq_false_iff.2 hd
    clear hd
    by_cases hr : (FloatKind.f32.format.order V (f 0) == some .eq) = true
    · -- red
      have HX : sixC f V (cn .f32 D0) = (cop .quo .f32 (cop .sub .f32 (f 1) (f 2)) (cn .f32 D0)) := by unfold sixC; rw [if_pos hr]
      by_cases hn : (FloatKind.f32.format.order (cop .quo .f32 (cop .quo .f32 (cop .sub .f32 (f 1) (f 2)) (cn .f32 D0)) 1086324736) 0 == some .lt) = true
      all_goals
        have HH : RowKit.Hid (hueC f V (cn .f32 D0) = upC (cop .quo .f32 (cop .quo .f32 (cop .sub .f32 (f 1) (f 2)) (cn .f32 D0)) 1086324736)) := hid (by rw [← HX]; exact HH0)
        unfold upC at HH
        first | rw [if_pos hn] at HH | rw [if_neg hn] at HH
        have hn1 : ∀ B, (FloatKind.f32.format.order (cop .quo .f32 (cop .quo .f32 (cop .sub .f32 (f 1) (f 2)) (cn .f32 D0)) 1086324736) 0 == some .lt) = B → ∀ wa wb we, (FloatKind.f32.format.order (fop .quo .f32 (fop .quo .f32 (fop .sub .f32 (f 1) (f 2) wa) D0 wb) 1086324736 we) 0 == some .lt) = B := by
          intro B hB wa wb we
          rw [← order_c0]
          simp only [cn_fop, C1, C2, cn6]
          exact hB
        first | (have hn2 := hn1 _ hn) | (have hn2 := hn1 _ (Bool.eq_false_iff.2 hn))
        clear hn hn1 HX HH0 C0 C1 C2 
        go_enter Try.func78, Try.ntmps78
        go_wp2_with fail
        go_quiet (fail)
        go_wp2_with fail
        go_ret
        exact ⟨_, rfl, by rw [HH.out]; unfold cl; simp only [cn_fop, H1.out, H2.out, cn6, cn1], ends_below ((Below.refl _ _).alloc (Nat.le_refl _) _) ⟨_, rfl⟩⟩
    · have hr' := Bool.eq_false_iff.2 hr
      by_cases hg : (FloatKind.f32.format.order V (f 1) == some .eq) = true
      · -- green
        have HX : sixC f V (cn .f32 D0) = (cop .add .f32 (cop .quo .f32 (cop .sub .f32 (f 2) (f 0)) (cn .f32 D0)) 1073741824) := by unfold sixC; rw [if_neg hr, if_pos hg]
        by_cases hn : (FloatKind.f32.format.order (cop .quo .f32 (cop .add .f32 (cop .quo .f32 (cop .sub .f32 (f 2) (f 0)) (cn .f32 D0)) 1073741824) 1086324736) 0 == some .lt) = true
        all_goals
          have HH : RowKit.Hid (hueC f V (cn .f32 D0) = upC (cop .quo .f32 (cop .add .f32 (cop .quo .f32 (cop .sub .f32 (f 2) (f 0)) (cn .f32 D0)) 1073741824) 1086324736)) := hid (by rw [← HX]; exact HH0)
          unfold upC at HH
          first | rw [if_pos hn] at HH | rw [if_neg hn] at HH
          have hn1 : ∀ B, (FloatKind.f32.format.order (cop .quo .f32 (cop .add .f32 (cop .quo .f32 (cop .sub .f32 (f 2) (f 0)) (cn .f32 D0)) 1073741824) 1086324736) 0 == some .lt) = B → ∀ wa wb wc we, (FloatKind.f32.format.order (fop .quo .f32 (fop .add .f32 (fop .quo .f32 (fop .sub .f32 (f 2) (f 0) wa) D0 wb) 1073741824 wc) 1086324736 we) 0 == some .lt) = B := by
            intro B hB wa wb wc we
            rw [← order_c0]
            simp only [cn_fop, C0, C2, cn6, cn2]
            exact hB
          first | (have hn2 := hn1 _ hn) | (have hn2 := hn1 _ (Bool.eq_false_iff.2 hn))
          clear hn hn1 HX HH0 C0 C1 C2 hr
          go_enter Try.func78, Try.ntmps78
          go_wp2_with fail
          go_quiet (fail)
          go_wp2_with fail
          go_ret
          exact ⟨_, rfl, by rw [HH.out]; unfold cl; simp only [cn_fop, H0.out, H2.out, cn6, cn2, cn1], ends_below ((Below.refl _ _).alloc (Nat.le_refl _) _) ⟨_, rfl⟩⟩
      · -- blue
        have hg' := Bool.eq_false_iff.2 hg
        have HX : sixC f V (cn .f32 D0) = (cop .add .f32 (cop .quo .f32 (cop .sub .f32 (f 0) (f 1)) (cn .f32 D0)) 1082130432) := by unfold sixC; rw [if_neg hr, if_neg hg]
        by_cases hn : (FloatKind.f32.format.order (cop .quo .f32 (cop .add .f32 (cop .quo .f32 (cop .sub .f32 (f 0) (f 1)) (cn .f32 D0)) 1082130432) 1086324736) 0 == some .lt) = true
        all_goals
          have HH : RowKit.Hid (hueC f V (cn .f32 D0) = upC (cop .quo .f32 (cop .add .f32 (cop .quo .f32 (cop .sub .f32 (f 0) (f 1)) (cn .f32 D0)) 1082130432) 1086324736)) := hid (by rw [← HX]; exact HH0)
          unfold upC at HH
          first | rw [if_pos hn] at HH | rw [if_neg hn] at HH
          have hn1 : ∀ B, (FloatKind.f32.format.order (cop .quo .f32 (cop .add .f32 (cop .quo .f32 (cop .sub .f32 (f 0) (f 1)) (cn .f32 D0)) 1082130432) 1086324736) 0 == some .lt) = B → ∀ wa wb wc we, (FloatKind.f32.format.order (fop .quo .f32 (fop .add .f32 (fop .quo .f32 (fop .sub .f32 (f 0) (f 1) wa) D0 wb) 1082130432 wc) 1086324736 we) 0 == some .lt) = B := by
            intro B hB wa wb wc we
            rw [← order_c0]
            simp only [cn_fop, C0, C1, cn6, cn4]
            exact hB
          first | (have hn2 := hn1 _ hn) | (have hn2 := hn1 _ (Bool.eq_false_iff.2 hn))
          clear hn hn1 HX HH0 C0 C1 C2 hr hg
          go_enter Try.func78, Try.ntmps78
          go_wp2_with fail
          go_quiet (fail)
          go_wp2_with fail
          go_ret
          exact ⟨_, rfl, by rw [HH.out]; unfold cl; simp only [cn_fop, H0.out, H1.out, cn6, cn4, cn1], ends_below ((Below.refl _ _).alloc (Nat.le_refl _) _) ⟨_, rfl⟩⟩

theorem mx_step (f : Nat → Nat) (k : Nat) : mx f k = if (FloatKind.f32.format.order (f k) (mx f (k - 1)) == some .gt) = true then f k else mx f (k - 1) := by
  cases k with
  | zero => exact (ite_self _).symm
  | succ k => rfl
theorem mn_step (f : Nat → Nat) (k : Nat) : mn f k = if (FloatKind.f32.format.order (f k) (mn f (k - 1)) == some .lt) = true then f k else mn f (k - 1) := by
  cases k with
  | zero => exact (ite_self _).symm
  | succ k => rfl

/-- The first of three that is a NaN (3: none). -/
def nanAt (f : Nat → Nat) : Nat := if isN .f32 (f 0) = true then 0 else if isN .f32 (f 1) = true then 1 else if isN .f32 (f 2) = true then 2 else 3
theorem nanAt_le (f : Nat → Nat) : nanAt f ≤ 3 := by unfold nanAt; split <;> (try split) <;> (try split) <;> omega
theorem nanAt_pre (f : Nat → Nat) (k : Nat) (hk : k < nanAt f) : isN .f32 (f k) = false := by
  unfold nanAt at hk
  by_cases h0 : isN .f32 (f 0) = true
  · rw [if_pos h0] at hk; omega
  · rw [if_neg h0] at hk
    by_cases h1 : isN .f32 (f 1) = true
    · rw [if_pos h1] at hk
      obtain rfl : k = 0 := by omega
      simpa using h0
    · rw [if_neg h1] at hk
      by_cases h2 : isN .f32 (f 2) = true
      · rw [if_pos h2] at hk
        have : k = 0 ∨ k = 1 := by omega
        rcases this with rfl | rfl
        · simpa using h0
        · simpa using h1
      · rw [if_neg h2] at hk
        have : k = 0 ∨ k = 1 ∨ k = 2 := by omega
        rcases this with rfl | rfl | rfl
        · simpa using h0
        · simpa using h1
        · simpa using h2
theorem nanAt_at (f : Nat → Nat) (h : nanAt f < 3) : isN .f32 (f (nanAt f)) = true := by
  unfold nanAt at h ⊢
  by_cases h0 : isN .f32 (f 0) = true
  · rw [if_pos h0]; exact h0
  · rw [if_neg h0] at h ⊢
    by_cases h1 : isN .f32 (f 1) = true
    · rw [if_pos h1]; exact h1
    · rw [if_neg h1] at h ⊢
      by_cases h2 : isN .f32 (f 2) = true
      · rw [if_pos h2]; exact h2
      · rw [if_neg h2] at h; omega

/-- What ToHSV gives. -/
def hsvC (f : Nat → Nat) : Ending :=
  if nanAt f < 3 then ret3 2143289344 2143289344 2143289344
  else ret3 (hueC f (mx f 2) (cop .sub .f32 (mx f 2) (mn f 2))) (cn .f32 (satC (mx f 2) (cop .sub .f32 (mx f 2) (mn f 2)))) (mx f 2)

set_option maxRecDepth 100000 in
set_option maxHeartbeats 4000000 in
theorem hsvp_any (f : Nat → Nat) (w : World) : Calls Try.prog 19 #[pix f] w fun e w' => e = hsvC f ∧ Below w.heap.size w w' := by
  have px := pix_cells f
  go_enter Try.func19, Try.ntmps19
  go_wp2_with fail
  go_quiet (fail)
  go_wp2_with fail
  go_loop [5, 6, 17] (fun v m i => ∃ k : Nat, k ≤ nanAt f ∧ i = .int .i64 k ∧ v = .float .f32 (mx f (k - 1)) ∧ m = .float .f32 (mn f (k - 1))) (fun _ _ i => 3 - (intOf i).toNat)
  case atStart => exact ⟨0, by omega, rfl, rfl, rfl⟩
  case round =>
    obtain ⟨k, hk, rfl, rfl, rfl⟩ := hrel
    have h3 := nanAt_le f
    have q := ne_self .f32 (f k)
    by_cases hlt : k < nanAt f
    · have hp := nanAt_pre f k hlt
      rw [hp] at q
      have e1 := mx_step f k
      have e2 := mn_step f k
      have hk3 : k = 0 ∨ k = 1 ∨ k = 2 := by omega
      by_cases hg : (FloatKind.f32.format.order (f k) (mx f (k - 1)) == some .gt) = true
      all_goals
        by_cases hl : (FloatKind.f32.format.order (f k) (mn f (k - 1)) == some .lt) = true
        all_goals
          first | rw [if_pos hg] at e1 | rw [if_neg hg] at e1
          first | rw [if_pos hl] at e2 | rw [if_neg hl] at e2
          have E1 := hid e1
          have E2 := hid e2
          have HLT := hid hlt
          clear e1 e2 hp hlt h3
          first | (have hg' := Bool.eq_false_iff.2 hg; clear hg) | (have hg' := hg; clear hg)
          first | (have hl' := Bool.eq_false_iff.2 hl; clear hl) | (have hl' := hl; clear hl)
          obtain rfl | rfl | rfl := hk3
          all_goals
            simp only [Nat.zero_sub, Nat.reduceSub] at hg' hl'
            go_wp2_with fail
            go_round
            case rel => exact ⟨_, HLT.out, rfl, congrArg _ E1.out.symm, congrArg _ E2.out.symm⟩
            case measure => simp [intOf]
    · obtain rfl : k = nanAt f := by omega
      by_cases hz : nanAt f < 3
      · have hn := nanAt_at f hz
        rw [hn] at q
        have HC : RowKit.Hid (hsvC f = ret3 2143289344 2143289344 2143289344) := hid (by unfold hsvC; rw [if_pos hz])
        clear hn h3
        generalize nanAt f = j at *
        have hj : j = 0 ∨ j = 1 ∨ j = 2 := by omega
        obtain rfl | rfl | rfl := hj
        all_goals
          clear hk hlt hz
          go_wp2_with (go_at_call 76; refine (theNaNp_any _).mono ?_; rintro e w' ⟨rfl, k, rfl⟩)
          go_ret3
          exact ⟨HC.out.symm, ends_below ((Below.refl _ _).alloc (Nat.le_refl _) _) ⟨_, rfl⟩⟩
      · have HC : RowKit.Hid (hsvC f = ret3 (hueC f (mx f 2) (cop .sub .f32 (mx f 2) (mn f 2))) (cn .f32 (satC (mx f 2) (cop .sub .f32 (mx f 2) (mn f 2)))) (mx f 2)) := hid (by unfold hsvC; rw [if_neg hz])
        have n0 := nanAt_pre f 0 (by omega)
        have n1 := nanAt_pre f 1 (by omega)
        have n2 := nanAt_pre f 2 (by omega)
        have C0 := hid (cn_of_not n0)
        have C1 := hid (cn_of_not n1)
        have C2 := hid (cn_of_not n2)
        have CV := cn_of_not (show isN .f32 (mx f 2) = false by rcases mx_or f with h | h | h <;> rw [h] <;> assumption)
        have CM := cn_of_not (show isN .f32 (mn f 2) = false by rcases mn_or f with h | h | h <;> rw [h] <;> assumption)
        clear n0 n1 n2 q
        have hz3 : nanAt f = 3 := by omega
        rw [hz3]
        clear hz hz3 hk hlt h3
        simp only [Nat.reduceSub]
        generalize mx f 2 = V at *
        generalize mn f 2 = M at *
        have HV := hid CV
        have HM := hid CM
        clear CV CM
        by_cases hv : (FloatKind.f32.format.order V 0 == some .eq) = true
        all_goals
          have HS : RowKit.Hid (satC V (cop .sub .f32 V M) = if (FloatKind.f32.format.order V 0 == some .eq) = true then 0 else cop .quo .f32 (cop .sub .f32 V M) V) := hid rfl
          first | rw [if_pos hv] at HS | rw [if_neg hv] at HS
          first | (have hv2 := bne_false hv; clear hv) | (have hv2 := bne_true (Bool.eq_false_iff.2 hv); clear hv)
          go_wp2_with (first
            | (go_at_call 78; refine (hue_any f _ _ _ C0.out C1.out C2.out).mono ?_; rintro e w1 ⟨v, rfl, hv1, hb1⟩; have HV1 := hid hv1; have HB1 := hid hb1; clear hv1 hb1)
            | (go_at_call 77; refine (clean_any _ _).mono ?_; rintro e w' ⟨rfl, rfl⟩))
          go_ret3
          refine ⟨?_, ?_⟩
          · rw [HC.out]
            refine ret3_eq ?_ ?_ rfl
            · rw [HV1.out, cn_fop, HV.out, HM.out]
            · rw [HS.out]; first | exact cn0 | (rw [cn_cop]; unfold cl; simp only [cn_fop, HV.out, HM.out])
          · exact ends_below ((below_drewN ((Below.refl _ _).alloc (Nat.le_refl _) _) _).trans (HB1.out.mono (by simp))) (by first | exact ⟨0, rfl⟩ | exact ⟨_, rfl⟩)
end Go.Proofs.Ytcmakibomdinbaa
