/-
  Colours: hue, saturation and value of a pixel in the reference.
-/
import Derived.Test.YtcmakibomdinbaaCLeaf
namespace Go.Proofs.Ytcmakibomdinbaa
open Go.RowKit

def pix (f : Nat → Nat) : Value := .agg #[.float .f32 (f 0), .float .f32 (f 1), .float .f32 (f 2), .float .f32 (f 3)]
theorem pix_cells (f : Nat → Nat) : pix f = .agg #[.float .f32 (f 0), .float .f32 (f 1), .float .f32 (f 2), .float .f32 (f 3)] := rfl

/-- The greatest, the least of the first k + 1. -/
def mx (f : Nat → Nat) : Nat → Nat
  | 0 => f 0
  | k + 1 => if (FloatKind.f32.format.order (f (k + 1)) (mx f k) == some .gt) = true then f (k + 1) else mx f k
def mn (f : Nat → Nat) : Nat → Nat
  | 0 => f 0
  | k + 1 => if (FloatKind.f32.format.order (f (k + 1)) (mn f k) == some .lt) = true then f (k + 1) else mn f k

theorem ite_or {α : Type} {c : Prop} [Decidable c] {x y : α} : (if c then x else y) = x ∨ (if c then x else y) = y := by
  by_cases h : c
  · rw [if_pos h]; exact Or.inl rfl
  · rw [if_neg h]; exact Or.inr rfl
theorem mx_or (f : Nat → Nat) : mx f 2 = f 0 ∨ mx f 2 = f 1 ∨ mx f 2 = f 2 := by
  have h1 : mx f 1 = f 1 ∨ mx f 1 = f 0 := ite_or
  have h2 : mx f 2 = f 2 ∨ mx f 2 = mx f 1 := ite_or
  rcases h2 with h | h <;> rw [h]
  · simp
  · rcases h1 with h | h <;> simp [h]
theorem mn_or (f : Nat → Nat) : mn f 2 = f 0 ∨ mn f 2 = f 1 ∨ mn f 2 = f 2 := by
  have h1 : mn f 1 = f 1 ∨ mn f 1 = f 0 := ite_or
  have h2 : mn f 2 = f 2 ∨ mn f 2 = mn f 1 := ite_or
  rcases h2 with h | h <;> rw [h]
  · simp
  · rcases h1 with h | h <;> simp [h]

def sixC (f : Nat → Nat) (v d : Nat) : Nat :=
  if (FloatKind.f32.format.order v (f 0) == some .eq) = true then cop .quo .f32 (cop .sub .f32 (f 1) (f 2)) d
  else if (FloatKind.f32.format.order v (f 1) == some .eq) = true then cop .add .f32 (cop .quo .f32 (cop .sub .f32 (f 2) (f 0)) d) 1073741824
  else cop .add .f32 (cop .quo .f32 (cop .sub .f32 (f 0) (f 1)) d) 1082130432
def upC (h : Nat) : Nat := if (FloatKind.f32.format.order h 0 == some .lt) = true then cop .add .f32 h 1065353216 else h
def hueC (f : Nat → Nat) (v d : Nat) : Nat := if (FloatKind.f32.format.order d 0 == some .eq) = true then 0 else upC (cop .quo .f32 (sixC f v d) 1086324736)
def satC (v d : Nat) : Nat := if (FloatKind.f32.format.order v 0 == some .eq) = true then 0 else cop .quo .f32 d v

def ret3 (a b c : Nat) : Ending := .returned (.tuple #[.float .f32 a, .float .f32 b, .float .f32 c])
theorem ret3_eq {a b c a' b' c' : Nat} (h1 : a = a') (h2 : b = b') (h3 : c = c') : Ending.returned (.tuple #[.float .f32 a, .float .f32 b, .float .f32 c]) = ret3 a' b' c' := by rw [h1, h2, h3]; rfl

theorem order_c0 (x : Nat) : FloatKind.f32.format.order (cn .f32 x) 0 = FloatKind.f32.format.order x 0 := by
  have h : cn .f32 0 = 0 := by decide +kernel
  have := order_cn .f32 x 0
  rw [h] at this
  exact this
theorem bne_false {o : Option Ordering} (h : (o == some .eq) = true) : (o != some .eq) = false := by simp [bne, h]
theorem bne_true {o : Option Ordering} (h : (o == some .eq) = false) : (o != some .eq) = true := by simp [bne, h]

theorem cn6 : cn .f32 1086324736 = 1086324736 := by decide +kernel
theorem cn4 : cn .f32 1082130432 = 1082130432 := by decide +kernel
theorem cn2 : cn .f32 1073741824 = 1073741824 := by decide +kernel
theorem cn1 : cn .f32 1065353216 = 1065353216 := by decide +kernel
theorem cn0 : cn .f32 0 = 0 := by decide +kernel
theorem cnq : cn .f32 2143289344 = 2143289344 := by decide +kernel

/-- Some colour is a NaN: all three are the NaN. -/
def nan3 (f : Nat → Nat) : Bool := isN .f32 (f 0) || isN .f32 (f 1) || isN .f32 (f 2)

set_option maxRecDepth 100000 in
set_option maxHeartbeats 1000000 in
theorem hsvr_nan (f : Nat → Nat) (w : World) (hn : nan3 f = true) : Calls Try.prog 51 #[pix f] w fun e w' => e = ret3 2143289344 2143289344 2143289344 ∧ Below w.heap.size w w' := by
  have q0 := ne_self .f32 (f 0)
  have q1 := ne_self .f32 (f 1)
  have q2 := ne_self .f32 (f 2)
  have px := pix_cells f
  unfold nan3 at hn
  by_cases n0 : isN .f32 (f 0) = true
  · rw [n0] at q0
    clear q1 q2 hn n0
    go_enter Try.func51, Try.ntmps51
    go_wp2_with (go_at_call 96; refine (theNaN_any _).mono ?_; rintro e w' ⟨rfl, rfl⟩)
    go_ret3
    exact ⟨rfl, (Below.refl _ _).alloc (Nat.le_refl _) _⟩
  · have n0' : isN .f32 (f 0) = false := by simpa using n0
    rw [n0'] at q0
    by_cases n1 : isN .f32 (f 1) = true
    · rw [n1] at q1
      clear q2 hn n0 n0' n1
      go_enter Try.func51, Try.ntmps51
      go_wp2_with (go_at_call 96; refine (theNaN_any _).mono ?_; rintro e w' ⟨rfl, rfl⟩)
      go_ret3
      exact ⟨rfl, (Below.refl _ _).alloc (Nat.le_refl _) _⟩
    · have n1' : isN .f32 (f 1) = false := by simpa using n1
      rw [n1'] at q1
      have n2 : isN .f32 (f 2) = true := by simpa [n0', n1'] using hn
      rw [n2] at q2
      clear hn n0 n0' n1 n1' n2
      go_enter Try.func51, Try.ntmps51
      go_wp2_with (go_at_call 96; refine (theNaN_any _).mono ?_; rintro e w' ⟨rfl, rfl⟩)
      go_ret3
      exact ⟨rfl, (Below.refl _ _).alloc (Nat.le_refl _) _⟩

/-- What a region of tests on a difference asks. -/
theorem hsv_d0 {V M : Nat} {B : Bool} {o : Ordering} (h : (FloatKind.f32.format.order (cop .sub .f32 (cn .f32 V) (cn .f32 M)) 0 == some o) = B) (w : World) : (FloatKind.f32.format.order (fop .sub .f32 V M w) 0 == some o) = B := by
  rw [← order_c0, cn_fop]; exact h

theorem ends_below {B : Nat} {a w w' : World} (h : Below B a w) (hn : ∃ n, w' = w.drewN n) : Below B a w' := by obtain ⟨n, rfl⟩ := hn; exact below_drewN h n

set_option maxRecDepth 100000 in
set_option maxHeartbeats 4000000 in
theorem hsvr_num (f : Nat → Nat) (w : World) (n0 : isN .f32 (f 0) = false) (n1 : isN .f32 (f 1) = false) (n2 : isN .f32 (f 2) = false) :
    Calls Try.prog 51 #[pix f] w fun e w' => e = ret3 (hueC f (mx f 2) (cop .sub .f32 (mx f 2) (mn f 2))) (cn .f32 (satC (mx f 2) (cop .sub .f32 (mx f 2) (mn f 2)))) (mx f 2) ∧ Below w.heap.size w w' := by
  have q0 := ne_self .f32 (f 0)
  have q1 := ne_self .f32 (f 1)
  have q2 := ne_self .f32 (f 2)
  rw [n0] at q0
  rw [n1] at q1
  rw [n2] at q2
  have px := pix_cells f
  go_enter Try.func51, Try.ntmps51
  go_wp2_with (go_at_call 96; refine (theNaN_any _).mono ?_; rintro e w' ⟨rfl, rfl⟩)
  go_loop [4, 5, 37] (fun v m i => ∃ k : Nat, k ≤ 2 ∧ i = .int .i64 k ∧ v = .float .f32 (mx f k) ∧ m = .float .f32 (mn f k)) (fun _ _ i => 2 - (intOf i).toNat)
  case atStart => exact ⟨0, by omega, rfl, rfl, rfl⟩
  case round =>
    obtain ⟨k, hk, rfl, rfl, rfl⟩ := hrel
    by_cases hlt : k < 2
    · have hk2 : k = 0 ∨ k = 1 := by omega
      by_cases hg : (FloatKind.f32.format.order (f (k + 1)) (mx f k) == some .gt) = true
      all_goals
        by_cases hl : (FloatKind.f32.format.order (f (k + 1)) (mn f k) == some .lt) = true
        all_goals
          have e1 : mx f (k + 1) = if (FloatKind.f32.format.order (f (k + 1)) (mx f k) == some .gt) = true then f (k + 1) else mx f k := rfl
          have e2 : mn f (k + 1) = if (FloatKind.f32.format.order (f (k + 1)) (mn f k) == some .lt) = true then f (k + 1) else mn f k := rfl
          first | rw [if_pos hg] at e1 | rw [if_neg hg] at e1
          first | rw [if_pos hl] at e2 | rw [if_neg hl] at e2
          have E1 := hid e1
          have E2 := hid e2
          clear e1 e2
          first | (have hg' := Bool.eq_false_iff.2 hg; clear hg) | (have hg' := hg; clear hg)
          first | (have hl' := Bool.eq_false_iff.2 hl; clear hl) | (have hl' := hl; clear hl)
          obtain rfl | rfl := hk2
          · simp only [Nat.zero_add] at hg' hl'
            generalize mx f 0 = V at *
            generalize mn f 0 = M at *
            go_wp2_with fail
            go_round
            case rel => exact ⟨1, by omega, rfl, congrArg _ E1.out.symm, congrArg _ E2.out.symm⟩
            case measure => simp [intOf]
          · simp only [Nat.reduceAdd] at hg' hl'
            generalize mx f 1 = V at *
            generalize mn f 1 = M at *
            go_wp2_with fail
            go_round
            case rel => exact ⟨2, by omega, rfl, congrArg _ E1.out.symm, congrArg _ E2.out.symm⟩
            case measure => simp [intOf]
    · obtain rfl : k = 2 := by omega
      have V1 : isN .f32 (mx f 2) = false := by rcases mx_or f with h | h | h <;> rw [h] <;> assumption
      have M1 : isN .f32 (mn f 2) = false := by rcases mn_or f with h | h | h <;> rw [h] <;> assumption
      generalize EV : mx f 2 = V at *
      generalize EM : mn f 2 = M at *
      have EV := hid EV
      have EM := hid EM
      have D1 := @hsv_d0 V M
      rw [cn_of_not V1, cn_of_not M1] at D1
      have C0 := cn_of_not n0
      have C1 := cn_of_not n1
      have C2 := cn_of_not n2
      have CV := cn_of_not V1
      have CM := cn_of_not M1
      have H0 := hid C0
      have H1 := hid C1
      have H2 := hid C2
      have HV := hid CV
      have HM := hid CM
      by_cases hv : (FloatKind.f32.format.order V 0 == some .eq) = true
      all_goals
        have HS : RowKit.Hid (satC V (cop .sub .f32 V M) = if (FloatKind.f32.format.order V 0 == some .eq) = true then 0 else cop .quo .f32 (cop .sub .f32 V M) V) := hid rfl
        first | rw [if_pos hv] at HS | rw [if_neg hv] at HS
        first | (have hv2 := bne_false hv; clear hv) | (have hv2 := bne_true (Bool.eq_false_iff.2 hv); clear hv)
        by_cases hd : (FloatKind.f32.format.order (cop .sub .f32 V M) 0 == some .eq) = true
        · have HH : RowKit.Hid (hueC f V (cop .sub .f32 V M) = 0) := hid (by unfold hueC; rw [if_pos hd])
          have hd1 := D1 hd
          clear hd D1 C0 C1 C2 CV CM
          go_wp2_with (go_at_call 35; refine (fix_any _ _).mono ?_; rintro e w' ⟨rfl, rfl⟩)
          go_ret3
          try rw [EV.out, EM.out]
          exact ⟨ret3_eq (by rw [HH.out]) (by rw [HS.out]; first | (rw [cn_cop]; unfold cl; simp only [cn_fop, HV.out, HM.out]) | exact cn0.symm | rfl) rfl, ends_below ((Below.refl _ _).alloc (Nat.le_refl _) _) (by first | exact ⟨_, rfl⟩ | exact ⟨0, rfl⟩)⟩
        · have HH0 : hueC f V (cop .sub .f32 V M) = upC (cop .quo .f32 (sixC f V (cop .sub .f32 V M)) 1086324736) := by unfold hueC; rw [if_neg hd]
          have hd1 := D1 (Bool.eq_false_iff.2 hd)
          clear hd D1
          by_cases hr : (FloatKind.f32.format.order V (f 0) == some .eq) = true
          · -- red
            have HX : sixC f V (cop .sub .f32 V M) = (cop .quo .f32 (cop .sub .f32 (f 1) (f 2)) (cop .sub .f32 V M)) := by unfold sixC; rw [if_pos hr]
            by_cases hn : (FloatKind.f32.format.order (cop .quo .f32 (cop .quo .f32 (cop .sub .f32 (f 1) (f 2)) (cop .sub .f32 V M)) 1086324736) 0 == some .lt) = true
            all_goals
              have HH : RowKit.Hid (hueC f V (cop .sub .f32 V M) = upC (cop .quo .f32 (cop .quo .f32 (cop .sub .f32 (f 1) (f 2)) (cop .sub .f32 V M)) 1086324736)) := hid (by rw [← HX]; exact HH0)
              unfold upC at HH
              first | rw [if_pos hn] at HH | rw [if_neg hn] at HH
              have hn1 : ∀ B, (FloatKind.f32.format.order (cop .quo .f32 (cop .quo .f32 (cop .sub .f32 (f 1) (f 2)) (cop .sub .f32 V M)) 1086324736) 0 == some .lt) = B → ∀ wa wb wd we, (FloatKind.f32.format.order (fop .quo .f32 (fop .quo .f32 (fop .sub .f32 (f 1) (f 2) wa) (fop .sub .f32 V M wd) wb) 1086324736 we) 0 == some .lt) = B := by
                intro B hB wa wb wd we
                rw [← order_c0]
                simp only [cn_fop, C1, C2, CV, CM, cn6]
                exact hB
              first | (have hn2 := hn1 _ hn) | (have hn2 := hn1 _ (Bool.eq_false_iff.2 hn))
              clear hn hn1 HX HH0 C0 C1 C2 CV CM
              go_wp2_with (go_at_call 35; refine (fix_any _ _).mono ?_; rintro e w' ⟨rfl, rfl⟩)
              go_ret3
              try rw [EV.out, EM.out]
              exact ⟨ret3_eq (by rw [HH.out]; first | rfl | (unfold cl; simp only [cn_fop, H1.out, H2.out, HV.out, HM.out, cn6, cn1])) (by rw [HS.out]; first | (rw [cn_cop]; unfold cl; simp only [cn_fop, HV.out, HM.out]) | exact cn0.symm | rfl) rfl, ends_below ((Below.refl _ _).alloc (Nat.le_refl _) _) (by first | exact ⟨_, rfl⟩ | exact ⟨0, rfl⟩)⟩
          · have hr' := Bool.eq_false_iff.2 hr
            by_cases hg : (FloatKind.f32.format.order V (f 1) == some .eq) = true
            · -- green
              have HX : sixC f V (cop .sub .f32 V M) = (cop .add .f32 (cop .quo .f32 (cop .sub .f32 (f 2) (f 0)) (cop .sub .f32 V M)) 1073741824) := by unfold sixC; rw [if_neg hr, if_pos hg]
              by_cases hn : (FloatKind.f32.format.order (cop .quo .f32 (cop .add .f32 (cop .quo .f32 (cop .sub .f32 (f 2) (f 0)) (cop .sub .f32 V M)) 1073741824) 1086324736) 0 == some .lt) = true
              all_goals
                have HH : RowKit.Hid (hueC f V (cop .sub .f32 V M) = upC (cop .quo .f32 (cop .add .f32 (cop .quo .f32 (cop .sub .f32 (f 2) (f 0)) (cop .sub .f32 V M)) 1073741824) 1086324736)) := hid (by rw [← HX]; exact HH0)
                unfold upC at HH
                first | rw [if_pos hn] at HH | rw [if_neg hn] at HH
                have hn1 : ∀ B, (FloatKind.f32.format.order (cop .quo .f32 (cop .add .f32 (cop .quo .f32 (cop .sub .f32 (f 2) (f 0)) (cop .sub .f32 V M)) 1073741824) 1086324736) 0 == some .lt) = B → ∀ wa wb wc wd we, (FloatKind.f32.format.order (fop .quo .f32 (fop .add .f32 (fop .quo .f32 (fop .sub .f32 (f 2) (f 0) wa) (fop .sub .f32 V M wd) wb) 1073741824 wc) 1086324736 we) 0 == some .lt) = B := by
                  intro B hB wa wb wc wd we
                  rw [← order_c0]
                  simp only [cn_fop, C2, C0, CV, CM, cn6, cn2]
                  exact hB
                first | (have hn2 := hn1 _ hn) | (have hn2 := hn1 _ (Bool.eq_false_iff.2 hn))
                clear hr hn hn1 HX HH0 C0 C1 C2 CV CM
                go_wp2_with (go_at_call 35; refine (fix_any _ _).mono ?_; rintro e w' ⟨rfl, rfl⟩)
                go_ret3
                try rw [EV.out, EM.out]
                exact ⟨ret3_eq (by rw [HH.out]; first | rfl | (unfold cl; simp only [cn_fop, H0.out, H2.out, HV.out, HM.out, cn6, cn2, cn1])) (by rw [HS.out]; first | (rw [cn_cop]; unfold cl; simp only [cn_fop, HV.out, HM.out]) | exact cn0.symm | rfl) rfl, ends_below ((Below.refl _ _).alloc (Nat.le_refl _) _) (by first | exact ⟨_, rfl⟩ | exact ⟨0, rfl⟩)⟩
            · -- blue
              have hg' := Bool.eq_false_iff.2 hg
              have HX : sixC f V (cop .sub .f32 V M) = (cop .add .f32 (cop .quo .f32 (cop .sub .f32 (f 0) (f 1)) (cop .sub .f32 V M)) 1082130432) := by unfold sixC; rw [if_neg hr, if_neg hg]
              by_cases hn : (FloatKind.f32.format.order (cop .quo .f32 (cop .add .f32 (cop .quo .f32 (cop .sub .f32 (f 0) (f 1)) (cop .sub .f32 V M)) 1082130432) 1086324736) 0 == some .lt) = true
              all_goals
                have HH : RowKit.Hid (hueC f V (cop .sub .f32 V M) = upC (cop .quo .f32 (cop .add .f32 (cop .quo .f32 (cop .sub .f32 (f 0) (f 1)) (cop .sub .f32 V M)) 1082130432) 1086324736)) := hid (by rw [← HX]; exact HH0)
                unfold upC at HH
                first | rw [if_pos hn] at HH | rw [if_neg hn] at HH
                have hn1 : ∀ B, (FloatKind.f32.format.order (cop .quo .f32 (cop .add .f32 (cop .quo .f32 (cop .sub .f32 (f 0) (f 1)) (cop .sub .f32 V M)) 1082130432) 1086324736) 0 == some .lt) = B → ∀ wa wb wc wd we, (FloatKind.f32.format.order (fop .quo .f32 (fop .add .f32 (fop .quo .f32 (fop .sub .f32 (f 0) (f 1) wa) (fop .sub .f32 V M wd) wb) 1082130432 wc) 1086324736 we) 0 == some .lt) = B := by
                  intro B hB wa wb wc wd we
                  rw [← order_c0]
                  simp only [cn_fop, C0, C1, CV, CM, cn6, cn4]
                  exact hB
                first | (have hn2 := hn1 _ hn) | (have hn2 := hn1 _ (Bool.eq_false_iff.2 hn))
                clear hr hg hn hn1 HX HH0 C0 C1 C2 CV CM
                go_wp2_with (go_at_call 35; refine (fix_any _ _).mono ?_; rintro e w' ⟨rfl, rfl⟩)
                go_ret3
                try rw [EV.out, EM.out]
                exact ⟨ret3_eq (by rw [HH.out]; first | rfl | (unfold cl; simp only [cn_fop, H0.out, H1.out, HV.out, HM.out, cn6, cn4, cn1])) (by rw [HS.out]; first | (rw [cn_cop]; unfold cl; simp only [cn_fop, HV.out, HM.out]) | exact cn0.symm | rfl) rfl, ends_below ((Below.refl _ _).alloc (Nat.le_refl _) _) (by first | exact ⟨_, rfl⟩ | exact ⟨0, rfl⟩)⟩
end Go.Proofs.Ytcmakibomdinbaa
