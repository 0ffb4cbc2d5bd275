/-
  Colours: HueApart, Luma and Saturate, in the program and in the reference; pixels compared.
-/
import Derived.Test.YtcmakibomdinbaaCApart
import Derived.Deep.RegionHeld3
namespace Go.Proofs.Ytcmakibomdinbaa
open Go.RowKit
attribute [local go_sem] run_store_float

theorem hsvr_any (f : Nat → Nat) (w : World) : Calls Try.prog 51 #[pix f] w fun e w' => e = hsvC f ∧ Below w.heap.size w w' := by
  by_cases h : nanAt f < 3
  · have e : hsvC f = ret3 2143289344 2143289344 2143289344 := by unfold hsvC; rw [if_pos h]
    rw [e]
    refine hsvr_nan f w ?_
    have := nanAt_at f h
    have hk : nanAt f = 0 ∨ nanAt f = 1 ∨ nanAt f = 2 := by omega
    unfold nan3
    rcases hk with hk | hk | hk <;> rw [hk] at this <;> simp [this]
  · have e : hsvC f = ret3 (hueC f (mx f 2) (cop .sub .f32 (mx f 2) (mn f 2))) (cn .f32 (satC (mx f 2) (cop .sub .f32 (mx f 2) (mn f 2)))) (mx f 2) := by unfold hsvC; rw [if_neg h]
    rw [e]
    exact hsvr_num f w (nanAt_pre f 0 (by omega)) (nanAt_pre f 1 (by omega)) (nanAt_pre f 2 (by omega))

theorem from_any (h s v al : Nat) (w : World) : Calls Try.prog 20 #[.float .f32 h, .float .f32 s, .float .f32 v, .float .f32 al] w fun e w' => e = .returned (pix (fromC h s v al)) ∧ Below w.heap.size w w' := by
  by_cases hf : (fin h && fin s && fin v) = true
  · have hh : fin h = true := by simp at hf; exact hf.1.1
    obtain ⟨n, hok⟩ := hue_ok hh
    have hn : n = 0 ∨ n = 1 ∨ n = 2 ∨ n = 3 ∨ n = 4 ∨ n = 5 ∨ n = 6 := by have := hok.sx.le; omega
    rcases hn with rfl | rfl | rfl | rfl | rfl | rfl | rfl
    · exact from_0 h s v al w hf hok
    · exact from_1 h s v al w hf hok
    · exact from_2 h s v al w hf hok
    · exact from_3 h s v al w hf hok
    · exact from_4 h s v al w hf hok
    · exact from_5 h s v al w hf hok
    · exact from_6 h s v al w hf hok
  · exact from_nan h s v al w (by simpa using hf)

theorem fromr_any (h s v al : Nat) (w : World) : Calls Try.prog 52 #[.float .f32 h, .float .f32 s, .float .f32 v, .float .f32 al] w fun e w' => e = .returned (pix (fromC h s v al)) ∧ Below w.heap.size w w' := by
  by_cases hf : (fin h && fin s && fin v) = true
  · have hh : fin h = true := by simp at hf; exact hf.1.1
    have hs : fin s = true := by simp at hf; exact hf.1.2
    have hv : fin v = true := by simp at hf; exact hf.2
    obtain ⟨n, hok⟩ := hue_okr hh
    have hn : n = 0 ∨ n = 1 ∨ n = 2 ∨ n = 3 ∨ n = 4 ∨ n = 5 ∨ n = 6 := by have := hok.sx.le; omega
    rcases hn with rfl | rfl | rfl | rfl | rfl | rfl | rfl
    · exact fromr_0 h s v al w hh hs hv hok
    · exact fromr_1 h s v al w hh hs hv hok
    · exact fromr_2 h s v al w hh hs hv hok
    · exact fromr_3 h s v al w hh hs hv hok
    · exact fromr_4 h s v al w hh hs hv hok
    · exact fromr_5 h s v al w hh hs hv hok
    · exact fromr_6 h s v al w hh hs hv hok
  · exact fromr_nan h s v al w (by simpa using hf)

theorem num_of_fin {x : Nat} (h : fin x = true) : ∃ s m p, FloatKind.f32.format.read x = .number s m p := by
  obtain ⟨a, s, m, p, hr, _⟩ := fin_fv h; exact ⟨s, m, p, hr⟩
/-- A difference of two numbers is no NaN. -/
theorem sub_num {x y : Nat} (hx : fin x = true) (hy : fin y = true) : isN .f32 (cop .sub .f32 x y) = false := by
  obtain ⟨s, m, p, hr⟩ := num_of_fin hx
  obtain ⟨t, n, q, hr'⟩ := num_of_fin hy
  have : floatBits .sub .f32 x y = some (FloatKind.f32.format.write (.number (if Ieee.signed s m (p - min p q).toNat + Ieee.signed (!t) n (q - min p q).toNat = 0 then s && !t else decide (Ieee.signed s m (p - min p q).toNat + Ieee.signed (!t) n (q - min p q).toNat < 0)) (Ieee.signed s m (p - min p q).toNat + Ieee.signed (!t) n (q - min p q).toNat).natAbs (min p q))) := by
    show FloatKind.f32.format.sub x y = _
    unfold Ieee.Format.sub
    rw [hr, hr']; rfl
  rw [cop_some this]
  exact floatBits_not_nan this
/-- No NaN, and a number: no NaN. -/
theorem add_num {x y : Nat} (hx : isN .f32 x = false) (hy : fin y = true) : isN .f32 (cop .add .f32 x y) = false := by
  obtain ⟨t, n, q, hr'⟩ := num_of_fin hy
  have : ∃ r, floatBits .add .f32 x y = some r := by
    show ∃ r, FloatKind.f32.format.add x y = some r
    unfold Ieee.Format.add
    rw [hr']
    cases hr : FloatKind.f32.format.read x with
    | nan s t => unfold isN at hx; rw [hr] at hx; cases hx
    | infinity s => exact ⟨_, rfl⟩
    | number s m p => exact ⟨_, rfl⟩
  obtain ⟨r, hr⟩ := this
  rw [cop_some hr]
  exact floatBits_not_nan hr

/-- How far apart. -/
def apartC (a b : Nat) : Nat :=
  if (fin a && fin b) = true then cl (cop .sub .f32 (cop .sub .f32 a b) (flC (cop .add .f32 (cop .sub .f32 a b) 1056964608)) % 2147483648) else 2143289344

theorem rd2 {n : Nat} (w : World) (t : TypeId) (a b : Nat) (hn : n = w.heap.size) : Rd (w.alloc (.cells #[.float .f32 a, .float .f32 b] t)) n 0 2 (three a b 0) := by
  intro i hi
  have hb := Blk.new_at w t #[.float .f32 a, .float .f32 b] hn
  rw [Nat.zero_add, hb.cell]
  have : i = 0 ∨ i = 1 := by omega
  rcases this with rfl | rfl <;> rfl
theorem nums2 (a b n : Nat) (t : TypeId) (w : World) (B : Bool) (hB : (fin a && fin b) = B) (hn : n = w.heap.size) :
    Calls Try.prog 79 #[.slice (some ⟨n, 0, none⟩) 2 2] (w.alloc (.cells #[.float .f32 a, .float .f32 b] t)) fun e w' => e = .returned (.bool B) ∧ (w.alloc (.cells #[.float .f32 a, .float .f32 b] t)) = w' := by
  have e : fins (three a b 0) 2 = (fin a && fin b) := by
    show ((true && fin a) && fin b) = _
    rw [Bool.true_and]
  rw [← hB, ← e]
  exact areNumbers_any n 2 2 _ _ (by decide) (rd2 w t a b hn)

theorem cn_mod (r : Nat) : cl (cn .f32 r % 2147483648) = cl (r % 2147483648) := by
  by_cases h : isN .f32 r = true
  · rw [cn_of_nan h]
    have h2 : cl (r % 2147483648) = qnan .f32 := cn_of_nan (by rw [isN_mod]; exact h)
    rw [h2]; decide +kernel
  · rw [cn_of_not (by simpa using h)]

theorem half_fin : fin 1056964608 = true := by decide +kernel

set_option maxRecDepth 100000 in
set_option maxHeartbeats 1000000 in
theorem apartp_any (a b : Nat) (w : World) : Calls Try.prog 53 #[.float .f32 a, .float .f32 b] w fun e w' => e = .returned (.float .f32 (apartC a b)) ∧ Below w.heap.size w w' := by
  by_cases hf : (fin a && fin b) = true
  · have ha : fin a = true := by simp at hf; exact hf.1
    have hb : fin b = true := by simp at hf; exact hf.2
    have HC : RowKit.Hid (apartC a b = cl (cop .sub .f32 (cop .sub .f32 a b) (flC (cop .add .f32 (cop .sub .f32 a b) 1056964608)) % 2147483648)) := hid (by unfold apartC; rw [if_pos hf])
    have HF := hid hf
    have nd := sub_num ha hb
    obtain ⟨s1, s2⟩ := fop_cop nd
    have CD := hid (cn_of_not nd)
    have na := add_num nd half_fin
    obtain ⟨s3, s4⟩ := fop_cop na
    have NA := hid na
    have fl0 : RowKit.Hid (cn .f32 (flC (cop .add .f32 (cop .sub .f32 a b) 1056964608)) = flC (cop .add .f32 (cop .sub .f32 a b) 1056964608)) := hid (by
      have hs := floor_some _ na
      apply cn_of_not
      have hw := isN_wid _ na
      cases hr : FloatKind.f32.format.read (cop .add .f32 (cop .sub .f32 a b) 1056964608) with
      | nan s t => unfold isN at na; rw [hr] at na; cases na
      | number s m p => exact (ffloor ⟨s, m, p, hr, rfl⟩).2.not_nan
      | infinity s =>
        have e : wid (cop .add .f32 (cop .sub .f32 a b) 1056964608) = FloatKind.f64.encode (.infinity s) := by
          unfold wid
          have : FloatKind.f32.decode (cop .add .f32 (cop .sub .f32 a b) 1056964608) = .infinity s := hr
          rw [this]
        unfold flC
        rw [e]
        cases s <;> decide +kernel)
    clear hf ha hb nd na
    go_enter Try.func53, Try.ntmps53
    go_wp2_with fail
    refine (nums2 a b _ _ _ true HF.out (by simp)).mono ?_
    rintro e w' ⟨rfl, rfl⟩
    go_wp2_with (first
      | (go_at_call 80; refine (floorp_any _ NA.out _).mono ?_; rintro e w' ⟨rfl, rfl⟩)
      | (go_at_call 17; refine (abs_any _ _).mono ?_; rintro e w' ⟨rfl, rfl⟩)
      | (go_at_call 77; refine (clean_any _ _).mono ?_; rintro e w' ⟨rfl, rfl⟩))
    go_ret
    refine ⟨ret_f ?_, ends_below ((Below.refl _ _).alloc (Nat.le_refl _) _) ⟨_, rfl⟩⟩
    rw [abs_cl, HC.out, ← cn_mod, cn_fop, CD.out, fl0.out]
  · have hf' : (fin a && fin b) = false := by simpa using hf
    have HC : RowKit.Hid (apartC a b = 2143289344) := hid (by unfold apartC; rw [if_neg hf])
    have HF := hid hf'
    clear hf hf'
    go_enter Try.func53, Try.ntmps53
    go_wp2_with fail
    refine (nums2 a b _ _ _ false HF.out (by simp)).mono ?_
    rintro e w' ⟨rfl, rfl⟩
    go_wp2_with (go_at_call 76; refine (theNaNp_any _).mono ?_; rintro e w' ⟨rfl, k, rfl⟩)
    go_ret
    exact ⟨ret_f HC.out.symm, ends_below ((Below.refl _ _).alloc (Nat.le_refl _) _) ⟨_, rfl⟩⟩
end Go.Proofs.Ytcmakibomdinbaa
