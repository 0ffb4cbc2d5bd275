/-
  Small floats: Mini of the program.
-/
import Derived.Test.YtbenjfipbeikmaaMin4
namespace Go.Proofs.Ytbenjfipbeikmaa
open Go.RowKit
open Ieee (Datum Format)

theorem or_top (r k : Nat) (hk : k ≤ 62) (hr : r < 2 ^ k) : bits .or .i64 (r : Int) ((2 ^ k : Nat) : Int) = ((2 ^ k + r : Nat) : Int) := by
  have hb : 2 ^ k < 2 ^ 63 := Nat.pow_lt_pow_right (by decide) (by omega)
  have := (bits_nat .i64 63 (by decide) (fun n h0 h1 => by rw [IntKind.wrap_i64]; omega) r (2 ^ k) (by omega) hb).2
  rw [this, Nat.or_comm]
  have h2 := Nat.two_pow_add_eq_or_of_lt (i := k) (b := r) hr 1
  rw [Nat.mul_one] at h2
  rw [h2]

theorem or_half (E F : Nat) (h : Fmt E F) : bits .or .i64 ((allN E F : Nat) : Int) ((2 : Int) ^ (F - 1)) = ((allN E F + 2 ^ (F - 1) : Nat) : Int) := by
  obtain ⟨d0, d1, d2, d3⟩ := all_div E F h
  have hlt : 2 ^ (F - 1) < 2 ^ F := Nat.pow_lt_pow_right (by decide) (by have := h.f1; omega)
  have hF : 2 ^ F ≤ 2 ^ 23 := Nat.pow_le_pow_right (by decide) h.f2
  have hF' : ((2 ^ F : Nat) : Int) = (2 : Int) ^ F := pow_cast F
  have hm : allN E F % 2 ^ F = 0 := Nat.mul_mod_left ..
  rw [← pow_cast (F - 1)]
  have q1 : ((allN E F : Nat) : Int) % 2 ^ F = 0 := by rw [← hF']; omega
  have q2 : ((2 ^ (F - 1) : Nat) : Int) < 2 ^ F := by rw [← hF']; exact Int.ofNat_lt.2 hlt
  have q3 : ((2 ^ (F - 1) : Nat) : Int) < 2 ^ 63 := by
    have : 2 ^ (F - 1) < 2 ^ 23 := by omega
    omega
  have := bits_join .i64 63 (by decide) (fun n h0 h1 => by rw [IntKind.wrap_i64]; omega) F ((allN E F : Nat) : Int) ((2 ^ (F - 1) : Nat) : Int) (by omega) q1 (by omega) (Int.natCast_nonneg _) q2 q3
  rw [this, Int.natCast_add]

/-- Mini gives n, and no error. -/
def GivesM (E F v : Nat) (w : World) (e : Ending) (w' : World) : Prop := ∃ n : Nat, e = .returned (.tuple #[.int .i64 (n : Int), .int .i64 0]) ∧ MV E F v n ∧ Grown w w'

set_option maxRecDepth 100000 in
set_option maxHeartbeats 1000000 in
theorem mini_nan (v E F : Nat) (h : Fmt E F) (hn : isN .f32 v = true) (w : World) :
    Calls Try.prog 46 #[.float .f32 v, .int .i64 (E : Int), .int .i64 (F : Int)] w (GivesM E F v w) := by
  have e1 := ne_self .f32 v
  rw [hn] at e1
  have HV := hid (show MV E F v (allN E F + 2 ^ (F - 1)) from Or.inl ⟨hn, rfl⟩)
  clear hn
  obtain ⟨pt1, pt2⟩ := h.half
  obtain ⟨b1, b2, b3, b4⟩ := id h
  have ho := or_half E F h
  have hf : ((F : Int) - 1).toNat = F - 1 := by omega
  have hw : IntKind.i64.wrap ((F : Int) - 1) = (F : Int) - 1 := by rw [IntKind.wrap_i64]; omega
  have hw2 : IntKind.i64.wrap ((2 : Int) ^ (F - 1)) = (2 : Int) ^ (F - 1) := by rw [IntKind.wrap_i64]; omega
  have hf0 : (0 : Int) ≤ (F : Int) - 1 := by omega
  have hf1 : (1 : Int) ≤ (F : Int) := by omega
  have H0 := held0 w E F 71
  go_enter Try.func46, Try.ntmps46
  go_wp2_with fail
  refine (good_yes (E : Int) (F : Int) (by omega) _).mono ?_; rintro e w1 ⟨rfl, g1⟩
  have H1 := held_next g1 H0
  obtain ⟨k0, k1, k2⟩ := id H1
  go_wp2
  go_region_held3 (fun w' => w'.cell? ⟨w.heap.size, 0, none⟩ = some (.int .i64 (E : Int)) ∧ w'.cell? ⟨w.heap.size, 1, none⟩ = some (.int .i64 (F : Int)) ∧ KeptIn w w') (first | exact ⟨k0, k1, ⟨k2.lt, k2.grown⟩⟩ | exact held_on (by assumption) (by assumption) | go_keep)
    (first | (go_at_call 84; refine (infinity_any _ _ h _).mono ?_; rintro e w3 ⟨rfl, g3⟩))
  all_goals
    rename_i hH
    have kl := hH.2.2
    clear hH
    go_wp2
    go_ret2
    exact ⟨_, rfl, HV.out, kl.grown⟩

def bigK : Nat := 1178
def bigJ : Nat := 1149
theorem pow_split (x a b c : Nat) (h : a = b + c) : x * 2 ^ a = x * 2 ^ b * 2 ^ c := by rw [h, Nat.pow_add, Nat.mul_assoc]

theorem maxf_pos : Pos 5183643170566569984 (16777215 * 2 ^ bigK) :=
  ⟨16777215 * 2 ^ 29, bigJ, by decide +kernel, pow_split 16777215 bigK 29 bigJ rfl⟩

theorem val_le (m u : Nat) (hm : m < 16777216) (hu : u ≤ 1178) : m * 2 ^ u ≤ 16777215 * 2 ^ bigK :=
  Nat.mul_le_mul (by omega) (Nat.pow_le_pow_right (by decide) hu)

/-- pack of a single's value. -/
theorem pack_any (v E F : Nat) (h : Fmt E F) {s : Bool} {m : Nat} {p : Int} (hs : FloatKind.f32.format.read v = .number s m p) (w : World) :
    Calls Try.prog 85 #[fmtV (E : Int) (F : Int), .float .f64 (absB (wid v))] w fun x w' => (∃ r : Nat, x = .returned (.int .i64 (r : Int)) ∧ MiniSpec E F (m * 2 ^ (p + 1074).toNat) r) ∧ Grown w w' := by
  obtain ⟨hm, hp1, hp2⟩ := read32_num hs
  rw [(wid_abs hs).1]
  by_cases h0 : m = 0
  · subst h0
    have e : FloatKind.f64.format.nearest false 0 p = 0 := by simp [Format.nearest, Format.word]
    rw [e]
    refine (pack_zero E F w).mono ?_
    rintro x w' ⟨rfl, g⟩
    refine ⟨⟨0, rfl, Or.inr ⟨0, ?_, ?_, ?_, ?_⟩⟩, g⟩
    · obtain ⟨d0, d1, d2, d3⟩ := all_div E F h; omega
    · unfold SV svU svK; simp
    · rw [Nat.zero_mul]; exact Nat.mul_pos (Nat.lt_of_le_of_lt (Nat.zero_le _) (svU_lt_succ F 0)) (two_pos _)
    · have z : SV E F 0 = 0 := by unfold SV svU svK; simp
      have z1 : 0 < SV E F (0 + 1) := Nat.mul_pos (Nat.lt_of_le_of_lt (Nat.zero_le _) (svU_lt_succ F 0)) (two_pos _)
      unfold upB
      rw [z, Nat.zero_mul, decide_eq_false (by omega), decide_eq_false (by omega)]; rfl
  · have hl := log2_le_of_lt (k := 23) hm
    obtain ⟨q, j, hq, hj, hx, hw⟩ := dbl_xw m p h0 (by omega) (by omega) (by omega)
    have hA : m * 2 ^ (p + 1074).toNat = (m * 2 ^ q) * 2 ^ j := by
      rw [Nat.mul_assoc, ← Nat.pow_add]; congr 2; omega
    rw [hw, hA]
    have hj2 : j ≤ 1149 := by omega
    have conv : ∀ z : Int, MiniSpec E F (m * 2 ^ q * 2 ^ j) z.toNat → 0 ≤ z → ∃ r : Nat, Ending.returned (.int .i64 z) = .returned (.int .i64 (r : Int)) ∧ MiniSpec E F (m * 2 ^ q * 2 ^ j) r :=
      fun z hz h0 => ⟨z.toNat, by rw [Int.toNat_of_nonneg h0], hz⟩
    have nn : ∀ (c : Nat) (t : Int), 0 ≤ t → 0 ≤ packN E F c t := by
      intro c t ht
      have := Int.mul_nonneg ht (show (0 : Int) ≤ 2 ^ F by have := h.pf.1; omega)
      unfold packN
      omega
    by_cases hlow : (j : Int) - 1022 < lowZ E
    · refine (pack_low j _ E F h hx hlow hj2 w).mono ?_
      rintro x w' ⟨rfl, g⟩
      exact ⟨conv _ (pack_spec_low E F j _ h hx hlow) (nn _ _ (Int.le_refl _)), g⟩
    · refine (pack_high j _ E F h hx (by omega) hj2 w).mono ?_
      rintro x w' ⟨rfl, g⟩
      exact ⟨conv _ (pack_spec_high E F j _ h hx (by omega)) (nn _ _ (by omega)), g⟩

set_option maxRecDepth 100000 in
set_option maxHeartbeats 1000000 in
theorem mini_neg (v E F : Nat) (h : Fmt E F) {m : Nat} {p : Int} (hs : FloatKind.f32.format.read v = .number true m p) (w : World) :
    Calls Try.prog 46 #[.float .f32 v, .int .i64 (E : Int), .int .i64 (F : Int)] w (GivesM E F v w) := by
  have hn := isN_of_read hs
  have e1 := ne_self .f32 v
  rw [hn] at e1
  have c1 := fun w => fcvv (widen_some v hn) w
  have c2 := fcdv (widen_some v hn)
  have hw64 := wid_lt v
  obtain ⟨hv, hm, hu⟩ := wid_val hs
  have hsg := (wid_abs hs).2
  have hle := le_yes hv maxf_pos (val_le m _ hm hu)
  obtain ⟨b1, b2, b3, b4⟩ := id h
  have H0 := held0 w E F 71
  clear hv hu hm
  have HS := hid hs; clear hs hn
  go_enter Try.func46, Try.ntmps46
  go_wp2_with fail
  refine (good_yes (E : Int) (F : Int) (by omega) _).mono ?_; rintro e w1 ⟨rfl, g1⟩
  have H1 := held_next g1 H0
  obtain ⟨k0, k1, k2⟩ := id H1
  go_wp2_with fail
  refine (infinity_any E F h _).mono ?_; rintro e w2 ⟨rfl, g2⟩
  have H2 := held_next g2 H1
  clear k0 k1 k2
  obtain ⟨k0, k1, k2⟩ := id H2
  go_wp2_with fail
  refine (abs_any _ _).mono ?_; rintro e w' ⟨rfl, rfl⟩
  go_wp2_with fail
  refine (pack_any v E F h HS.out _).mono ?_; rintro e w4 ⟨⟨r, rfl, hr⟩, g4⟩
  have H4 := held_next g4 H2
  clear k0 k1 k2
  obtain ⟨k0, k1, k2⟩ := id H4
  have HV := hid (show MV E F v (topN E F + r) from Or.inr (Or.inr ⟨true, m, p, r, HS.out, hr, by simp⟩))
  have hrt : r < 2 ^ (E + F) := by
    have a := miniSpec_le hr
    have b : allN E F < 2 ^ (E + F) := by
      unfold allN; rw [Nat.pow_add]; exact Nat.mul_lt_mul_of_pos_right (by have := two_pos E; omega) (two_pos F)
    omega
  go_wp2_with (go_at_call 86; refine (signbit_any _ hw64 _).mono ?_; rintro e w' ⟨rfl, rfl⟩)
  refine (sign_any E F h _).mono ?_; rintro e w5 ⟨rfl, g5⟩
  have H5 := held_next g5 H4
  have htN : ((topN E F : Nat) : Int) = ((2 ^ (E + F) : Nat) : Int) := rfl
  have hor := or_top r (E + F) (by omega) hrt
  rw [← htN] at hor
  clear htN
  go_wp2
  go_ret2
  exact ⟨_, rfl, HV.out, H5.2.2.grown⟩

set_option maxRecDepth 100000 in
set_option maxHeartbeats 1000000 in
theorem mini_pos (v E F : Nat) (h : Fmt E F) {m : Nat} {p : Int} (hs : FloatKind.f32.format.read v = .number false m p) (w : World) :
    Calls Try.prog 46 #[.float .f32 v, .int .i64 (E : Int), .int .i64 (F : Int)] w (GivesM E F v w) := by
  have hn := isN_of_read hs
  have e1 := ne_self .f32 v
  rw [hn] at e1
  have c1 := fun w => fcvv (widen_some v hn) w
  have c2 := fcdv (widen_some v hn)
  have hw64 := wid_lt v
  obtain ⟨hv, hm, hu⟩ := wid_val hs
  have hsg := (wid_abs hs).2
  have hle := le_yes hv maxf_pos (val_le m _ hm hu)
  obtain ⟨b1, b2, b3, b4⟩ := id h
  have H0 := held0 w E F 71
  clear hv hu hm
  have HS := hid hs; clear hs hn
  go_enter Try.func46, Try.ntmps46
  go_wp2_with fail
  refine (good_yes (E : Int) (F : Int) (by omega) _).mono ?_; rintro e w1 ⟨rfl, g1⟩
  have H1 := held_next g1 H0
  obtain ⟨k0, k1, k2⟩ := id H1
  go_wp2_with fail
  refine (infinity_any E F h _).mono ?_; rintro e w2 ⟨rfl, g2⟩
  have H2 := held_next g2 H1
  clear k0 k1 k2
  obtain ⟨k0, k1, k2⟩ := id H2
  go_wp2_with fail
  refine (abs_any _ _).mono ?_; rintro e w' ⟨rfl, rfl⟩
  go_wp2_with fail
  refine (pack_any v E F h HS.out _).mono ?_; rintro e w4 ⟨⟨r, rfl, hr⟩, g4⟩
  have H4 := held_next g4 H2
  clear k0 k1 k2
  obtain ⟨k0, k1, k2⟩ := id H4
  have HV := hid (show MV E F v (r) from Or.inr (Or.inr ⟨false, m, p, r, HS.out, hr, by simp⟩))
  have hrt : r < 2 ^ (E + F) := by
    have a := miniSpec_le hr
    have b : allN E F < 2 ^ (E + F) := by
      unfold allN; rw [Nat.pow_add]; exact Nat.mul_lt_mul_of_pos_right (by have := two_pos E; omega) (two_pos F)
    omega
  go_wp2_with (go_at_call 86; refine (signbit_any _ hw64 _).mono ?_; rintro e w' ⟨rfl, rfl⟩)
  go_ret2
  exact ⟨_, rfl, HV.out, H4.2.2.grown⟩

set_option maxRecDepth 100000 in
set_option maxHeartbeats 1000000 in
theorem mini_infneg (v E F : Nat) (h : Fmt E F) (hs : FloatKind.f32.format.read v = .infinity true) (w : World) :
    Calls Try.prog 46 #[.float .f32 v, .int .i64 (E : Int), .int .i64 (F : Int)] w (GivesM E F v w) := by
  obtain ⟨hn, ha, hsg⟩ := inf_facts hs
  have HV := hid (show MV E F v (topN E F + allN E F) from Or.inr (Or.inl ⟨true, hs, by simp⟩))
  clear hs
  have e1 := ne_self .f32 v
  rw [hn] at e1
  have c1 := fun w => fcvv (widen_some v hn) w
  have c2 := fcdv (widen_some v hn)
  have hw64 := wid_lt v
  have hio := inf_order maxf_pos
  obtain ⟨b1, b2, b3, b4⟩ := id h
  have H0 := held0 w E F 71
  clear hn
  go_enter Try.func46, Try.ntmps46
  go_wp2_with fail
  refine (good_yes (E : Int) (F : Int) (by omega) _).mono ?_; rintro e w1 ⟨rfl, g1⟩
  have H1 := held_next g1 H0
  obtain ⟨k0, k1, k2⟩ := id H1
  go_wp2_with fail
  refine (infinity_any E F h _).mono ?_; rintro e w2 ⟨rfl, g2⟩
  have H2 := held_next g2 H1
  clear k0 k1 k2
  obtain ⟨k0, k1, k2⟩ := id H2
  go_wp2_with fail
  refine (abs_any _ _).mono ?_; rintro e w' ⟨rfl, rfl⟩
  rw [ha]
  go_wp2_with (go_at_call 86; refine (signbit_any _ hw64 _).mono ?_; rintro e w' ⟨rfl, rfl⟩)
  refine (sign_any E F h _).mono ?_; rintro e w5 ⟨rfl, g5⟩
  have H5 := held_next g5 H2
  have htN : ((topN E F : Nat) : Int) = ((2 ^ (E + F) : Nat) : Int) := rfl
  have hor := or_top (allN E F) (E + F) (by omega) (by unfold allN; rw [Nat.pow_add]; exact Nat.mul_lt_mul_of_pos_right (by have := two_pos E; omega) (two_pos F))
  rw [← htN] at hor
  clear htN
  go_wp2
  go_ret2
  exact ⟨_, rfl, HV.out, H5.2.2.grown⟩

set_option maxRecDepth 100000 in
set_option maxHeartbeats 1000000 in
theorem mini_infpos (v E F : Nat) (h : Fmt E F) (hs : FloatKind.f32.format.read v = .infinity false) (w : World) :
    Calls Try.prog 46 #[.float .f32 v, .int .i64 (E : Int), .int .i64 (F : Int)] w (GivesM E F v w) := by
  obtain ⟨hn, ha, hsg⟩ := inf_facts hs
  have HV := hid (show MV E F v (allN E F) from Or.inr (Or.inl ⟨false, hs, by simp⟩))
  clear hs
  have e1 := ne_self .f32 v
  rw [hn] at e1
  have c1 := fun w => fcvv (widen_some v hn) w
  have c2 := fcdv (widen_some v hn)
  have hw64 := wid_lt v
  have hio := inf_order maxf_pos
  obtain ⟨b1, b2, b3, b4⟩ := id h
  have H0 := held0 w E F 71
  clear hn
  go_enter Try.func46, Try.ntmps46
  go_wp2_with fail
  refine (good_yes (E : Int) (F : Int) (by omega) _).mono ?_; rintro e w1 ⟨rfl, g1⟩
  have H1 := held_next g1 H0
  obtain ⟨k0, k1, k2⟩ := id H1
  go_wp2_with fail
  refine (infinity_any E F h _).mono ?_; rintro e w2 ⟨rfl, g2⟩
  have H2 := held_next g2 H1
  clear k0 k1 k2
  obtain ⟨k0, k1, k2⟩ := id H2
  go_wp2_with fail
  refine (abs_any _ _).mono ?_; rintro e w' ⟨rfl, rfl⟩
  rw [ha]
  go_wp2_with (go_at_call 86; refine (signbit_any _ hw64 _).mono ?_; rintro e w' ⟨rfl, rfl⟩)
  go_ret2
  exact ⟨_, rfl, HV.out, H2.2.2.grown⟩

theorem mini_any (v E F : Nat) (h : Fmt E F) (w : World) :
    Calls Try.prog 46 #[.float .f32 v, .int .i64 (E : Int), .int .i64 (F : Int)] w (GivesM E F v w) := by
  rcases read_cases v with hn | ⟨s, hs⟩ | ⟨s, m, p, hs⟩
  · exact mini_nan v E F h hn w
  · cases s
    · exact mini_infpos v E F h hs w
    · exact mini_infneg v E F h hs w
  · cases s
    · exact mini_pos v E F h hs w
    · exact mini_neg v E F h hs w
end Go.Proofs.Ytbenjfipbeikmaa
