/-
  Small floats: FromMini, its reference, and the law.
-/
import Derived.Test.YtbenjfipbeikmaaMin6
namespace Go.Proofs.Ytbenjfipbeikmaa
open Go.RowKit
open Ieee (Datum Format)

theorem svW_mod (E F n : Nat) (h : Fmt E F) (hk : n % topN E F < allN E F) : (n % topN E F) / 2 ^ F ≤ 300 ∧ n % topN E F < 4294967296 ∧
    floatToFloatBits .f64 (svW E F (n % topN E F)) .f32 = some (FloatKind.f32.format.nearest false (svK F (n % topN E F)) (svP E F (n % topN E F))) ∧
    floatToFloatBits .f64 (Op.negFloat .f64 (svW E F (n % topN E F))) .f32 = some (FloatKind.f32.format.nearest true (svK F (n % topN E F)) (svP E F (n % topN E F))) := by
  obtain ⟨d0, d1, d2, d3⟩ := all_div E F h
  obtain ⟨p1, p2⟩ := svP_bd E F _ h hk
  refine ⟨Nat.le_trans (Nat.div_le_div_right (Nat.le_of_lt hk)) d1, by omega, ?_, ?_⟩
  · exact (narrow false _ _ (svK_lt F _ h.f2) p1 p2).1
  · show floatToFloatBits .f64 (Op.negFloat .f64 (FloatKind.f64.format.nearest false _ _)) .f32 = _
    rw [neg_near]
    exact (narrow true _ _ (svK_lt F _ h.f2) p1 p2).1

theorem inf_pos32 : floatToFloatBits .f64 9218868437227405312 .f32 = some (FloatKind.f32.format.word false FloatKind.f32.format.infRung) := by decide +kernel
theorem inf_neg32 : floatToFloatBits .f64 (Op.negFloat .f64 9218868437227405312) .f32 = some (FloatKind.f32.format.word true FloatKind.f32.format.infRung) := by decide +kernel

theorem inf_any (w : World) : Calls Try.prog 77 #[.int .i64 1] w fun e w' => e = .returned (.float .f64 9218868437227405312) ∧ w = w' := by
  go_enter Try.func77, Try.ntmps77
  go_wp2
  go_ret
  exact ⟨rfl, rfl⟩

def GivesW (E F n : Nat) (w : World) (e : Ending) (w' : World) : Prop := e = .returned (.tuple #[.float .f32 (wholeW E F n), .int .i64 0]) ∧ Grown w w'
def GivesR (E F n : Nat) (w : World) (e : Ending) (w' : World) : Prop := e = .returned (.float .f32 (wholeW E F n)) ∧ Grown w w'

set_option maxRecDepth 100000 in
set_option maxHeartbeats 1000000 in
theorem from_nan (n E F : Nat) (h : Fmt E F) (hn : n < 2 * topN E F) (hk : allN E F < n % topN E F) (w : World) :
    Calls Try.prog 47 #[.int .i64 (n : Int), .int .i64 (E : Int), .int .i64 (F : Int)] w (GivesW E F n w) := by
  have hq : wholeW E F n = 2143289344 := by unfold wholeW; rw [if_pos hk]
  have HQ := hid hq; clear hq
  obtain ⟨d0, d1, d2, d3⟩ := all_div E F h
  have hal := allN_lt E F
  obtain ⟨t1, t2⟩ := h.top
  have htN : ((topN E F : Nat) : Int) = (2 : Int) ^ (E + F) := pow_cast (E + F)
  have ht3 : topN E F ≤ 2147483648 := by omega
  have ht4 : 8 ≤ topN E F := by omega
  have hc : ((allN E F : Nat) : Int) < ((n % topN E F : Nat) : Int) := by omega
  have hand := andNot_top_i64 n (E + F) (by have := h.e2; have := h.f2; omega) (by rw [Nat.pow_succ, Nat.mul_comm]; exact hn)
  have hand2 : bits .andNot .i64 (n : Int) ((topN E F : Nat) : Int) = ((n % topN E F : Nat) : Int) := hand
  clear hand
  have hlt2 : (n : Int) < 2 * ((topN E F : Nat) : Int) := by omega
  have H0 := held0 w E F 71
  obtain ⟨b1, b2, b3, b4⟩ := id h
  clear htN t1 t2 d0 d1 hk
  generalize n % topN E F = kk at *
  go_enter Try.func47, Try.ntmps47
  go_wp2_with fail
  refine (good_yes (E : Int) (F : Int) (by omega) _).mono ?_; rintro e w1 ⟨rfl, g1⟩
  have H1 := held_next g1 H0
  obtain ⟨k0, k1, k2⟩ := id H1
  go_wp2_with fail
  refine (sign_any E F h _).mono ?_; rintro e w2 ⟨rfl, g2⟩
  have H2 := held_next g2 H1
  clear k0 k1 k2
  obtain ⟨k0, k1, k2⟩ := id H2
  go_wp2_with fail
  refine (sign_any E F h _).mono ?_; rintro e w3 ⟨rfl, g3⟩
  have H3 := held_next g3 H2
  clear k0 k1 k2
  obtain ⟨k0, k1, k2⟩ := id H3
  go_wp2_with fail
  refine (inf_any _).mono ?_; rintro e w' ⟨rfl, rfl⟩
  go_wp2_with fail
  refine (infinity_any E F h _).mono ?_; rintro e w4 ⟨rfl, g4⟩
  have H4 := held_next g4 H3
  clear k0 k1 k2
  obtain ⟨k0, k1, k2⟩ := id H4
  go_wp2_with (go_at_call 21; refine (fromBits_any _ _).mono ?_; rintro e w' ⟨rfl, rfl⟩)
  go_ret2
  exact ⟨by rw [HQ.out]; rfl, H4.2.2.grown⟩

set_option maxRecDepth 100000 in
set_option maxHeartbeats 1000000 in
theorem whole_nan (n E F : Nat) (h : Fmt E F) (hn : n < 2 * topN E F) (hk : allN E F < n % topN E F) (w : World) :
    Calls Try.prog 49 #[.int .i64 (n : Int), .int .i64 (E : Int), .int .i64 (F : Int)] w (GivesR E F n w) := by
  have hq : wholeW E F n = 2143289344 := by unfold wholeW; rw [if_pos hk]
  have HQ := hid hq; clear hq
  obtain ⟨d0, d1, d2, d3⟩ := all_div E F h
  have hal := allN_lt E F
  obtain ⟨t1, t2⟩ := h.top
  have htN : ((topN E F : Nat) : Int) = (2 : Int) ^ (E + F) := pow_cast (E + F)
  have ht3 : topN E F ≤ 2147483648 := by omega
  have ht4 : 8 ≤ topN E F := by omega
  have hc : ((allN E F : Nat) : Int) < ((n % topN E F : Nat) : Int) := by omega
  obtain ⟨pe1, pe2⟩ := h.pe
  obtain ⟨pf1, pf2⟩ := h.pf
  obtain ⟨pa1, pa2⟩ := h.all
  obtain ⟨b1, b2, b3, b4⟩ := id h
  have ht : ((E : Int) + (F : Int)).toNat = E + F := by omega
  have hall := (allN_cast E F).symm
  have htop : (2 : Int) ^ (E + F) = ((topN E F : Nat) : Int) := (pow_cast (E + F)).symm
  have hmod : (n : Int) % ((topN E F : Nat) : Int) = ((n % topN E F : Nat) : Int) := (Int.natCast_emod n (topN E F)).symm
  have hnn : n < 4294967296 := by omega
  clear htN d0 d1 hk hn
  generalize n % topN E F = kk at *
  go_enter Try.func49, Try.ntmps49
  go_wp2_with (first | (go_at_call 77; refine (inf_any _).mono ?_; rintro e w' ⟨rfl, rfl⟩) | (go_at_call 64; refine (theNaN_any _).mono ?_; rintro e w' ⟨rfl, rfl⟩))
  go_ret
  exact ⟨by rw [HQ.out]; rfl, by first | exact Grown.refl _ | exact grown_drewN (Grown.refl _) _⟩

set_option maxRecDepth 100000 in
set_option maxHeartbeats 1000000 in
theorem from_finfalse (n E F : Nat) (h : Fmt E F) (hn : n < 2 * topN E F) (hk : n % topN E F < allN E F) (hs : n < topN E F) (w : World) :
    Calls Try.prog 47 #[.int .i64 (n : Int), .int .i64 (E : Int), .int .i64 (F : Int)] w (GivesW E F n w) := by
  have hq : wholeW E F n = FloatKind.f32.format.nearest false (svK F (n % topN E F)) (svP E F (n % topN E F)) := by unfold wholeW; rw [if_neg (by omega), if_pos hk, decide_eq_false (Nat.not_le.2 hs)]
  have HQ := hid hq; clear hq
  obtain ⟨d0, d1, d2, d3⟩ := all_div E F h
  have hal := allN_lt E F
  obtain ⟨t1, t2⟩ := h.top
  have htN : ((topN E F : Nat) : Int) = (2 : Int) ^ (E + F) := pow_cast (E + F)
  have ht3 : topN E F ≤ 2147483648 := by omega
  have ht4 : 8 ≤ topN E F := by omega
  obtain ⟨q1, q2, q3, q4⟩ := svW_mod E F n h hk
  have v1 := fun w => fcvv q3 w
  have v2 := fcdv q3
  have hne : ((n : Int) == ((n % topN E F : Nat) : Int)) = true := by rw [beq_iff_eq, Nat.mod_eq_of_lt hs]
  have hne2 : ((n : Int) != ((n % topN E F : Nat) : Int)) = false := by rw [bne, hne]; rfl
  have hge : (n : Int) < ((topN E F : Nat) : Int) := by omega
  have hc : ((n % topN E F : Nat) : Int) < ((allN E F : Nat) : Int) := by omega
  have hand := andNot_top_i64 n (E + F) (by have := h.e2; have := h.f2; omega) (by rw [Nat.pow_succ, Nat.mul_comm]; exact hn)
  have hand2 : bits .andNot .i64 (n : Int) ((topN E F : Nat) : Int) = ((n % topN E F : Nat) : Int) := hand
  clear hand
  have hlt2 : (n : Int) < 2 * ((topN E F : Nat) : Int) := by omega
  have H0 := held0 w E F 71
  obtain ⟨b1, b2, b3, b4⟩ := id h
  clear htN t1 t2 d0 d1 hk hs
  generalize n % topN E F = kk at *
  go_enter Try.func47, Try.ntmps47
  go_wp2_with fail
  refine (good_yes (E : Int) (F : Int) (by omega) _).mono ?_; rintro e w1 ⟨rfl, g1⟩
  have H1 := held_next g1 H0
  obtain ⟨k0, k1, k2⟩ := id H1
  go_wp2_with fail
  refine (sign_any E F h _).mono ?_; rintro e w2 ⟨rfl, g2⟩
  have H2 := held_next g2 H1
  clear k0 k1 k2
  obtain ⟨k0, k1, k2⟩ := id H2
  go_wp2_with fail
  refine (sign_any E F h _).mono ?_; rintro e w3 ⟨rfl, g3⟩
  have H3 := held_next g3 H2
  clear k0 k1 k2
  obtain ⟨k0, k1, k2⟩ := id H3
  go_wp2_with fail
  refine (inf_any _).mono ?_; rintro e w' ⟨rfl, rfl⟩
  go_wp2_with fail
  refine (infinity_any E F h _).mono ?_; rintro e w4 ⟨rfl, g4⟩
  have H4 := held_next g4 H3
  clear k0 k1 k2
  obtain ⟨k0, k1, k2⟩ := id H4
  go_wp2_with fail
  refine (infinity_any E F h _).mono ?_; rintro e w5 ⟨rfl, g5⟩
  have H5 := held_next g5 H4
  clear k0 k1 k2
  obtain ⟨k0, k1, k2⟩ := id H5
  go_wp2_with fail
  refine (unpack_any kk E F h q2 q1 _).mono ?_; rintro e w6 ⟨rfl, g6⟩
  have H6 := held_next g6 H5
  clear k0 k1 k2
  go_wp2
  go_ret2
  exact ⟨by rw [HQ.out]; rfl, H6.2.2.grown⟩

set_option maxRecDepth 100000 in
set_option maxHeartbeats 1000000 in
theorem whole_finfalse (n E F : Nat) (h : Fmt E F) (hn : n < 2 * topN E F) (hk : n % topN E F < allN E F) (hs : n < topN E F) (w : World) :
    Calls Try.prog 49 #[.int .i64 (n : Int), .int .i64 (E : Int), .int .i64 (F : Int)] w (GivesR E F n w) := by
  have hq : wholeW E F n = FloatKind.f32.format.nearest false (svK F (n % topN E F)) (svP E F (n % topN E F)) := by unfold wholeW; rw [if_neg (by omega), if_pos hk, decide_eq_false (Nat.not_le.2 hs)]
  have HQ := hid hq; clear hq
  obtain ⟨d0, d1, d2, d3⟩ := all_div E F h
  have hal := allN_lt E F
  obtain ⟨t1, t2⟩ := h.top
  have htN : ((topN E F : Nat) : Int) = (2 : Int) ^ (E + F) := pow_cast (E + F)
  have ht3 : topN E F ≤ 2147483648 := by omega
  have ht4 : 8 ≤ topN E F := by omega
  obtain ⟨q1, q2, q3, q4⟩ := svW_mod E F n h hk
  have v1 := fun w => fcvv q3 w
  have v2 := fcdv q3
  have hne : ((n : Int) == ((n % topN E F : Nat) : Int)) = true := by rw [beq_iff_eq, Nat.mod_eq_of_lt hs]
  have hne2 : ((n : Int) != ((n % topN E F : Nat) : Int)) = false := by rw [bne, hne]; rfl
  have hge : (n : Int) < ((topN E F : Nat) : Int) := by omega
  have hc : ((n % topN E F : Nat) : Int) < ((allN E F : Nat) : Int) := by omega
  obtain ⟨pe1, pe2⟩ := h.pe
  obtain ⟨pf1, pf2⟩ := h.pf
  obtain ⟨pa1, pa2⟩ := h.all
  obtain ⟨b1, b2, b3, b4⟩ := id h
  have ht : ((E : Int) + (F : Int)).toNat = E + F := by omega
  have hall := (allN_cast E F).symm
  have htop : (2 : Int) ^ (E + F) = ((topN E F : Nat) : Int) := (pow_cast (E + F)).symm
  have hmod : (n : Int) % ((topN E F : Nat) : Int) = ((n % topN E F : Nat) : Int) := (Int.natCast_emod n (topN E F)).symm
  have hnn : n < 4294967296 := by omega
  clear htN d0 d1 hk hn hs hne hne2
  generalize n % topN E F = kk at *
  go_enter Try.func49, Try.ntmps49
  go_wp2_with (first | (go_at_call 77; refine (inf_any _).mono ?_; rintro e w' ⟨rfl, rfl⟩) | (go_at_call 89; refine (small_any kk E F h q2 q1 _).mono ?_; rintro e w' ⟨rfl, k, rfl⟩))
  go_ret
  exact ⟨by rw [HQ.out]; rfl, by first | exact Grown.refl _ | exact grown_drewN (Grown.refl _) _⟩

set_option maxRecDepth 100000 in
set_option maxHeartbeats 1000000 in
theorem from_inffalse (n E F : Nat) (h : Fmt E F) (hn : n < 2 * topN E F) (hk : n % topN E F = allN E F) (hs : n < topN E F) (w : World) :
    Calls Try.prog 47 #[.int .i64 (n : Int), .int .i64 (E : Int), .int .i64 (F : Int)] w (GivesW E F n w) := by
  have hq : wholeW E F n = FloatKind.f32.format.word false FloatKind.f32.format.infRung := by unfold wholeW; rw [if_neg (by omega), if_neg (by omega), decide_eq_false (Nat.not_le.2 hs)]
  have HQ := hid hq; clear hq
  obtain ⟨d0, d1, d2, d3⟩ := all_div E F h
  have hal := allN_lt E F
  obtain ⟨t1, t2⟩ := h.top
  have htN : ((topN E F : Nat) : Int) = (2 : Int) ^ (E + F) := pow_cast (E + F)
  have ht3 : topN E F ≤ 2147483648 := by omega
  have ht4 : 8 ≤ topN E F := by omega
  have v1 := fun w => fcvv inf_pos32 w
  have v2 := fcdv inf_pos32
  have hne : ((n : Int) == ((n % topN E F : Nat) : Int)) = true := by rw [beq_iff_eq, Nat.mod_eq_of_lt hs]
  have hne2 : ((n : Int) != ((n % topN E F : Nat) : Int)) = false := by rw [bne, hne]; rfl
  have hge : (n : Int) < ((topN E F : Nat) : Int) := by omega
  have hc : ¬ ((n % topN E F : Nat) : Int) < ((allN E F : Nat) : Int) := by omega
  have hc2 : ¬ ((allN E F : Nat) : Int) < ((n % topN E F : Nat) : Int) := by omega
  have hand := andNot_top_i64 n (E + F) (by have := h.e2; have := h.f2; omega) (by rw [Nat.pow_succ, Nat.mul_comm]; exact hn)
  have hand2 : bits .andNot .i64 (n : Int) ((topN E F : Nat) : Int) = ((n % topN E F : Nat) : Int) := hand
  clear hand
  have hlt2 : (n : Int) < 2 * ((topN E F : Nat) : Int) := by omega
  have H0 := held0 w E F 71
  obtain ⟨b1, b2, b3, b4⟩ := id h
  clear htN t1 t2 d0 d1 hk hs
  generalize n % topN E F = kk at *
  go_enter Try.func47, Try.ntmps47
  go_wp2_with fail
  refine (good_yes (E : Int) (F : Int) (by omega) _).mono ?_; rintro e w1 ⟨rfl, g1⟩
  have H1 := held_next g1 H0
  obtain ⟨k0, k1, k2⟩ := id H1
  go_wp2_with fail
  refine (sign_any E F h _).mono ?_; rintro e w2 ⟨rfl, g2⟩
  have H2 := held_next g2 H1
  clear k0 k1 k2
  obtain ⟨k0, k1, k2⟩ := id H2
  go_wp2_with fail
  refine (sign_any E F h _).mono ?_; rintro e w3 ⟨rfl, g3⟩
  have H3 := held_next g3 H2
  clear k0 k1 k2
  obtain ⟨k0, k1, k2⟩ := id H3
  go_wp2_with fail
  refine (inf_any _).mono ?_; rintro e w' ⟨rfl, rfl⟩
  go_wp2_with fail
  refine (infinity_any E F h _).mono ?_; rintro e w4 ⟨rfl, g4⟩
  have H4 := held_next g4 H3
  clear k0 k1 k2
  obtain ⟨k0, k1, k2⟩ := id H4
  go_wp2_with fail
  refine (infinity_any E F h _).mono ?_; rintro e w5 ⟨rfl, g5⟩
  have H5 := held_next g5 H4
  clear k0 k1 k2
  obtain ⟨k0, k1, k2⟩ := id H5
  go_wp2
  go_ret2
  exact ⟨by rw [HQ.out]; rfl, H5.2.2.grown⟩

set_option maxRecDepth 100000 in
set_option maxHeartbeats 1000000 in
theorem whole_inffalse (n E F : Nat) (h : Fmt E F) (hn : n < 2 * topN E F) (hk : n % topN E F = allN E F) (hs : n < topN E F) (w : World) :
    Calls Try.prog 49 #[.int .i64 (n : Int), .int .i64 (E : Int), .int .i64 (F : Int)] w (GivesR E F n w) := by
  have hq : wholeW E F n = FloatKind.f32.format.word false FloatKind.f32.format.infRung := by unfold wholeW; rw [if_neg (by omega), if_neg (by omega), decide_eq_false (Nat.not_le.2 hs)]
  have HQ := hid hq; clear hq
  obtain ⟨d0, d1, d2, d3⟩ := all_div E F h
  have hal := allN_lt E F
  obtain ⟨t1, t2⟩ := h.top
  have htN : ((topN E F : Nat) : Int) = (2 : Int) ^ (E + F) := pow_cast (E + F)
  have ht3 : topN E F ≤ 2147483648 := by omega
  have ht4 : 8 ≤ topN E F := by omega
  have v1 := fun w => fcvv inf_pos32 w
  have v2 := fcdv inf_pos32
  have hne : ((n : Int) == ((n % topN E F : Nat) : Int)) = true := by rw [beq_iff_eq, Nat.mod_eq_of_lt hs]
  have hne2 : ((n : Int) != ((n % topN E F : Nat) : Int)) = false := by rw [bne, hne]; rfl
  have hge : (n : Int) < ((topN E F : Nat) : Int) := by omega
  have hc : ¬ ((n % topN E F : Nat) : Int) < ((allN E F : Nat) : Int) := by omega
  have hc2 : ¬ ((allN E F : Nat) : Int) < ((n % topN E F : Nat) : Int) := by omega
  obtain ⟨pe1, pe2⟩ := h.pe
  obtain ⟨pf1, pf2⟩ := h.pf
  obtain ⟨pa1, pa2⟩ := h.all
  obtain ⟨b1, b2, b3, b4⟩ := id h
  have ht : ((E : Int) + (F : Int)).toNat = E + F := by omega
  have hall := (allN_cast E F).symm
  have htop : (2 : Int) ^ (E + F) = ((topN E F : Nat) : Int) := (pow_cast (E + F)).symm
  have hmod : (n : Int) % ((topN E F : Nat) : Int) = ((n % topN E F : Nat) : Int) := (Int.natCast_emod n (topN E F)).symm
  have hnn : n < 4294967296 := by omega
  clear htN d0 d1 hk hn hs hne hne2
  generalize n % topN E F = kk at *
  go_enter Try.func49, Try.ntmps49
  go_wp2_with (first | (go_at_call 77; refine (inf_any _).mono ?_; rintro e w' ⟨rfl, rfl⟩))
  go_ret
  exact ⟨by rw [HQ.out]; rfl, by first | exact Grown.refl _ | exact grown_drewN (Grown.refl _) _⟩

set_option maxRecDepth 100000 in
set_option maxHeartbeats 1000000 in
theorem from_fintrue (n E F : Nat) (h : Fmt E F) (hn : n < 2 * topN E F) (hk : n % topN E F < allN E F) (hs : topN E F ≤ n) (w : World) :
    Calls Try.prog 47 #[.int .i64 (n : Int), .int .i64 (E : Int), .int .i64 (F : Int)] w (GivesW E F n w) := by
  have hq : wholeW E F n = FloatKind.f32.format.nearest true (svK F (n % topN E F)) (svP E F (n % topN E F)) := by unfold wholeW; rw [if_neg (by omega), if_pos hk, decide_eq_true hs]
  have HQ := hid hq; clear hq
  obtain ⟨d0, d1, d2, d3⟩ := all_div E F h
  have hal := allN_lt E F
  obtain ⟨t1, t2⟩ := h.top
  have htN : ((topN E F : Nat) : Int) = (2 : Int) ^ (E + F) := pow_cast (E + F)
  have ht3 : topN E F ≤ 2147483648 := by omega
  have ht4 : 8 ≤ topN E F := by omega
  obtain ⟨q1, q2, q3, q4⟩ := svW_mod E F n h hk
  have v1 := fun w => fcvv q4 w
  have v2 := fcdv q4
  have hne : ((n : Int) == ((n % topN E F : Nat) : Int)) = false := by
    rw [beq_eq_false_iff_ne]; have := Nat.mod_lt n (show 0 < topN E F by omega); omega
  have hne2 : ((n : Int) != ((n % topN E F : Nat) : Int)) = true := by rw [bne, hne]; rfl
  have hge : ((topN E F : Nat) : Int) ≤ (n : Int) := by omega
  have hc : ((n % topN E F : Nat) : Int) < ((allN E F : Nat) : Int) := by omega
  have hand := andNot_top_i64 n (E + F) (by have := h.e2; have := h.f2; omega) (by rw [Nat.pow_succ, Nat.mul_comm]; exact hn)
  have hand2 : bits .andNot .i64 (n : Int) ((topN E F : Nat) : Int) = ((n % topN E F : Nat) : Int) := hand
  clear hand
  have hlt2 : (n : Int) < 2 * ((topN E F : Nat) : Int) := by omega
  have H0 := held0 w E F 71
  obtain ⟨b1, b2, b3, b4⟩ := id h
  clear htN t1 t2 d0 d1 hk hs
  generalize n % topN E F = kk at *
  go_enter Try.func47, Try.ntmps47
  go_wp2_with fail
  refine (good_yes (E : Int) (F : Int) (by omega) _).mono ?_; rintro e w1 ⟨rfl, g1⟩
  have H1 := held_next g1 H0
  obtain ⟨k0, k1, k2⟩ := id H1
  go_wp2_with fail
  refine (sign_any E F h _).mono ?_; rintro e w2 ⟨rfl, g2⟩
  have H2 := held_next g2 H1
  clear k0 k1 k2
  obtain ⟨k0, k1, k2⟩ := id H2
  go_wp2_with fail
  refine (sign_any E F h _).mono ?_; rintro e w3 ⟨rfl, g3⟩
  have H3 := held_next g3 H2
  clear k0 k1 k2
  obtain ⟨k0, k1, k2⟩ := id H3
  go_wp2_with fail
  refine (inf_any _).mono ?_; rintro e w' ⟨rfl, rfl⟩
  go_wp2_with fail
  refine (infinity_any E F h _).mono ?_; rintro e w4 ⟨rfl, g4⟩
  have H4 := held_next g4 H3
  clear k0 k1 k2
  obtain ⟨k0, k1, k2⟩ := id H4
  go_wp2_with fail
  refine (infinity_any E F h _).mono ?_; rintro e w5 ⟨rfl, g5⟩
  have H5 := held_next g5 H4
  clear k0 k1 k2
  obtain ⟨k0, k1, k2⟩ := id H5
  go_wp2_with fail
  refine (unpack_any kk E F h q2 q1 _).mono ?_; rintro e w6 ⟨rfl, g6⟩
  have H6 := held_next g6 H5
  clear k0 k1 k2
  go_wp2
  go_ret2
  exact ⟨by rw [HQ.out]; rfl, H6.2.2.grown⟩

set_option maxRecDepth 100000 in
set_option maxHeartbeats 1000000 in
theorem whole_fintrue (n E F : Nat) (h : Fmt E F) (hn : n < 2 * topN E F) (hk : n % topN E F < allN E F) (hs : topN E F ≤ n) (w : World) :
    Calls Try.prog 49 #[.int .i64 (n : Int), .int .i64 (E : Int), .int .i64 (F : Int)] w (GivesR E F n w) := by
  have hq : wholeW E F n = FloatKind.f32.format.nearest true (svK F (n % topN E F)) (svP E F (n % topN E F)) := by unfold wholeW; rw [if_neg (by omega), if_pos hk, decide_eq_true hs]
  have HQ := hid hq; clear hq
  obtain ⟨d0, d1, d2, d3⟩ := all_div E F h
  have hal := allN_lt E F
  obtain ⟨t1, t2⟩ := h.top
  have htN : ((topN E F : Nat) : Int) = (2 : Int) ^ (E + F) := pow_cast (E + F)
  have ht3 : topN E F ≤ 2147483648 := by omega
  have ht4 : 8 ≤ topN E F := by omega
  obtain ⟨q1, q2, q3, q4⟩ := svW_mod E F n h hk
  have v1 := fun w => fcvv q4 w
  have v2 := fcdv q4
  have hne : ((n : Int) == ((n % topN E F : Nat) : Int)) = false := by
    rw [beq_eq_false_iff_ne]; have := Nat.mod_lt n (show 0 < topN E F by omega); omega
  have hne2 : ((n : Int) != ((n % topN E F : Nat) : Int)) = true := by rw [bne, hne]; rfl
  have hge : ((topN E F : Nat) : Int) ≤ (n : Int) := by omega
  have hc : ((n % topN E F : Nat) : Int) < ((allN E F : Nat) : Int) := by omega
  obtain ⟨pe1, pe2⟩ := h.pe
  obtain ⟨pf1, pf2⟩ := h.pf
  obtain ⟨pa1, pa2⟩ := h.all
  obtain ⟨b1, b2, b3, b4⟩ := id h
  have ht : ((E : Int) + (F : Int)).toNat = E + F := by omega
  have hall := (allN_cast E F).symm
  have htop : (2 : Int) ^ (E + F) = ((topN E F : Nat) : Int) := (pow_cast (E + F)).symm
  have hmod : (n : Int) % ((topN E F : Nat) : Int) = ((n % topN E F : Nat) : Int) := (Int.natCast_emod n (topN E F)).symm
  have hnn : n < 4294967296 := by omega
  clear htN d0 d1 hk hn hs hne hne2
  generalize n % topN E F = kk at *
  go_enter Try.func49, Try.ntmps49
  go_wp2_with (first | (go_at_call 77; refine (inf_any _).mono ?_; rintro e w' ⟨rfl, rfl⟩) | (go_at_call 89; refine (small_any kk E F h q2 q1 _).mono ?_; rintro e w' ⟨rfl, k, rfl⟩))
  go_ret
  exact ⟨by rw [HQ.out]; rfl, by first | exact Grown.refl _ | exact grown_drewN (Grown.refl _) _⟩

set_option maxRecDepth 100000 in
set_option maxHeartbeats 1000000 in
theorem from_inftrue (n E F : Nat) (h : Fmt E F) (hn : n < 2 * topN E F) (hk : n % topN E F = allN E F) (hs : topN E F ≤ n) (w : World) :
    Calls Try.prog 47 #[.int .i64 (n : Int), .int .i64 (E : Int), .int .i64 (F : Int)] w (GivesW E F n w) := by
  have hq : wholeW E F n = FloatKind.f32.format.word true FloatKind.f32.format.infRung := by unfold wholeW; rw [if_neg (by omega), if_neg (by omega), decide_eq_true hs]
  have HQ := hid hq; clear hq
  obtain ⟨d0, d1, d2, d3⟩ := all_div E F h
  have hal := allN_lt E F
  obtain ⟨t1, t2⟩ := h.top
  have htN : ((topN E F : Nat) : Int) = (2 : Int) ^ (E + F) := pow_cast (E + F)
  have ht3 : topN E F ≤ 2147483648 := by omega
  have ht4 : 8 ≤ topN E F := by omega
  have v1 := fun w => fcvv inf_neg32 w
  have v2 := fcdv inf_neg32
  have hne : ((n : Int) == ((n % topN E F : Nat) : Int)) = false := by
    rw [beq_eq_false_iff_ne]; have := Nat.mod_lt n (show 0 < topN E F by omega); omega
  have hne2 : ((n : Int) != ((n % topN E F : Nat) : Int)) = true := by rw [bne, hne]; rfl
  have hge : ((topN E F : Nat) : Int) ≤ (n : Int) := by omega
  have hc : ¬ ((n % topN E F : Nat) : Int) < ((allN E F : Nat) : Int) := by omega
  have hc2 : ¬ ((allN E F : Nat) : Int) < ((n % topN E F : Nat) : Int) := by omega
  have hand := andNot_top_i64 n (E + F) (by have := h.e2; have := h.f2; omega) (by rw [Nat.pow_succ, Nat.mul_comm]; exact hn)
  have hand2 : bits .andNot .i64 (n : Int) ((topN E F : Nat) : Int) = ((n % topN E F : Nat) : Int) := hand
  clear hand
  have hlt2 : (n : Int) < 2 * ((topN E F : Nat) : Int) := by omega
  have H0 := held0 w E F 71
  obtain ⟨b1, b2, b3, b4⟩ := id h
  clear htN t1 t2 d0 d1 hk hs
  generalize n % topN E F = kk at *
  go_enter Try.func47, Try.ntmps47
  go_wp2_with fail
  refine (good_yes (E : Int) (F : Int) (by omega) _).mono ?_; rintro e w1 ⟨rfl, g1⟩
  have H1 := held_next g1 H0
  obtain ⟨k0, k1, k2⟩ := id H1
  go_wp2_with fail
  refine (sign_any E F h _).mono ?_; rintro e w2 ⟨rfl, g2⟩
  have H2 := held_next g2 H1
  clear k0 k1 k2
  obtain ⟨k0, k1, k2⟩ := id H2
  go_wp2_with fail
  refine (sign_any E F h _).mono ?_; rintro e w3 ⟨rfl, g3⟩
  have H3 := held_next g3 H2
  clear k0 k1 k2
  obtain ⟨k0, k1, k2⟩ := id H3
  go_wp2_with fail
  refine (inf_any _).mono ?_; rintro e w' ⟨rfl, rfl⟩
  go_wp2_with fail
  refine (infinity_any E F h _).mono ?_; rintro e w4 ⟨rfl, g4⟩
  have H4 := held_next g4 H3
  clear k0 k1 k2
  obtain ⟨k0, k1, k2⟩ := id H4
  go_wp2_with fail
  refine (infinity_any E F h _).mono ?_; rintro e w5 ⟨rfl, g5⟩
  have H5 := held_next g5 H4
  clear k0 k1 k2
  obtain ⟨k0, k1, k2⟩ := id H5
  go_wp2
  go_ret2
  exact ⟨by rw [HQ.out]; rfl, H5.2.2.grown⟩

set_option maxRecDepth 100000 in
set_option maxHeartbeats 1000000 in
theorem whole_inftrue (n E F : Nat) (h : Fmt E F) (hn : n < 2 * topN E F) (hk : n % topN E F = allN E F) (hs : topN E F ≤ n) (w : World) :
    Calls Try.prog 49 #[.int .i64 (n : Int), .int .i64 (E : Int), .int .i64 (F : Int)] w (GivesR E F n w) := by
  have hq : wholeW E F n = FloatKind.f32.format.word true FloatKind.f32.format.infRung := by unfold wholeW; rw [if_neg (by omega), if_neg (by omega), decide_eq_true hs]
  have HQ := hid hq; clear hq
  obtain ⟨d0, d1, d2, d3⟩ := all_div E F h
  have hal := allN_lt E F
  obtain ⟨t1, t2⟩ := h.top
  have htN : ((topN E F : Nat) : Int) = (2 : Int) ^ (E + F) := pow_cast (E + F)
  have ht3 : topN E F ≤ 2147483648 := by omega
  have ht4 : 8 ≤ topN E F := by omega
  have v1 := fun w => fcvv inf_neg32 w
  have v2 := fcdv inf_neg32
  have hne : ((n : Int) == ((n % topN E F : Nat) : Int)) = false := by
    rw [beq_eq_false_iff_ne]; have := Nat.mod_lt n (show 0 < topN E F by omega); omega
  have hne2 : ((n : Int) != ((n % topN E F : Nat) : Int)) = true := by rw [bne, hne]; rfl
  have hge : ((topN E F : Nat) : Int) ≤ (n : Int) := by omega
  have hc : ¬ ((n % topN E F : Nat) : Int) < ((allN E F : Nat) : Int) := by omega
  have hc2 : ¬ ((allN E F : Nat) : Int) < ((n % topN E F : Nat) : Int) := by omega
  obtain ⟨pe1, pe2⟩ := h.pe
  obtain ⟨pf1, pf2⟩ := h.pf
  obtain ⟨pa1, pa2⟩ := h.all
  obtain ⟨b1, b2, b3, b4⟩ := id h
  have ht : ((E : Int) + (F : Int)).toNat = E + F := by omega
  have hall := (allN_cast E F).symm
  have htop : (2 : Int) ^ (E + F) = ((topN E F : Nat) : Int) := (pow_cast (E + F)).symm
  have hmod : (n : Int) % ((topN E F : Nat) : Int) = ((n % topN E F : Nat) : Int) := (Int.natCast_emod n (topN E F)).symm
  have hnn : n < 4294967296 := by omega
  clear htN d0 d1 hk hn hs hne hne2
  generalize n % topN E F = kk at *
  go_enter Try.func49, Try.ntmps49
  go_wp2_with (first | (go_at_call 77; refine (inf_any _).mono ?_; rintro e w' ⟨rfl, rfl⟩))
  go_ret
  exact ⟨by rw [HQ.out]; rfl, by first | exact Grown.refl _ | exact grown_drewN (Grown.refl _) _⟩
end Go.Proofs.Ytbenjfipbeikmaa
