/-
  Small floats: FromMini, its reference, and the law.
-/
import Derived.Test.YtbenjfipbeikmaaMin5
namespace Go.Proofs.Ytbenjfipbeikmaa
open Go.RowKit
open Ieee (Datum Format)

theorem neg63 (n : Nat) (h : n < 9223372036854775808) : Op.negFloat .f64 n = n + 9223372036854775808 := by
  show n ^^^ 2 ^ 63 = n + 9223372036854775808
  have e : n ^^^ 2 ^ 63 = n ||| 2 ^ 63 := by
    apply Nat.eq_of_testBit_eq
    intro i
    rw [Nat.testBit_xor, Nat.testBit_or, Nat.testBit_two_pow]
    by_cases hi : 63 = i
    · subst hi
      rw [Nat.testBit_lt_two_pow (by omega : n < 2 ^ 63)]; rfl
    · simp [hi]
  rw [e, Nat.or_comm]
  have := Nat.two_pow_add_eq_or_of_lt (i := 63) (b := n) (by omega) 1
  rw [Nat.mul_one] at this
  omega

theorem neg_near (K : Nat) (P : Int) : Op.negFloat .f64 (FloatKind.f64.format.nearest false K P) = FloatKind.f64.format.nearest true K P := by
  obtain ⟨t1, t2⟩ := nearest_abs true K P
  obtain ⟨f1, f2⟩ := nearest_abs false K P
  have hf := f2.2 rfl
  have ht : ¬ FloatKind.f64.format.nearest true K P < 9223372036854775808 := fun hc => by have := t2.1 hc; cases this
  have hlt : FloatKind.f64.format.nearest true K P < 18446744073709551616 := Format.nearest_lt Ieee.double _ _ _
  rw [neg63 _ hf]
  omega

theorem andNot_top_i64 (n K : Nat) (hK : K ≤ 61) (hn : n < 2 ^ (K + 1)) : bits .andNot .i64 (n : Int) ((2 ^ K : Nat) : Int) = ((n % 2 ^ K : Nat) : Int) := by
  have hb : 2 ^ K < 2 ^ 64 := Nat.pow_lt_pow_right (by decide) (by omega)
  have hb2 : 2 ^ (K + 1) ≤ 2 ^ 62 := Nat.pow_le_pow_right (by decide) (by omega)
  have hp := two_pos K
  have h1 : (BitVec.ofInt 64 (n : Int)) = BitVec.ofNat 64 n := BitVec.ofInt_natCast ..
  have h2 : (BitVec.ofInt 64 ((2 ^ K : Nat) : Int)) = BitVec.ofNat 64 (2 ^ K) := BitVec.ofInt_natCast ..
  have e : (BitVec.ofNat 64 n &&& ~~~BitVec.ofNat 64 (2 ^ K)).toNat = n % 2 ^ K := by
    rw [BitVec.toNat_and, BitVec.toNat_not, BitVec.toNat_ofNat, BitVec.toNat_ofNat, Nat.mod_eq_of_lt (a := n) (by omega), Nat.mod_eq_of_lt hb]
    apply Nat.eq_of_testBit_eq
    intro i
    rw [Nat.testBit_and, Nat.testBit_mod_two_pow, show 2 ^ 64 - 1 - 2 ^ K = 2 ^ 64 - (2 ^ K + 1) by omega, Nat.testBit_two_pow_sub_succ hb, Nat.testBit_two_pow]
    by_cases hi : i < K
    · rw [decide_eq_true hi, decide_eq_true (by omega : i < 64), decide_eq_false (by omega : ¬ K = i)]; simp
    · by_cases hi2 : K = i
      · subst hi2; simp
      · have : n.testBit i = false := Nat.testBit_lt_two_pow (Nat.lt_of_lt_of_le hn (Nat.pow_le_pow_right (by decide) (by omega)))
        rw [this]; simp
  show IntKind.i64.wrap ((BitVec.ofInt 64 (n : Int) &&& ~~~BitVec.ofInt 64 ((2 ^ K : Nat) : Int)).toNat : Int) = _
  have hm : n % 2 ^ K ≤ n := Nat.mod_le ..
  rw [h1, h2, e, IntKind.wrap_i64]
  omega

/-- A number of at most 24 digits within the singles' range goes from double to single exactly. -/
theorem narrow (s : Bool) (K : Nat) (P : Int) (hK : K < 16777216) (h1 : -149 ≤ P) (h2 : P + K.log2 ≤ 127) :
    floatToFloatBits .f64 (FloatKind.f64.format.nearest s K P) .f32 = some (FloatKind.f32.format.nearest s K P) ∧
    ∃ K' P', FloatKind.f32.format.read (FloatKind.f32.format.nearest s K P) = .number s K' P' ∧ K' * 2 ^ (P' + 1074).toNat = K * 2 ^ (P + 1074).toNat := by
  have hl := log2_le_of_lt (k := 23) hK
  have a32 : FloatKind.f32.format.fractionBits = 23 := rfl
  have b32 : FloatKind.f32.format.leastPlace = -149 := rfl
  have c32 : (2 : Int) ^ FloatKind.f32.format.exponentBits = 256 := rfl
  have a64 : FloatKind.f64.format.fractionBits = 52 := rfl
  have b64 : FloatKind.f64.format.leastPlace = -1074 := rfl
  have c64 : (2 : Int) ^ FloatKind.f64.format.exponentBits = 2048 := rfl
  have r32 : ∃ K' P', FloatKind.f32.format.read (FloatKind.f32.format.nearest s K P) = .number s K' P' ∧ K' * 2 ^ (P' + 1074).toNat = K * 2 ^ (P + 1074).toNat := by
    by_cases h0 : K = 0
    · subst h0
      have e : FloatKind.f32.format.nearest s 0 P = FloatKind.f32.format.word s 0 := by simp [Format.nearest]
      rw [e]
      exact ⟨0, -149, by rw [read_zero _ _ (by decide)]; rfl, by rw [Nat.zero_mul, Nat.zero_mul]⟩
    · obtain ⟨q, hq⟩ := nearest_exact FloatKind.f32.format s K P h0 (by omega) (by omega) (by decide) (by rw [a32, b32, c32]; omega)
      have hpq : (-149 : Int) ≤ P - q := (read32_num hq).2.1
      exact ⟨_, _, hq, by rw [Nat.mul_assoc, ← Nat.pow_add]; congr 2; omega⟩
  refine ⟨?_, r32⟩
  obtain ⟨K', P', hr, _⟩ := r32
  have r64 : ∃ K2 P2, FloatKind.f64.format.read (FloatKind.f64.format.nearest s K P) = .number s K2 P2 ∧ FloatKind.f32.format.nearest s K2 P2 = FloatKind.f32.format.nearest s K P := by
    by_cases h0 : K = 0
    · subst h0
      have e : FloatKind.f64.format.nearest s 0 P = FloatKind.f64.format.word s 0 := by simp [Format.nearest]
      rw [e]
      exact ⟨0, -1074, by rw [read_zero _ _ (by decide)]; rfl, by simp [Format.nearest]⟩
    · obtain ⟨q, hq⟩ := nearest_exact FloatKind.f64.format s K P h0 (by omega) (by omega) (by decide) (by rw [a64, b64, c64]; omega)
      exact ⟨_, _, hq, nearest_shift ..⟩
  obtain ⟨K2, P2, hr2, he⟩ := r64
  unfold floatToFloatBits
  rw [if_neg (by decide)]
  have hd : FloatKind.f64.decode (FloatKind.f64.format.nearest s K P) = .number s K2 P2 := hr2
  rw [hd]
  have hen : FloatKind.f32.encode (.number s K2 P2) = FloatKind.f32.format.nearest s K P := he
  simp only [hen]
  have hi : (FloatKind.f32.decode (FloatKind.f32.format.nearest s K P)).isInfinity = false := by
    show (FloatKind.f32.format.read _).isInfinity = false
    rw [hr]; rfl
  rw [if_neg (by rw [hi]; simp)]

theorem svP_bd (E F k : Nat) (h : Fmt E F) (hk : k < allN E F) : -149 ≤ svP E F k ∧ svP E F k + (svK F k).log2 ≤ 127 := by
  obtain ⟨a1, a2⟩ := h.pe1
  have hq : k / 2 ^ F < 2 ^ E - 1 := (Nat.div_lt_iff_lt_mul (two_pos F)).2 hk
  have hE : 2 ^ E = 2 * 2 ^ (E - 1) := by rw [← Nat.pow_succ']; congr 1; have := h.e1; omega
  have hE' : ((2 ^ (E - 1) : Nat) : Int) = (2 : Int) ^ (E - 1) := pow_cast (E - 1)
  have hkl : svK F k < 2 ^ (F + 1) := by
    have m := Nat.mod_lt k (two_pos F)
    rw [Nat.pow_succ]
    unfold svK; split <;> omega
  have hl := log2_le_of_lt hkl
  have f1 := h.f1; have f2 := h.f2
  unfold svP
  generalize k / 2 ^ F = q at *
  split <;> omega

/-- The single that the small float n means. -/
def wholeW (E F n : Nat) : Nat :=
  if allN E F < n % topN E F then 2143289344 else
  if n % topN E F < allN E F then FloatKind.f32.format.nearest (decide (topN E F ≤ n)) (svK F (n % topN E F)) (svP E F (n % topN E F)) else
  FloatKind.f32.format.word (decide (topN E F ≤ n)) FloatKind.f32.format.infRung

theorem allN_lt (E F : Nat) : allN E F < topN E F := by
  unfold allN topN
  rw [Nat.pow_add]; exact Nat.mul_lt_mul_of_pos_right (by have := two_pos E; omega) (two_pos F)

/-- Mini of what n means is n again. -/
theorem whole_back (E F n : Nat) (h : Fmt E F) (hn : n < 2 * topN E F) (hk : n % topN E F ≤ allN E F) : MV E F (wholeW E F n) n := by
  have ha := allN_lt E F
  have hsg : n = (if decide (topN E F ≤ n) = true then topN E F else 0) + n % topN E F := by
    by_cases ht : topN E F ≤ n
    · rw [decide_eq_true ht, if_pos rfl]
      have : n % topN E F = n - topN E F := by rw [Nat.mod_eq_sub_mod ht, Nat.mod_eq_of_lt (by omega)]
      omega
    · rw [decide_eq_false ht, if_neg (by simp), Nat.mod_eq_of_lt (by omega)]; omega
  unfold wholeW
  rw [if_neg (by omega)]
  by_cases hk2 : n % topN E F < allN E F
  · rw [if_pos hk2]
    obtain ⟨p1, p2⟩ := svP_bd E F _ h hk2
    obtain ⟨_, K', P', hr, hv⟩ := narrow (decide (topN E F ≤ n)) (svK F (n % topN E F)) (svP E F (n % topN E F)) (svK_lt F _ h.f2) p1 p2
    refine Or.inr (Or.inr ⟨_, K', P', n % topN E F, hr, ?_, hsg⟩)
    rw [hv]
    obtain ⟨u1, u2, u3⟩ := unitN_cast h
    have hS : svK F (n % topN E F) * 2 ^ (svP E F (n % topN E F) + 1074).toNat = SV E F (n % topN E F) := by
      have hp : (svP E F (n % topN E F) + 1074).toNat = (n % topN E F) / 2 ^ F - 1 + unitN E F := by
        unfold svP
        have : (2 : Int) - 2 ^ (E - 1) = lowZ E := rfl
        generalize n % topN E F / 2 ^ F = q at *
        split
        · rename_i h0; rw [h0]; omega
        · omega
      rw [hp]; unfold SV svU; rw [Nat.mul_assoc, ← Nat.pow_add]
    rw [hS]
    have hup : SV E F (n % topN E F) < SV E F (n % topN E F + 1) := Nat.mul_lt_mul_of_pos_right (svU_lt_succ F _) (two_pos _)
    refine Or.inr ⟨n % topN E F, hk2, Nat.le_refl _, hup, ?_⟩
    unfold upB
    rw [Nat.sub_self, decide_eq_false (by omega), decide_eq_false (by omega)]; rfl
  · rw [if_neg hk2]
    refine Or.inr (Or.inl ⟨decide (topN E F ≤ n), ?_, ?_⟩)
    · cases decide (topN E F ≤ n) <;> decide +kernel
    · have : n % topN E F = allN E F := by omega
      rw [this] at hsg
      exact hsg

set_option maxRecDepth 100000 in
set_option maxHeartbeats 1000000 in
theorem unpack_zero (n E F : Nat) (h : Fmt E F) (hn : n < 4294967296) (h0 : n / 2 ^ F = 0) (w : World) : Calls Try.prog 88 #[fmtV (E : Int) (F : Int), .int .i64 (n : Int)] w fun x w' => x = .returned (.float .f64 (svW E F n)) ∧ Grown w w' := by
  obtain ⟨a1, a2⟩ := h.pe1
  obtain ⟨b1, b2⟩ := h.pf
  obtain ⟨e1, e2, f1, f2⟩ := id h
  obtain ⟨l1, l2⟩ := lowZ_bd h
  have hd := cast_div n F
  have hm := mask_i64 n F (by omega) f2
  have hw1 : IntKind.i64.wrap ((2 : Int) ^ F) = (2 : Int) ^ F := by rw [IntKind.wrap_i64]; omega
  have hw2 : IntKind.i64.wrap ((2 : Int) ^ F - 1) = (2 : Int) ^ F - 1 := by rw [IntKind.wrap_i64]; omega
  have hm0 : n % 2 ^ F < 2 ^ F := Nat.mod_lt _ (two_pos F)
  have hcF : ((2 ^ F : Nat) : Int) = (2 : Int) ^ F := by push_cast; rfl
  have hF : 2 ^ F ≤ 8388608 := by omega
  have HW := hid (show svW E F n = FloatKind.f64.format.nearest false (if n / 2 ^ F = 0 then n % 2 ^ F else 2 ^ F + n % 2 ^ F) ((if n / 2 ^ F = 0 then 1 else ((n / 2 ^ F : Nat) : Int)) - (2 ^ (E - 1) - 1) - F) from rfl)
  have hlz : lowZ E = 2 - 2 ^ (E - 1) := rfl
  have HW' := hid (by rw [HW.out, if_pos h0, if_pos h0, show (1 : Int) - (2 ^ (E - 1) - 1) - F = lowZ E - F by omega] : svW E F n = FloatKind.f64.format.nearest false (n % 2 ^ F) (lowZ E - F))
  rw [h0] at hd
  have hw3 : IntKind.i64.wrap (lowZ E) = lowZ E := by rw [IntKind.wrap_i64]; omega
  have hw4 : IntKind.i64.wrap (lowZ E - (F : Int)) = lowZ E - (F : Int) := by rw [IntKind.wrap_i64]; omega
  clear h0 HW hlz
  generalize n % 2 ^ F = m at *
  have hm1 : m < 8388608 := by omega
  clear hm0 hF hcF
  have H0 := held0 w E F 71
  unfold fmtV
  go_enter Try.func88, Try.ntmps88
  go_wp2
  go_quiet (fail)
  go_wp2
  go_region_held3 (fun w' => w'.cell? ⟨w.heap.size, 0, none⟩ = some (.int .i64 (E : Int)) ∧ w'.cell? ⟨w.heap.size, 1, none⟩ = some (.int .i64 (F : Int)) ∧ KeptIn w w') (first | exact ⟨H0.1, H0.2.1, ⟨H0.2.2.lt, H0.2.2.grown⟩⟩ | exact held_on (by assumption) (by assumption) | exact held_on (grown_drewN (Grown.refl _) _) (by assumption) | go_keep)
    (first | (go_at_call 102; refine (lowest_any _ _ h _).mono ?_; rintro e w3 ⟨rfl, g3⟩) | (go_at_call 14; refine (ldexp_int m (lowZ E - (F : Int)) (by omega) (by omega) (by omega) _).mono ?_; rintro e w' ⟨rfl, k, rfl⟩))
  all_goals
    rename_i hH
    have kl := hH.2.2
    clear hH
    go_wp2
    go_ret
    exact ⟨ret_f HW'.out.symm, kl.grown⟩

set_option maxRecDepth 100000 in
set_option maxHeartbeats 1000000 in
theorem unpack_more (n E F : Nat) (h : Fmt E F) (hn : n < 4294967296) (hq : n / 2 ^ F ≤ 300) (h0 : ¬ n / 2 ^ F = 0) (w : World) : Calls Try.prog 88 #[fmtV (E : Int) (F : Int), .int .i64 (n : Int)] w fun x w' => x = .returned (.float .f64 (svW E F n)) ∧ Grown w w' := by
  obtain ⟨a1, a2⟩ := h.pe1
  obtain ⟨b1, b2⟩ := h.pf
  obtain ⟨e1, e2, f1, f2⟩ := id h
  obtain ⟨l1, l2⟩ := lowZ_bd h
  have hd := cast_div n F
  have hm := mask_i64 n F (by omega) f2
  have hw1 : IntKind.i64.wrap ((2 : Int) ^ F) = (2 : Int) ^ F := by rw [IntKind.wrap_i64]; omega
  have hw2 : IntKind.i64.wrap ((2 : Int) ^ F - 1) = (2 : Int) ^ F - 1 := by rw [IntKind.wrap_i64]; omega
  have hm0 : n % 2 ^ F < 2 ^ F := Nat.mod_lt _ (two_pos F)
  have hcF : ((2 ^ F : Nat) : Int) = (2 : Int) ^ F := by push_cast; rfl
  have hF : 2 ^ F ≤ 8388608 := by omega
  have HW := hid (show svW E F n = FloatKind.f64.format.nearest false (if n / 2 ^ F = 0 then n % 2 ^ F else 2 ^ F + n % 2 ^ F) ((if n / 2 ^ F = 0 then 1 else ((n / 2 ^ F : Nat) : Int)) - (2 ^ (E - 1) - 1) - F) from rfl)
  have hlz : lowZ E = 2 - 2 ^ (E - 1) := rfl
  have HW' := hid (by rw [HW.out, if_neg h0, if_neg h0, show ((n / 2 ^ F : Nat) : Int) - (2 ^ (E - 1) - 1) - F = ((n / 2 ^ F : Nat) : Int) - 1 + lowZ E - F by omega] : svW E F n = FloatKind.f64.format.nearest false (2 ^ F + n % 2 ^ F) (((n / 2 ^ F : Nat) : Int) - 1 + lowZ E - F))
  have HC := hid (by omega : (((n % 2 ^ F : Nat) : Int) + (2 : Int) ^ F).toNat = 2 ^ F + n % 2 ^ F)
  clear HW hlz
  generalize n / 2 ^ F = q at *
  have hq0 : (0 : Int) < (q : Int) := by omega
  have hq1 : (q : Int) ≤ 300 := by omega
  clear h0 hq
  generalize (q : Int) = Q at *
  have hw4 : IntKind.i64.wrap (Q - 1 + lowZ E) = Q - 1 + lowZ E := by rw [IntKind.wrap_i64]; omega
  have hw5 : IntKind.i64.wrap (Q - 1 + lowZ E - (F : Int)) = Q - 1 + lowZ E - (F : Int) := by rw [IntKind.wrap_i64]; omega
  generalize n % 2 ^ F = m at *
  have hm1 : m < 8388608 := by omega
  have hm2 : (0 : Int) ≤ (m : Int) + 2 ^ F := by omega
  have HM3 := hid (show (m : Int) + 2 ^ F < 9007199254740992 by omega)
  clear hm0 hF hcF
  have H0 := held0 w E F 71
  unfold fmtV
  go_enter Try.func88, Try.ntmps88
  go_wp2
  go_quiet (fail)
  have HW4 := hid hw4
  have HW5 := hid hw5
  have HM2 := hid hm2
  have HW1 := hid hw1
  have HW2 := hid hw2
  clear hw4 hw5 hm2 hw1 hw2
  go_wp2
  have hw4 := HW4.out
  have hw5 := HW5.out
  have hw1 := HW1.out
  go_region_held3 (fun w' => w'.cell? ⟨w.heap.size, 0, none⟩ = some (.int .i64 (E : Int)) ∧ w'.cell? ⟨w.heap.size, 1, none⟩ = some (.int .i64 (F : Int)) ∧ KeptIn w w') (first | exact ⟨H0.1, H0.2.1, ⟨H0.2.2.lt, H0.2.2.grown⟩⟩ | exact held_on (by assumption) (by assumption) | exact held_on (grown_drewN (Grown.refl _) _) (by assumption) | go_keep)
    (first | (go_at_call 102; refine (lowest_any _ _ h _).mono ?_; rintro e w3 ⟨rfl, g3⟩) | (go_at_call 14; refine (ldexp_intZ ((m : Int) + 2 ^ F) (Q - 1 + lowZ E - (F : Int)) HM2.out HM3.out (by omega) (by omega) _).mono ?_; rintro e w' ⟨rfl, k, rfl⟩))
  all_goals
    rename_i hH
    have kl := hH.2.2
    clear hH
    go_wp2
    go_ret
    exact ⟨ret_f (by rw [HW'.out, HC.out]), kl.grown⟩

theorem unpack_any (n E F : Nat) (h : Fmt E F) (hn : n < 4294967296) (hq : n / 2 ^ F ≤ 300) (w : World) : Calls Try.prog 88 #[fmtV (E : Int) (F : Int), .int .i64 (n : Int)] w fun x w' => x = .returned (.float .f64 (svW E F n)) ∧ Grown w w' := by
  by_cases h0 : n / 2 ^ F = 0
  · exact unpack_zero n E F h hn h0 w
  · exact unpack_more n E F h hn hq h0 w
end Go.Proofs.Ytbenjfipbeikmaa
