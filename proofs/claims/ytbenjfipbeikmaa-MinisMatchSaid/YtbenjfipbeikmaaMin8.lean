/-
  The law on small floats.
-/
import Derived.Test.YtbenjfipbeikmaaMin7
namespace Go.Proofs.Ytbenjfipbeikmaa
open Go.RowKit
open Ieee (Datum Format)

theorem from_any (n E F : Nat) (h : Fmt E F) (hn : n < 2 * topN E F) (w : World) :
    Calls Try.prog 47 #[.int .i64 (n : Int), .int .i64 (E : Int), .int .i64 (F : Int)] w (GivesW E F n w) := by
  rcases Nat.lt_trichotomy (n % topN E F) (allN E F) with hk | hk | hk
  · rcases Nat.lt_or_ge n (topN E F) with hs | hs
    · exact from_finfalse n E F h hn hk hs w
    · exact from_fintrue n E F h hn hk hs w
  · rcases Nat.lt_or_ge n (topN E F) with hs | hs
    · exact from_inffalse n E F h hn hk hs w
    · exact from_inftrue n E F h hn hk hs w
  · exact from_nan n E F h hn hk w

theorem whole_any (n E F : Nat) (h : Fmt E F) (hn : n < 2 * topN E F) (w : World) :
    Calls Try.prog 49 #[.int .i64 (n : Int), .int .i64 (E : Int), .int .i64 (F : Int)] w (GivesR E F n w) := by
  rcases Nat.lt_trichotomy (n % topN E F) (allN E F) with hk | hk | hk
  · rcases Nat.lt_or_ge n (topN E F) with hs | hs
    · exact whole_finfalse n E F h hn hk hs w
    · exact whole_fintrue n E F h hn hk hs w
  · rcases Nat.lt_or_ge n (topN E F) with hs | hs
    · exact whole_inffalse n E F h hn hk hs w
    · exact whole_inftrue n E F h hn hk hs w
  · exact whole_nan n E F h hn hk w

set_option maxRecDepth 100000 in
theorem mini_bad (v : Nat) (e f : Int) (h : ¬ (2 ≤ e ∧ e ≤ 8 ∧ 1 ≤ f ∧ f ≤ 23)) (w : World) :
    Calls Try.prog 46 #[.float .f32 v, .int .i64 e, .int .i64 f] w fun x w' => x = .returned (.tuple #[.int .i64 0, .int .i64 3]) ∧ Grown w w' := by
  have H0 := held0 w e f 71
  have H := hid h; clear h
  go_enter Try.func46, Try.ntmps46
  go_wp2_with fail
  refine (good_no e f H.out _).mono ?_; rintro x w1 ⟨rfl, g1⟩
  have H1 := held_next g1 H0
  go_wp2
  go_ret2
  exact ⟨rfl, H1.2.2.grown⟩

set_option maxRecDepth 100000 in
theorem from_bad (n e f : Int) (h : ¬ (2 ≤ e ∧ e ≤ 8 ∧ 1 ≤ f ∧ f ≤ 23)) (w : World) :
    Calls Try.prog 47 #[.int .i64 n, .int .i64 e, .int .i64 f] w fun x w' => x = .returned (.tuple #[.float .f32 0, .int .i64 3]) ∧ Grown w w' := by
  have H0 := held0 w e f 71
  have H := hid h; clear h
  go_enter Try.func47, Try.ntmps47
  go_wp2_with fail
  refine (good_no e f H.out _).mono ?_; rintro x w1 ⟨rfl, g1⟩
  have H1 := held_next g1 H0
  go_wp2
  go_ret2
  exact ⟨rfl, H1.2.2.grown⟩

set_option maxRecDepth 100000 in
theorem from_out (n : Int) (E F : Nat) (h : Fmt E F) (hn : n < 0 ∨ 2 * ((topN E F : Nat) : Int) ≤ n) (w : World) :
    Calls Try.prog 47 #[.int .i64 n, .int .i64 (E : Int), .int .i64 (F : Int)] w fun x w' => x = .returned (.tuple #[.float .f32 0, .int .i64 3]) ∧ Grown w w' := by
  have H0 := held0 w E F 71
  obtain ⟨b1, b2, b3, b4⟩ := id h
  obtain ⟨t1, t2⟩ := h.top
  have htN : ((topN E F : Nat) : Int) = (2 : Int) ^ (E + F) := pow_cast (E + F)
  have ht3 : topN E F ≤ 2147483648 := by omega
  clear htN t1 t2
  by_cases h0 : n < 0
  · clear hn
    go_enter Try.func47, Try.ntmps47
    go_wp2_with fail
    refine (good_yes (E : Int) (F : Int) (by omega) _).mono ?_; rintro e w1 ⟨rfl, g1⟩
    have H1 := held_next g1 H0
    go_wp2
    go_ret2
    exact ⟨rfl, H1.2.2.grown⟩
  · have h1 : 2 * ((topN E F : Nat) : Int) ≤ n := by omega
    clear hn
    go_enter Try.func47, Try.ntmps47
    go_wp2_with fail
    refine (good_yes (E : Int) (F : Int) (by omega) _).mono ?_; rintro e w1 ⟨rfl, g1⟩
    have H1 := held_next g1 H0
    obtain ⟨k0, k1, k2⟩ := id H1
    go_wp2_with fail
    refine (sign_any E F h _).mono ?_; rintro e w2 ⟨rfl, g2⟩
    have H2 := held_next g2 H1
    go_wp2
    go_ret2
    exact ⟨rfl, H2.2.2.grown⟩

def MinisAt (v : Nat) (n e f : Int) (w : World) : Prop := Calls Try.prog 9 #[.float .f32 v, .int .i64 n, .int .i64 e, .int .i64 f] w fun x w' => x = .returned (.bool true) ∧ Grown w w'

theorem zero_eq : FloatKind.f32.format.order 0 0 = some .eq := by decide +kernel

set_option maxRecDepth 100000 in
theorem minis_bad (v : Nat) (n e f : Int) (h : ¬ (2 ≤ e ∧ e ≤ 8 ∧ 1 ≤ f ∧ f ≤ 23)) (w : World) : MinisAt v n e f w := by
  unfold MinisAt
  have hz := zero_eq
  have H := hid h; clear h
  by_cases h1 : 2 ≤ e ∧ e ≤ 8
  · have h2 : f < 1 ∨ 23 < f := by have := H.out; omega
    go_enter Try.func9, Try.ntmps9
    go_wp2_with fail
    refine (mini_bad v e f H.out _).mono ?_; rintro x w1 ⟨rfl, g1⟩
    go_wp2_with fail
    refine (from_bad n e f H.out _).mono ?_; rintro x w2 ⟨rfl, g2⟩
    go_wp2_with fail
    refine (in_yes e 2 8 h1.1 h1.2 _).mono ?_; rintro x w' ⟨rfl, rfl⟩
    go_wp2_with fail
    refine (in_no f 1 23 h2 _).mono ?_; rintro x w' ⟨rfl, rfl⟩
    go_wp2_with fail
    refine (counts_any _).mono ?_; rintro x w' ⟨rfl, n1, rfl⟩
    go_wp2
    go_ret
    exact ⟨rfl, grown_drewN (grown_trans g1 g2) n1⟩
  · have h2 : e < 2 ∨ 8 < e := by omega
    clear h1
    go_enter Try.func9, Try.ntmps9
    go_wp2_with fail
    refine (mini_bad v e f H.out _).mono ?_; rintro x w1 ⟨rfl, g1⟩
    go_wp2_with fail
    refine (from_bad n e f H.out _).mono ?_; rintro x w2 ⟨rfl, g2⟩
    go_wp2_with fail
    refine (in_no e 2 8 h2 _).mono ?_; rintro x w' ⟨rfl, rfl⟩
    go_wp2_with fail
    refine (counts_any _).mono ?_; rintro x w' ⟨rfl, n1, rfl⟩
    go_wp2
    go_ret
    exact ⟨rfl, grown_drewN (grown_trans g1 g2) n1⟩

theorem top_shift (E F : Nat) : (2 : Int) ^ (1 + E + F) = 2 * ((topN E F : Nat) : Int) := by
  rw [← pow_cast (1 + E + F), Nat.add_assoc, Nat.pow_add]; unfold topN; push_cast; omega

set_option maxRecDepth 100000 in
set_option maxHeartbeats 1000000 in
theorem minis_out (v : Nat) (n : Int) (E F : Nat) (h : Fmt E F) (hn : n < 0 ∨ 2 * ((topN E F : Nat) : Int) ≤ n) (w : World) : MinisAt v n E F w := by
  unfold MinisAt
  have hz := zero_eq
  obtain ⟨b1, b2, b3, b4⟩ := id h
  obtain ⟨t1, t2⟩ := h.top
  have htN : ((topN E F : Nat) : Int) = (2 : Int) ^ (E + F) := pow_cast (E + F)
  have ht3 : topN E F ≤ 2147483648 := by omega
  have hts := top_shift E F
  have hsh : ((1 : Int) + (E : Int) + (F : Int)).toNat = 1 + E + F := by omega
  clear htN t1 t2
  have HN := hid hn; clear hn
  go_enter Try.func9, Try.ntmps9
  go_wp2_with fail
  refine (mini_any v E F h _).mono ?_; rintro x w1 ⟨r, rfl, hr, g1⟩
  have HR := hid hr; clear hr
  go_wp2_with fail
  refine (from_out n E F h HN.out _).mono ?_; rintro x w2 ⟨rfl, g2⟩
  go_wp2_with fail
  refine (in_yes (E : Int) 2 8 (by omega) (by omega) _).mono ?_; rintro x w' ⟨rfl, rfl⟩
  go_wp2_with fail
  refine (in_yes (F : Int) 1 23 (by omega) (by omega) _).mono ?_; rintro x w' ⟨rfl, rfl⟩
  go_wp2_with fail
  refine (counts_any _).mono ?_; rintro x w' ⟨rfl, n1, rfl⟩
  go_wp2_with fail
  refine (miniOf_any v E F h _).mono ?_; rintro x w' ⟨r', n2, rfl, hr', rfl⟩
  obtain rfl := MV_unique HR.out hr'
  clear hr' HR
  go_wp2_with fail
  refine (in_no n 0 (2 * ((topN E F : Nat) : Int) - 1) (by have := HN.out; omega) _).mono ?_; rintro x w' ⟨rfl, rfl⟩
  go_wp2
  go_ret
  exact ⟨rfl, grown_drewN (grown_trans g1 g2) _⟩

set_option maxRecDepth 100000 in
set_option maxHeartbeats 1000000 in
theorem minis_nan (v n : Nat) (E F : Nat) (h : Fmt E F) (hn : n < 2 * topN E F) (hk : allN E F < n % topN E F) (w : World) : MinisAt v n E F w := by
  unfold MinisAt
  have hz := zero_eq
  obtain ⟨b1, b2, b3, b4⟩ := id h
  obtain ⟨t1, t2⟩ := h.top
  have htN : ((topN E F : Nat) : Int) = (2 : Int) ^ (E + F) := pow_cast (E + F)
  have ht3 : topN E F ≤ 2147483648 := by omega
  have hts := top_shift E F
  have hsh : ((1 : Int) + (E : Int) + (F : Int)).toNat = 1 + E + F := by omega
  clear htN t1 t2
  have hw : wholeW E F n = 2143289344 := by unfold wholeW; rw [if_pos hk]
  have hnan := ne_self .f32 (wholeW E F n)
  have hnn : isN .f32 (wholeW E F n) = true := by rw [hw]; decide +kernel
  rw [hnn] at hnan
  clear hw hnn hk
  have HN := hid hn; clear hn
  go_enter Try.func9, Try.ntmps9
  go_wp2_with fail
  refine (mini_any v E F h _).mono ?_; rintro x w1 ⟨r, rfl, hr, g1⟩
  have HR := hid hr; clear hr
  go_wp2_with fail
  refine (from_any n E F h HN.out _).mono ?_; rintro x w2 ⟨rfl, g2⟩
  go_wp2_with fail
  refine (in_yes (E : Int) 2 8 (by omega) (by omega) _).mono ?_; rintro x w' ⟨rfl, rfl⟩
  go_wp2_with fail
  refine (in_yes (F : Int) 1 23 (by omega) (by omega) _).mono ?_; rintro x w' ⟨rfl, rfl⟩
  go_wp2_with fail
  refine (counts_any _).mono ?_; rintro x w' ⟨rfl, n1, rfl⟩
  go_wp2_with fail
  refine (miniOf_any v E F h _).mono ?_; rintro x w' ⟨r', n2, rfl, hr', rfl⟩
  obtain rfl := MV_unique HR.out hr'
  clear hr' HR
  go_wp2_with fail
  refine (in_yes (n : Int) 0 (2 * ((topN E F : Nat) : Int) - 1) (by omega) (by have := HN.out; omega) _).mono ?_; rintro x w' ⟨rfl, rfl⟩
  go_wp2_with fail
  refine (whole_any n E F h HN.out _).mono ?_; rintro x w3 ⟨rfl, g3⟩
  go_wp2_with fail
  refine (same_yes _ _ rfl _).mono ?_; rintro x w' ⟨rfl, rfl⟩
  go_wp2_with fail
  refine (mini_any (wholeW E F n) E F h _).mono ?_; rintro x w4 ⟨b4', rfl, hb4, g4⟩
  go_wp2
  go_ret
  exact ⟨rfl, grown_trans (grown_drewN (grown_trans g1 g2) _) (grown_trans g3 g4)⟩

set_option maxRecDepth 100000 in
set_option maxHeartbeats 1000000 in
theorem minis_num (v n : Nat) (E F : Nat) (h : Fmt E F) (hn : n < 2 * topN E F) (hk : n % topN E F ≤ allN E F) (w : World) : MinisAt v n E F w := by
  unfold MinisAt
  have hz := zero_eq
  obtain ⟨b1, b2, b3, b4⟩ := id h
  obtain ⟨t1, t2⟩ := h.top
  have htN : ((topN E F : Nat) : Int) = (2 : Int) ^ (E + F) := pow_cast (E + F)
  have ht3 : topN E F ≤ 2147483648 := by omega
  have hts := top_shift E F
  have hsh : ((1 : Int) + (E : Int) + (F : Int)).toNat = 1 + E + F := by omega
  clear htN t1 t2
  have hb := whole_back E F n h hn hk
  have hnan := ne_self .f32 (wholeW E F n)
  have hnn : isN .f32 (wholeW E F n) = false := by
    rcases hb with ⟨a, b⟩ | ⟨s, a, b⟩ | ⟨s, m, p, r, a, b, c⟩
    · exfalso
      have ha := allN_lt E F
      have hc : n < topN E F ∨ topN E F ≤ n := by omega
      have h2 : 2 ^ (F - 1) < 2 ^ F := Nat.pow_lt_pow_right (by decide) (by have := h.f1; omega)
      have h3 : allN E F + 2 ^ F = topN E F := by
        unfold allN topN; rw [Nat.pow_add, Nat.sub_mul, Nat.one_mul]; have := Nat.le_mul_of_pos_left (2 ^ F) (two_pos E); omega
      have h4 : 0 < 2 ^ (F - 1) := two_pos _
      rw [Nat.mod_eq_of_lt (by omega)] at hk
      omega
    · unfold isN; rw [a]; rfl
    · exact isN_of_read a
  rw [hnn] at hnan
  have HB := hid hb
  clear hb hnn hk
  have HN := hid hn; clear hn
  go_enter Try.func9, Try.ntmps9
  go_wp2_with fail
  refine (mini_any v E F h _).mono ?_; rintro x w1 ⟨r, rfl, hr, g1⟩
  have HR := hid hr; clear hr
  go_wp2_with fail
  refine (from_any n E F h HN.out _).mono ?_; rintro x w2 ⟨rfl, g2⟩
  go_wp2_with fail
  refine (in_yes (E : Int) 2 8 (by omega) (by omega) _).mono ?_; rintro x w' ⟨rfl, rfl⟩
  go_wp2_with fail
  refine (in_yes (F : Int) 1 23 (by omega) (by omega) _).mono ?_; rintro x w' ⟨rfl, rfl⟩
  go_wp2_with fail
  refine (counts_any _).mono ?_; rintro x w' ⟨rfl, n1, rfl⟩
  go_wp2_with fail
  refine (miniOf_any v E F h _).mono ?_; rintro x w' ⟨r', n2, rfl, hr', rfl⟩
  obtain rfl := MV_unique HR.out hr'
  clear hr' HR
  go_wp2_with fail
  refine (in_yes (n : Int) 0 (2 * ((topN E F : Nat) : Int) - 1) (by omega) (by have := HN.out; omega) _).mono ?_; rintro x w' ⟨rfl, rfl⟩
  go_wp2_with fail
  refine (whole_any n E F h HN.out _).mono ?_; rintro x w3 ⟨rfl, g3⟩
  go_wp2_with fail
  refine (same_yes _ _ rfl _).mono ?_; rintro x w' ⟨rfl, rfl⟩
  go_wp2_with fail
  refine (mini_any (wholeW E F n) E F h _).mono ?_; rintro x w4 ⟨b4', rfl, hb4, g4⟩
  obtain rfl := MV_unique HB.out hb4
  clear hb4
  go_wp2
  go_ret
  exact ⟨rfl, grown_trans (grown_drewN (grown_trans g1 g2) _) (grown_trans g3 g4)⟩

theorem minis_any (v : Nat) (n e f : Int) (w : World) : MinisAt v n e f w := by
  by_cases h : 2 ≤ e ∧ e ≤ 8 ∧ 1 ≤ f ∧ f ≤ 23
  · obtain ⟨E, rfl⟩ := Int.eq_ofNat_of_zero_le (show 0 ≤ e by omega)
    obtain ⟨F, rfl⟩ := Int.eq_ofNat_of_zero_le (show 0 ≤ f by omega)
    have hf : Fmt E F := ⟨by omega, by omega, by omega, by omega⟩
    by_cases hn : n < 0 ∨ 2 * ((topN E F : Nat) : Int) ≤ n
    · exact minis_out v n E F hf hn w
    · obtain ⟨N, rfl⟩ := Int.eq_ofNat_of_zero_le (show 0 ≤ n by omega)
      rcases Nat.lt_or_ge (allN E F) (N % topN E F) with hk | hk
      · exact minis_nan v N E F hf (by omega) hk w
      · exact minis_num v N E F hf (by omega) hk w
  · exact minis_bad v n e f h w
end Go.Proofs.Ytbenjfipbeikmaa
