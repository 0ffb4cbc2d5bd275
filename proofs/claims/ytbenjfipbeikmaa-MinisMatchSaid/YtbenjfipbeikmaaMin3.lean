/-
  Small floats: the reference's search for the nearest one.
-/
import Derived.Test.YtbenjfipbeikmaaMin2
namespace Go.Proofs.Ytbenjfipbeikmaa
open Go.RowKit
open Ieee (Datum Format)

theorem nearest_abs (s : Bool) (m : Nat) (p : Int) : FloatKind.f64.format.nearest s m p % 9223372036854775808 = FloatKind.f64.format.nearest false m p ∧
    (FloatKind.f64.format.nearest s m p < 9223372036854775808 ↔ s = false) := by
  have hs : FloatKind.f64.format.signWeight = 9223372036854775808 := rfl
  have hi : FloatKind.f64.format.infRung = 9218868437227405312 := rfl
  cases s
  · have hlt : FloatKind.f64.format.nearest false m p < 9223372036854775808 := by
      unfold Format.nearest Format.word
      split
      · simp
      · simp only [hi]; simp; omega
    exact ⟨Nat.mod_eq_of_lt hlt, by simp [hlt]⟩
  · unfold Format.nearest Format.word
    rw [hs, hi]
    by_cases h0 : m = 0
    · rw [if_pos h0, if_pos h0]; simp
    · rw [if_neg h0, if_neg h0]
      dsimp only
      have e : ∀ n d, Ieee.Toward.even.cut true n d = Ieee.Toward.even.cut false n d := fun _ _ => rfl
      rw [e]
      generalize ((max (p + (m.log2 : Int) - (FloatKind.f64.format.fractionBits : Int)) FloatKind.f64.format.leastPlace - FloatKind.f64.format.leastPlace).toNat * FloatKind.f64.format.binade + Ieee.Toward.even.cut false (m <<< (p - max (p + (m.log2 : Int) - (FloatKind.f64.format.fractionBits : Int)) FloatKind.f64.format.leastPlace).toNat) (max (p + (m.log2 : Int) - (FloatKind.f64.format.fractionBits : Int)) FloatKind.f64.format.leastPlace - p).toNat) = r
      simp
      omega

def sgnB (x : Nat) : Bool := decide (9223372036854775808 ≤ x)

theorem wid_abs {v : Nat} {s : Bool} {m : Nat} {p : Int} (h : FloatKind.f32.format.read v = .number s m p) : absB (wid v) = FloatKind.f64.format.nearest false m p ∧ sgnB (wid v) = s := by
  have hw : wid v = FloatKind.f64.format.nearest s m p := by
    show FloatKind.f64.format.write (FloatKind.f32.format.read v) = _
    rw [h]; rfl
  obtain ⟨n1, n2⟩ := nearest_abs s m p
  constructor
  · unfold absB
    rw [andNot_top _ (wid_lt v), hw, n1]
  · unfold sgnB
    rw [hw]
    cases s
    · exact decide_eq_false (by have := n2.2 rfl; omega)
    · exact decide_eq_true (by
        have : ¬ FloatKind.f64.format.nearest true m p < 9223372036854775808 := fun hc => by have := n2.1 hc; cases this
        omega)

/-- The value of a single number, in 2^-1074: of at most 24 digits. -/
theorem wid_val {v : Nat} {s : Bool} {m : Nat} {p : Int} (h : FloatKind.f32.format.read v = .number s m p) : Pos (absB (wid v)) (m * 2 ^ (p + 1074).toNat) ∧ m < 16777216 ∧ (p + 1074).toNat ≤ 1178 := by
  obtain ⟨hm, hp1, hp2⟩ := read32_num h
  have hl := log2_le_of_lt (k := 23) hm
  refine ⟨?_, hm, by omega⟩
  rw [(wid_abs h).1]
  exact pos_near m p (by omega) (by omega) (by omega)

theorem signbit_any (x : Nat) (h : x < 18446744073709551616) (w : World) : Calls Try.prog 86 #[.float .f64 x] w fun e w' => e = .returned (.bool (sgnB x)) ∧ w = w' := by
  by_cases hx : 9223372036854775808 ≤ x
  · have hq : sgnB x = true := decide_eq_true hx
    have HQ := hid hq; clear hq
    have hw : wrap64 (x : Int) = (x : Int) - 18446744073709551616 := by unfold wrap64; omega
    have hl : (x : Int) - 18446744073709551616 < 0 := by omega
    go_enter Try.func86, Try.ntmps86
    go_wp2
    go_ret
    exact ⟨by rw [HQ.out]; simp, rfl⟩
  · have hq : sgnB x = false := decide_eq_false hx
    have HQ := hid hq; clear hq
    have hw : wrap64 (x : Int) = (x : Int) := by unfold wrap64; omega
    have hl : ¬ (x : Int) < 0 := by omega
    go_enter Try.func86, Try.ntmps86
    go_wp2
    go_ret
    exact ⟨by rw [HQ.out]; simp, rfl⟩

theorem pos_sub_some {x y A B : Nat} (hx : Pos x A) (hy : Pos y B) (h : B ≤ A) : floatBits .sub .f64 x y = some (dN (A - B)) := by
  have hc := pos_sub hx hy h
  obtain ⟨k, i, hr, _⟩ := hx
  obtain ⟨n, j, hs, _⟩ := hy
  unfold cop at hc
  have : ∃ r, floatBits .sub .f64 x y = some r := by
    unfold floatBits Format.sub
    rw [hr, hs]
    exact ⟨_, rfl⟩
  obtain ⟨r, hr'⟩ := this
  rw [hr'] at hc ⊢
  rw [← hc]; rfl

theorem ge_yes {x y A B : Nat} (hx : Pos x A) (hy : Pos y B) (h : B ≤ A) : (FloatKind.f64.format.order x y == some .gt || FloatKind.f64.format.order x y == some .eq) = true := by
  rw [pos_order hx hy]
  rcases Nat.lt_or_eq_of_le h with g | g
  · rw [Nat.compare_eq_gt.2 g]; rfl
  · rw [Nat.compare_eq_eq.2 g.symm]; rfl
theorem ge_no {x y A B : Nat} (hx : Pos x A) (hy : Pos y B) (h : A < B) : (FloatKind.f64.format.order x y == some .gt || FloatKind.f64.format.order x y == some .eq) = false := by
  rw [pos_order hx hy, Nat.compare_eq_lt.2 h]; rfl
theorem le_yes {x y A B : Nat} (hx : Pos x A) (hy : Pos y B) (h : A ≤ B) : (FloatKind.f64.format.order x y == some .lt || FloatKind.f64.format.order x y == some .eq) = true := by
  rw [pos_order hx hy]
  rcases Nat.lt_or_eq_of_le h with g | g
  · rw [Nat.compare_eq_lt.2 g]; rfl
  · rw [Nat.compare_eq_eq.2 g]; rfl
theorem le_no {x y A B : Nat} (hx : Pos x A) (hy : Pos y B) (h : B < A) : (FloatKind.f64.format.order x y == some .lt || FloatKind.f64.format.order x y == some .eq) = false := by
  rw [pos_order hx hy, Nat.compare_eq_gt.2 h]; rfl

theorem all_div (E F : Nat) (h : Fmt E F) : allN E F / 2 ^ F = 2 ^ E - 1 ∧ allN E F / 2 ^ F ≤ 300 ∧ allN E F ≤ 2139095040 ∧ 6 ≤ allN E F := by
  have e : allN E F / 2 ^ F = 2 ^ E - 1 := Nat.mul_div_cancel _ (two_pos F)
  have h1 : 2 ^ E ≤ 2 ^ 8 := Nat.pow_le_pow_right (by decide) h.e2
  obtain ⟨a1, a2⟩ := h.all
  rw [← allN_cast] at a1 a2
  exact ⟨e, by omega, by omega, by omega⟩

/-- The reference gives the sign and the nearest small float. -/
def GivesMini (E F A sg : Nat) (w : World) (e : Ending) (w' : World) : Prop := ∃ r k : Nat, e = .returned (.int .i64 ((sg : Int) + (r : Int))) ∧ MiniSpec E F A r ∧ w' = w.drewN k

/-- What the last test of the search says, by how the two gaps stand to each other. -/
theorem last_test (E F l A M u : Nat) (h : Fmt E F) (hl : l < allN E F) (h1 : SV E F l ≤ A) (h2 : A < SV E F (l + 1)) (hAM : A = M * 2 ^ u) (hM : M < 16777216) (hu : u ≤ 1300) :
    FloatKind.f64.format.order (dN (SV E F (l + 1) - A)) (dN (A - SV E F l)) = some (compare (SV E F (l + 1) - A) (A - SV E F l)) := by
  obtain ⟨u1, u2, u3⟩ := unitN_cast h
  obtain ⟨d0, d1, d2, d3⟩ := all_div E F h
  have hq : l / 2 ^ F ≤ 300 := Nat.le_trans (Nat.div_le_div_right (Nat.le_of_lt hl)) d1
  have e1 : SV E F l = svK F l * 2 ^ (l / 2 ^ F - 1 + unitN E F) := by unfold SV svU; rw [Nat.mul_assoc, ← Nat.pow_add]
  have e2 : SV E F (l + 1) = (svK F l + 1) * 2 ^ (l / 2 ^ F - 1 + unitN E F) := by
    unfold SV; rw [svU_step]; unfold svU; rw [← Nat.succ_mul, Nat.mul_assoc, ← Nat.pow_add]
  rw [e1, hAM] at h1
  rw [e2, hAM] at h2
  rw [e1, e2, hAM]
  have hg : l / 2 ^ F - 1 + unitN E F ≤ 1800 := by
    generalize l / 2 ^ F = q at *
    omega
  generalize l / 2 ^ F - 1 + unitN E F = g at *
  exact gaps M u (svK F l) g hM (by omega) hg h1 h2

set_option maxRecDepth 100000 in
set_option maxHeartbeats 2000000 in
theorem miniOf_neg (v E F A M u : Nat) (h : Fmt E F) (hn : isN .f32 v = false) (hs : sgnB (wid v) = true) (hA : Pos (absB (wid v)) A) (hAM : A = M * 2 ^ u) (hM : M < 16777216) (hu : u ≤ 1300) (w : World) :
    Calls Try.prog 48 #[.float .f32 v, .int .i64 (E : Int), .int .i64 (F : Int)] w (GivesMini E F A (topN E F) w) := by
  have e1 := ne_self .f32 v
  rw [hn] at e1
  have c1 := fun w => fcvv (widen_some v hn) w
  have c2 := fcdv (widen_some v hn)
  have hw64 := wid_lt v
  obtain ⟨pe1, pe2⟩ := h.pe
  obtain ⟨pf1, pf2⟩ := h.pf
  obtain ⟨pa1, pa2⟩ := h.all
  obtain ⟨pt1, pt2⟩ := h.top
  obtain ⟨d0, d1, d2, d3⟩ := all_div E F h
  obtain ⟨b1, b2, b3, b4⟩ := id h
  have ht : ((E : Int) + (F : Int)).toNat = E + F := by omega
  have hall := (allN_cast E F).symm
  have htop : (2 : Int) ^ (E + F) = ((topN E F : Nat) : Int) := (pow_cast (E + F)).symm
  have htb : topN E F ≤ 2147483648 := by omega
  have hAM' := hid hAM; clear hAM
  by_cases hbig : SV E F (allN E F) ≤ A
  · have hge := ge_yes hA (pos_svW E F (allN E F) h d1) hbig
    have HS := hid (show MiniSpec E F A (allN E F) from Or.inl ⟨hbig, rfl⟩)
    clear hbig d0 hn
    go_enter Try.func48, Try.ntmps48
    go_wp2_with (first | (go_at_call 86; refine (signbit_any _ hw64 _).mono ?_; rintro e w' ⟨rfl, rfl⟩) | (go_at_call 13; refine (abs_any _ _).mono ?_; rintro e w' ⟨rfl, rfl⟩) | (go_at_call 89; refine (small_any (allN E F) E F h (by omega) d1 _).mono ?_; rintro e w' ⟨rfl, k, rfl⟩))
    go_ret
    exact ⟨allN E F, _, rfl, HS.out, rfl⟩
  · have hge := ge_no hA (pos_svW E F (allN E F) h d1) (by omega)
    have hlt : A < SV E F (allN E F) := by omega
    have h0 : SV E F 0 ≤ A := by
      have : SV E F 0 = 0 := by unfold SV svU svK; simp
      omega
    clear hbig d0 hn
    go_enter Try.func48, Try.ntmps48
    go_wp2_with (first | (go_at_call 86; refine (signbit_any _ hw64 _).mono ?_; rintro e w' ⟨rfl, rfl⟩) | (go_at_call 13; refine (abs_any _ _).mono ?_; rintro e w' ⟨rfl, rfl⟩) | (go_at_call 89; refine (small_any (allN E F) E F h (by omega) d1 _).mono ?_; rintro e w' ⟨rfl, k, rfl⟩))
    go_loopw [10, 11] (fun lo hi wr => ∃ l r n : Nat, l < r ∧ r ≤ allN E F ∧ SV E F l ≤ A ∧ A < SV E F r ∧ lo = .int .i64 (l : Int) ∧ hi = .int .i64 (r : Int) ∧ wr = w.drewN n) (fun lo hi _ => (intOf hi - intOf lo).toNat)
    case atStart => exact ⟨0, allN E F, _, by omega, Nat.le_refl _, h0, hlt, rfl, rfl, rfl⟩
    case round =>
      obtain ⟨l, r, n, hlr, hr, hl1, hr1, rfl, rfl, rfl⟩ := hrel
      by_cases hstep : l + 1 < r
      · obtain ⟨m, hm⟩ : ∃ m, m = (l + r) / 2 := ⟨_, rfl⟩
        have hmid : ((l : Int) + (r : Int)) / 2 = (m : Int) := by omega
        have hm1 : l < m := by omega
        have hm2 : m < r := by omega
        have hmd : m / 2 ^ F ≤ 300 := Nat.le_trans (Nat.div_le_div_right (by omega)) d1
        have hcmp : (1 : Int) < (r : Int) - (l : Int) := by omega
        clear hm
        by_cases hmA : SV E F m ≤ A
        · have hle := le_yes (pos_svW E F m h hmd) hA hmA
          go_wp2_with (go_at_call 89; refine (small_any m E F h (by omega) hmd _).mono ?_; rintro e w' ⟨rfl, k, rfl⟩)
          go_roundw
          case rel => exact ⟨m, r, _, hm2, hr, hmA, hr1, rfl, rfl, rfl⟩
          case measure => simp [intOf]; omega
        · have hle := le_no (pos_svW E F m h hmd) hA (by omega)
          have hmA' : A < SV E F m := by omega
          go_wp2_with (go_at_call 89; refine (small_any m E F h (by omega) hmd _).mono ?_; rintro e w' ⟨rfl, k, rfl⟩)
          go_roundw
          case rel => exact ⟨l, m, _, hm1, by omega, hl1, hmA', rfl, rfl, rfl⟩
          case measure => simp [intOf]; omega
      · obtain rfl : r = l + 1 := by omega
        have hld : l / 2 ^ F ≤ 300 := Nat.le_trans (Nat.div_le_div_right (by omega)) d1
        have hld1 : (l + 1) / 2 ^ F ≤ 300 := Nat.le_trans (Nat.div_le_div_right hr) d1
        have s1 := fun w => fopv (pos_sub_some hA (pos_svW E F l h hld) hl1) w
        have s2 := fdrv (pos_sub_some hA (pos_svW E F l h hld) hl1)
        have s3 := fun w => fopv (pos_sub_some (pos_svW E F (l + 1) h hld1) hA (Nat.le_of_lt hr1)) w
        have s4 := fdrv (pos_sub_some (pos_svW E F (l + 1) h hld1) hA (Nat.le_of_lt hr1))
        have hlast := last_test E F l A M u h (by omega) hl1 hr1 hAM'.out hM hu
        have hcmp : ¬ (1 : Int) < ((l + 1 : Nat) : Int) - (l : Int) := by omega
        have HS : ∀ b, upB E F l A = b → RowKit.Hid (MiniSpec E F A (l + b.toNat)) := fun b hb => hid (Or.inr ⟨l, by omega, hl1, hr1, by rw [hb]⟩)
        have hl2 : l < 2147483648 := by omega
        rcases Nat.lt_trichotomy (SV E F (l + 1) - A) (A - SV E F l) with g | g | g
        · have HU := HS true (by unfold upB; rw [decide_eq_true g]; rfl)
          rw [Nat.compare_eq_lt.2 g] at hlast
          clear HS g hl1 hr1 hstep
          go_wp2_with fail
          refine (small_any l E F h (by omega) hld _).mono ?_; rintro e w' ⟨rfl, k1, rfl⟩
          go_wp2_with fail
          refine (small_any (l + 1) E F h (by omega) hld1 _).mono ?_; rintro e w' ⟨rfl, k2, rfl⟩
          go_wp2
          go_ret
          exact ⟨l + 1, _, by simp, HU.out, rfl⟩
        · rw [Nat.compare_eq_eq.2 g] at hlast
          by_cases hodd : l % 2 = 1
          · have HU := HS true (by unfold upB; rw [decide_eq_true (p := SV E F (l + 1) - A = A - SV E F l) g, decide_eq_true hodd]; simp)
            have ho : ((l : Int) % 2 == 1) = true := by rw [beq_iff_eq]; omega
            clear HS g hl1 hr1 hstep hodd
            go_wp2_with fail
            refine (small_any l E F h (by omega) hld _).mono ?_; rintro e w' ⟨rfl, k1, rfl⟩
            go_wp2_with fail
            refine (small_any (l + 1) E F h (by omega) hld1 _).mono ?_; rintro e w' ⟨rfl, k2, rfl⟩
            go_wp2
            go_ret
            exact ⟨l + 1, _, by simp, HU.out, rfl⟩
          · have HU := HS false (by unfold upB; rw [decide_eq_false (p := SV E F (l + 1) - A < A - SV E F l) (by omega), decide_eq_false hodd]; simp)
            have ho : ((l : Int) % 2 == 1) = false := by rw [beq_eq_false_iff_ne]; omega
            clear HS g hl1 hr1 hstep hodd
            go_wp2_with fail
            refine (small_any l E F h (by omega) hld _).mono ?_; rintro e w' ⟨rfl, k1, rfl⟩
            go_wp2_with fail
            refine (small_any (l + 1) E F h (by omega) hld1 _).mono ?_; rintro e w' ⟨rfl, k2, rfl⟩
            go_wp2
            go_ret
            exact ⟨l, _, by simp, HU.out, rfl⟩
        · have HU := HS false (by unfold upB; rw [decide_eq_false (p := SV E F (l + 1) - A < A - SV E F l) (by omega), decide_eq_false (p := SV E F (l + 1) - A = A - SV E F l) (by omega)]; rfl)
          rw [Nat.compare_eq_gt.2 g] at hlast
          clear HS g hl1 hr1 hstep
          go_wp2_with fail
          refine (small_any l E F h (by omega) hld _).mono ?_; rintro e w' ⟨rfl, k1, rfl⟩
          go_wp2_with fail
          refine (small_any (l + 1) E F h (by omega) hld1 _).mono ?_; rintro e w' ⟨rfl, k2, rfl⟩
          go_wp2
          go_ret
          exact ⟨l, _, by simp, HU.out, rfl⟩

set_option maxRecDepth 100000 in
set_option maxHeartbeats 2000000 in
theorem miniOf_pos (v E F A M u : Nat) (h : Fmt E F) (hn : isN .f32 v = false) (hs : sgnB (wid v) = false) (hA : Pos (absB (wid v)) A) (hAM : A = M * 2 ^ u) (hM : M < 16777216) (hu : u ≤ 1300) (w : World) :
    Calls Try.prog 48 #[.float .f32 v, .int .i64 (E : Int), .int .i64 (F : Int)] w (GivesMini E F A (0) w) := by
  have e1 := ne_self .f32 v
  rw [hn] at e1
  have c1 := fun w => fcvv (widen_some v hn) w
  have c2 := fcdv (widen_some v hn)
  have hw64 := wid_lt v
  obtain ⟨pe1, pe2⟩ := h.pe
  obtain ⟨pf1, pf2⟩ := h.pf
  obtain ⟨pa1, pa2⟩ := h.all
  obtain ⟨pt1, pt2⟩ := h.top
  obtain ⟨d0, d1, d2, d3⟩ := all_div E F h
  obtain ⟨b1, b2, b3, b4⟩ := id h
  have ht : ((E : Int) + (F : Int)).toNat = E + F := by omega
  have hall := (allN_cast E F).symm
  have htop : (2 : Int) ^ (E + F) = ((topN E F : Nat) : Int) := (pow_cast (E + F)).symm
  have htb : topN E F ≤ 2147483648 := by omega
  have hAM' := hid hAM; clear hAM
  by_cases hbig : SV E F (allN E F) ≤ A
  · have hge := ge_yes hA (pos_svW E F (allN E F) h d1) hbig
    have HS := hid (show MiniSpec E F A (allN E F) from Or.inl ⟨hbig, rfl⟩)
    clear hbig d0 hn
    go_enter Try.func48, Try.ntmps48
    go_wp2_with (first | (go_at_call 86; refine (signbit_any _ hw64 _).mono ?_; rintro e w' ⟨rfl, rfl⟩) | (go_at_call 13; refine (abs_any _ _).mono ?_; rintro e w' ⟨rfl, rfl⟩) | (go_at_call 89; refine (small_any (allN E F) E F h (by omega) d1 _).mono ?_; rintro e w' ⟨rfl, k, rfl⟩))
    go_ret
    exact ⟨allN E F, _, by simp, HS.out, rfl⟩
  · have hge := ge_no hA (pos_svW E F (allN E F) h d1) (by omega)
    have hlt : A < SV E F (allN E F) := by omega
    have h0 : SV E F 0 ≤ A := by
      have : SV E F 0 = 0 := by unfold SV svU svK; simp
      omega
    clear hbig d0 hn
    go_enter Try.func48, Try.ntmps48
    go_wp2_with (first | (go_at_call 86; refine (signbit_any _ hw64 _).mono ?_; rintro e w' ⟨rfl, rfl⟩) | (go_at_call 13; refine (abs_any _ _).mono ?_; rintro e w' ⟨rfl, rfl⟩) | (go_at_call 89; refine (small_any (allN E F) E F h (by omega) d1 _).mono ?_; rintro e w' ⟨rfl, k, rfl⟩))
    go_loopw [10, 11] (fun lo hi wr => ∃ l r n : Nat, l < r ∧ r ≤ allN E F ∧ SV E F l ≤ A ∧ A < SV E F r ∧ lo = .int .i64 (l : Int) ∧ hi = .int .i64 (r : Int) ∧ wr = w.drewN n) (fun lo hi _ => (intOf hi - intOf lo).toNat)
    case atStart => exact ⟨0, allN E F, _, by omega, Nat.le_refl _, h0, hlt, rfl, rfl, rfl⟩
    case round =>
      obtain ⟨l, r, n, hlr, hr, hl1, hr1, rfl, rfl, rfl⟩ := hrel
      by_cases hstep : l + 1 < r
      · obtain ⟨m, hm⟩ : ∃ m, m = (l + r) / 2 := ⟨_, rfl⟩
        have hmid : ((l : Int) + (r : Int)) / 2 = (m : Int) := by omega
        have hm1 : l < m := by omega
        have hm2 : m < r := by omega
        have hmd : m / 2 ^ F ≤ 300 := Nat.le_trans (Nat.div_le_div_right (by omega)) d1
        have hcmp : (1 : Int) < (r : Int) - (l : Int) := by omega
        clear hm
        by_cases hmA : SV E F m ≤ A
        · have hle := le_yes (pos_svW E F m h hmd) hA hmA
          go_wp2_with (go_at_call 89; refine (small_any m E F h (by omega) hmd _).mono ?_; rintro e w' ⟨rfl, k, rfl⟩)
          go_roundw
          case rel => exact ⟨m, r, _, hm2, hr, hmA, hr1, rfl, rfl, rfl⟩
          case measure => simp [intOf]; omega
        · have hle := le_no (pos_svW E F m h hmd) hA (by omega)
          have hmA' : A < SV E F m := by omega
          go_wp2_with (go_at_call 89; refine (small_any m E F h (by omega) hmd _).mono ?_; rintro e w' ⟨rfl, k, rfl⟩)
          go_roundw
          case rel => exact ⟨l, m, _, hm1, by omega, hl1, hmA', rfl, rfl, rfl⟩
          case measure => simp [intOf]; omega
      · obtain rfl : r = l + 1 := by omega
        have hld : l / 2 ^ F ≤ 300 := Nat.le_trans (Nat.div_le_div_right (by omega)) d1
        have hld1 : (l + 1) / 2 ^ F ≤ 300 := Nat.le_trans (Nat.div_le_div_right hr) d1
        have s1 := fun w => fopv (pos_sub_some hA (pos_svW E F l h hld) hl1) w
        have s2 := fdrv (pos_sub_some hA (pos_svW E F l h hld) hl1)
        have s3 := fun w => fopv (pos_sub_some (pos_svW E F (l + 1) h hld1) hA (Nat.le_of_lt hr1)) w
        have s4 := fdrv (pos_sub_some (pos_svW E F (l + 1) h hld1) hA (Nat.le_of_lt hr1))
        have hlast := last_test E F l A M u h (by omega) hl1 hr1 hAM'.out hM hu
        have hcmp : ¬ (1 : Int) < ((l + 1 : Nat) : Int) - (l : Int) := by omega
        have HS : ∀ b, upB E F l A = b → RowKit.Hid (MiniSpec E F A (l + b.toNat)) := fun b hb => hid (Or.inr ⟨l, by omega, hl1, hr1, by rw [hb]⟩)
        have hl2 : l < 2147483648 := by omega
        rcases Nat.lt_trichotomy (SV E F (l + 1) - A) (A - SV E F l) with g | g | g
        · have HU := HS true (by unfold upB; rw [decide_eq_true g]; rfl)
          rw [Nat.compare_eq_lt.2 g] at hlast
          clear HS g hl1 hr1 hstep
          go_wp2_with fail
          refine (small_any l E F h (by omega) hld _).mono ?_; rintro e w' ⟨rfl, k1, rfl⟩
          go_wp2_with fail
          refine (small_any (l + 1) E F h (by omega) hld1 _).mono ?_; rintro e w' ⟨rfl, k2, rfl⟩
          go_wp2
          go_ret
          exact ⟨l + 1, _, by simp, HU.out, rfl⟩
        · rw [Nat.compare_eq_eq.2 g] at hlast
          by_cases hodd : l % 2 = 1
          · have HU := HS true (by unfold upB; rw [decide_eq_true (p := SV E F (l + 1) - A = A - SV E F l) g, decide_eq_true hodd]; simp)
            have ho : ((l : Int) % 2 == 1) = true := by rw [beq_iff_eq]; omega
            clear HS g hl1 hr1 hstep hodd
            go_wp2_with fail
            refine (small_any l E F h (by omega) hld _).mono ?_; rintro e w' ⟨rfl, k1, rfl⟩
            go_wp2_with fail
            refine (small_any (l + 1) E F h (by omega) hld1 _).mono ?_; rintro e w' ⟨rfl, k2, rfl⟩
            go_wp2
            go_ret
            exact ⟨l + 1, _, by simp, HU.out, rfl⟩
          · have HU := HS false (by unfold upB; rw [decide_eq_false (p := SV E F (l + 1) - A < A - SV E F l) (by omega), decide_eq_false hodd]; simp)
            have ho : ((l : Int) % 2 == 1) = false := by rw [beq_eq_false_iff_ne]; omega
            clear HS g hl1 hr1 hstep hodd
            go_wp2_with fail
            refine (small_any l E F h (by omega) hld _).mono ?_; rintro e w' ⟨rfl, k1, rfl⟩
            go_wp2_with fail
            refine (small_any (l + 1) E F h (by omega) hld1 _).mono ?_; rintro e w' ⟨rfl, k2, rfl⟩
            go_wp2
            go_ret
            exact ⟨l, _, by simp, HU.out, rfl⟩
        · have HU := HS false (by unfold upB; rw [decide_eq_false (p := SV E F (l + 1) - A < A - SV E F l) (by omega), decide_eq_false (p := SV E F (l + 1) - A = A - SV E F l) (by omega)]; rfl)
          rw [Nat.compare_eq_gt.2 g] at hlast
          clear HS g hl1 hr1 hstep
          go_wp2_with fail
          refine (small_any l E F h (by omega) hld _).mono ?_; rintro e w' ⟨rfl, k1, rfl⟩
          go_wp2_with fail
          refine (small_any (l + 1) E F h (by omega) hld1 _).mono ?_; rintro e w' ⟨rfl, k2, rfl⟩
          go_wp2
          go_ret
          exact ⟨l, _, by simp, HU.out, rfl⟩
end Go.Proofs.Ytbenjfipbeikmaa
