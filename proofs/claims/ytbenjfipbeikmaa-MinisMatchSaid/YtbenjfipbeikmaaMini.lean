/-
  Small floats.
-/
import Derived.Test.YtbenjfipbeikmaaSm
import Derived.Deep.QuietTactic
import Derived.BigQuiet
import Derived.Deep.RegionHeld3
namespace Go.Proofs.Ytbenjfipbeikmaa
open Go.RowKit

theorem ldexp_intZ (x s : Int) (h0 : 0 ≤ x) (hx : x < 9007199254740992) (h1 : -900 ≤ s) (h2 : s ≤ 900) (w : World) :
    Calls Try.prog 14 #[.float .f64 (floatOfInt .f64 x), .int .i64 s] w fun e w' => e = .returned (.float .f64 (FloatKind.f64.format.nearest false x.toNat s)) ∧ ∃ n, w' = w.drewN n := by
  obtain ⟨m, rfl⟩ := Int.eq_ofNat_of_zero_le h0
  rw [Int.toNat_natCast]
  exact ldexp_int m s (by omega) h1 h2 w

/-- Bounds of a format's powers, for the walks. -/
structure Fmt (E F : Nat) : Prop where
  e1 : 2 ≤ E
  e2 : E ≤ 8
  f1 : 1 ≤ F
  f2 : F ≤ 23

theorem pow_bd (a lo hi : Nat) (h1 : lo ≤ a) (h2 : a ≤ hi) : (2 : Int) ^ lo ≤ (2 : Int) ^ a ∧ (2 : Int) ^ a ≤ (2 : Int) ^ hi := by
  have b1 : 2 ^ lo ≤ 2 ^ a := Nat.pow_le_pow_right (by decide) h1
  have b2 : 2 ^ a ≤ 2 ^ hi := Nat.pow_le_pow_right (by decide) h2
  exact ⟨by exact_mod_cast b1, by exact_mod_cast b2⟩

theorem Fmt.pe {E F : Nat} (h : Fmt E F) : (4 : Int) ≤ 2 ^ E ∧ (2 : Int) ^ E ≤ 256 := pow_bd E 2 8 h.e1 h.e2
theorem Fmt.pe1 {E F : Nat} (h : Fmt E F) : (2 : Int) ≤ 2 ^ (E - 1) ∧ (2 : Int) ^ (E - 1) ≤ 128 := pow_bd (E - 1) 1 7 (by have := h.e1; omega) (by have := h.e2; omega)
theorem Fmt.pf {E F : Nat} (h : Fmt E F) : (2 : Int) ≤ 2 ^ F ∧ (2 : Int) ^ F ≤ 8388608 := pow_bd F 1 23 h.f1 h.f2

/-- The place of the last digit of the small float n; and its double. -/
def svP (E F n : Nat) : Int := (if n / 2 ^ F = 0 then 1 else ((n / 2 ^ F : Nat) : Int)) - (2 ^ (E - 1) - 1) - F
def svW (E F n : Nat) : Nat := FloatKind.f64.format.nearest false (svK F n) (svP E F n)

theorem mask_i64 (n F : Nat) (hn : n < 9223372036854775808) (hF : F ≤ 23) : bits .and .i64 (n : Int) (2 ^ F - 1) = ((n % 2 ^ F : Nat) : Int) := by
  have := bits_mask .i64 63 (by decide) (fun n h0 h1 => by rw [IntKind.wrap_i64]; omega) F (by omega) n (by omega) (by omega)
  rw [this]; push_cast; rfl

theorem cast_div (n F : Nat) : (n : Int) / 2 ^ F = ((n / 2 ^ F : Nat) : Int) := by push_cast; rfl

set_option maxRecDepth 100000 in
theorem small_any (n E F : Nat) (h : Fmt E F) (hn : n < 4294967296) (hq : n / 2 ^ F ≤ 300) (w : World) : Calls Try.prog 89 #[.int .i64 (n : Int), .int .i64 (E : Int), .int .i64 (F : Int)] w fun x w' => x = .returned (.float .f64 (svW E F n)) ∧ ∃ k, w' = w.drewN k := by
  obtain ⟨a1, a2⟩ := h.pe1
  obtain ⟨b1, b2⟩ := h.pf
  obtain ⟨e1, e2, f1, f2⟩ := id h
  clear h
  have hd := cast_div n F
  have hm := mask_i64 n F (by omega) f2
  have hm0 : n % 2 ^ F < 2 ^ F := Nat.mod_lt _ (two_pos F)
  have hcF : ((2 ^ F : Nat) : Int) = (2 : Int) ^ F := by push_cast; rfl
  have hF : 2 ^ F ≤ 8388608 := by omega
  have HW := hid (show svW E F n = FloatKind.f64.format.nearest false (if n / 2 ^ F = 0 then n % 2 ^ F else 2 ^ F + n % 2 ^ F) ((if n / 2 ^ F = 0 then 1 else ((n / 2 ^ F : Nat) : Int)) - (2 ^ (E - 1) - 1) - F) from rfl)
  by_cases h0 : n / 2 ^ F = 0
  · have HW' := hid (by rw [HW.out, if_pos h0, if_pos h0] : svW E F n = FloatKind.f64.format.nearest false (n % 2 ^ F) (1 - (2 ^ (E - 1) - 1) - F))
    rw [h0] at hd
    clear h0 HW hq
    generalize n % 2 ^ F = m at *
    have hm1 : m < 8388608 := by omega
    clear hm0 hF hcF
    go_enter Try.func89, Try.ntmps89
    go_wp2
    go_quiet (fail)
    go_wp2_with (go_at_call 14; refine (ldexp_intZ _ _ (by omega) (by omega) (by omega) (by omega) _).mono ?_; rintro e w' ⟨rfl, k, rfl⟩)
    go_ret
    exact ⟨ret_f (by rw [HW'.out]), _, rfl⟩
  · have HW' := hid (by rw [HW.out, if_neg h0, if_neg h0] : svW E F n = FloatKind.f64.format.nearest false (2 ^ F + n % 2 ^ F) (((n / 2 ^ F : Nat) : Int) - (2 ^ (E - 1) - 1) - F))
    have HC := hid (by omega : ((2 : Int) ^ F + ((n % 2 ^ F : Nat) : Int)).toNat = 2 ^ F + n % 2 ^ F)
    generalize n / 2 ^ F = q at *
    have h0' : ((q : Int) == 0) = false := by rw [beq_eq_false_iff_ne]; omega
    clear h0 HW
    generalize n % 2 ^ F = m at *
    have hm1 : m < 8388608 := by omega
    clear hm0 hF hcF
    go_enter Try.func89, Try.ntmps89
    go_wp2
    go_quiet (fail)
    go_wp2_with (go_at_call 14; refine (ldexp_intZ _ _ (by omega) (by omega) (by omega) (by omega) _).mono ?_; rintro e w' ⟨rfl, k, rfl⟩)
    go_ret
    exact ⟨ret_f (by rw [HW'.out, HC.out]), _, rfl⟩

/-- The format as the methods take it. -/
def fmtV (E F : Int) : Value := .agg #[.int .i64 E, .int .i64 F]

set_option maxRecDepth 100000 in
theorem good_yes (E F : Int) (h : 2 ≤ E ∧ E ≤ 8 ∧ 1 ≤ F ∧ F ≤ 23) (w : World) : Calls Try.prog 83 #[fmtV E F] w fun x w' => x = .returned (.bool true) ∧ Grown w w' := by
  obtain ⟨h1, h2, h3, h4⟩ := h
  unfold fmtV
  go_enter Try.func83, Try.ntmps83
  go_wp2
  go_ret
  exact ⟨rfl, (Grown.refl _).alloc _ _⟩
set_option maxRecDepth 100000 in
theorem good_no (E F : Int) (h : ¬ (2 ≤ E ∧ E ≤ 8 ∧ 1 ≤ F ∧ F ≤ 23)) (w : World) : Calls Try.prog 83 #[fmtV E F] w fun x w' => x = .returned (.bool false) ∧ Grown w w' := by
  unfold fmtV
  by_cases h1 : E < 2
  · clear h
    go_enter Try.func83, Try.ntmps83
    go_wp2
    go_ret
    exact ⟨rfl, (Grown.refl _).alloc _ _⟩
  · by_cases h2 : 8 < E
    · clear h
      go_enter Try.func83, Try.ntmps83
      go_wp2
      go_ret
      exact ⟨rfl, (Grown.refl _).alloc _ _⟩
    · by_cases h3 : F < 1
      · clear h
        go_enter Try.func83, Try.ntmps83
        go_wp2
        go_ret
        exact ⟨rfl, (Grown.refl _).alloc _ _⟩
      · have h4 : 23 < F := by omega
        clear h
        go_enter Try.func83, Try.ntmps83
        go_wp2
        go_ret
        exact ⟨by show Ending.returned (.bool (decide (F ≤ 23))) = _; rw [decide_eq_false (by omega)], (Grown.refl _).alloc _ _⟩

/-- The number of infinity in a format; that of its sign. -/
def allN (E F : Nat) : Nat := (2 ^ E - 1) * 2 ^ F
def topN (E F : Nat) : Nat := 2 ^ (E + F)

theorem allN_cast (E F : Nat) : ((allN E F : Nat) : Int) = ((2 : Int) ^ E - 1) * 2 ^ F := by
  unfold allN
  have : 1 ≤ 2 ^ E := two_pos E
  rw [Int.natCast_mul, Int.natCast_sub this]; push_cast; rfl

theorem pow_cast (n : Nat) : ((2 ^ n : Nat) : Int) = (2 : Int) ^ n := by push_cast; rfl

theorem Fmt.all {E F : Nat} (h : Fmt E F) : (6 : Int) ≤ ((2 : Int) ^ E - 1) * 2 ^ F ∧ ((2 : Int) ^ E - 1) * 2 ^ F ≤ 2139095040 := by
  obtain ⟨a1, a2⟩ := h.pe
  obtain ⟨b1, b2⟩ := h.pf
  constructor
  · have := Int.mul_le_mul (show (3 : Int) ≤ (2 : Int) ^ E - 1 by omega) b1 (by decide) (by omega)
    omega
  · have := Int.mul_le_mul (show (2 : Int) ^ E - 1 ≤ 255 by omega) b2 (by omega) (by decide)
    omega

theorem Fmt.top {E F : Nat} (h : Fmt E F) : (8 : Int) ≤ (2 : Int) ^ (E + F) ∧ (2 : Int) ^ (E + F) ≤ 2147483648 :=
  pow_bd (E + F) 3 31 (by have := h.e1; have := h.f1; omega) (by have := h.e2; have := h.f2; omega)

set_option maxRecDepth 100000 in
theorem infinity_any (E F : Nat) (h : Fmt E F) (w : World) : Calls Try.prog 84 #[fmtV (E : Int) (F : Int)] w fun x w' => x = .returned (.int .i64 ((allN E F : Nat) : Int)) ∧ Grown w w' := by
  obtain ⟨a1, a2⟩ := h.pe
  obtain ⟨b1, b2⟩ := h.pf
  obtain ⟨c1, c2⟩ := h.all
  obtain ⟨e1, e2, f1, f2⟩ := id h
  have HC := hid (allN_cast E F)
  unfold fmtV
  clear h
  go_enter Try.func84, Try.ntmps84
  go_wp2
  go_quiet (fail)
  go_wp2
  go_ret
  exact ⟨ret_int HC.out.symm, grown_drewN ((Grown.refl _).alloc _ _) _⟩

set_option maxRecDepth 100000 in
theorem sign_any (E F : Nat) (h : Fmt E F) (w : World) : Calls Try.prog 87 #[fmtV (E : Int) (F : Int)] w fun x w' => x = .returned (.int .i64 ((topN E F : Nat) : Int)) ∧ Grown w w' := by
  obtain ⟨c1, c2⟩ := h.top
  obtain ⟨e1, e2, f1, f2⟩ := id h
  have HC := hid (pow_cast (E + F))
  have ht : ((E : Int) + (F : Int)).toNat = E + F := by omega
  unfold fmtV
  clear h
  go_enter Try.func87, Try.ntmps87
  go_wp2
  first | go_quiet (fail) | skip
  go_wp2
  go_ret
  exact ⟨ret_int HC.out.symm, by first | exact grown_drewN ((Grown.refl _).alloc _ _) _ | exact (Grown.refl _).alloc _ _⟩

def lowZ (E : Nat) : Int := 2 - 2 ^ (E - 1)

set_option maxRecDepth 100000 in
theorem lowest_any (E F : Nat) (h : Fmt E F) (w : World) : Calls Try.prog 102 #[fmtV (E : Int) (F : Int)] w fun x w' => x = .returned (.int .i64 (lowZ E)) ∧ Grown w w' := by
  obtain ⟨c1, c2⟩ := h.pe1
  obtain ⟨e1, e2, f1, f2⟩ := id h
  unfold fmtV
  clear h
  go_enter Try.func102, Try.ntmps102
  go_wp2
  first | go_quiet (fail) | skip
  go_wp2
  go_ret
  exact ⟨rfl, by first | exact grown_drewN ((Grown.refl _).alloc _ _) _ | exact (Grown.refl _).alloc _ _⟩

theorem grown_cell {W w : World} (h : Grown W w) {b o : Nat} (hb : b < W.heap.size) : w.cell? ⟨b, o, none⟩ = W.cell? ⟨b, o, none⟩ := by
  obtain ⟨_, _, hk⟩ := h.1
  have := hk b hb
  unfold World.cell?
  dsimp only
  cases h1 : W.heap[b]? with
  | none => rw [h1] at this; simp only at this; rw [this]
  | some o1 =>
    cases h2 : w.heap[b]? with
    | none => rw [h1, h2] at this; cases o1 <;> simp at this
    | some o2 =>
      rw [h1, h2] at this
      cases o1 <;> cases o2 <;> simp at this <;> first | (obtain ⟨t1, t2, t3, t4⟩ := this; simp [t4]) | rfl | (simp [this]) | skip

/-- All that was there is as it was, and there is a new block. -/
structure KeptIn (W w : World) : Prop where
  lt : W.heap.size < w.heap.size
  grown : Grown W w
theorem keptIn_cell {W w w' : World} (g : Grown w w') (h : KeptIn W w) (o : Nat) : w'.cell? ⟨W.heap.size, o, none⟩ = w.cell? ⟨W.heap.size, o, none⟩ := grown_cell g h.lt
theorem keptIn_on {W w w' : World} (g : Grown w w') (h : KeptIn W w) : KeptIn W w' := ⟨Nat.lt_of_lt_of_le h.lt g.2.2, grown_trans h.grown g⟩

theorem held_on {W wx w2 : World} {x y : Option Value} (g : Grown wx w2) (h : wx.cell? ⟨W.heap.size, 0, none⟩ = x ∧ wx.cell? ⟨W.heap.size, 1, none⟩ = y ∧ KeptIn W wx) :
    w2.cell? ⟨W.heap.size, 0, none⟩ = x ∧ w2.cell? ⟨W.heap.size, 1, none⟩ = y ∧ KeptIn W w2 :=
  ⟨(keptIn_cell g h.2.2 0).trans h.1, (keptIn_cell g h.2.2 1).trans h.2.1, keptIn_on g h.2.2⟩

theorem lowZ_bd {E F : Nat} (h : Fmt E F) : -126 ≤ lowZ E ∧ lowZ E ≤ 0 := by
  obtain ⟨c1, c2⟩ := h.pe1
  unfold lowZ; omega

/-- What pack gives: the digits kept, at the binade t above the least ones; not above infinity. -/
def packN (E F c : Nat) (t : Int) : Int := min ((c : Int) + t * 2 ^ F) ((allN E F : Nat) : Int)

theorem cut_bd (kk d : Nat) (h : kk < 9007199254740992) (hd : 29 ≤ d) : Ieee.Toward.even.cut false kk d ≤ 16777216 := by
  rw [cut_even]
  have b := Bool.toNat_le (decide (2 ^ d < 2 * (kk % 2 ^ d)) || (decide (2 ^ d = 2 * (kk % 2 ^ d)) && decide (kk / 2 ^ d % 2 = 1)))
  have h1 : 2 ^ 29 ≤ 2 ^ d := Nat.pow_le_pow_right (by decide) hd
  have h2 : kk / 2 ^ d ≤ kk / 2 ^ 29 := Nat.div_le_div_left h1 (two_pos 29)
  have h3 : kk / 2 ^ 29 < 16777216 := by omega
  omega

theorem packN_is (E F c : Nat) (t : Int) (h : Fmt E F) (hc : c ≤ 16777216) (h0 : 0 ≤ t) (h1 : t ≤ 300) :
    (if ((allN E F : Nat) : Int) < IntKind.i64.wrap ((c : Int) + IntKind.i64.wrap (IntKind.i64.wrap t * 2 ^ F)) then ((allN E F : Nat) : Int) else IntKind.i64.wrap ((c : Int) + IntKind.i64.wrap (IntKind.i64.wrap t * 2 ^ F))) = packN E F c t := by
  obtain ⟨b1, b2⟩ := h.pf
  obtain ⟨a1, a2⟩ := h.all
  rw [allN_cast]
  have p1 : 0 ≤ t * 2 ^ F := Int.mul_nonneg h0 (by omega)
  have p2 : t * 2 ^ F ≤ 300 * 8388608 := Int.mul_le_mul h1 b2 (by omega) (by decide)
  have w : ∀ n : Int, 0 ≤ n → n ≤ 9223372036854775807 → IntKind.i64.wrap n = n := fun n a b => by rw [IntKind.wrap_i64]; omega
  rw [w t h0 (by omega), w (t * 2 ^ F) p1 (by omega), w ((c : Int) + t * 2 ^ F) (by omega) (by omega)]
  unfold packN
  rw [allN_cast]
  generalize t * 2 ^ F = X at *
  generalize ((2 : Int) ^ E - 1) * 2 ^ F = Y at *
  split <;> omega

set_option maxRecDepth 100000 in
theorem pack_low (j kk : Nat) (E F : Nat) (h : Fmt E F) (hx : Xw j kk) (hj : (j : Int) - 1022 < lowZ E) (hj2 : j ≤ 1149) (w : World) : Calls Try.prog 85 #[fmtV (E : Int) (F : Int), .float .f64 (xw j kk)] w fun x w' => x = .returned (.int .i64 (packN E F (Ieee.Toward.even.cut false kk (1074 - ((j : Int) + F - lowZ E).toNat)) (0))) ∧ Grown w w' := by
  have z := (xw_norm hx).zero
  obtain ⟨e1, e2, f1, f2⟩ := id h
  obtain ⟨l1, l2⟩ := lowZ_bd h
  obtain ⟨i, hi⟩ : ∃ i : Nat, i = ((j : Int) + F - lowZ E).toNat := ⟨_, rfl⟩
  rw [← hi]
  have hi' : (j : Int) + ((F : Int) - (lowZ E)) = i := by omega
  have hi2 : i ≤ 1045 := by omega
  have hxi : Xw i kk := ⟨hx.lo, hx.hi, by omega⟩
  have hr := rte_xw hxi (by omega)
  have hrun := cf_rte _ (isN_of_read (xw_read hxi))
  rw [hr] at hrun
  have HI := hid hi'
  clear hi hi' hr
  have hc : Ieee.Toward.even.cut false kk (1074 - i) ≤ 16777216 := cut_bd kk _ hx.hi (by omega)
  generalize Ieee.Toward.even.cut false kk (1074 - i) = c at *
  have kc : ∀ w, (convert 25 3 (.float .f64 (floatOfInt .f64 (c : Int)))).run Try.prog w = .ok (.int .i64 (c : Int)) w := fun w => run_convert_float_int w 25 3 .f64 .i64 _ (c : Int) (by kernel_rfl) (by kernel_rfl) (ofInt_toInt c (by omega))
  have HP := hid (packN_is E F c (0) h hc (by omega) (by omega))
  unfold fmtV
  go_enter Try.func85, Try.ntmps85
  go_wp2_with (first | (go_at_call 100; refine (frexp_xw hx _).mono ?_; rintro e w' ⟨rfl, rfl⟩) | (go_at_call 102; refine (lowest_any _ _ h _).mono ?_; rintro e w1 ⟨rfl, g1⟩; have k0 := (grown_cell g1 (b := w.heap.size) (o := 0) (by simp)).trans (World.cell?_alloc_new _ _ _ _); have k1 := (grown_cell g1 (b := w.heap.size) (o := 1) (by simp)).trans (World.cell?_alloc_new _ _ _ _); simp at k0 k1) | (go_at_call 14; refine (ldexp_xw hx _ i (by omega) HI.out _).mono ?_; rintro e w' ⟨rfl, nl, rfl⟩))
  have kin : KeptIn w w1 := ⟨by have := g1.2.2; simp at this; omega, grown_trans ((Grown.refl w).alloc _ _) g1⟩
  go_region_held3 (fun w' => w'.cell? ⟨w.heap.size, 0, none⟩ = some (.int .i64 (E : Int)) ∧ w'.cell? ⟨w.heap.size, 1, none⟩ = some (.int .i64 (F : Int)) ∧ KeptIn w w') (first | exact ⟨k0, k1, ⟨kin.lt, kin.grown⟩⟩ | exact held_on (by assumption) (by assumption) | go_keep)
    (first | (go_at_call 102; refine (lowest_any _ _ h _).mono ?_; rintro e w2 ⟨rfl, g2⟩) | (go_at_call 84; refine (infinity_any _ _ h _).mono ?_; rintro e w3 ⟨rfl, g3⟩))
  all_goals
    rename_i hH
    have kl := hH.2.2
    clear hH
    go_wp2
    all_goals
      go_ret
      exact ⟨ret_int (by first | (rw [← HP.out, if_pos (by assumption)]) | (rw [← HP.out, if_neg (Int.not_lt.2 (by assumption))])), kl.grown⟩

set_option maxHeartbeats 600000 in
set_option maxRecDepth 100000 in
theorem pack_high (j kk : Nat) (E F : Nat) (h : Fmt E F) (hx : Xw j kk) (hj : lowZ E ≤ (j : Int) - 1021 - 1) (hj2 : j ≤ 1149) (w : World) : Calls Try.prog 85 #[fmtV (E : Int) (F : Int), .float .f64 (xw j kk)] w fun x w' => x = .returned (.int .i64 (packN E F (Ieee.Toward.even.cut false kk (1074 - ((F : Int) + 1022).toNat)) ((j : Int) - 1021 - 1 - lowZ E))) ∧ Grown w w' := by
  have z := (xw_norm hx).zero
  obtain ⟨e1, e2, f1, f2⟩ := id h
  obtain ⟨l1, l2⟩ := lowZ_bd h
  obtain ⟨i, hi⟩ : ∃ i : Nat, i = ((F : Int) + 1022).toNat := ⟨_, rfl⟩
  rw [← hi]
  have hi' : (j : Int) + ((F : Int) - ((j : Int) - 1021 - 1)) = i := by omega
  have hi2 : i ≤ 1045 := by omega
  have hxi : Xw i kk := ⟨hx.lo, hx.hi, by omega⟩
  have hr := rte_xw hxi (by omega)
  have hrun := cf_rte _ (isN_of_read (xw_read hxi))
  rw [hr] at hrun
  have HI := hid hi'
  clear hi hi' hr
  have hc : Ieee.Toward.even.cut false kk (1074 - i) ≤ 16777216 := cut_bd kk _ hx.hi (by omega)
  generalize Ieee.Toward.even.cut false kk (1074 - i) = c at *
  have kc : ∀ w, (convert 25 3 (.float .f64 (floatOfInt .f64 (c : Int)))).run Try.prog w = .ok (.int .i64 (c : Int)) w := fun w => run_convert_float_int w 25 3 .f64 .i64 _ (c : Int) (by kernel_rfl) (by kernel_rfl) (ofInt_toInt c (by omega))
  have HP := hid (packN_is E F c ((j : Int) - 1021 - 1 - lowZ E) h hc (by omega) (by omega))
  unfold fmtV
  go_enter Try.func85, Try.ntmps85
  go_wp2_with (first | (go_at_call 100; refine (frexp_xw hx _).mono ?_; rintro e w' ⟨rfl, rfl⟩) | (go_at_call 102; refine (lowest_any _ _ h _).mono ?_; rintro e w1 ⟨rfl, g1⟩; have k0 := (grown_cell g1 (b := w.heap.size) (o := 0) (by simp)).trans (World.cell?_alloc_new _ _ _ _); have k1 := (grown_cell g1 (b := w.heap.size) (o := 1) (by simp)).trans (World.cell?_alloc_new _ _ _ _); simp at k0 k1) | (go_at_call 14; refine (ldexp_xw hx _ i (by omega) HI.out _).mono ?_; rintro e w' ⟨rfl, nl, rfl⟩))
  have kin : KeptIn w w1 := ⟨by have := g1.2.2; simp at this; omega, grown_trans ((Grown.refl w).alloc _ _) g1⟩
  go_region_held3 (fun w' => w'.cell? ⟨w.heap.size, 0, none⟩ = some (.int .i64 (E : Int)) ∧ w'.cell? ⟨w.heap.size, 1, none⟩ = some (.int .i64 (F : Int)) ∧ KeptIn w w') (first | exact ⟨k0, k1, ⟨kin.lt, kin.grown⟩⟩ | exact held_on (by assumption) (by assumption) | go_keep)
    (first | (go_at_call 102; refine (lowest_any _ _ h _).mono ?_; rintro e w2 ⟨rfl, g2⟩) | (go_at_call 84; refine (infinity_any _ _ h _).mono ?_; rintro e w3 ⟨rfl, g3⟩))
  all_goals
    rename_i hH
    have kl := hH.2.2
    clear hH
    go_wp2
    all_goals
      go_ret
      exact ⟨ret_int (by first | (rw [← HP.out, if_pos (by assumption)]) | (rw [← HP.out, if_neg (Int.not_lt.2 (by assumption))])), kl.grown⟩

set_option maxRecDepth 100000 in
theorem pack_zero (E F : Nat) (w : World) : Calls Try.prog 85 #[fmtV (E : Int) (F : Int), .float .f64 0] w fun x w' => x = .returned (.int .i64 0) ∧ Grown w w' := by
  have o : FloatKind.f64.format.order 0 0 = some .eq := by decide +kernel
  unfold fmtV
  go_enter Try.func85, Try.ntmps85
  go_wp2
  go_ret
  exact ⟨rfl, (Grown.refl _).alloc _ _⟩
end Go.Proofs.Ytbenjfipbeikmaa
