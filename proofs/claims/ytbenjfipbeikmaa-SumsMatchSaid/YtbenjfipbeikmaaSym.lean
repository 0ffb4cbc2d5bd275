/-
  The library's merge in place, at singles.
-/
import Derived.Test.YtbenjfipbeikmaaSort
import Derived.Test.YtbenjfipbeikmaaMerge
namespace Go.Proofs.Ytbenjfipbeikmaa
open Go.RowKit

def SymSaid (k : Nat) : Prop := ∀ (b off N cap A M B : Nat) (d : Nat → Nat) (w : World), B - A = k → Cells w b off N d → (∀ x, x < N → d x < 4294967296) → A < M → M < B → B ≤ N → N ≤ 300 → Srt d A M → Srt d M B →
  Calls Try.prog 110 #[.slice (some ⟨b, off, none⟩) N cap, .int .i64 (A : Int), .int .i64 (M : Int), .int .i64 (B : Int), theCmp] w
    (fun e w' => ∃ d', Turns b off N w d' e w' ∧ Shuf A B d d' ∧ Srt d' A B)

set_option maxRecDepth 100000 in
set_option maxHeartbeats 2000000 in
theorem sym_left (b off N cap A B : Nat) (d : Nat → Nat) (w : World) (hc : Cells w b off N d) (hd : ∀ x, x < N → d x < 4294967296) (hM : A + 1 < B) (hB : B ≤ N) (hN : N ≤ 300) (hs : Srt d (A + 1) B) :
    Calls Try.prog 110 #[.slice (some ⟨b, off, none⟩) N cap, .int .i64 (A : Int), .int .i64 ((A + 1 : Nat) : Int), .int .i64 (B : Int), theCmp] w
      (fun e w' => ∃ d', Turns b off N w d' e w' ∧ Shuf A B d d' ∧ Srt d' A B) := by
  have HC := hid hc; clear hc
  have HD := hid hd; clear hd
  have HS := hid hs; clear hs
  obtain ⟨M, hMA⟩ : ∃ M, M = A + 1 := ⟨_, rfl⟩
  rw [← hMA] at HS ⊢
  unfold theCmp
  have b1 : ((M : Int) - (A : Int) == 1) = true := by rw [beq_iff_eq]; omega
  have ma1 : M ≤ A + 1 := by omega
  have ma2 : A + 1 ≤ M := by omega
  have HMA := hid hMA
  clear hMA
  go_enter Try.func110, Try.ntmps110
  go_wp2
  go_loopw [10, 11] (fun v u wr => ∃ (i j : Nat), M ≤ i ∧ i ≤ j ∧ j ≤ B ∧ v = .int .i64 (i : Int) ∧ u = .int .i64 (j : Int) ∧ RowKit.Hid (∀ x, M ≤ x → x < i → kk (d x) < kk (d A)) ∧ RowKit.Hid (∀ x, j ≤ x → x < B → kk (d A) ≤ kk (d x)) ∧ RowKit.Hid (Cells wr b off N d) ∧ RowKit.Hid (Sort1 b w wr)) (fun v u _ => (intOf u - intOf v).toNat)
  case atStart => exact ⟨M, B, Nat.le_refl _, by omega, Nat.le_refl _, rfl, rfl, fun x _ _ => by omega, fun x _ _ => by omega, HC, sort1_refl b w⟩
  case round =>
    clear HC
    obtain ⟨i, j, h1, h2, h3, rfl, rfl, hlo, hhi, hr, hw⟩ := hrel
    by_cases hlt : i < j
    · obtain ⟨h, hh⟩ : ∃ h, h = (i + j) / 2 := ⟨_, rfl⟩
      have hm1 : i ≤ h := by omega
      have hm2 : h < j := by omega
      have hmid : ((i : Int) + (j : Int)) / 2 = (h : Int) := by omega
      clear hh
      have ca := hr.out.cell h (by omega)
      have cb := hr.out.cell A (by omega)
      have v1 := HD.out h (by omega)
      have v2 := HD.out A (by omega)
      have e5 : (0 : Int) ≤ (h : Int) := by omega
      have e6 : (0 : Int) ≤ (A : Int) := by omega
      have e7 : (h : Int) < (N : Int) := by omega
      have e8 : (A : Int) < (N : Int) := by omega
      by_cases hk : kk (d h) < kk (d A)
      · have hk' : ckk (d h) (d A) < 0 := by rw [ckk_neg]; exact hk
        go_wp2
        go_quiet ((go_at_call 92; exact Calls.quiet_of_same (cmp_q _ _ v1 v2 _)))
        go_wp2
        refine ⟨⟨h + 1, j, by omega, by omega, h3, rfl, rfl, fun x g1 g2 => Int.lt_of_le_of_lt (HS.out x h g1 (by omega) (by omega)) hk, hhi, cells_drewN hr.out _, sort1_drewN hw.out _⟩, by simp [intOf]; omega⟩
      · have hk' : decide (ckk (d h) (d A) < 0) = false := decide_eq_false (by rw [ckk_neg]; exact hk)
        go_wp2
        go_quiet ((go_at_call 92; exact Calls.quiet_of_same (cmp_q _ _ v1 v2 _)))
        go_wp2
        go_roundw
        case rel => exact ⟨i, h, h1, by omega, by omega, rfl, rfl, hlo, fun x g1 g2 => Int.le_trans (by omega) (HS.out h x (by omega) g1 g2), cells_drewN hr.out _, sort1_drewN hw.out _⟩
        case measure => simp [intOf]; omega
    · obtain rfl : i = j := by omega
      have q1 : (i : Int) - 1 = ((i - 1 : Nat) : Int) := by omega
      have q2 : IntKind.i64.wrap ((i - 1 : Nat) : Int) = ((i - 1 : Nat) : Int) := by rw [IntKind.wrap_i64]; omega
      go_wp2
      go_loopw [13] (fun v wr' => ∃ (k : Nat), A ≤ k ∧ k ≤ i - 1 ∧ v = .int .i64 (k : Int) ∧ RowKit.Hid (Cells wr' b off N (mvr d A k)) ∧ RowKit.Hid (Sort1 b w wr')) (fun v _ => (i - 1) - (intOf v).toNat)
      case atStart => exact ⟨A, Nat.le_refl _, by omega, rfl, by rw [mvr_zero]; exact hr, hw⟩
      case round =>
        clear hr hw
        obtain ⟨k, h4, h5, rfl, hr, hw⟩ := hrel
        by_cases hlt : k < i - 1
        · have ca := hr.out.cell k (by omega)
          have cb := hr.out.cell (k + 1) (by omega)
          have fa := hr.out.open_ k (by omega)
          have fb := hr.out.open_ (k + 1) (by omega)
          have g0 : (k : Int) < ((i - 1 : Nat) : Int) := by omega
          have g1 : (0 : Int) ≤ (k : Int) := by omega
          have g2 : (k : Int) < (N : Int) := by omega
          have g3 : (0 : Int) ≤ (k : Int) + 1 := by omega
          have g4 : (k : Int) + 1 < (N : Int) := by omega
          have g5 : ((k : Int) + 1).toNat = k + 1 := by omega
          have g6 : IntKind.i64.wrap ((k : Int) + 1) = (k : Int) + 1 := by rw [IntKind.wrap_i64]; omega
          have e9 : ¬ k = k + 1 := by omega
          go_wp2
          go_region
          go_wp2
          refine ⟨⟨k + 1, by omega, by omega, rfl, ?_, sort1_drew (sort1_set (sort1_set hw.out _ _) _ _)⟩, by simp [intOf]; omega⟩
          rw [← mvr_succ d A k h4]
          exact cells_drew (cells_swap hr.out k (k + 1) (by omega) (by omega))
        · obtain rfl : k = i - 1 := by omega
          have g0 : ¬ ((i - 1 : Nat) : Int) < ((i - 1 : Nat) : Int) := by omega
          go_wp2
          (try simp only [Exit.inBlock, Exit.then]); refine bodyPost_ret (results_none rfl _ _ _) rfl ?_
          exact ⟨_, ⟨rfl, hr.out, hw.out⟩, shuf_mvr d A B (i - 1) (by omega) (by omega), srt_mvr (by rw [← HMA.out]; exact HS.out) (by omega) h3 (fun x g1 g2 => hlo.out x (by omega) g2) hhi.out⟩

set_option maxRecDepth 100000 in
set_option maxHeartbeats 2000000 in
theorem sym_right (b off N cap A M : Nat) (d : Nat → Nat) (w : World) (hc : Cells w b off N d) (hd : ∀ x, x < N → d x < 4294967296) (hM : A + 1 < M) (hB : M + 1 ≤ N) (hN : N ≤ 300) (hs : Srt d A M) :
    Calls Try.prog 110 #[.slice (some ⟨b, off, none⟩) N cap, .int .i64 (A : Int), .int .i64 (M : Int), .int .i64 ((M + 1 : Nat) : Int), theCmp] w
      (fun e w' => ∃ d', Turns b off N w d' e w' ∧ Shuf A (M + 1) d d' ∧ Srt d' A (M + 1)) := by
  have HC := hid hc; clear hc
  have HD := hid hd; clear hd
  have HS := hid hs; clear hs
  obtain ⟨B, hMA⟩ : ∃ B, B = M + 1 := ⟨_, rfl⟩
  rw [← hMA]
  unfold theCmp
  have b0 : ((M : Int) - (A : Int) == 1) = false := by rw [beq_eq_false_iff_ne]; omega
  have b1 : ((B : Int) - (M : Int) == 1) = true := by rw [beq_iff_eq]; omega
  have ma1 : M + 1 ≤ B := by omega
  have ma2 : B ≤ M + 1 := by omega
  have HMA := hid hMA
  clear hMA
  go_enter Try.func110, Try.ntmps110
  go_wp2
  go_loopw [14, 15] (fun v u wr => ∃ (i j : Nat), A ≤ i ∧ i ≤ j ∧ j ≤ M ∧ v = .int .i64 (i : Int) ∧ u = .int .i64 (j : Int) ∧ RowKit.Hid (∀ x, A ≤ x → x < i → kk (d x) ≤ kk (d M)) ∧ RowKit.Hid (∀ x, j ≤ x → x < M → kk (d M) < kk (d x)) ∧ RowKit.Hid (Cells wr b off N d) ∧ RowKit.Hid (Sort1 b w wr)) (fun v u _ => (intOf u - intOf v).toNat)
  case atStart => exact ⟨A, M, Nat.le_refl _, by omega, Nat.le_refl _, rfl, rfl, fun x _ _ => by omega, fun x _ _ => by omega, HC, sort1_refl b w⟩
  case round =>
    clear HC
    obtain ⟨i, j, h1, h2, h3, rfl, rfl, hlo, hhi, hr, hw⟩ := hrel
    by_cases hlt : i < j
    · obtain ⟨h, hh⟩ : ∃ h, h = (i + j) / 2 := ⟨_, rfl⟩
      have hm1 : i ≤ h := by omega
      have hm2 : h < j := by omega
      have hmid : ((i : Int) + (j : Int)) / 2 = (h : Int) := by omega
      clear hh
      have ca := hr.out.cell M (by omega)
      have cb := hr.out.cell h (by omega)
      have v1 := HD.out M (by omega)
      have v2 := HD.out h (by omega)
      have e5 : (0 : Int) ≤ (h : Int) := by omega
      have e6 : (0 : Int) ≤ (M : Int) := by omega
      have e7 : (h : Int) < (N : Int) := by omega
      have e8 : (M : Int) < (N : Int) := by omega
      by_cases hk : kk (d M) < kk (d h)
      · have hk' : ckk (d M) (d h) < 0 := by rw [ckk_neg]; exact hk
        go_wp2
        go_quiet ((go_at_call 92; exact Calls.quiet_of_same (cmp_q _ _ v1 v2 _)))
        go_wp2
        go_roundw
        case rel => exact ⟨i, h, h1, by omega, by omega, rfl, rfl, hlo, fun x g1 g2 => Int.lt_of_lt_of_le hk (HS.out h x (by omega) g1 g2), cells_drewN hr.out _, sort1_drewN hw.out _⟩
        case measure => simp [intOf]; omega
      · have hk' : decide (ckk (d M) (d h) < 0) = false := decide_eq_false (by rw [ckk_neg]; exact hk)
        go_wp2
        go_quiet ((go_at_call 92; exact Calls.quiet_of_same (cmp_q _ _ v1 v2 _)))
        go_wp2
        go_roundw
        case rel => exact ⟨h + 1, j, by omega, by omega, h3, rfl, rfl, fun x g1 g2 => Int.le_trans (HS.out x h g1 (by omega) (by omega)) (by omega), hhi, cells_drewN hr.out _, sort1_drewN hw.out _⟩
        case measure => simp [intOf]; omega
    · obtain rfl : i = j := by omega
      go_wp2
      go_loopw [17] (fun v wr' => ∃ (k : Nat), i ≤ k ∧ k ≤ M ∧ v = .int .i64 (k : Int) ∧ RowKit.Hid (Cells wr' b off N (mvl d M k)) ∧ RowKit.Hid (Sort1 b w wr')) (fun v _ => (intOf v).toNat)
      case atStart => exact ⟨M, h3, Nat.le_refl _, rfl, by rw [mvl_zero]; exact hr, hw⟩
      case round =>
        clear hr hw
        obtain ⟨k, h4, h5, rfl, hr, hw⟩ := hrel
        by_cases hlt : i < k
        · obtain ⟨p, rfl⟩ : ∃ p, k = p + 1 := ⟨k - 1, by omega⟩
          have ca := hr.out.cell (p + 1) (by omega)
          have cb := hr.out.cell p (by omega)
          have fa := hr.out.open_ (p + 1) (by omega)
          have fb := hr.out.open_ p (by omega)
          have g0 : (i : Int) < (p : Int) + 1 := by omega
          have g1 : (0 : Int) ≤ (p : Int) := by omega
          have g2 : (p : Int) < (N : Int) := by omega
          have g3 : (0 : Int) ≤ (p : Int) + 1 := by omega
          have g4 : (p : Int) + 1 < (N : Int) := by omega
          have g5 : ((p : Int) + 1).toNat = p + 1 := by omega
          have g6 : IntKind.i64.wrap (p : Int) = (p : Int) := by rw [IntKind.wrap_i64]; omega
          have e9 : ¬ p + 1 = p := by omega
          go_wp2
          go_region
          go_wp2
          go_roundw
          case rel =>
            refine ⟨p, by omega, by omega, rfl, ?_, sort1_drew (sort1_set (sort1_set hw.out _ _) _ _)⟩
            show Cells _ _ _ _ _
            rw [← mvl_succ d M p (by omega)]
            exact cells_drew (cells_swap hr.out (p + 1) p (by omega) (by omega))
          case measure => simp [intOf]
        · obtain rfl : k = i := by omega
          go_wp2
          (try simp only [Exit.inBlock, Exit.then]); refine bodyPost_ret (results_none rfl _ _ _) rfl ?_
          refine ⟨_, ⟨rfl, hr.out, hw.out⟩, shuf_mvl d A B M (by omega) (M - k) k (by omega) (by omega), ?_⟩
          rw [HMA.out]
          exact srt_mvl HS.out h1 h3 hlo.out hhi.out
end Go.Proofs.Ytbenjfipbeikmaa
