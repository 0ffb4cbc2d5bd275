/-
  The middle of a list by ranks, in the reference.
-/
import Derived.Test.YtbenjfipbeikmaaRank
namespace Go.Proofs.Ytbenjfipbeikmaa
open Go.RowKit

/-- A single's rank. -/
def rk (b : Nat) : Int := if isN .f32 b = true then 1099511627776 else plc b

theorem rk_lt (a b : Nat) (ha : a < 4294967296) (hb : b < 4294967296) : (rk a < rk b) = (kk a < kk b) ∧ (rk a = rk b) = (kk a = kk b) := by
  have k1 : ∀ x, x < 4294967296 → (isN .f32 x = true ∧ kk x = 2143289344 ∧ rk x = 1099511627776) ∨ (isN .f32 x = false ∧ kk x = rk x ∧ kk x ≤ 2139095040) := by
    intro x hx
    cases hq : isN .f32 x
    · right
      have := plc_bounds x hx hq
      unfold kk rk
      rw [cl_num hq, hq]
      exact ⟨rfl, by simp, this.2⟩
    · left
      unfold kk rk
      have : cl x = 2143289344 := by unfold cl cn; rw [if_pos hq]; rfl
      rw [this, if_pos hq]
      exact ⟨rfl, by decide, rfl⟩
  rcases k1 a ha with ⟨_, h2, h3⟩ | ⟨_, h2, h3⟩ <;> rcases k1 b hb with ⟨_, g2, g3⟩ | ⟨_, g2, g3⟩ <;> constructor <;> apply propext <;> omega

set_option maxRecDepth 100000 in
set_option maxHeartbeats 1000000 in
theorem rk_any (b : Nat) (hb : b < 4294967296) (w : World) : Calls Try.prog 94 #[.float .f32 b] w fun e w' => e = .returned (.int .i64 (rk b)) ∧ w' = w := by
  have h1 := ne_self .f32 b
  cases hq : isN .f32 b
  · have hr : rk b = plc b := by unfold rk; rw [hq]; simp
    have HK := hid hr; clear hr
    rw [hq] at h1; clear hq
    go_enter Try.func94, Try.ntmps94
    go_wp2_with (go_at_call 66; refine (placer_any b hb _).mono ?_; rintro e w' ⟨rfl, rfl⟩)
    go_ret
    exact ⟨by rw [HK.out]; rfl, rfl⟩
  · have hr : rk b = 1099511627776 := by unfold rk; rw [if_pos hq]
    have HK := hid hr; clear hr
    rw [hq] at h1; clear hq
    go_enter Try.func94, Try.ntmps94
    go_wp2
    go_ret
    exact ⟨by rw [HK.out]; rfl, rfl⟩

theorem ahd_le (d : Nat → Nat) (i : Nat) : ∀ n, ahd d i n ≤ n := by
  intro n
  induction n with
  | zero => exact Nat.le_refl _
  | succ n ih => simp only [ahd]; split <;> omega

set_option maxRecDepth 100000 in
set_option maxHeartbeats 4000000 in
theorem middler_any (b off n c m : Nat) (d d2 : Nat → Nat) (w : World) (h1 : 1 ≤ n) (hn : n ≤ 300) (hm : m = (n - 1) / 2) (hv : ∀ x, x < n → d x < 4294967296) (hc : ∀ x, x < n → w.cell? ⟨b, off + x, none⟩ = some (.float .f32 (d x))) (hsh : Shuf 0 n d d2) (hst : Srt d2 0 n) :
    Calls Try.prog 54 #[.slice (some ⟨b, off, none⟩) n c] w fun e w' => e = .returned (.float .f32 (cl (d2 m))) ∧ Drawn w w' := by
  have HC := hid hc; clear hc
  have HV := hid hv; clear hv
  have HEX := hid (rank_ex hsh hst (show m < n by omega))
  have HIS : RowKit.Hid (∀ i, i < n → ahd d i n = m → cl (d i) = cl (d2 m)) := hid fun i hi h => kk_inj (rank_is hsh hst (show m < n by omega) hi h)
  clear hsh hst
  have z1 : ((n : Int) - 1) / 2 = (m : Int) := by omega
  clear hm
  go_enter Try.func54, Try.ntmps54
  go_wp2
  go_loopw [11] (fun v wr => ∃ (i : Nat), i ≤ n ∧ v = .int .i64 (i : Int) ∧ RowKit.Hid (∀ x, x < i → ahd d x n ≠ m) ∧ RowKit.Hid (Drawn w wr)) (fun v _ => n - (intOf v).toNat)
  case atStart => exact ⟨0, Nat.zero_le _, rfl, fun x hx => by omega, drawn_refl w⟩
  case round =>
    obtain ⟨i, h2, rfl, hno, hw⟩ := hrel
    by_cases hlt : i < n
    · have cell : ∀ x w', x < n → Drawn w w' → w'.cell? ⟨b, off + x, none⟩ = some (.float .f32 (d x)) := by
        intro x w' hx hd
        obtain ⟨k, rfl⟩ := hd.ex
        exact HC.out x hx
      have HCELL := hid cell; clear cell
      have ci := HCELL.out i wr hlt hw.out
      have e5 : (0 : Int) ≤ (i : Int) := by omega
      go_wp2
      go_loopw [18, 6] (fun v u wr' => ∃ (j q : Nat), j ≤ n ∧ v = .int .i64 (j : Int) ∧ u = .int .i64 (q : Int) ∧ RowKit.Hid (q = ahd d i j) ∧ RowKit.Hid (Drawn w wr')) (fun v _ _ => n - (intOf v).toNat)
      case atStart => exact ⟨0, 0, Nat.zero_le _, rfl, rfl, rfl, by first | exact hw | exact drawn_drew hw.out | exact drawn_drewN hw.out _⟩
      case round =>
        clear hw ci
        obtain ⟨j, q, h3, rfl, rfl, hq, hw⟩ := hrel
        by_cases hlj : j < n
        · have cj := HCELL.out j _ hlj hw.out
          have e6 : (0 : Int) ≤ (j : Int) := by omega
          have hq3 : q ≤ 300 := by have := ahd_le d i j; have := hq.out; omega
          have hrk := hid (rk_lt (d j) (d i) (HV.out j hlj) (HV.out i hlt))
          by_cases k1 : kk (d j) < kk (d i)
          · have k1' : rk (d j) < rk (d i) := by rw [hrk.out.1]; exact k1
            go_wp2_with fail
            refine (rk_any (d j) (HV.out j hlj) _).mono ?_; rintro e w' ⟨rfl, rfl⟩
            go_wp2_with fail
            refine (rk_any (d i) (HV.out i hlt) _).mono ?_; rintro e w' ⟨rfl, rfl⟩
            go_wp2
            go_roundw
            case rel => exact ⟨j + 1, q + 1, by omega, rfl, rfl, by (show _ = _); have := hq.out; simp only [ahd]; rw [if_pos (Or.inl k1)]; omega, hw⟩
            case measure => simp [intOf]; omega
          · have k1' : decide (rk (d j) < rk (d i)) = false := decide_eq_false (by rw [hrk.out.1]; exact k1)
            by_cases k2 : kk (d j) = kk (d i)
            · have k2' : (rk (d j) == rk (d i)) = true := by rw [beq_iff_eq, hrk.out.2]; exact k2
              by_cases k3 : j < i
              · have k3' : (j : Int) < (i : Int) := by omega
                go_wp2_with fail
                refine (rk_any (d j) (HV.out j hlj) _).mono ?_; rintro e w' ⟨rfl, rfl⟩
                go_wp2_with fail
                refine (rk_any (d i) (HV.out i hlt) _).mono ?_; rintro e w' ⟨rfl, rfl⟩
                go_wp2_with fail
                refine (rk_any (d j) (HV.out j hlj) _).mono ?_; rintro e w' ⟨rfl, rfl⟩
                go_wp2_with fail
                refine (rk_any (d i) (HV.out i hlt) _).mono ?_; rintro e w' ⟨rfl, rfl⟩
                go_wp2
                go_roundw
                case rel => exact ⟨j + 1, q + 1, by omega, rfl, rfl, by (show _ = _); have := hq.out; simp only [ahd]; rw [if_pos (Or.inr ⟨k2, k3⟩)]; omega, hw⟩
                case measure => simp [intOf]; omega
              · have k3' : decide ((j : Int) < (i : Int)) = false := decide_eq_false (by omega)
                go_wp2_with fail
                refine (rk_any (d j) (HV.out j hlj) _).mono ?_; rintro e w' ⟨rfl, rfl⟩
                go_wp2_with fail
                refine (rk_any (d i) (HV.out i hlt) _).mono ?_; rintro e w' ⟨rfl, rfl⟩
                go_wp2_with fail
                refine (rk_any (d j) (HV.out j hlj) _).mono ?_; rintro e w' ⟨rfl, rfl⟩
                go_wp2_with fail
                refine (rk_any (d i) (HV.out i hlt) _).mono ?_; rintro e w' ⟨rfl, rfl⟩
                go_wp2
                go_roundw
                case rel => exact ⟨j + 1, q, by omega, rfl, rfl, by (show _ = _); have := hq.out; simp only [ahd]; rw [if_neg (by omega)]; omega, hw⟩
                case measure => simp [intOf]; omega
            · have k2' : (rk (d j) == rk (d i)) = false := by rw [beq_eq_false_iff_ne]; intro h; rw [hrk.out.2] at h; exact k2 h
              go_wp2_with fail
              refine (rk_any (d j) (HV.out j hlj) _).mono ?_; rintro e w' ⟨rfl, rfl⟩
              go_wp2_with fail
              refine (rk_any (d i) (HV.out i hlt) _).mono ?_; rintro e w' ⟨rfl, rfl⟩
              go_wp2_with fail
              refine (rk_any (d j) (HV.out j hlj) _).mono ?_; rintro e w' ⟨rfl, rfl⟩
              go_wp2_with fail
              refine (rk_any (d i) (HV.out i hlt) _).mono ?_; rintro e w' ⟨rfl, rfl⟩
              go_wp2
              go_roundw
              case rel => exact ⟨j + 1, q, by omega, rfl, rfl, by (show _ = _); have := hq.out; simp only [ahd]; rw [if_neg (by omega)]; omega, hw⟩
              case measure => simp [intOf]; omega
        · obtain rfl : j = n := by omega
          by_cases hm : q = m
          · have hm' : ((q : Int) == (m : Int)) = true := by rw [beq_iff_eq]; omega
            have HR := hid (HIS.out i hlt (by rw [← hq.out]; exact hm))
            clear hm hq
            go_wp2_with (go_at_call 18; refine (fix_any _ _).mono ?_; rintro e w' ⟨rfl, rfl⟩)
            go_ret
            exact ⟨ret_f HR.out, hw.out⟩
          · have hm' : ((q : Int) == (m : Int)) = false := by rw [beq_eq_false_iff_ne]; omega
            go_wp2
            go_roundw
            case rel =>
              refine ⟨i + 1, by omega, rfl, ?_, hw⟩
              intro x hx
              by_cases e : x = i
              · rw [e, ← hq.out]; exact hm
              · exact hno.out x (by omega)
            case measure => simp [intOf]; omega
    · exfalso
      obtain ⟨x, hx, hx2⟩ := HEX.out
      exact hno.out x (by omega) hx2
end Go.Proofs.Ytbenjfipbeikmaa
