/-
  The library's stable sort at singles.
-/
import Derived.Test.YtbenjfipbeikmaaSymG
namespace Go.Proofs.Ytbenjfipbeikmaa
open Go.RowKit

theorem dvd_gap {k x y : Nat} (h1 : k ∣ x) (h2 : k ∣ y) (h : x < y) : x + k ≤ y := by
  have h3 : k ∣ y - x := Nat.dvd_sub h2 h1
  have := Nat.le_of_dvd (by omega) h3
  omega

/-- Every block of k from a multiple of k on is in order. -/
def Blk (d : Nat → Nat) (k N : Nat) : Prop := ∀ x, k ∣ x → Srt d x (min (x + k) N)

/-- The blocks of k ahead of a are in order. -/
structure Fst (d : Nat → Nat) (k a : Nat) : Prop where
  dv : k ∣ a
  lo : ∀ x, k ∣ x → x < a → Srt d x (x + k)

theorem fst_zero (d : Nat → Nat) (k : Nat) : Fst d k 0 := ⟨Nat.dvd_zero k, fun x _ h => by omega⟩
theorem fst_next {d d' : Nat → Nat} {k a : Nat} (h : Fst d k a) (s : Shuf a (a + k) d d') (t : Srt d' a (a + k)) : Fst d' k (a + k) := by
  refine ⟨Nat.dvd_add h.dv (Nat.dvd_refl k), ?_⟩
  intro x hx hlt
  have o := shuf_out s
  by_cases e : x < a
  · have := dvd_gap hx h.dv e
    exact srt_congr (h.lo x hx e) (fun z g1 g2 => o z (by omega))
  · have : x = a := by
      by_cases g : x = a
      · exact g
      · have := dvd_gap h.dv hx (by omega); omega
    rw [this]; exact t
theorem fst_blk {d d' : Nat → Nat} {k a N : Nat} (h : Fst d k a) (s : Shuf a N d d') (t : Srt d' a N) (hN : N < a + k) : Blk d' k N := by
  intro x hx
  have o := shuf_out s
  by_cases e : x < a
  · have := dvd_gap hx h.dv e
    exact srt_sub (srt_congr (h.lo x hx e) (fun z g1 g2 => o z (by omega))) _ _ (Nat.le_refl _) (by omega)
  · by_cases g : x = a
    · rw [g]; exact srt_sub t _ _ (Nat.le_refl _) (by omega)
    · have := dvd_gap h.dv hx (by omega)
      exact srt_one _ _ _ (by omega)

/-- The blocks of 2k ahead of a are in order, and those of k from a on. -/
structure Hlf (d : Nat → Nat) (k N a : Nat) : Prop where
  fst : Fst d (2 * k) a
  hi : ∀ x, k ∣ x → a ≤ x → Srt d x (min (x + k) N)

theorem hlf_zero {d : Nat → Nat} {k N : Nat} (h : Blk d k N) : Hlf d k N 0 := ⟨fst_zero d _, fun x hx _ => h x hx⟩
theorem hlf_dvd {d : Nat → Nat} {k N a : Nat} (h : Hlf d k N a) : k ∣ a := Nat.dvd_trans (Nat.dvd_mul_left k 2) h.fst.dv
theorem hlf_left {d : Nat → Nat} {k N a : Nat} (h : Hlf d k N a) (hN : a + k ≤ N) : Srt d a (a + k) := srt_sub (h.hi a (hlf_dvd h) (Nat.le_refl _)) _ _ (Nat.le_refl _) (by omega)
theorem hlf_right {d : Nat → Nat} {k N a : Nat} (h : Hlf d k N a) : Srt d (a + k) (min (a + 2 * k) N) := srt_sub (h.hi (a + k) (Nat.dvd_add (hlf_dvd h) (Nat.dvd_refl k)) (by omega)) _ _ (Nat.le_refl _) (by omega)
theorem hlf_next {d d' : Nat → Nat} {k N a : Nat} (h : Hlf d k N a) (s : Shuf a (a + 2 * k) d d') (t : Srt d' a (a + 2 * k)) : Hlf d' k N (a + 2 * k) := by
  have o := shuf_out s
  refine ⟨fst_next h.fst s t, ?_⟩
  intro x hx hle
  exact srt_congr (h.hi x hx (by omega)) (fun z g1 g2 => o z (by omega))
theorem hlf_last {d d' : Nat → Nat} {k N a : Nat} (h : Hlf d k N a) (s : Shuf a N d d') (t : Srt d' a N) (hN : N < a + 2 * k) : Blk d' (2 * k) N := fst_blk h.fst s t hN
theorem hlf_end {d : Nat → Nat} {k N a : Nat} (h : Hlf d k N a) (hN : N ≤ a + k) (hk : 1 ≤ k) : Blk d (2 * k) N :=
  hlf_last h (.refl d) (srt_sub (h.hi a (hlf_dvd h) (Nat.le_refl _)) _ _ (Nat.le_refl _) (by omega)) (by omega)
theorem blk_end {d : Nat → Nat} {k N : Nat} (h : Blk d k N) (hk : N ≤ k) : Srt d 0 N := srt_sub (h 0 (Nat.dvd_zero k)) _ _ (Nat.le_refl _) (by omega)

set_option maxRecDepth 100000 in
set_option maxHeartbeats 4000000 in
theorem stable_any (b off N cap : Nat) (d : Nat → Nat) (w : World) (hc : Cells w b off N d) (hd : ∀ x, x < N → d x < 4294967296) (hN : N ≤ 300) :
    Calls Try.prog 103 #[.slice (some ⟨b, off, none⟩) N cap, .int .i64 (N : Int), theCmp] w
      (fun e w' => ∃ d', Turns b off N w d' e w' ∧ Shuf 0 N d d' ∧ Srt d' 0 N) := by
  have HC := hid hc; clear hc
  have HD : RowKit.Hid (∀ d', Shuf 0 N d d' → ∀ x, x < N → d' x < 4294967296) := hid fun d' hs x hx => shuf_all hs (fun v => v < 4294967296) (fun x _ hx => hd x hx) x (Nat.zero_le _) hx
  clear hd
  unfold theCmp
  go_enter Try.func103, Try.ntmps103
  go_wp2
  go_loopw [7, 8] (fun v u wr => ∃ (a c : Nat) (dd : Nat → Nat), a ≤ N ∧ c ≤ a + 20 ∧ a + 20 ≤ c ∧ v = .int .i64 (a : Int) ∧ u = .int .i64 (c : Int) ∧ RowKit.Hid (Fst dd 20 a) ∧ RowKit.Hid (Shuf 0 N d dd) ∧ RowKit.Hid (Cells wr b off N dd) ∧ RowKit.Hid (Sort1 b w wr)) (fun v _ _ => (N + 20 - (intOf v).toNat))
  case atStart => exact ⟨0, 20, d, Nat.zero_le _, by omega, by omega, rfl, rfl, fst_zero d 20, .refl d, HC, sort1_refl b w⟩
  case round =>
    clear HC
    obtain ⟨a, c, dd, h1, hc1, hc2, rfl, rfl, hf, hs, hr, hw⟩ := hrel
    have HCC : RowKit.Hid (c = a + 20) := hid (by omega)
    by_cases hlt : c ≤ N
    · go_wp2_with fail
      refine (insert_any b off N cap a c dd _ hr.out (HD.out dd hs.out) (by omega) hlt hN).mono ?_
      rintro e w' ⟨d1, ⟨rfl, g1, g2⟩, g3, g4⟩
      go_wp2
      go_roundw
      case rel => exact ⟨c, c + 20, d1, hlt, Nat.le_refl _, Nat.le_refl _, rfl, rfl, by have := HCC.out; subst this; exact fst_next hf.out g3 g4, shuf_trans hs.out (shuf_mono g3 (Nat.zero_le _) hlt), g1, sort1_trans hw.out g2⟩
      case measure => simp [intOf]; omega
    · go_wp2_with fail
      refine (insert_any b off N cap a N dd _ hr.out (HD.out dd hs.out) h1 (Nat.le_refl _) hN).mono ?_
      rintro e w' ⟨d1, ⟨rfl, g1, g2⟩, g3, g4⟩
      have B0 := hid (fst_blk hf.out g3 g4 (by omega))
      have S0 := hid (shuf_trans hs.out (shuf_mono g3 (Nat.zero_le _) (Nat.le_refl _)))
      have C0 := hid g1
      have W0 := hid (sort1_trans hw.out g2)
      clear hf hs hr hw g1 g2 g3 g4
      go_wp2
      clear HCC hc1 hc2 h1 hlt
      go_loopw [6] (fun v wr => ∃ (s : Nat) (dd : Nat → Nat), 1 ≤ s ∧ s ≤ 600 ∧ v = .int .i64 (s : Int) ∧ RowKit.Hid (Blk dd s N) ∧ RowKit.Hid (Shuf 0 N d dd) ∧ RowKit.Hid (Cells wr b off N dd) ∧ RowKit.Hid (Sort1 b w wr)) (fun v _ => (N - (intOf v).toNat))
      case atStart => exact ⟨20, d1, by omega, by omega, rfl, B0, S0, C0, W0⟩
      case round =>
        clear B0 S0 C0 W0
        obtain ⟨s, dd, h1, h2, rfl, hf, hs, hr, hw⟩ := hrel
        by_cases hlt : s < N
        · go_wp2
          go_loopw [7, 8] (fun v u wr' => ∃ (a' c' : Nat) (ee : Nat → Nat), a' ≤ N ∧ c' ≤ a' + 2 * s ∧ a' + 2 * s ≤ c' ∧ v = .int .i64 (a' : Int) ∧ u = .int .i64 (c' : Int) ∧ RowKit.Hid (Hlf ee s N a') ∧ RowKit.Hid (Shuf 0 N d ee) ∧ RowKit.Hid (Cells wr' b off N ee) ∧ RowKit.Hid (Sort1 b w wr')) (fun v _ _ => (N + 1000 - (intOf v).toNat))
          case atStart => exact ⟨0, 2 * s, dd, Nat.zero_le _, by omega, by omega, rfl, rfl, hlf_zero hf.out, hs, hr, hw⟩
          case round =>
            clear hf hs hr hw
            obtain ⟨a', c', ee, h3, hc1, hc2, rfl, rfl, hf, hs, hr, hw⟩ := hrel
            have HCC : RowKit.Hid (c' = a' + 2 * s) := hid (by omega)
            by_cases hle : c' ≤ N
            · obtain ⟨m, hm⟩ : ∃ m : Nat, (a' : Int) + (s : Int) = (m : Int) := ⟨a' + s, by omega⟩
              go_wp2_with fail
              refine (sym_all _ b off N cap a' m c' ee _ rfl hr.out (HD.out ee hs.out) (by omega) (by omega) hle hN (by have := hlf_left hf.out (by omega); rw [show m = a' + s from by omega]; exact this) (by have := hlf_right hf.out; rw [show m = a' + s from by omega]; exact srt_sub this _ _ (Nat.le_refl _) (by omega))).mono ?_
              rintro e w' ⟨d1, ⟨rfl, g1, g2⟩, g3, g4⟩
              go_wp2
              go_roundw
              case rel => exact ⟨c', c' + 2 * s, d1, hle, Nat.le_refl _, Nat.le_refl _, rfl, rfl, by have := HCC.out; subst this; exact hlf_next hf.out g3 g4, shuf_trans hs.out (shuf_mono g3 (Nat.zero_le _) hle), g1, sort1_trans hw.out g2⟩
              case measure => simp [intOf]; omega
            · obtain ⟨m, hm⟩ : ∃ m : Nat, (a' : Int) + (s : Int) = (m : Int) := ⟨a' + s, by omega⟩
              by_cases hlm : m < N
              · go_wp2_with fail
                refine (sym_all _ b off N cap a' m N ee _ rfl hr.out (HD.out ee hs.out) (by omega) hlm (Nat.le_refl _) hN (by have := hlf_left hf.out (by omega); rw [show m = a' + s from by omega]; exact this) (by have := hlf_right hf.out; rw [show m = a' + s from by omega]; exact srt_sub this _ _ (Nat.le_refl _) (by omega))).mono ?_
                rintro e w' ⟨d1, ⟨rfl, g1, g2⟩, g3, g4⟩
                go_wp2
                go_roundw
                case rel => exact ⟨2 * s, d1, by omega, by omega, by congr 1; omega, hlf_last hf.out g3 g4 (by omega), shuf_trans hs.out (shuf_mono g3 (Nat.zero_le _) (Nat.le_refl _)), g1, sort1_trans hw.out g2⟩
                case measure => simp [intOf]; omega
              · go_wp2
                go_roundw
                case rel => exact ⟨2 * s, ee, by omega, by omega, by congr 1; omega, hlf_end hf.out (by omega) h1, hs, hr, hw⟩
                case measure => simp [intOf]; omega
        · go_wp2
          go_end0
          exact ⟨dd, ⟨rfl, hr.out, hw.out⟩, hs.out, blk_end hf.out (by omega)⟩
end Go.Proofs.Ytbenjfipbeikmaa
