/-
  Colours: the law on hues that lead back.
-/
import Derived.Test.YtcmakibomdinbaaCBackV
import Derived.Test.YtcmakibomdinbaaCKnow
import Derived.Deep.RegionHeld3
namespace Go.Proofs.Ytcmakibomdinbaa
open Go.RowKit
attribute [local go_sem] run_store_float

theorem ldexp_20 (w : World) : Calls Try.prog 18 #[.float .f64 4607182418800017408, .int .i64 (-20)] w fun e w' => e = .returned (.float .f64 4517110426252607488) ∧ ∃ n, w' = w.drewN n :=
  ldexp_xw (j := 1022) (kk := 4503599627370496) ⟨by decide, by decide, by decide⟩ (-20) 1002 (by decide) (by decide) w
theorem c20 (w : World) : fcv .f64 4517110426252607488 .f32 w = 897581056 := fcvv (r := 897581056) (by decide +kernel) w
theorem c20d : fcd .f64 4517110426252607488 .f32 = 0 := fcdv (r := 897581056) (by decide +kernel)
theorem fv20 : Fv .f32 897581056 (1 / 1048576) := ⟨false, 8388608, -43, by decide +kernel, by unfold dv pw; decide +kernel⟩
theorem fvbig : Fv .f32 1233125376 1048576 := ⟨false, 8388608, -3, by decide +kernel, by unfold dv pw; decide +kernel⟩

/-- Is it a number from 2^-20 to 2^20? -/
def inR (b : Nat) : Prop := ((FloatKind.f32.format.order b 897581056 == some .gt) = true ∨ (FloatKind.f32.format.order b 897581056 == some .eq) = true) ∧ ((FloatKind.f32.format.order b 1233125376 == some .lt) = true ∨ (FloatKind.f32.format.order b 1233125376 == some .eq) = true)
theorem inR_val {b : Nat} (h : inR b) : ∃ a, Fv .f32 b a ∧ 1 ≤ 1048576 * a ∧ a ≤ 1048576 := by
  obtain ⟨h1, h2⟩ := h
  have hn : ∃ a, Fv .f32 b a := by
    cases hr : FloatKind.f32.format.read b with
    | nan s t =>
      exfalso
      have hN : isN .f32 b = true := by unfold isN; rw [hr]; rfl
      rw [order_nanl _ _ _ hN] at h1
      rcases h1 with h | h <;> cases h
    | infinity s =>
      exfalso
      have c1 : FloatKind.f32.format.read 897581056 = .number false 8388608 (-43) := by decide +kernel
      have c2 : FloatKind.f32.format.read 1233125376 = .number false 8388608 (-3) := by decide +kernel
      unfold Ieee.Format.order at h1 h2
      rw [hr, c1] at h1
      rw [hr, c2] at h2
      cases s
      · rcases h2 with h | h <;> cases h
      · rcases h1 with h | h <;> cases h
    | number s m p => exact ⟨_, s, m, p, hr, rfl⟩
  obtain ⟨a, ha⟩ := hn
  refine ⟨a, ha, ?_, ?_⟩
  · rcases h1 with h | h
    · have := (ogt ha fv20).1 h; grind
    · have := (order_val ha fv20).1 h; grind
  · rcases h2 with h | h
    · have := (olt ha fvbig).1 h; grind
    · have := (order_val ha fvbig).1 h; grind

/-- What the last part of the law needs of a pixel. -/
structure BOk (f : Nat → Nat) (L : Nat) : Prop where
  ld : ∀ w : World, Calls Try.prog 18 #[.float .f64 (wid (hsvV f)), .int .i64 (-19)] w fun e w' => e = .returned (.float .f64 L) ∧ ∃ n, w' = w.drewN n
  nv : isN .f32 (hsvV f) = false
  np : ∀ k, k < 3 → isN .f32 (f k) = false
  nq : ∀ k, k < 3 → isN .f32 (fromC (hsvH f) (hsvS f) (hsvV f) (f 3) k) = false
  df : ∀ k, k < 3 → ∃ z, floatBits .sub .f64 (wid (fromC (hsvH f) (hsvS f) (hsvV f) (f 3) k)) (wid (f k)) = some z ∧ (FloatKind.f64.format.order (absB z) L == some .gt) = false
theorem bok_of (f : Nat → Nat) (h0 : inR (f 0)) (h1 : inR (f 1)) (h2 : inR (f 2)) : ∃ L, BOk f L := by
  obtain ⟨r, hr, r1, r2⟩ := inR_val h0
  obtain ⟨g, hg, g1, g2⟩ := inR_val h1
  obtain ⟨b, hb, b1, b2⟩ := inR_val h2
  obtain ⟨v, hv, v1, v2, ⟨o0, p0, x0, y0⟩, ⟨o1, p1, x1, y1⟩, ⟨o2, p2, x2, y2⟩⟩ := back_val f hr hg hb r1 g1 b1 r2 g2 b2
  obtain ⟨L, hL, l, hl, hlv⟩ := ldexp_val hv (by grind)
  refine ⟨L, hL, hv.not_nan, ?_, ?_, ?_⟩
  · intro k hk
    have : k = 0 ∨ k = 1 ∨ k = 2 := by omega
    rcases this with rfl | rfl | rfl
    · exact hr.not_nan
    · exact hg.not_nan
    · exact hb.not_nan
  · intro k hk
    have : k = 0 ∨ k = 1 ∨ k = 2 := by omega
    rcases this with rfl | rfl | rfl
    · exact p0.not_nan
    · exact p1.not_nan
    · exact p2.not_nan
  · intro k hk
    have : k = 0 ∨ k = 1 ∨ k = 2 := by omega
    rcases this with rfl | rfl | rfl
    · exact not_more p0 hr x0 y0 v1 v2 hl hlv
    · exact not_more p1 hg x1 y1 v1 v2 hl hlv
    · exact not_more p2 hb x2 y2 v1 v2 hl hlv

/-- The two pixels stand. -/
structure BK (w : World) (f G : Nat → Nat) (wr : World) : Prop where
  p : Blk wr w.heap.size 24 (pixA f)
  q : ∃ b, w.heap.size < b ∧ Blk wr b 24 (pixA G)
  be : Below w.heap.size w wr
end Go.Proofs.Ytcmakibomdinbaa
