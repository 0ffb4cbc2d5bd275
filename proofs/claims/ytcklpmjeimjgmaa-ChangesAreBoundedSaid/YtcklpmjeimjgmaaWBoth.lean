/-
  checkBoth of two frames with one region, with no error.
-/
import Derived.Test.YtcklpmjeimjgmaaWExt
namespace Go.Proofs.Ytcklpmjeimjgmaa
open Go.RowKit Go.Shelf

theorem run_two0 (a0 a1 a2 a3 a4 b0 b1 b2 b3 b4 : Value) (w : World) : (Instr.index 186 (.agg #[a0, a1, a2, a3, a4, b0, b1, b2, b3, b4]) (.int .i64 0)).run Try.prog w = .ok (.agg #[a0, a1, a2, a3, a4]) w := by
  simp [Instr.index, run_underlying Try.underlying186, asIntOf, go_sem]
theorem run_two1 (a0 a1 a2 a3 a4 b0 b1 b2 b3 b4 : Value) (w : World) : (Instr.index 186 (.agg #[a0, a1, a2, a3, a4, b0, b1, b2, b3, b4]) (.int .i64 1)).run Try.prog w = .ok (.agg #[b0, b1, b2, b3, b4]) w := by
  simp [Instr.index, run_underlying Try.underlying186, asIntOf, go_sem]

set_option maxRecDepth 100000 in
set_option maxHeartbeats 2000000 in
theorem checkBoth_ok (x y a b : Int) (A B : Option Addr) (n c d : Nat) (w : World) (h : frmE x y a b n = 0) :
    Calls Try.prog 124 #[frm x y a b A n c, frm x y a b B n d] w fun e w' => e = .returned (.int .i64 0) ∧ Below w.heap.size w w' := by
  have z0 : (frmE x y a b n != 0) = false := by simp [h]
  have HH := hid h
  have ix0 := run_two0
  have ix1 := run_two1
  clear h
  go_enter Try.func124, Try.ntmps124
  go_wp2_with fail
  go_loopw [11] (fun i wr => ∃ k : Nat, k ≤ 2 ∧ i = .int .i64 k ∧ Blk wr w.heap.size 26 #[.int .i64 x, .int .i64 y, .int .i64 a, .int .i64 b, .slice A n c] ∧ Blk wr (w.heap.size + 1) 26 #[.int .i64 x, .int .i64 y, .int .i64 a, .int .i64 b, .slice B n d] ∧ Below w.heap.size w wr) (fun i _ => 2 - (intOf i).toNat)
  case atStart => exact ⟨0, Nat.zero_le _, rfl, (Blk.new_at _ _ _ rfl).alloc _, Blk.new_at _ _ _ (by simp), ((Below.refl _ _).alloc (Nat.le_refl _) _).alloc (by simp) _⟩
  case round =>
    obtain ⟨k, hk, rfl, h0, h1, h2⟩ := hrel
    have H0 := hid h0
    have H1 := hid h1
    have H2 := hid h2
    have s0 := h0.lt
    have s1 := h1.lt
    obtain rfl | rfl | rfl : k = 0 ∨ k = 1 ∨ k = 2 := by omega
    · clear h0 h1 h2
      go_wp2_with fail
      refine (check_any _ _ _ _ _ _ _ _).mono ?_
      rintro e w1 ⟨rfl, hb⟩
      have HB := hid (below_box hb)
      clear hb
      go_wp2_with fail
      go_roundw
      case rel => exact ⟨1, by omega, rfl, H0.out.below HB.out H0.out.lt, H1.out.below HB.out H1.out.lt, below_to H2.out HB.out⟩
      case measure => simp [intOf]
    · clear h0 h1 h2
      go_wp2_with fail
      refine (check_any _ _ _ _ _ _ _ _).mono ?_
      rintro e w1 ⟨rfl, hb⟩
      have HB := hid (below_box hb)
      clear hb
      go_wp2_with fail
      go_roundw
      case rel => exact ⟨2, by omega, rfl, H0.out.below HB.out H0.out.lt, H1.out.below HB.out H1.out.lt, below_to H2.out HB.out⟩
      case measure => simp [intOf]
    · have a0 := h0.cell 0
      have a1 := h0.cell 1
      have a2 := h0.cell 2
      have a3 := h0.cell 3
      have b0 := h1.cell 0
      have b1 := h1.cell 1
      have b2 := h1.cell 2
      have b3 := h1.cell 3
      simp at a0 a1 a2 a3 b0 b1 b2 b3
      clear h0 h1 h2
      go_wp2_with fail
      go_ret
      exact ⟨rfl, H2.out⟩
end Go.Proofs.Ytcklpmjeimjgmaa
