/-
  Clean of the reference, and SameFrame.
-/
import Derived.Test.YthoiiccecneefaaFPix
import Derived.BigQuiet
namespace Go.Proofs.Ythoiiccecneefaa
open Go.RowKit Go.Shelf

theorem Framed.congr {w w' : World} {X Y : Int} {p q m : Nat} {F G : Nat → Nat} {e : Ending} (h : Framed w X Y p q m F e w') (hfg : ∀ t, t < m → F t = G t) : Framed w X Y p q m G e w' := by
  obtain ⟨b, c, he, h1, h2, h3, h4, h5, h6⟩ := h
  exact ⟨b, c, he, h1, h2, h3, h4, fun i hi => by rw [h5 i hi, hfg i hi], h6⟩
theorem gI_flat (H : Nat → Nat) {p : Nat} (t : Nat) : gI (fun i j k => H (4 * (p * j + i) + k)) p t = H t := by
  show H (4 * (p * (t / 4 / p) + t / 4 % p) + t % 4) = H t
  rw [Nat.div_add_mod, Nat.div_add_mod]

set_option maxRecDepth 100000 in
set_option maxHeartbeats 2000000 in
theorem sameFrame_any (X Y p q : Int) (n c c2 : Nat) (A B : Option Addr) (F G : Nat → Nat) (w : World) (hn : n ≤ 65536) (hF : Src w A n F) (hG : Src w B n G) (hFG : ∀ i, i < n → F i = G i) :
    Calls Try.prog 29 #[frm X Y p q A n c, frm X Y p q B n c2] w fun e w' => e = .returned (.bool true) ∧ Below w.heap.size w w' := by
  have HF := hid hF
  have HG := hid hG
  have HFG := hid hFG
  clear hF hG hFG
  go_enter Try.func29, Try.ntmps29
  go_wp2
  go_loopw [23] (fun i wr => ∃ k : Nat, k ≤ n ∧ i = .int .i64 k ∧ Blk wr w.heap.size 26 #[.int .i64 X, .int .i64 Y, .int .i64 p, .int .i64 q, .slice A n c] ∧ Blk wr (w.heap.size + 1) 26 #[.int .i64 X, .int .i64 Y, .int .i64 p, .int .i64 q, .slice B n c2] ∧ Below w.heap.size w wr) (fun i _ => n - (intOf i).toNat)
  case atStart => exact ⟨0, Nat.zero_le _, rfl, (Blk.new_at _ _ _ rfl).alloc _, Blk.new_at _ _ _ (by simp), ((Below.refl _ _).alloc (Nat.le_refl _) _).alloc (by simp) _⟩
  case round =>
    obtain ⟨k, hk, rfl, h0, h1, h2⟩ := hrel
    have c4 := h0.cell 4
    have d4 := h1.cell 4
    simp at c4 d4
    have H0 := hid h0
    have H1 := hid h1
    have H2 := hid h2
    clear h0 h1 h2
    by_cases hlt : k < n
    · obtain ⟨ba, oa, rfl, hba, hRa⟩ := HF.out (by omega)
      obtain ⟨bb, ob, rfl, hbb, hRb⟩ := HG.out (by omega)
      have s1 : wr.cell? ⟨ba, oa + k, none⟩ = some (.float .f32 (F k)) := (H2.out.cell (p := ⟨ba, oa + k, none⟩) hba).trans (hRa k hlt)
      have s2 : wr.cell? ⟨bb, ob + k, none⟩ = some (.float .f32 (F k)) := by rw [HFG.out k hlt]; exact (H2.out.cell (p := ⟨bb, ob + k, none⟩) hbb).trans (hRb k hlt)
      have k1 : (0 : Int) ≤ (k : Int) := by omega
      have k2 : (k : Int) < (n : Int) := by omega
      clear hRa hRb
      go_wp2
      go_quiet (fail)
      go_wp2
      go_roundw
      case rel => exact ⟨k + 1, by omega, by go_num, H0.out.drewN _, H1.out.drewN _, below_drewN H2.out _⟩
      case measure => simp [intOf]; omega
    · go_wp2
      go_ret
      exact ⟨rfl, H2.out⟩
end Go.Proofs.Ythoiiccecneefaa
