/-
  A pixel of a frame, in the reference.
-/
import Derived.Test.YthoiiccecneefaaFMade
import Derived.Lib.MinMax
import Derived.Laws.Cover3
namespace Go.Proofs.Ythoiiccecneefaa
open Go.RowKit Go.Shelf
attribute [local go_sem] run_store_float

set_option maxRecDepth 100000 in
set_option maxHeartbeats 2000000 in
theorem pixelAt_any (X Y : Int) (p q n c i j : Nat) (A : Option Addr) (F : Nat → Nat) (w : World) (hi : i < p) (hj : j < q) (hn : n = 4 * (p * q)) (hnc : n ≤ c) (hcm : c ≤ maxLen) (hn2 : n ≤ 65536)
    (hp2 : p ≤ 256) (hq2 : q ≤ 256) (x1 : -1048576 ≤ X) (x2 : X ≤ 1048576) (y1 : -1048576 ≤ Y) (y2 : Y ≤ 1048576) (hF : Src w A n F) :
    Calls Try.prog 32 #[frm X Y p q A n c, .int .i64 (X + i), .int .i64 (Y + j)] w fun e w' => e = .returned (pix fun k => F (4 * (p * j + i) + k)) ∧ Below w.heap.size w w' := by
  have hlt := idx_lt hi hj
  have hpos : 0 < p * q := by omega
  obtain ⟨b, off, rfl, hb, hR⟩ := hF (by omega)
  clear hF
  obtain ⟨u, hu⟩ : ∃ u, u = p * j := ⟨_, rfl⟩
  rw [← hu] at hlt ⊢
  have m1 : max (X + (i : Int)) X = X + i := by omega
  have m2 : min (X + (i : Int)) (X + p - 1) = X + i := by omega
  have m3 : max (Y + (j : Int)) Y = Y + j := by omega
  have m4 : min (Y + (j : Int)) (Y + q - 1) = Y + j := by omega
  have e1 : Y + (j : Int) - Y = j := by omega
  have e2 : (j : Int) * (p : Int) = (u : Int) := by rw [hu]; simp [Int.mul_comm]
  have e3 : (u : Int) + (X + (i : Int)) - X = (u : Int) + i := by omega
  have u1 : (u : Int) + i + 1 ≤ 16384 := by omega
  have l1 : 4 * ((u : Int) + i) + 4 ≤ (n : Int) := by omega
  have l2 : 4 * ((u : Int) + i) + 4 ≤ (c : Int) := by omega
  have l3 : (0 : Int) ≤ 4 * ((u : Int) + i) := by omega
  have l4 : ¬ c = 4 * (u + i) := by omega
  unfold maxLen at hcm
  have d0 := hR (4 * (u + i)) (by omega)
  have d1 := hR (4 * (u + i) + 1) (by omega)
  have d2 := hR (4 * (u + i) + 2) (by omega)
  have d3 := hR (4 * (u + i) + 3) (by omega)
  rw [← Nat.add_assoc] at d1 d2 d3
  have harr := fun (w : World) (a : Option Addr) (cp : Nat) => run_arrayAt (P := Try.prog) w 47 40 4 a 4 cp Try.underlying47 (Nat.le_refl 4)
  clear hR hu hn hlt
  go_enter Try.func32, Try.ntmps32
  go_wp2
  have hblk : Blk ((w.alloc (.cells #[.int .i64 X, .int .i64 Y, .int .i64 p, .int .i64 q, .slice (some ⟨b, off, none⟩) n c] 26)).alloc (.cells #[.float .f32 (F (4 * (u + i))), .float .f32 (F (4 * (u + i) + 1)), .float .f32 (F (4 * (u + i) + 2)), .float .f32 (F (4 * (u + i) + 3))] 47)) (w.heap.size + 1) 47 #[.float .f32 (F (4 * (u + i))), .float .f32 (F (4 * (u + i) + 1)), .float .f32 (F (4 * (u + i) + 2)), .float .f32 (F (4 * (u + i) + 3))] := Blk.new_at _ _ _ (by simp)
  refine bodyPost_ret (v := pix fun k => F (4 * (u + i) + k)) (results_cell_row rfl _ _ _ _ _ _ _ rfl hblk Try.underlying47 rfl (by kernel_rfl)) rfl ⟨rfl, ?_⟩
  exact ((Below.refl _ _).alloc (Nat.le_refl _) _).alloc (by simp) _

abbrev zpix : Array Value := #[.float .f32 0, .float .f32 0, .float .f32 0, .float .f32 0]

end Go.Proofs.Ythoiiccecneefaa
