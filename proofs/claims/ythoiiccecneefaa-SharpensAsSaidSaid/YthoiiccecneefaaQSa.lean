/-
  Sharpening: the nearest pixel of a frame, in the program and in the reference.
-/
import Derived.Test.YthoiiccecneefaaFPix
import Derived.Test.YthoiiccecneefaaQNum
import Derived.Lib.MinMax
namespace Go.Proofs.Ythoiiccecneefaa
open Go.RowKit Go.Shelf
attribute [local go_sem] run_store_float

set_option maxRecDepth 100000 in
set_option maxHeartbeats 4000000 in
theorem nearest_any (X Y x y : Int) (p q n c i j ch : Nat) (A : Option Addr) (F : Nat → Nat) (w : World) (hi : i < p) (hj : j < q) (hch : ch < 4) (hn : n = 4 * (p * q)) (hn2 : n ≤ 65536)
    (hp2 : p ≤ 256) (hq2 : q ≤ 256) (x1 : -1048576 ≤ X) (x2 : X ≤ 1048576) (y1 : -1048576 ≤ Y) (y2 : Y ≤ 1048576) (u1 : -1048580 ≤ x) (u2 : x ≤ 1048580) (v1 : -1048580 ≤ y) (v2 : y ≤ 1048580)
    (hx : min (max (x - X) 0) ((p : Int) - 1) = i) (hy : min (max (y - Y) 0) ((q : Int) - 1) = j) (hF : Src w A n F) :
    Calls Try.prog 119 #[frm X Y p q A n c, .int .i64 x, .int .i64 y, .int .i64 ch] w fun e w' => e = .returned (.float .f32 (F (4 * (p * j + i) + ch))) ∧ Below w.heap.size w w' := by
  have hlt := idx_lt hi hj
  obtain ⟨b, off, rfl, hb, hR⟩ := hF (by omega)
  clear hF
  obtain ⟨u, hu⟩ : ∃ u, u = p * j := ⟨_, rfl⟩
  rw [← hu] at hlt ⊢
  have e2 : (j : Int) * (p : Int) = (u : Int) := by rw [hu]; simp [Int.mul_comm]
  have l1 : 4 * ((u : Int) + i) + ch < (n : Int) := by omega
  have l3 : (0 : Int) ≤ 4 * ((u : Int) + i) + ch := by omega
  have l4 : (u : Int) + i ≤ 16384 := by omega
  have l5 : (0 : Int) ≤ (u : Int) + i := by omega
  have hc3 : (ch : Int) ≤ 3 := by omega
  have d0 := hR (4 * (u + i) + ch) (by omega)
  clear hR hu hn hlt hi hj
  go_enter Try.func119, Try.ntmps119
  go_wp2
  go_ret
  exact ⟨rfl, (Below.refl _ _).alloc (Nat.le_refl _) _⟩

set_option maxRecDepth 100000 in
set_option maxHeartbeats 4000000 in
theorem pixelAtG_any (X Y x y : Int) (p q n c i j : Nat) (A : Option Addr) (F : Nat → Nat) (w : World) (hi : i < p) (hj : j < q) (hn : n = 4 * (p * q)) (hnc : n ≤ c) (hcm : c ≤ maxLen) (hn2 : n ≤ 65536)
    (hp2 : p ≤ 256) (hq2 : q ≤ 256) (x1 : -1048576 ≤ X) (x2 : X ≤ 1048576) (y1 : -1048576 ≤ Y) (y2 : Y ≤ 1048576)
    (hx : min (max x X) (X + p - 1) = X + i) (hy : min (max y Y) (Y + q - 1) = Y + j) (hF : Src w A n F) :
    Calls Try.prog 32 #[frm X Y p q A n c, .int .i64 x, .int .i64 y] w fun e w' => e = .returned (pix fun k => F (4 * (p * j + i) + k)) ∧ Below w.heap.size w w' := by
  have hlt := idx_lt hi hj
  have hpos : 0 < p * q := by omega
  obtain ⟨b, off, rfl, hb, hR⟩ := hF (by omega)
  clear hF
  obtain ⟨u, hu⟩ : ∃ u, u = p * j := ⟨_, rfl⟩
  rw [← hu] at hlt ⊢
  have e1 : Y + (j : Int) - Y = j := by omega
  have e2 : (j : Int) * (p : Int) = (u : Int) := by rw [hu]; simp [Int.mul_comm]
  have e3 : (u : Int) + (X + (i : Int)) - X = (u : Int) + i := by omega
  have u1 : (u : Int) + i + 1 ≤ 16384 := by omega
  have l1 : 4 * ((u : Int) + i) + 4 ≤ (n : Int) := by omega
  have l2 : 4 * ((u : Int) + i) + 4 ≤ (c : Int) := by omega
  have l3 : (0 : Int) ≤ 4 * ((u : Int) + i) := by omega
  have l4 : ¬ c = 4 * (u + i) := by omega
  unfold maxLen at hcm
  have d0 := hR (4 * (u + i)) (by omega)
  have d1 := hR (4 * (u + i) + 1) (by omega)
  have d2 := hR (4 * (u + i) + 2) (by omega)
  have d3 := hR (4 * (u + i) + 3) (by omega)
  rw [← Nat.add_assoc] at d1 d2 d3
  have harr := fun (w : World) (a : Option Addr) (cp : Nat) => run_arrayAt (P := Try.prog) w 47 40 4 a 4 cp Try.underlying47 (Nat.le_refl 4)
  clear hR hu hn hlt
  go_enter Try.func32, Try.ntmps32
  go_wp2
  have hblk : Blk ((w.alloc (.cells #[.int .i64 X, .int .i64 Y, .int .i64 p, .int .i64 q, .slice (some ⟨b, off, none⟩) n c] 26)).alloc (.cells #[.float .f32 (F (4 * (u + i))), .float .f32 (F (4 * (u + i) + 1)), .float .f32 (F (4 * (u + i) + 2)), .float .f32 (F (4 * (u + i) + 3))] 47)) (w.heap.size + 1) 47 #[.float .f32 (F (4 * (u + i))), .float .f32 (F (4 * (u + i) + 1)), .float .f32 (F (4 * (u + i) + 2)), .float .f32 (F (4 * (u + i) + 3))] := Blk.new_at _ _ _ (by simp)
  refine bodyPost_ret (v := pix fun k => F (4 * (u + i) + k)) (results_cell_row rfl _ _ _ _ _ _ _ rfl hblk Try.underlying47 rfl (by kernel_rfl)) rfl ⟨rfl, ?_⟩
  exact ((Below.refl _ _).alloc (Nat.le_refl _) _).alloc (by simp) _

/-- The place beside a place, kept within a side. -/
def clN (i d p : Nat) : Nat := if i + d = 0 then 0 else min (i + d - 1) (p - 1)
theorem clN_lt {i d p : Nat} (hp : 0 < p) : clN i d p < p := by unfold clN; split <;> omega
theorem clN_prog {X : Int} {i d p : Nat} (hi : i < p) : min (max (X + i + d - 1 - X) 0) ((p : Int) - 1) = clN i d p := by unfold clN; split <;> omega
theorem clN_ref {X : Int} {i d p : Nat} (hi : i < p) : min (max (X + i - 1 + d) X) (X + p - 1) = X + clN i d p := by unfold clN; split <;> omega
/-- The nine values around a place. -/
def nbr (F : Nat → Nat) (p q i j ch k : Nat) : Nat := F (4 * (p * clN j (k / 3) q + clN i (k % 3) p) + ch)
/-- Their sum in order, and their mean. -/
def smN (N : Nat → Nat) : Nat → Nat
  | 0 => cl (N 0)
  | k + 1 => cop .add .f32 (smN N k) (N (k + 1))
def mnC (N : Nat → Nat) : Nat := cop .quo .f32 (smN N 8) 1091567616
theorem cl_smN (N : Nat → Nat) : ∀ k, cl (smN N k) = smN N k
  | 0 => cl_cl _
  | _ + 1 => cn_cop ..
end Go.Proofs.Ythoiiccecneefaa
