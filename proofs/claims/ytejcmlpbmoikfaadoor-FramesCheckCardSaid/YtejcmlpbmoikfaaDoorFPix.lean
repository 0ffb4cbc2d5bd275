/-
  A pixel of a frame, in the reference.
-/
import Derived.Test.YtejcmlpbmoikfaaDoorFMade
import Derived.Lib.MinMax
import Derived.Laws.Cover3
namespace Go.Proofs.YtejcmlpbmoikfaaDoor
open Go.RowKit Go.Shelf
attribute [local go_sem] run_store_float

set_option maxRecDepth 100000 in
set_option maxHeartbeats 2000000 in
theorem pixelAt_any (X Y : Int) (p q n c i j : Nat) (A : Option Addr) (F : Nat → Nat) (w : World) (hi : i < p) (hj : j < q) (hn : n = 4 * (p * q)) (hnc : n ≤ c) (hcm : c ≤ maxLen) (hn2 : n ≤ 65536)
    (hp2 : p ≤ 256) (hq2 : q ≤ 256) (x1 : -1048576 ≤ X) (x2 : X ≤ 1048576) (y1 : -1048576 ≤ Y) (y2 : Y ≤ 1048576) (hF : Src w A n F) :
    Calls Tryd.prog 48 #[frm X Y p q A n c, .int .i64 (X + i), .int .i64 (Y + j)] w fun e w' => e = .returned (pix fun k => F (4 * (p * j + i) + k)) ∧ Below w.heap.size w w' := by
  have hlt := idx_lt hi hj
  have hpos : 0 < p * q := by omega
  obtain ⟨b, off, rfl, hb, hR⟩ := hF (by omega)
  clear hF
  obtain ⟨u, hu⟩ : ∃ u, u = p * j := ⟨_, rfl⟩
  rw [← hu] at hlt ⊢
  have m1 : max (X + (i : Int)) X = X + i := by omega
  have m2 : min (X + (i : Int)) (X + p - 1) = X + i := by omega
  have m3 : max (Y + (j : Int)) Y = Y + j := by omega
  have m4 : min (Y + (j : Int)) (Y + q - 1) = Y + j := by omega
  have e1 : Y + (j : Int) - Y = j := by omega
  have e2 : (j : Int) * (p : Int) = (u : Int) := by rw [hu]; simp [Int.mul_comm]
  have e3 : (u : Int) + (X + (i : Int)) - X = (u : Int) + i := by omega
  have u1 : (u : Int) + i + 1 ≤ 16384 := by omega
  have l1 : 4 * ((u : Int) + i) + 4 ≤ (n : Int) := by omega
  have l2 : 4 * ((u : Int) + i) + 4 ≤ (c : Int) := by omega
  have l3 : (0 : Int) ≤ 4 * ((u : Int) + i) := by omega
  have l4 : ¬ c = 4 * (u + i) := by omega
  unfold maxLen at hcm
  have d0 := hR (4 * (u + i)) (by omega)
  have d1 := hR (4 * (u + i) + 1) (by omega)
  have d2 := hR (4 * (u + i) + 2) (by omega)
  have d3 := hR (4 * (u + i) + 3) (by omega)
  rw [← Nat.add_assoc] at d1 d2 d3
  have harr := fun (w : World) (a : Option Addr) (cp : Nat) => run_arrayAt (P := Tryd.prog) w 32 30 4 a 4 cp Tryd.underlying32 (Nat.le_refl 4)
  clear hR hu hn hlt
  go_enter Tryd.func48, Tryd.ntmps48
  go_wp2
  have hblk : Blk ((w.alloc (.cells #[.int .i64 X, .int .i64 Y, .int .i64 p, .int .i64 q, .slice (some ⟨b, off, none⟩) n c] 26)).alloc (.cells #[.float .f32 (F (4 * (u + i))), .float .f32 (F (4 * (u + i) + 1)), .float .f32 (F (4 * (u + i) + 2)), .float .f32 (F (4 * (u + i) + 3))] 32)) (w.heap.size + 1) 32 #[.float .f32 (F (4 * (u + i))), .float .f32 (F (4 * (u + i) + 1)), .float .f32 (F (4 * (u + i) + 2)), .float .f32 (F (4 * (u + i) + 3))] := Blk.new_at _ _ _ (by simp)
  refine bodyPost_ret (v := pix fun k => F (4 * (u + i) + k)) (results_cell_row rfl _ _ _ _ _ _ _ rfl hblk Tryd.underlying32 rfl (by kernel_rfl)) rfl ⟨rfl, ?_⟩
  exact ((Below.refl _ _).alloc (Nat.le_refl _) _).alloc (by simp) _

abbrev zpix : Array Value := #[.float .f32 0, .float .f32 0, .float .f32 0, .float .f32 0]

/-- The function value of Clean: the pixel itself. -/
theorem cleanPix_any (f : Nat → Nat) (w : World) : Calls Tryd.prog 34 #[pix f] w fun e w' => e = .returned (pix f) ∧ Below w.heap.size w w' := by
  have px := pix_cells f
  have hblk : Blk ((w.alloc (.cells #[.float .f32 (f 0), .float .f32 (f 1), .float .f32 (f 2), .float .f32 (f 3)] 32)).alloc (.cells #[.float .f32 (f 0), .float .f32 (f 1), .float .f32 (f 2), .float .f32 (f 3)] 32)) (w.heap.size + 1) 32 #[.float .f32 (f 0), .float .f32 (f 1), .float .f32 (f 2), .float .f32 (f 3)] := Blk.new_at _ _ _ (by simp)
  have HB := hid hblk
  clear hblk
  go_enter Tryd.func34, Tryd.ntmps34
  go_wp2
  refine bodyPost_ret (v := pix f) (results_cell_row rfl _ _ _ _ _ _ _ rfl HB.out Tryd.underlying32 rfl (by kernel_rfl)) rfl ⟨rfl, ?_⟩
  exact ((Below.refl _ _).alloc (Nat.le_refl _) _).alloc (by simp) _

set_option maxRecDepth 100000 in
set_option maxHeartbeats 2000000 in
/-- The pixel of each at a place, over Clean. -/
theorem eachClean_any (X Y : Int) (p q n c i j bf bx : Nat) (A : Option Addr) (F : Nat → Nat) (w : World) (hi : i < p) (hj : j < q) (hn : n = 4 * (p * q)) (hnc : n ≤ c) (hcm : c ≤ maxLen) (hn2 : n ≤ 65536)
    (hp2 : p ≤ 256) (hq2 : q ≤ 256) (x1 : -1048576 ≤ X) (x2 : X ≤ 1048576) (y1 : -1048576 ≤ Y) (y2 : Y ≤ 1048576) (hF : Src w A n F)
    (hbf : Blk w bf 68 #[.func (.func 34) #[] #[]]) (hbx : Blk w bx 26 #[.int .i64 X, .int .i64 Y, .int .i64 p, .int .i64 q, .slice A n c]) :
    Calls Tryd.prog 47 #[.int .i64 (X + i), .int .i64 (Y + j), .pointer (some ⟨bf, 0, none⟩), .pointer (some ⟨bx, 0, none⟩)] w (PixGave w fun k => cl (F (4 * (p * j + i) + k))) := by
  have c0 := hbx.cell 0
  have c1 := hbx.cell 1
  have c2 := hbx.cell 2
  have c3 := hbx.cell 3
  have c4 := hbx.cell 4
  have d0 := hbf.cell 0
  simp at c0 c1 c2 c3 c4 d0
  have lx := hbx.lt
  have lf := hbf.lt
  have HBF := hid hbf
  have HF1 : RowKit.Hid (∀ o, Src (w.alloc o).drew A n F) := hid fun o => hF.below (((Below.refl _ _).alloc (Nat.le_refl _) o).drew)
  have HN := hid hn
  clear hbx hbf hF hn
  have HZ : RowKit.Hid (Blk (w.alloc (.cells zpix 32)) w.heap.size 32 zpix) := Blk.new_at _ _ _ rfl
  have px := pix_cells fun k => F (4 * (p * j + i) + k)
  go_enter Tryd.func47, Tryd.ntmps47
  go_wp2
  go_region_with (first
    | (go_at_call 48; refine (pixelAt_any X Y p q n c i j A F _ hi hj HN.out hnc hcm hn2 hp2 hq2 x1 x2 y1 y2 (HF1.out _)).mono ?_; rintro e w1 ⟨rfl, hb1⟩; have HZ1 : RowKit.Hid (Blk w1 w.heap.size 32 zpix) := (hb1.block _ (by show w.heap.size < (World.alloc _ _).heap.size; simp)).trans HZ.out; have HE1 : RowKit.Hid (Below w.heap.size w w1) := ((((Below.refl _ _).alloc (Nat.le_refl _) _).drew).trans (hb1.mono (by show w.heap.size ≤ (World.alloc _ _).heap.size; simp))); have e0 : w1.cell? ⟨bf, 0, none⟩ = some (.func (.func 34) #[] #[]) := (hb1.cell (p := ⟨bf, 0, none⟩) (by show bf < (World.alloc _ _).heap.size; simp; omega)).trans ((World.cell?_alloc_lt w _ ⟨bf, 0, none⟩ lf).trans d0); clear hb1)
    | (go_at_call 34; refine (cleanPix_any (fun k => F (4 * (p * j + i) + k)) _).mono ?_; rintro e w2 ⟨rfl, hb2⟩; have hz2 : Blk w2 w.heap.size 32 zpix := (hb2.block _ HZ1.out.lt).trans HZ1.out; have HZ2 := hid hz2; have HE2 := hid (below_to HE1.out hb2); have s0 := hz2.cell 0; have s1 := hz2.cell 1; have s2 := hz2.cell 2; have s3 := hz2.cell 3; have fz := fun i => hz2.frozen i; simp at s0 s1 s2 s3; clear hb2 hz2))
  all_goals
    have hblk := HZ2.out.set4 (.float .f32 (F (4 * (p * j + i)))) (.float .f32 (F (4 * (p * j + i) + 1))) (.float .f32 (F (4 * (p * j + i) + 2))) (.float .f32 (F (4 * (p * j + i) + 3)))
    have HBK := hid hblk
    clear hblk
    go_wp2
    refine bodyPost_ret (v := pix fun k => F (4 * (p * j + i) + k)) (results_cell_row rfl _ _ _ _ _ _ _ rfl HBK.out Tryd.underlying32 rfl (by kernel_rfl)) rfl ⟨fun k => F (4 * (p * j + i) + k), rfl, fun _ _ => rfl, ?_⟩
    exact (((HE2.out.setCell (by simp) _).setCell (by simp) _).setCell (by simp) _).setCell (by simp) _
end Go.Proofs.YtejcmlpbmoikfaaDoor
