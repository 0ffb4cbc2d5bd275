/-
  The function values of Mix and Through.
-/
import Derived.Test.YtjlghjblpbckfaaFEach
import Derived.Test.YtjlghjblpbckfaaFLerp
namespace Go.Proofs.Ytjlghjblpbckfaa
open Go.RowKit Go.Shelf

set_option maxRecDepth 100000 in
set_option maxHeartbeats 1000000 in
theorem mixc_any (X Y p q : Int) (n c i v t bb bt : Nat) (B : Option Addr) (G : Nat → Nat) (w : World) (hi : i < n) (hG : Src w B n G)
    (hb : Blk w bb 39 #[.int .i64 X, .int .i64 Y, .int .i64 p, .int .i64 q, .slice B n c]) (ht : Blk w bt 40 #[.float .f32 t]) :
    Calls Try.prog 90 #[.int .i64 i, .float .f32 v, .pointer (some ⟨bb, 0, none⟩), .pointer (some ⟨bt, 0, none⟩)] w (Gave w (cl (lerpC v (G i) t))) := by
  obtain ⟨ba, oa, rfl, hba, hRa⟩ := hG (by omega)
  have s1 := hRa i hi
  have c4 := hb.cell 4
  have d0 := ht.cell 0
  simp at c4 d0
  have k1 : (0 : Int) ≤ (i : Int) := by omega
  have k2 : (i : Int) < (n : Int) := by omega
  clear hRa hb ht hG
  go_enter Try.func90, Try.ntmps90
  go_wp2_with fail
  go_region_held3 (fun w' => w'.cell? ⟨bb, 4, none⟩ = some (.slice (some ⟨ba, oa, none⟩) n c) ∧ w'.cell? ⟨ba, oa + i, none⟩ = some (.float .f32 (G i)) ∧ w'.cell? ⟨bt, 0, none⟩ = some (.float .f32 t)) (go_keep)
    (first | (go_at_call 91; refine (lerpn_any _ _ _ _).mono ?_; rintro e w' ⟨rfl, k, rfl⟩))
  all_goals
    go_wp2_with fail
    go_ret
    exact ⟨_, rfl, rfl, below_drewN (Below.refl _ _) _⟩

set_option maxRecDepth 100000 in
set_option maxHeartbeats 1000000 in
theorem throughc_any (X Y p q X' Y' p' q' : Int) (n c m c' i v bb bm : Nat) (B M : Option Addr) (G H : Nat → Nat) (w : World) (hi : i < n) (hn : n ≤ 65536) (him : i / 4 < m) (hG : Src w B n G) (hH : Src w M m H)
    (hb : Blk w bb 39 #[.int .i64 X, .int .i64 Y, .int .i64 p, .int .i64 q, .slice B n c]) (hm : Blk w bm 72 #[.int .i64 X', .int .i64 Y', .int .i64 p', .int .i64 q', .slice M m c']) :
    Calls Try.prog 96 #[.int .i64 i, .float .f32 v, .pointer (some ⟨bb, 0, none⟩), .pointer (some ⟨bm, 0, none⟩)] w (Gave w (cl (lerpC v (G i) (H (i / 4))))) := by
  obtain ⟨u, hu⟩ : ∃ u, u = i / 4 := ⟨_, rfl⟩
  rw [← hu] at him ⊢
  have hq4 : (i : Int) / 4 = (u : Int) := by omega
  obtain ⟨ba, oa, rfl, hba, hRa⟩ := hG (by omega)
  obtain ⟨bk, ok, rfl, hbk, hRk⟩ := hH (by omega)
  have s1 := hRa i hi
  have s2 := hRk u him
  have c4 := hb.cell 4
  have d4 := hm.cell 4
  simp at c4 d4
  have k1 : (0 : Int) ≤ (i : Int) := by omega
  have k2 : (i : Int) < (n : Int) := by omega
  have k3 : (0 : Int) ≤ (u : Int) := by omega
  have k4 : (u : Int) < (m : Int) := by omega
  have hwu : IntKind.i64.wrap (u : Int) = (u : Int) := by rw [IntKind.wrap_i64]; omega
  clear hRa hRk hb hm hG hH hu
  go_enter Try.func96, Try.ntmps96
  go_wp2_with fail
  go_region_held3 (fun w' => w'.cell? ⟨bb, 4, none⟩ = some (.slice (some ⟨ba, oa, none⟩) n c) ∧ w'.cell? ⟨ba, oa + i, none⟩ = some (.float .f32 (G i)) ∧ w'.cell? ⟨bm, 4, none⟩ = some (.slice (some ⟨bk, ok, none⟩) m c') ∧ w'.cell? ⟨bk, ok + u, none⟩ = some (.float .f32 (H u))) (go_keep)
    (first | (go_at_call 91; refine (lerpn_any _ _ _ _).mono ?_; rintro e w' ⟨rfl, k, rfl⟩))
  all_goals
    go_wp2_with fail
    go_ret
    exact ⟨_, rfl, rfl, below_drewN (Below.refl _ _) _⟩

set_option maxRecDepth 100000 in
set_option maxHeartbeats 1000000 in
theorem mixr_any (x y t bt : Nat) (f : Nat → Nat) (i : Int) (w : World) (ht : Blk w bt 40 #[.float .f32 t]) :
    Calls Try.prog 93 #[.float .f32 x, .float .f32 y, pix f, .int .i64 i, .pointer (some ⟨bt, 0, none⟩)] w (Gave w (cl (lerpC x y t))) := by
  have d0 := ht.cell 0
  simp at d0
  have hlt := ht.lt
  have px := pix_cells f
  clear ht
  go_enter Try.func93, Try.ntmps93
  go_wp2_with (go_at_call 94; refine (lerpr_any _ _ _ _).mono ?_; rintro e w' ⟨rfl, k, rfl⟩)
  go_ret
  exact ⟨_, rfl, rfl, below_drewN ((Below.refl _ _).alloc (Nat.le_refl _) _) _⟩

set_option maxRecDepth 100000 in
set_option maxHeartbeats 1000000 in
theorem throughr_any (x y : Nat) (f : Nat → Nat) (X' Y' p' q' : Int) (m c' u bm : Nat) (M : Option Addr) (H : Nat → Nat) (w : World) (hu : u < m) (hH : Src w M m H)
    (hm : Blk w bm 72 #[.int .i64 X', .int .i64 Y', .int .i64 p', .int .i64 q', .slice M m c']) :
    Calls Try.prog 99 #[.float .f32 x, .float .f32 y, pix f, .int .i64 u, .pointer (some ⟨bm, 0, none⟩)] w (Gave w (cl (lerpC x y (H u)))) := by
  obtain ⟨bk, ok, rfl, hbk, hRk⟩ := hH (by omega)
  have s2 := hRk u hu
  have d4 := hm.cell 4
  simp at d4
  have hlt := hm.lt
  have k3 : (0 : Int) ≤ (u : Int) := by omega
  have k4 : (u : Int) < (m : Int) := by omega
  have px := pix_cells f
  clear hRk hm hH
  go_enter Try.func99, Try.ntmps99
  go_wp2_with (go_at_call 94; refine (lerpr_any _ _ _ _).mono ?_; rintro e w' ⟨rfl, k, rfl⟩)
  go_ret
  exact ⟨_, rfl, rfl, below_drewN ((Below.refl _ _).alloc (Nat.le_refl _) _) _⟩
end Go.Proofs.Ytjlghjblpbckfaa
