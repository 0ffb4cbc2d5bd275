/-
  Cubes: entries, and three values changed one by one, in the program.
-/
import Derived.Test.YthnbfllhmjpbjaaKChk
import Derived.Shelf.Abstract
namespace Go.Proofs.Ythnbfllhmjpbjaa
open Go.RowKit Go.Shelf
attribute [local go_sem] run_store_float

/-- A slice that reads as F, nil let in. -/
def Src (w : World) (A : Option Addr) (n : Nat) (F : Nat → Nat) : Prop := 0 < n → ∃ b off, A = some ⟨b, off, none⟩ ∧ b < w.heap.size ∧ Rd w b off n F
theorem Rd.below {w w' : World} {b off n : Nat} {F : Nat → Nat} (h : Rd w b off n F) (hb : Below w.heap.size w w') (hlt : b < w.heap.size) : Rd w' b off n F :=
  fun i hi => (hb.cell (p := ⟨b, off + i, none⟩) hlt).trans (h i hi)
theorem Src.below {w w' : World} {A : Option Addr} {n : Nat} {F : Nat → Nat} (h : Src w A n F) (hb : Below w.heap.size w w') : Src w' A n F := fun hn => by
  obtain ⟨b, off, e, hlt, hr⟩ := h hn
  exact ⟨b, off, e, Nat.lt_of_lt_of_le hlt hb.size, hr.below hb hlt⟩
theorem Src.of_rd {w : World} {b off n : Nat} {F : Nat → Nat} (h : Rd w b off n F) (hlt : b < w.heap.size) : Src w (some ⟨b, off, none⟩) n F := fun _ => ⟨b, off, rfl, hlt, h⟩

theorem cell_alloc3 {w : World} {b o : Nat} {v : Value} (hb : b < w.heap.size) (h : w.cell? ⟨b, o, none⟩ = some v) : ∀ o1 o2 o3, (((w.alloc o1).alloc o2).alloc o3).cell? ⟨b, o, none⟩ = some v := fun o1 o2 o3 => by
  rw [World.cell?_alloc_lt _ o3 ⟨b, o, none⟩ (by simp; omega), World.cell?_alloc_lt _ o2 ⟨b, o, none⟩ (by simp; omega), World.cell?_alloc_lt _ o1 ⟨b, o, none⟩ hb, h]

/-- The number of an entry's first single. -/
def eIx (s i j k : Nat) : Nat := 3 * (i + s * (j + s * k))
theorem in_row {s j k : Nat} (hj : j < s) (m : Nat) (hk : k < m) : j + s * k < s * m := by
  have h : s * (k + 1) ≤ s * m := Nat.mul_le_mul_left s hk
  rw [Nat.mul_succ] at h
  omega
theorem eIx_lt {s i j k n : Nat} (hn : (n : Int) = 3 * s * s * s) (hi : i < s) (hj : j < s) (hk : k < s) : eIx s i j k + 3 ≤ n := by
  have h1 := in_row hj s hk
  have h2 := in_row hi (s * s) h1
  have e : n = 3 * (s * (s * s)) := by
    have : (n : Int) = ((3 * (s * (s * s)) : Nat) : Int) := by rw [hn]; push_cast; rw [Int.mul_assoc, Int.mul_assoc]
    exact_mod_cast this
  unfold eIx
  rw [e]
  omega
theorem small_mul {a b m1 m2 : Nat} (h1 : a ≤ m1) (h2 : b ≤ m2) : a * b ≤ m1 * m2 := Nat.mul_le_mul h1 h2

set_option maxRecDepth 100000 in
set_option maxHeartbeats 2000000 in
theorem entry_any (s L H n c i j k : Nat) (A : Option Addr) (F : Nat → Nat) (w : World) (hC : CubOk s L H n) (hi : i < s) (hj : j < s) (hk : k < s) (hnc : n ≤ c) (hF : Src w A n F) :
    Calls Try.prog 66 #[cub s L H A n c, ijk i j k] w fun e w' => e = .returned (arr fun m => F (eIx s i j k + m)) ∧ Below w.heap.size w w' := by
  have hlt := eIx_lt hC.len hi hj hk
  have hs2 := hC.s2
  clear hC
  obtain ⟨b, off, rfl, hb, hR⟩ := hF (by omega)
  clear hF
  have p1 : s * k ≤ 17 * 17 := small_mul (by omega) (by omega)
  have p2 : s * (j + s * k) ≤ 17 * 306 := small_mul (by omega) (by omega)
  obtain ⟨u, hu⟩ : ∃ u, u = s * k := ⟨_, rfl⟩
  obtain ⟨v, hv⟩ : ∃ v, v = s * (j + u) := ⟨_, rfl⟩
  obtain ⟨m, hm⟩ : ∃ m, m = 3 * (i + v) := ⟨_, rfl⟩
  have he : eIx s i j k = m := by unfold eIx; rw [hm, hv, hu]
  rw [he] at hlt ⊢
  rw [← hu] at p1 p2
  rw [← hv] at p2
  have e1 : (s : Int) * (k : Int) = (u : Int) := by rw [hu]; simp
  have e2 : (s : Int) * ((j : Int) + (u : Int)) = (v : Int) := by rw [hv]; simp
  have e3 : 3 * ((i : Int) + (v : Int)) = (m : Int) := by rw [hm]; simp
  have u1 : (u : Int) ≤ 306 := by omega
  have u2 : (v : Int) ≤ 6000 := by omega
  have u3 : (m : Int) + 3 ≤ (n : Int) := by omega
  have u4 : (m : Int) + 3 ≤ (c : Int) := by omega
  have u6 : (m : Int) ≤ 30000 := by omega
  have i1 : (i : Int) ≤ 17 := by omega
  have j1 : (j : Int) ≤ 17 := by omega
  have l4 : ¬ c = m := by omega
  have d0 := hR m (by omega)
  have d1 := hR (m + 1) (by omega)
  have d2 := hR (m + 2) (by omega)
  rw [← Nat.add_assoc] at d1 d2
  replace d0 := cell_alloc3 hb d0
  replace d1 := cell_alloc3 hb d1
  replace d2 := cell_alloc3 hb d2
  have harr := fun (w : World) (a : Option Addr) (cp : Nat) => run_arrayAt (P := Try.prog) w 30 22 3 a 3 cp Try.underlying30 (Nat.le_refl 3)
  clear hR hu hv hm he hs2 hi hj hk
  go_enter Try.func66, Try.ntmps66
  go_wp2
  have hblk : Blk (((w.alloc (.cells #[.int .i64 s, .float .f32 L, .float .f32 H, .slice (some ⟨b, off, none⟩) n c] 25)).alloc (.cells #[.int .i64 i, .int .i64 j, .int .i64 k] 94)).alloc (.cells #[.float .f32 (F m), .float .f32 (F (m + 1)), .float .f32 (F (m + 2))] 30)) (w.heap.size + 1 + 1) 30 #[.float .f32 (F m), .float .f32 (F (m + 1)), .float .f32 (F (m + 2))] := Blk.new_at _ _ _ (by simp)
  refine bodyPost_ret (v := arr fun j => F (m + j)) (results_cell_row rfl _ _ _ _ _ _ _ rfl hblk Try.underlying30 rfl (by kernel_rfl)) rfl ⟨rfl, ?_⟩
  exact (((Below.refl _ _).alloc (Nat.le_refl _) _).alloc (by simp) _).alloc (by simp; omega) _
end Go.Proofs.Ythnbfllhmjpbjaa
