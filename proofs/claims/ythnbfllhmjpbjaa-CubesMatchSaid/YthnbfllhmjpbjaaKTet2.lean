/-
  Cubes: what tetra makes of the four corners.
-/
import Derived.Test.YthnbfllhmjpbjaaKCmp
namespace Go.Proofs.Ythnbfllhmjpbjaa
open Go.RowKit
attribute [local go_sem] run_store_float

theorem cell_allocs {w : World} {b o : Nat} {v : Value} (hb : b < w.heap.size) (h : w.cell? ⟨b, o, none⟩ = some v) :
    (∀ o1, (w.alloc o1).cell? ⟨b, o, none⟩ = some v) ∧ (∀ o1 o2, ((w.alloc o1).alloc o2).cell? ⟨b, o, none⟩ = some v) ∧ (∀ o1 o2 o3, (((w.alloc o1).alloc o2).alloc o3).cell? ⟨b, o, none⟩ = some v) := by
  have e1 : ∀ o1, (w.alloc o1).cell? ⟨b, o, none⟩ = some v := fun o1 => (World.cell?_alloc_lt _ o1 ⟨b, o, none⟩ hb).trans h
  have e2 : ∀ o1 o2, ((w.alloc o1).alloc o2).cell? ⟨b, o, none⟩ = some v := fun o1 o2 => (World.cell?_alloc_lt _ o2 ⟨b, o, none⟩ (by simp; omega)).trans (e1 o1)
  exact ⟨e1, e2, fun o1 o2 o3 => (World.cell?_alloc_lt _ o3 ⟨b, o, none⟩ (by simp; omega)).trans (e2 o1 o2)⟩

def fmC (a b c d s t u : Nat) : Nat := cop .add .f32 (cop .add .f32 (cop .add .f32 a (cop .mul .f32 (cop .sub .f32 b a) s)) (cop .mul .f32 (cop .sub .f32 c b) t)) (cop .mul .f32 (cop .sub .f32 d c) u)

/-- Three rows of three. -/
abbrev nine (e : Nat → Nat → Nat) : Array Value :=
  #[.float .f32 (e 1 0), .float .f32 (e 1 1), .float .f32 (e 1 2), .float .f32 (e 2 0), .float .f32 (e 2 1), .float .f32 (e 2 2), .float .f32 (e 3 0), .float .f32 (e 3 1), .float .f32 (e 3 2)]
theorem nine_cell {w : World} {b : Nat} {e : Nat → Nat → Nat} (h : Blk w b 144 (nine e)) (i : Nat) (hi : i < 3) :
    w.cell? ⟨b, i, none⟩ = some (.float .f32 (e 1 i)) ∧ w.cell? ⟨b, 3 + i, none⟩ = some (.float .f32 (e 2 i)) ∧ w.cell? ⟨b, 6 + i, none⟩ = some (.float .f32 (e 3 i)) := by
  have h0 := Blk.cell h i
  have h1 := Blk.cell h (3 + i)
  have h2 := Blk.cell h (6 + i)
  have h3 : i = 0 ∨ i = 1 ∨ i = 2 := by omega
  rcases h3 with rfl | rfl | rfl <;> exact ⟨by simpa using h0, by simpa using h1, by simpa using h2⟩

set_option maxRecDepth 100000 in
set_option maxHeartbeats 2000000 in
theorem tetra2_any (b bs bt bu a s t u i : Nat) (e : Nat → Nat → Nat) (w : World) (hi : i < 3) (hb : Blk w b 144 (nine e)) (hs : Blk w bs 22 #[.float .f32 s]) (ht : Blk w bt 22 #[.float .f32 t]) (hu : Blk w bu 22 #[.float .f32 u]) :
    Calls Try.prog 121 #[.int .i64 i, .float .f32 a, .pointer (some ⟨b, 0, none⟩), .pointer (some ⟨bs, 0, none⟩), .pointer (some ⟨bt, 0, none⟩), .pointer (some ⟨bu, 0, none⟩)] w
      (Gave w (fmC (cl a) (cl (e 1 i)) (cl (e 2 i)) (cl (e 3 i)) (cl s) (cl t) (cl u))) := by
  obtain ⟨c1, c2, c3⟩ := nine_cell hb i hi
  have d1 := hs.cell 0
  have d2 := ht.cell 0
  have d3 := hu.cell 0
  simp at d1 d2 d3
  have i2 : (i : Int) < 3 := by omega
  clear hb hs ht hu hi
  go_enter Try.func121, Try.ntmps121
  go_wp2
  go_quiet (fail)
  go_wp2
  go_ret
  exact ⟨_, rfl, by unfold cl fmC; simp only [cn_fop], by first | exact Below.refl _ _ | exact below_drewN (Below.refl _ _) _ | (simp only [World.drewN_drewN]; exact below_drewN (Below.refl _ _) _)⟩
end Go.Proofs.Ythnbfllhmjpbjaa
