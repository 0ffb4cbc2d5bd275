/-
  Cubes in the reference: LinearOf.
-/
import Derived.Test.YthnbfllhmjpbjaaKRed
import Derived.Test.YthnbfllhmjpbjaaKBroken
import Derived.Test.YthnbfllhmjpbjaaKAxis
import Derived.Test.YthnbfllhmjpbjaaKTop
namespace Go.Proofs.Ythnbfllhmjpbjaa
open Go.RowKit Go.Shelf
attribute [local go_sem] run_store_float

structure LO (S : Int) (L H n c : Nat) (A : Option Addr) (p : Nat → Nat) (w wr : World) : Prop where
  b0 : Blk wr w.heap.size 25 #[.int .i64 S, .float .f32 L, .float .f32 H, .slice A n c]
  b1 : Blk wr (w.heap.size + 1) 27 (pA p)
  b2 : Blk wr (w.heap.size + 1 + 1) 27 zpix
  be : Below w.heap.size w wr
theorem LO.below {S : Int} {L H n c : Nat} {A : Option Addr} {p : Nat → Nat} {w wr w1 : World} (h : LO S L H n c A p w wr) (hb : Below wr.heap.size wr w1) : LO S L H n c A p w w1 :=
  ⟨h.b0.below hb h.b0.lt, h.b1.below hb h.b1.lt, h.b2.below hb h.b2.lt, below_to h.be (hb.mono (Nat.le_refl _))⟩
theorem lo_new (S : Int) (L H n c : Nat) (A : Option Addr) (p : Nat → Nat) (w : World) : LO S L H n c A p w (((w.alloc (.cells #[.int .i64 S, .float .f32 L, .float .f32 H, .slice A n c] 25)).alloc (.cells (pA p) 27)).alloc (.cells zpix 27)) :=
  ⟨((Blk.new_at _ _ _ rfl).alloc _).alloc _, (Blk.new_at _ _ _ (by simp)).alloc _, Blk.new_at _ _ _ (by simp), (((Below.refl _ _).alloc (Nat.le_refl _) _).alloc (by simp) _).alloc (by simp; omega) _⟩

set_option maxRecDepth 100000 in
set_option maxHeartbeats 2000000 in
theorem linOf_broken (s L H n c : Nat) (A : Option Addr) (T p : Nat → Nat) (w : World) (hb : nan3 p = true) :
    Calls Try.prog 24 #[cub s L H A n c, pix p] w fun e w' => e = .returned (pix (lookC T p)) ∧ Below w.heap.size w w' := by
  have hv : pix (lookC T p) = .agg #[.float .f32 2143289344, .float .f32 2143289344, .float .f32 2143289344, .float .f32 (cl (p 3))] := by
    rw [pix_cells]; unfold lookC; simp [hb]
  rw [hv, pix_cells p]
  clear hv
  go_enter Try.func24, Try.ntmps24
  obtain ⟨W0, hW0⟩ : ∃ W0, ((w.alloc (.cells #[.int .i64 s, .float .f32 L, .float .f32 H, .slice A n c] 25)).alloc (.cells (pA p) 27)).alloc (.cells zpix 27) = W0 := ⟨_, rfl⟩
  have q := lo_new s L H n c A p w
  rw [hW0] at q
  have HW := hid hW0
  have Q := hid q
  have d0 := q.b1.cell 0
  have d1 := q.b1.cell 1
  have d2 := q.b1.cell 2
  have d3 := q.b1.cell 3
  simp at d0 d1 d2 d3
  clear hW0 q
  go_wp2_with (go_at_call 75; refine (theNaN_any _).mono ?_; rintro e w' ⟨rfl, rfl⟩)
  rw [HW.out]
  rw [← pix_cells p]
  refine (broken_any p _).mono ?_
  rintro e w1 ⟨rfl, hb1⟩
  rw [hb]
  have Q1 := hid (Q.out.below hb1)
  clear hb1 Q HW d0 d1 d2 d3
  have d3 := Q1.out.b1.cell 3
  have z0 := Q1.out.b2.cell 0
  have z1 := Q1.out.b2.cell 1
  have z2 := Q1.out.b2.cell 2
  have z3 := Q1.out.b2.cell 3
  have f0 := Q1.out.b2.frozen 0
  have f1 := Q1.out.b2.frozen 1
  have f2 := Q1.out.b2.frozen 2
  have f3 := Q1.out.b2.frozen 3
  simp at d3 z0 z1 z2 z3
  go_wp2_with (go_at_call 57; refine (fix_any _ _).mono ?_; rintro e w' ⟨rfl, rfl⟩)
  have hblk := Q1.out.b2.set4 (.float .f32 2143289344) (.float .f32 2143289344) (.float .f32 2143289344) (.float .f32 (cl (p 3)))
  have be := below_set4 Q1.out.be (g := w.heap.size + 1 + 1) (by omega) (.float .f32 2143289344) (.float .f32 2143289344) (.float .f32 2143289344) (.float .f32 (cl (p 3)))
  exact bodyPost_ret (v := .agg #[.float .f32 2143289344, .float .f32 2143289344, .float .f32 2143289344, .float .f32 (cl (p 3))]) (results_cell_row rfl _ _ _ _ _ _ _ rfl hblk Try.underlying27 rfl (by kernel_rfl)) rfl ⟨rfl, be⟩

theorem onAxis_k (s L H n c k : Nat) (A : Option Addr) (p : Nat → Nat) (w : World) (hC : CubOk s L H n) :
    Calls Try.prog 20 #[cub s L H A n c, .float .f32 (p k)] w (PlS (spN s L H p k : Nat) (spX s L H p k) w) := by
  have h : ((spN s L H p k : Nat) : Int) = plN s L H (p k) := by
    have := pl_wf (L := L) (H := H) (p k) hC.s1 hC.s2
    unfold spN; omega
  rw [h]
  exact onAxis_any s L H (p k) A n c w hC

end Go.Proofs.Ythnbfllhmjpbjaa
