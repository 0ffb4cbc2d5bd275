/-
  checkPixel, At and Put, in the program.
-/
import Derived.Test.YtejcmlpbmoikfaaDoorFSam
import Derived.Test.YtejcmlpbmoikfaaDoorFFill
namespace Go.Proofs.YtejcmlpbmoikfaaDoor
open Go.RowKit Go.Shelf
attribute [local go_sem] run_store_float

/-- Is a place in a region? -/
def inP (X Y p q x y : Int) : Bool := decide (X ≤ x ∧ x < X + p ∧ Y ≤ y ∧ y < Y + q)
theorem inP_true {X Y p q x y : Int} : inP X Y p q x y = true ↔ X ≤ x ∧ x < X + p ∧ Y ≤ y ∧ y < Y + q := by simp [inP]
theorem inP_false {X Y p q x y : Int} : inP X Y p q x y = false ↔ ¬ (X ≤ x ∧ x < X + p ∧ Y ≤ y ∧ y < Y + q) := by simp [inP]

def chkE (X Y p q x y : Int) : Int := if inP X Y p q x y then 0 else 5

set_option maxRecDepth 100000 in
set_option maxHeartbeats 2000000 in
theorem checkPixel_any (X Y p q x y : Int) (n c : Nat) (A : Option Addr) (w : World) (h1 : frmE X Y p q n = 0) :
    Calls Tryd.prog 23 #[frm X Y p q A n c, .int .i64 x, .int .i64 y] w fun e w' => e = .returned (.int .i64 (chkE X Y p q x y)) ∧ Below w.heap.size w w' := by
  obtain ⟨p1, p2, q1, q2, pq, x1, x2, y1, y2⟩ := regE_zero (frmE_zero h1).1
  have g1 : (frmE X Y p q n != 0) = false := by simp [h1]
  clear h1 pq
  by_cases k0 : X ≤ x
  case' neg =>
    have hB : inP X Y p q x y = false := inP_false.2 (fun h => k0 (by omega))
    go_enter Tryd.func23, Tryd.ntmps23
    go_wp2_with fail
    refine (check_any _ _ _ _ _ _ _ _).mono ?_
    rintro e w1 ⟨rfl, hb⟩
    have hx := boxed hb
    have HBE := hid (below_box hb)
    have c0 := hx.cell 0
    have c1 := hx.cell 1
    have c2 := hx.cell 2
    have c3 := hx.cell 3
    simp at c0 c1 c2 c3
    clear hb hx
    go_wp2_with fail
    try (go_quiet (fail); go_wp2_with fail)
    go_ret
    first | exact ⟨by unfold chkE; rw [hB]; rfl, HBE.out⟩ | exact ⟨by unfold chkE; rw [hB]; rfl, below_drewN HBE.out _⟩
  by_cases k1 : x < X + p
  case' neg =>
    have hB : inP X Y p q x y = false := inP_false.2 (fun h => k1 (by omega))
    go_enter Tryd.func23, Tryd.ntmps23
    go_wp2_with fail
    refine (check_any _ _ _ _ _ _ _ _).mono ?_
    rintro e w1 ⟨rfl, hb⟩
    have hx := boxed hb
    have HBE := hid (below_box hb)
    have c0 := hx.cell 0
    have c1 := hx.cell 1
    have c2 := hx.cell 2
    have c3 := hx.cell 3
    simp at c0 c1 c2 c3
    clear hb hx
    go_wp2_with fail
    try (go_quiet (fail); go_wp2_with fail)
    go_ret
    first | exact ⟨by unfold chkE; rw [hB]; rfl, HBE.out⟩ | exact ⟨by unfold chkE; rw [hB]; rfl, below_drewN HBE.out _⟩
  by_cases k2 : Y ≤ y
  case' neg =>
    have hB : inP X Y p q x y = false := inP_false.2 (fun h => k2 (by omega))
    go_enter Tryd.func23, Tryd.ntmps23
    go_wp2_with fail
    refine (check_any _ _ _ _ _ _ _ _).mono ?_
    rintro e w1 ⟨rfl, hb⟩
    have hx := boxed hb
    have HBE := hid (below_box hb)
    have c0 := hx.cell 0
    have c1 := hx.cell 1
    have c2 := hx.cell 2
    have c3 := hx.cell 3
    simp at c0 c1 c2 c3
    clear hb hx
    go_wp2_with fail
    try (go_quiet (fail); go_wp2_with fail)
    go_ret
    first | exact ⟨by unfold chkE; rw [hB]; rfl, HBE.out⟩ | exact ⟨by unfold chkE; rw [hB]; rfl, below_drewN HBE.out _⟩
  by_cases k3 : y < Y + q
  case' neg =>
    have hB : inP X Y p q x y = false := inP_false.2 (fun h => k3 (by omega))
    go_enter Tryd.func23, Tryd.ntmps23
    go_wp2_with fail
    refine (check_any _ _ _ _ _ _ _ _).mono ?_
    rintro e w1 ⟨rfl, hb⟩
    have hx := boxed hb
    have HBE := hid (below_box hb)
    have c0 := hx.cell 0
    have c1 := hx.cell 1
    have c2 := hx.cell 2
    have c3 := hx.cell 3
    simp at c0 c1 c2 c3
    clear hb hx
    go_wp2_with fail
    try (go_quiet (fail); go_wp2_with fail)
    go_ret
    first | exact ⟨by unfold chkE; rw [hB]; rfl, HBE.out⟩ | exact ⟨by unfold chkE; rw [hB]; rfl, below_drewN HBE.out _⟩
  have hB : inP X Y p q x y = true := inP_true.2 ⟨k0, k1, k2, k3⟩
  go_enter Tryd.func23, Tryd.ntmps23
  go_wp2_with fail
  refine (check_any _ _ _ _ _ _ _ _).mono ?_
  rintro e w1 ⟨rfl, hb⟩
  have hx := boxed hb
  have HBE := hid (below_box hb)
  have c0 := hx.cell 0
  have c1 := hx.cell 1
  have c2 := hx.cell 2
  have c3 := hx.cell 3
  simp at c0 c1 c2 c3
  clear hb hx
  go_wp2_with fail
  try (go_quiet (fail); go_wp2_with fail)
  go_ret
  first | exact ⟨by unfold chkE; rw [hB]; rfl, HBE.out⟩ | exact ⟨by unfold chkE; rw [hB]; rfl, below_drewN HBE.out _⟩

theorem pixUp (P : Nat → Nat) (k : Nat) (hk : k < 4) : (pixC fun j => if j < k then P j else 0).setIfInBounds k (.float .f32 (P k)) = pixC fun j => if j < k + 1 then P j else 0 := by
  have : k = 0 ∨ k = 1 ∨ k = 2 ∨ k = 3 := by omega
  rcases this with h | h | h | h <;> subst h <;> simp
theorem pixC_all (P : Nat → Nat) : pixC (fun j => if j < 4 then P j else 0) = pixC P := by simp
theorem pixC_none (P : Nat → Nat) : pixC (fun j => if j < 0 then P j else 0) = zpix := by simp

/-- A pixel and an error. -/
def PixOut (w : World) (E : Int) (P : Nat → Nat) (e : Ending) (w' : World) : Prop := e = .returned (.tuple #[pix P, .int .i64 E]) ∧ Below w.heap.size w w'

set_option maxRecDepth 100000 in
set_option maxHeartbeats 2000000 in
theorem at_out (X Y p q x y : Int) (n c : Nat) (A : Option Addr) (w : World) (h1 : frmE X Y p q n = 0) (h2 : inP X Y p q x y = false) :
    Calls Tryd.prog 10 #[frm X Y p q A n c, .int .i64 x, .int .i64 y] w (PixOut w 5 (fun _ => 0)) := by
  have HC : RowKit.Hid (∀ w, Calls Tryd.prog 23 #[frm X Y p q A n c, .int .i64 x, .int .i64 y] w fun e w' => e = .returned (.int .i64 5) ∧ Below w.heap.size w w') := hid fun w => by
    have := checkPixel_any X Y p q x y n c A w h1
    rw [chkE, h2] at this
    exact this
  have HZ : RowKit.Hid (Blk ((w.alloc (.cells #[.int .i64 X, .int .i64 Y, .int .i64 p, .int .i64 q, .slice A n c] 26)).alloc (.cells zpix 32)) (w.heap.size + 1) 32 zpix) := Blk.new_at _ _ _ (by simp)
  have HB : RowKit.Hid (Below w.heap.size w ((w.alloc (.cells #[.int .i64 X, .int .i64 Y, .int .i64 p, .int .i64 q, .slice A n c] 26)).alloc (.cells zpix 32))) := ((Below.refl _ _).alloc (Nat.le_refl _) _).alloc (by simp) _
  clear h1 h2
  go_enter Tryd.func10, Tryd.ntmps10
  go_wp2_with fail
  refine (HC.out _).mono ?_
  rintro e w1 ⟨rfl, hb⟩
  have hz := HZ.out.below hb HZ.out.lt
  have z0 := hz.cell 0
  have z1 := hz.cell 1
  have z2 := hz.cell 2
  have z3 := hz.cell 3
  have fz := fun i => hz.frozen i
  simp at z0 z1 z2 z3
  have HBK := hid (hz.set4 (.float .f32 0) (.float .f32 0) (.float .f32 0) (.float .f32 0))
  have HE := hid (below_to HB.out hb)
  clear hz hb
  go_wp2_with fail
  refine bodyPost_ret (v := .tuple #[pix fun _ => 0, .int .i64 5]) (results_row_tmp rfl _ _ _ _ _ _ rfl rfl HBK.out Tryd.underlying32 rfl (by kernel_rfl)) rfl ⟨rfl, ?_⟩
  exact below_set4 HE.out (by omega) _ _ _ _
end Go.Proofs.YtejcmlpbmoikfaaDoor
