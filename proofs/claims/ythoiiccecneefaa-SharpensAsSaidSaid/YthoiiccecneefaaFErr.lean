/-
  FrameError, in the reference.
-/
import Derived.Test.YthoiiccecneefaaFMat
namespace Go.Proofs.Ythoiiccecneefaa
open Go.RowKit

/-- A boxed matte, as a condition on a region that draws. -/
structure FK (w : World) (x y a b : Int) (A : Option Addr) (n c : Nat) (wr : World) : Prop where
  m : Blk wr w.heap.size 26 #[.int .i64 x, .int .i64 y, .int .i64 a, .int .i64 b, .slice A n c]
  be : Below w.heap.size w wr
abbrev FKC (w : World) (x y a b : Int) (A : Option Addr) (n c : Nat) (w' : World) : Prop := w'.cell? ⟨w.heap.size, 0, none⟩ = some (.int .i64 x) ∧ w'.cell? ⟨w.heap.size, 1, none⟩ = some (.int .i64 y) ∧ w'.cell? ⟨w.heap.size, 2, none⟩ = some (.int .i64 a) ∧ w'.cell? ⟨w.heap.size, 3, none⟩ = some (.int .i64 b) ∧ w'.cell? ⟨w.heap.size, 4, none⟩ = some (.slice A n c) ∧ FK w x y a b A n c w'
section
variable {w wr w1 : World} {x y a b : Int} {A : Option Addr} {n c : Nat}
theorem FK.held (h : FK w x y a b A n c wr) : FKC w x y a b A n c wr := ⟨h.m.cell 0, h.m.cell 1, h.m.cell 2, h.m.cell 3, h.m.cell 4, h⟩
theorem FK.below (h : FK w x y a b A n c wr) (hb : Below wr.heap.size wr w1) : FK w x y a b A n c w1 := ⟨h.m.below hb h.m.lt, below_to h.be hb⟩
theorem FKC.on (hb : Below wr.heap.size wr w1) (h : FKC w x y a b A n c wr) : FKC w x y a b A n c w1 := (h.2.2.2.2.2.below hb).held
theorem FKC.alloc (h : FKC w x y a b A n c wr) (o : Obj) : FKC w x y a b A n c (wr.alloc o) := (h.2.2.2.2.2.below ((Below.refl _ _).alloc (Nat.le_refl _) o)).held
theorem FK.drew (h : FK w x y a b A n c wr) : FK w x y a b A n c wr.drew := h.below (below_drewN (Below.refl _ _) 1)
end

set_option maxRecDepth 100000 in
set_option maxHeartbeats 1000000 in
theorem frameError_any0 (x y a b : Int) (A : Option Addr) (n c : Nat) (w : World) (h1 : regE x y a b = 0) (h2 : (n : Int) = 4 * a * b) : Calls Try.prog 26 #[frm x y a b A n c] w fun e w' => e = .returned (.int .i64 (frmE x y a b n)) ∧ Below w.heap.size w w' := by
  have z2 : (regE x y a b != 0) = false := by simp [h1]
  obtain ⟨a1, a2, b1, b2, ab, x1, x2, y1, y2⟩ := regE_zero h1
  obtain ⟨p1, p2⟩ := prod_le a1 a2 b1 b2
  have H := hid (frmE_ok h1 h2)
  have zz : ((n : Int) != 4 * a * b) = false := by simp [h2]
  clear h2
  go_enter Try.func26, Try.ntmps26
  go_wp2_with fail
  have HK : FK w x y a b A n c (w.alloc (.cells #[.int .i64 x, .int .i64 y, .int .i64 a, .int .i64 b, .slice A n c] 26)) := ⟨Blk.new_at _ _ _ rfl, (Below.refl _ _).alloc (Nat.le_refl _) _⟩
  generalize w.alloc (.cells #[.int .i64 x, .int .i64 y, .int .i64 a, .int .i64 b, .slice A n c] 26) = wb at HK ⊢
  have HK0 := hid HK
  clear HK
  go_region_held3 (fun w' => w'.cell? ⟨w.heap.size, 0, none⟩ = some (.int .i64 x) ∧ w'.cell? ⟨w.heap.size, 1, none⟩ = some (.int .i64 y) ∧ w'.cell? ⟨w.heap.size, 2, none⟩ = some (.int .i64 a) ∧ w'.cell? ⟨w.heap.size, 3, none⟩ = some (.int .i64 b) ∧ w'.cell? ⟨w.heap.size, 4, none⟩ = some (.slice A n c) ∧ FK w x y a b A n c w') (first | exact HK0.out.drew.held | exact FKC.on (by assumption) (by assumption) | exact FKC.alloc (by assumption) _ | assumption)
    (first
      | (go_at_call 80; refine (regionError_any _ _ _ _ _).mono ?_; rintro e w1 ⟨rfl, hb⟩)
      | (go_at_call 34; refine (when_any _ _ _).mono ?_; rintro e w1 ⟨R1, rfl, hR1, hR2, rfl⟩; have HR1 := hid (And.intro hR1 hR2); clear hR1 hR2)
      | (go_at_call 22; refine (first_any _ _ _ _ (Blk.new_at _ _ _ rfl)).mono ?_; rintro e w1 ⟨R2, rfl, hR3, hR4, rfl⟩; have HR2 := hid (And.intro hR3 hR4); clear hR3 hR4))
  all_goals
    rename_i hH
    have HB := hid hH.2.2.2.2.2.be
    clear hH
    go_wp2_with fail
    go_ret
    have u1 := HR1.out
    have u2 := HR2.out
    have u3 := H.out
    refine ⟨ret_int ?_, HB.out⟩
    rw [u3]
    first
      | exact u2.1 h1
      | (have hw : IntKind.i64.wrap (IntKind.i64.wrap (4 * a) * b) = 4 * a * b := by
           have ha : IntKind.i64.wrap (4 * a) = 4 * a := by rw [IntKind.wrap_i64]; omega
           rw [ha, IntKind.wrap_i64, Int.mul_assoc]; omega
         rw [u2.2 (by first | trivial | exact h1 | rfl)]
         first | exact u1.2 (by rw [hw]; exact zz) | exact u1.1 (by rw [hw]; exact zz))

set_option maxRecDepth 100000 in
set_option maxHeartbeats 1000000 in
theorem frameError_any1 (x y a b : Int) (A : Option Addr) (n c : Nat) (w : World) (h1 : regE x y a b = 0) (h2 : ¬ (n : Int) = 4 * a * b) : Calls Try.prog 26 #[frm x y a b A n c] w fun e w' => e = .returned (.int .i64 (frmE x y a b n)) ∧ Below w.heap.size w w' := by
  have z2 : (regE x y a b != 0) = false := by simp [h1]
  obtain ⟨a1, a2, b1, b2, ab, x1, x2, y1, y2⟩ := regE_zero h1
  obtain ⟨p1, p2⟩ := prod_le a1 a2 b1 b2
  have H := hid (frmE_form h1 h2)
  have zz : ((n : Int) != 4 * a * b) = true := by simp [h2]
  clear h2
  go_enter Try.func26, Try.ntmps26
  go_wp2_with fail
  have HK : FK w x y a b A n c (w.alloc (.cells #[.int .i64 x, .int .i64 y, .int .i64 a, .int .i64 b, .slice A n c] 26)) := ⟨Blk.new_at _ _ _ rfl, (Below.refl _ _).alloc (Nat.le_refl _) _⟩
  generalize w.alloc (.cells #[.int .i64 x, .int .i64 y, .int .i64 a, .int .i64 b, .slice A n c] 26) = wb at HK ⊢
  have HK0 := hid HK
  clear HK
  go_region_held3 (fun w' => w'.cell? ⟨w.heap.size, 0, none⟩ = some (.int .i64 x) ∧ w'.cell? ⟨w.heap.size, 1, none⟩ = some (.int .i64 y) ∧ w'.cell? ⟨w.heap.size, 2, none⟩ = some (.int .i64 a) ∧ w'.cell? ⟨w.heap.size, 3, none⟩ = some (.int .i64 b) ∧ w'.cell? ⟨w.heap.size, 4, none⟩ = some (.slice A n c) ∧ FK w x y a b A n c w') (first | exact HK0.out.drew.held | exact FKC.on (by assumption) (by assumption) | exact FKC.alloc (by assumption) _ | assumption)
    (first
      | (go_at_call 80; refine (regionError_any _ _ _ _ _).mono ?_; rintro e w1 ⟨rfl, hb⟩)
      | (go_at_call 34; refine (when_any _ _ _).mono ?_; rintro e w1 ⟨R1, rfl, hR1, hR2, rfl⟩; have HR1 := hid (And.intro hR1 hR2); clear hR1 hR2)
      | (go_at_call 22; refine (first_any _ _ _ _ (Blk.new_at _ _ _ rfl)).mono ?_; rintro e w1 ⟨R2, rfl, hR3, hR4, rfl⟩; have HR2 := hid (And.intro hR3 hR4); clear hR3 hR4))
  all_goals
    rename_i hH
    have HB := hid hH.2.2.2.2.2.be
    clear hH
    go_wp2_with fail
    go_ret
    have u1 := HR1.out
    have u2 := HR2.out
    have u3 := H.out
    refine ⟨ret_int ?_, HB.out⟩
    rw [u3]
    first
      | exact u2.1 h1
      | (have hw : IntKind.i64.wrap (IntKind.i64.wrap (4 * a) * b) = 4 * a * b := by
           have ha : IntKind.i64.wrap (4 * a) = 4 * a := by rw [IntKind.wrap_i64]; omega
           rw [ha, IntKind.wrap_i64, Int.mul_assoc]; omega
         rw [u2.2 (by first | trivial | exact h1 | rfl)]
         first | exact u1.2 (by rw [hw]; exact zz) | exact u1.1 (by rw [hw]; exact zz))

set_option maxRecDepth 100000 in
set_option maxHeartbeats 1000000 in
theorem frameError_any2 (x y a b : Int) (A : Option Addr) (n c : Nat) (w : World) (h1 : ¬ regE x y a b = 0) : Calls Try.prog 26 #[frm x y a b A n c] w fun e w' => e = .returned (.int .i64 (frmE x y a b n)) ∧ Below w.heap.size w w' := by
  have z2 : (regE x y a b != 0) = true := by simp [h1]
  have H := hid (frmE_reg (n := n) h1)
  go_enter Try.func26, Try.ntmps26
  go_wp2_with fail
  have HK : FK w x y a b A n c (w.alloc (.cells #[.int .i64 x, .int .i64 y, .int .i64 a, .int .i64 b, .slice A n c] 26)) := ⟨Blk.new_at _ _ _ rfl, (Below.refl _ _).alloc (Nat.le_refl _) _⟩
  generalize w.alloc (.cells #[.int .i64 x, .int .i64 y, .int .i64 a, .int .i64 b, .slice A n c] 26) = wb at HK ⊢
  have HK0 := hid HK
  clear HK
  go_region_held3 (fun w' => w'.cell? ⟨w.heap.size, 0, none⟩ = some (.int .i64 x) ∧ w'.cell? ⟨w.heap.size, 1, none⟩ = some (.int .i64 y) ∧ w'.cell? ⟨w.heap.size, 2, none⟩ = some (.int .i64 a) ∧ w'.cell? ⟨w.heap.size, 3, none⟩ = some (.int .i64 b) ∧ w'.cell? ⟨w.heap.size, 4, none⟩ = some (.slice A n c) ∧ FK w x y a b A n c w') (first | exact HK0.out.drew.held | exact FKC.on (by assumption) (by assumption) | exact FKC.alloc (by assumption) _ | assumption)
    (first
      | (go_at_call 80; refine (regionError_any _ _ _ _ _).mono ?_; rintro e w1 ⟨rfl, hb⟩)
      | (go_at_call 34; refine (when_any _ _ _).mono ?_; rintro e w1 ⟨R1, rfl, hR1, hR2, rfl⟩; have HR1 := hid (And.intro hR1 hR2); clear hR1 hR2)
      | (go_at_call 22; refine (first_any _ _ _ _ (Blk.new_at _ _ _ rfl)).mono ?_; rintro e w1 ⟨R2, rfl, hR3, hR4, rfl⟩; have HR2 := hid (And.intro hR3 hR4); clear hR3 hR4))
  all_goals
    rename_i hH
    have HB := hid hH.2.2.2.2.2.be
    clear hH
    go_wp2_with fail
    go_ret
    have u1 := HR1.out
    have u2 := HR2.out
    have u3 := H.out
    refine ⟨ret_int ?_, HB.out⟩
    rw [u3]
    first
      | exact u2.1 h1
      | (have hw : IntKind.i64.wrap (IntKind.i64.wrap (4 * a) * b) = 4 * a * b := by
           have ha : IntKind.i64.wrap (4 * a) = 4 * a := by rw [IntKind.wrap_i64]; omega
           rw [ha, IntKind.wrap_i64, Int.mul_assoc]; omega
         rw [u2.2 (by first | trivial | exact h1 | rfl)]
         first | exact u1.2 (by rw [hw]; exact zz) | exact u1.1 (by rw [hw]; exact zz))

theorem frameError_any (x y a b : Int) (A : Option Addr) (n c : Nat) (w : World) : Calls Try.prog 26 #[frm x y a b A n c] w fun e w' => e = .returned (.int .i64 (frmE x y a b n)) ∧ Below w.heap.size w w' := by
  by_cases h1 : regE x y a b = 0
  · by_cases h2 : (n : Int) = 4 * a * b
    · exact frameError_any0 x y a b A n c w h1 h2
    · exact frameError_any1 x y a b A n c w h1 h2
  · exact frameError_any2 x y a b A n c w h1

end Go.Proofs.Ythoiiccecneefaa
