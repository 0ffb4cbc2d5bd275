/-
  The error of a matte, in the program and in the reference.
-/
import Derived.Test.YtoahfnfmhgeooaaFCheck
import Derived.Deep.RegionHeld3
namespace Go.Proofs.Ytoahfnfmhgeooaa
open Go.RowKit

/-- The error of a matte. -/
def matE (x y a b : Int) (n : Nat) : Int := if regE x y a b = 0 then (if (n : Int) = a * b then 0 else 2) else regE x y a b
section
variable {x y a b : Int} {n : Nat}
theorem matE_reg (h : ¬ regE x y a b = 0) : matE x y a b n = regE x y a b := by unfold matE; rw [if_neg h]
theorem matE_form (h : regE x y a b = 0) (h2 : ¬ (n : Int) = a * b) : matE x y a b n = 2 := by unfold matE; rw [if_pos h, if_neg h2]
theorem matE_ok (h : regE x y a b = 0) (h2 : (n : Int) = a * b) : matE x y a b n = 0 := by unfold matE; rw [if_pos h, if_pos h2]
theorem matE_zero (h : matE x y a b n = 0) : regE x y a b = 0 ∧ (n : Int) = a * b := by
  unfold matE at h
  by_cases h1 : regE x y a b = 0
  · rw [if_pos h1] at h
    by_cases h2 : (n : Int) = a * b
    · exact ⟨h1, h2⟩
    · rw [if_neg h2] at h; cases h
  · rw [if_neg h1] at h; exact absurd h h1
end

set_option maxRecDepth 100000 in
set_option maxHeartbeats 1000000 in
theorem checkMatte_any0 (x y a b : Int) (A : Option Addr) (n c : Nat) (w : World) (h1 : regE x y a b = 0) (h2 : (n : Int) = a * b) : Calls Try.prog 120 #[frm x y a b A n c] w fun e w' => e = .returned (.int .i64 (matE x y a b n)) ∧ Below w.heap.size w w' := by
  have z2 : (regE x y a b != 0) = false := by simp [h1]
  obtain ⟨a1, a2, b1, b2, ab, x1, x2, y1, y2⟩ := regE_zero h1
  obtain ⟨p1, p2⟩ := prod_le a1 a2 b1 b2
  have H := hid (matE_ok h1 h2)
  have zz : ((n : Int) != a * b) = false := by simp [h2]
  clear h2
  clear h1
  go_enter Try.func120, Try.ntmps120
  go_wp2_with fail
  refine (checkRegion_any _ _ _ _ _).mono ?_
  rintro e w1 ⟨rfl, hb⟩
  have hp : Blk w1 w.heap.size 76 #[.int .i64 x, .int .i64 y, .int .i64 a, .int .i64 b, .slice A n c] := (Blk.new_at _ _ _ rfl).below hb (by simp)
  have HBE : RowKit.Hid (Below w.heap.size w w1) := below_box hb
  have c0 := hp.cell 0
  have c1 := hp.cell 1
  have c2 := hp.cell 2
  have c3 := hp.cell 3
  have c4 := hp.cell 4
  simp at c0 c1 c2 c3 c4
  clear hp hb
  go_wp2_with fail
  go_ret
  exact ⟨ret_int H.out.symm, HBE.out⟩

set_option maxRecDepth 100000 in
set_option maxHeartbeats 1000000 in
theorem checkMatte_any1 (x y a b : Int) (A : Option Addr) (n c : Nat) (w : World) (h1 : regE x y a b = 0) (h2 : ¬ (n : Int) = a * b) : Calls Try.prog 120 #[frm x y a b A n c] w fun e w' => e = .returned (.int .i64 (matE x y a b n)) ∧ Below w.heap.size w w' := by
  have z2 : (regE x y a b != 0) = false := by simp [h1]
  obtain ⟨a1, a2, b1, b2, ab, x1, x2, y1, y2⟩ := regE_zero h1
  obtain ⟨p1, p2⟩ := prod_le a1 a2 b1 b2
  have H := hid (matE_form h1 h2)
  have zz : ((n : Int) != a * b) = true := by simp [h2]
  clear h2
  clear h1
  go_enter Try.func120, Try.ntmps120
  go_wp2_with fail
  refine (checkRegion_any _ _ _ _ _).mono ?_
  rintro e w1 ⟨rfl, hb⟩
  have hp : Blk w1 w.heap.size 76 #[.int .i64 x, .int .i64 y, .int .i64 a, .int .i64 b, .slice A n c] := (Blk.new_at _ _ _ rfl).below hb (by simp)
  have HBE : RowKit.Hid (Below w.heap.size w w1) := below_box hb
  have c0 := hp.cell 0
  have c1 := hp.cell 1
  have c2 := hp.cell 2
  have c3 := hp.cell 3
  have c4 := hp.cell 4
  simp at c0 c1 c2 c3 c4
  clear hp hb
  go_wp2_with fail
  go_ret
  exact ⟨ret_int H.out.symm, HBE.out⟩

set_option maxRecDepth 100000 in
set_option maxHeartbeats 1000000 in
theorem checkMatte_any2 (x y a b : Int) (A : Option Addr) (n c : Nat) (w : World) (h1 : ¬ regE x y a b = 0) : Calls Try.prog 120 #[frm x y a b A n c] w fun e w' => e = .returned (.int .i64 (matE x y a b n)) ∧ Below w.heap.size w w' := by
  have z2 : (regE x y a b != 0) = true := by simp [h1]
  have H := hid (matE_reg (n := n) h1)
  clear h1
  go_enter Try.func120, Try.ntmps120
  go_wp2_with fail
  refine (checkRegion_any _ _ _ _ _).mono ?_
  rintro e w1 ⟨rfl, hb⟩
  have hp : Blk w1 w.heap.size 76 #[.int .i64 x, .int .i64 y, .int .i64 a, .int .i64 b, .slice A n c] := (Blk.new_at _ _ _ rfl).below hb (by simp)
  have HBE : RowKit.Hid (Below w.heap.size w w1) := below_box hb
  have c0 := hp.cell 0
  have c1 := hp.cell 1
  have c2 := hp.cell 2
  have c3 := hp.cell 3
  have c4 := hp.cell 4
  simp at c0 c1 c2 c3 c4
  clear hp hb
  go_wp2_with fail
  go_ret
  exact ⟨ret_int H.out.symm, HBE.out⟩

theorem checkMatte_any (x y a b : Int) (A : Option Addr) (n c : Nat) (w : World) : Calls Try.prog 120 #[frm x y a b A n c] w fun e w' => e = .returned (.int .i64 (matE x y a b n)) ∧ Below w.heap.size w w' := by
  by_cases h1 : regE x y a b = 0
  · by_cases h2 : (n : Int) = a * b
    · exact checkMatte_any0 x y a b A n c w h1 h2
    · exact checkMatte_any1 x y a b A n c w h1 h2
  · exact checkMatte_any2 x y a b A n c w h1

set_option maxRecDepth 100000 in
theorem when_any (b : Bool) (E : Int) (w : World) : Calls Try.prog 123 #[.bool b, .int .i64 E] w fun e w' => ∃ R, e = .returned (.int .i64 R) ∧ (b = true → R = E) ∧ (b = false → R = 0) ∧ w = w' := by
  cases b
  all_goals
    go_enter Try.func123, Try.ntmps123
    go_wp2_with fail
    go_ret
    exact ⟨_, rfl, by simp, by simp, rfl⟩

set_option maxRecDepth 100000 in
set_option maxHeartbeats 1000000 in
theorem first_two0 (E1 E2 : Int) (g : Nat) (w : World) (h : Blk w g 25 #[.int .i64 E1, .int .i64 E2]) (h1 : (E1 != 0) = true) :
    Calls Try.prog 122 #[.slice (some ⟨g, 0, none⟩) 2 2] w fun e w' => e = .returned (.int .i64 (E1)) ∧ w = w' := by
  have c0 := h.cell 0
  have c1 := h.cell 1
  simp at c0 c1
  clear h
  go_enter Try.func122, Try.ntmps122
  go_wp2_with fail
  go_loop [7] (fun i => ∃ k : Nat, k ≤ 0 ∧ i = .int .i64 k) (fun i => 0 - (intOf i).toNat)
  case atStart => exact ⟨0, by omega, rfl⟩
  case round =>
    obtain ⟨k, hk, rfl⟩ := hrel
    have hk3 : k = 0 := by omega
    subst hk3
    go_wp2_with fail
    go_ret
    exact ⟨rfl, rfl⟩

set_option maxRecDepth 100000 in
set_option maxHeartbeats 1000000 in
theorem first_two1 (E1 E2 : Int) (g : Nat) (w : World) (h : Blk w g 25 #[.int .i64 E1, .int .i64 E2]) (h1 : (E1 != 0) = false) (h2 : (E2 != 0) = true) :
    Calls Try.prog 122 #[.slice (some ⟨g, 0, none⟩) 2 2] w fun e w' => e = .returned (.int .i64 (E2)) ∧ w = w' := by
  have c0 := h.cell 0
  have c1 := h.cell 1
  simp at c0 c1
  clear h
  go_enter Try.func122, Try.ntmps122
  go_wp2_with fail
  go_loop [7] (fun i => ∃ k : Nat, k ≤ 1 ∧ i = .int .i64 k) (fun i => 1 - (intOf i).toNat)
  case atStart => exact ⟨0, by omega, rfl⟩
  case round =>
    obtain ⟨k, hk, rfl⟩ := hrel
    have hk3 : k = 0 ∨ k = 1 := by omega
    rcases hk3 with rfl | rfl
    · go_wp2_with fail
      go_round
      case rel => exact ⟨1, by omega, rfl⟩
      case measure => simp [intOf]
    · go_wp2_with fail
      go_ret
      exact ⟨rfl, rfl⟩

set_option maxRecDepth 100000 in
set_option maxHeartbeats 1000000 in
theorem first_two2 (E1 E2 : Int) (g : Nat) (w : World) (h : Blk w g 25 #[.int .i64 E1, .int .i64 E2]) (h1 : (E1 != 0) = false) (h2 : (E2 != 0) = false) :
    Calls Try.prog 122 #[.slice (some ⟨g, 0, none⟩) 2 2] w fun e w' => e = .returned (.int .i64 (0)) ∧ w = w' := by
  have c0 := h.cell 0
  have c1 := h.cell 1
  simp at c0 c1
  clear h
  go_enter Try.func122, Try.ntmps122
  go_wp2_with fail
  go_loop [7] (fun i => ∃ k : Nat, k ≤ 2 ∧ i = .int .i64 k) (fun i => 2 - (intOf i).toNat)
  case atStart => exact ⟨0, by omega, rfl⟩
  case round =>
    obtain ⟨k, hk, rfl⟩ := hrel
    have hk3 : k = 0 ∨ k = 1 ∨ k = 2 := by omega
    rcases hk3 with rfl | rfl | rfl
    · go_wp2_with fail
      go_round
      case rel => exact ⟨1, by omega, rfl⟩
      case measure => simp [intOf]
    · go_wp2_with fail
      go_round
      case rel => exact ⟨2, by omega, rfl⟩
      case measure => simp [intOf]
    · go_wp2_with fail
      go_ret
      exact ⟨rfl, rfl⟩

theorem first_any (E1 E2 : Int) (g : Nat) (w : World) (h : Blk w g 25 #[.int .i64 E1, .int .i64 E2]) :
    Calls Try.prog 122 #[.slice (some ⟨g, 0, none⟩) 2 2] w fun e w' => ∃ R, e = .returned (.int .i64 R) ∧ (E1 ≠ 0 → R = E1) ∧ (E1 = 0 → R = E2) ∧ w = w' := by
  by_cases h1 : E1 = 0
  · by_cases h2 : E2 = 0
    · exact (first_two2 E1 E2 g w h (by simp [h1]) (by simp [h2])).mono fun e w' ⟨he, hw⟩ => ⟨0, he, fun hh => absurd h1 hh, fun _ => h2.symm, hw⟩
    · exact (first_two1 E1 E2 g w h (by simp [h1]) (by simp [h2])).mono fun e w' ⟨he, hw⟩ => ⟨E2, he, fun hh => absurd h1 hh, fun _ => rfl, hw⟩
  · exact (first_two0 E1 E2 g w h (by simp [h1])).mono fun e w' ⟨he, hw⟩ => ⟨E1, he, fun _ => rfl, fun hh => absurd hh h1, hw⟩

/-- A boxed matte, as a condition on a region that draws. -/
structure MK (w : World) (x y a b : Int) (A : Option Addr) (n c : Nat) (wr : World) : Prop where
  m : Blk wr w.heap.size 76 #[.int .i64 x, .int .i64 y, .int .i64 a, .int .i64 b, .slice A n c]
  be : Below w.heap.size w wr
abbrev MC (w : World) (x y a b : Int) (A : Option Addr) (n c : Nat) (w' : World) : Prop := w'.cell? ⟨w.heap.size, 0, none⟩ = some (.int .i64 x) ∧ w'.cell? ⟨w.heap.size, 1, none⟩ = some (.int .i64 y) ∧ w'.cell? ⟨w.heap.size, 2, none⟩ = some (.int .i64 a) ∧ w'.cell? ⟨w.heap.size, 3, none⟩ = some (.int .i64 b) ∧ w'.cell? ⟨w.heap.size, 4, none⟩ = some (.slice A n c) ∧ MK w x y a b A n c w'
section
variable {w wr w1 : World} {x y a b : Int} {A : Option Addr} {n c : Nat}
theorem MK.held (h : MK w x y a b A n c wr) : MC w x y a b A n c wr := ⟨h.m.cell 0, h.m.cell 1, h.m.cell 2, h.m.cell 3, h.m.cell 4, h⟩
theorem MK.below (h : MK w x y a b A n c wr) (hb : Below wr.heap.size wr w1) : MK w x y a b A n c w1 := ⟨h.m.below hb h.m.lt, below_to h.be hb⟩
theorem MC.on (hb : Below wr.heap.size wr w1) (h : MC w x y a b A n c wr) : MC w x y a b A n c w1 := (h.2.2.2.2.2.below hb).held
theorem MC.alloc (h : MC w x y a b A n c wr) (o : Obj) : MC w x y a b A n c (wr.alloc o) := (h.2.2.2.2.2.below ((Below.refl _ _).alloc (Nat.le_refl _) o)).held
theorem MK.drew (h : MK w x y a b A n c wr) : MK w x y a b A n c wr.drew := h.below (below_drewN (Below.refl _ _) 1)
end

set_option maxRecDepth 100000 in
set_option maxHeartbeats 1000000 in
theorem matteError_any0 (x y a b : Int) (A : Option Addr) (n c : Nat) (w : World) (h1 : regE x y a b = 0) (h2 : (n : Int) = a * b) : Calls Try.prog 58 #[frm x y a b A n c] w fun e w' => e = .returned (.int .i64 (matE x y a b n)) ∧ Below w.heap.size w w' := by
  have z2 : (regE x y a b != 0) = false := by simp [h1]
  obtain ⟨a1, a2, b1, b2, ab, x1, x2, y1, y2⟩ := regE_zero h1
  obtain ⟨p1, p2⟩ := prod_le a1 a2 b1 b2
  have H := hid (matE_ok h1 h2)
  have zz : ((n : Int) != a * b) = false := by simp [h2]
  clear h2
  go_enter Try.func58, Try.ntmps58
  go_wp2_with fail
  have HK : MK w x y a b A n c (w.alloc (.cells #[.int .i64 x, .int .i64 y, .int .i64 a, .int .i64 b, .slice A n c] 76)) := ⟨Blk.new_at _ _ _ rfl, (Below.refl _ _).alloc (Nat.le_refl _) _⟩
  generalize w.alloc (.cells #[.int .i64 x, .int .i64 y, .int .i64 a, .int .i64 b, .slice A n c] 76) = wb at HK ⊢
  have HK0 := hid HK
  clear HK
  go_region_held3 (fun w' => w'.cell? ⟨w.heap.size, 0, none⟩ = some (.int .i64 x) ∧ w'.cell? ⟨w.heap.size, 1, none⟩ = some (.int .i64 y) ∧ w'.cell? ⟨w.heap.size, 2, none⟩ = some (.int .i64 a) ∧ w'.cell? ⟨w.heap.size, 3, none⟩ = some (.int .i64 b) ∧ w'.cell? ⟨w.heap.size, 4, none⟩ = some (.slice A n c) ∧ MK w x y a b A n c w') (first | exact HK0.out.drew.held | exact MC.on (by assumption) (by assumption) | exact MC.alloc (by assumption) _ | assumption)
    (first
      | (go_at_call 14; refine (regionError_any _ _ _ _ _).mono ?_; rintro e w1 ⟨rfl, hb⟩)
      | (go_at_call 123; refine (when_any _ _ _).mono ?_; rintro e w1 ⟨R1, rfl, hR1, hR2, rfl⟩; have HR1 := hid (And.intro hR1 hR2); clear hR1 hR2)
      | (go_at_call 122; refine (first_any _ _ _ _ (Blk.new_at _ _ _ rfl)).mono ?_; rintro e w1 ⟨R2, rfl, hR3, hR4, rfl⟩; have HR2 := hid (And.intro hR3 hR4); clear hR3 hR4))
  all_goals
    rename_i hH
    have HB := hid hH.2.2.2.2.2.be
    clear hH
    go_wp2_with fail
    go_ret
    have u1 := HR1.out
    have u2 := HR2.out
    have u3 := H.out
    refine ⟨ret_int ?_, HB.out⟩
    rw [u3]
    first
      | exact u2.1 h1
      | (have hw : IntKind.i64.wrap (a * b) = a * b := by rw [IntKind.wrap_i64]; omega
         rw [u2.2 (by first | trivial | exact h1 | rfl)]
         first | exact u1.2 (by rw [hw]; exact zz) | exact u1.1 (by rw [hw]; exact zz))

set_option maxRecDepth 100000 in
set_option maxHeartbeats 1000000 in
theorem matteError_any1 (x y a b : Int) (A : Option Addr) (n c : Nat) (w : World) (h1 : regE x y a b = 0) (h2 : ¬ (n : Int) = a * b) : Calls Try.prog 58 #[frm x y a b A n c] w fun e w' => e = .returned (.int .i64 (matE x y a b n)) ∧ Below w.heap.size w w' := by
  have z2 : (regE x y a b != 0) = false := by simp [h1]
  obtain ⟨a1, a2, b1, b2, ab, x1, x2, y1, y2⟩ := regE_zero h1
  obtain ⟨p1, p2⟩ := prod_le a1 a2 b1 b2
  have H := hid (matE_form h1 h2)
  have zz : ((n : Int) != a * b) = true := by simp [h2]
  clear h2
  go_enter Try.func58, Try.ntmps58
  go_wp2_with fail
  have HK : MK w x y a b A n c (w.alloc (.cells #[.int .i64 x, .int .i64 y, .int .i64 a, .int .i64 b, .slice A n c] 76)) := ⟨Blk.new_at _ _ _ rfl, (Below.refl _ _).alloc (Nat.le_refl _) _⟩
  generalize w.alloc (.cells #[.int .i64 x, .int .i64 y, .int .i64 a, .int .i64 b, .slice A n c] 76) = wb at HK ⊢
  have HK0 := hid HK
  clear HK
  go_region_held3 (fun w' => w'.cell? ⟨w.heap.size, 0, none⟩ = some (.int .i64 x) ∧ w'.cell? ⟨w.heap.size, 1, none⟩ = some (.int .i64 y) ∧ w'.cell? ⟨w.heap.size, 2, none⟩ = some (.int .i64 a) ∧ w'.cell? ⟨w.heap.size, 3, none⟩ = some (.int .i64 b) ∧ w'.cell? ⟨w.heap.size, 4, none⟩ = some (.slice A n c) ∧ MK w x y a b A n c w') (first | exact HK0.out.drew.held | exact MC.on (by assumption) (by assumption) | exact MC.alloc (by assumption) _ | assumption)
    (first
      | (go_at_call 14; refine (regionError_any _ _ _ _ _).mono ?_; rintro e w1 ⟨rfl, hb⟩)
      | (go_at_call 123; refine (when_any _ _ _).mono ?_; rintro e w1 ⟨R1, rfl, hR1, hR2, rfl⟩; have HR1 := hid (And.intro hR1 hR2); clear hR1 hR2)
      | (go_at_call 122; refine (first_any _ _ _ _ (Blk.new_at _ _ _ rfl)).mono ?_; rintro e w1 ⟨R2, rfl, hR3, hR4, rfl⟩; have HR2 := hid (And.intro hR3 hR4); clear hR3 hR4))
  all_goals
    rename_i hH
    have HB := hid hH.2.2.2.2.2.be
    clear hH
    go_wp2_with fail
    go_ret
    have u1 := HR1.out
    have u2 := HR2.out
    have u3 := H.out
    refine ⟨ret_int ?_, HB.out⟩
    rw [u3]
    first
      | exact u2.1 h1
      | (have hw : IntKind.i64.wrap (a * b) = a * b := by rw [IntKind.wrap_i64]; omega
         rw [u2.2 (by first | trivial | exact h1 | rfl)]
         first | exact u1.2 (by rw [hw]; exact zz) | exact u1.1 (by rw [hw]; exact zz))

set_option maxRecDepth 100000 in
set_option maxHeartbeats 1000000 in
theorem matteError_any2 (x y a b : Int) (A : Option Addr) (n c : Nat) (w : World) (h1 : ¬ regE x y a b = 0) : Calls Try.prog 58 #[frm x y a b A n c] w fun e w' => e = .returned (.int .i64 (matE x y a b n)) ∧ Below w.heap.size w w' := by
  have z2 : (regE x y a b != 0) = true := by simp [h1]
  have H := hid (matE_reg (n := n) h1)
  go_enter Try.func58, Try.ntmps58
  go_wp2_with fail
  have HK : MK w x y a b A n c (w.alloc (.cells #[.int .i64 x, .int .i64 y, .int .i64 a, .int .i64 b, .slice A n c] 76)) := ⟨Blk.new_at _ _ _ rfl, (Below.refl _ _).alloc (Nat.le_refl _) _⟩
  generalize w.alloc (.cells #[.int .i64 x, .int .i64 y, .int .i64 a, .int .i64 b, .slice A n c] 76) = wb at HK ⊢
  have HK0 := hid HK
  clear HK
  go_region_held3 (fun w' => w'.cell? ⟨w.heap.size, 0, none⟩ = some (.int .i64 x) ∧ w'.cell? ⟨w.heap.size, 1, none⟩ = some (.int .i64 y) ∧ w'.cell? ⟨w.heap.size, 2, none⟩ = some (.int .i64 a) ∧ w'.cell? ⟨w.heap.size, 3, none⟩ = some (.int .i64 b) ∧ w'.cell? ⟨w.heap.size, 4, none⟩ = some (.slice A n c) ∧ MK w x y a b A n c w') (first | exact HK0.out.drew.held | exact MC.on (by assumption) (by assumption) | exact MC.alloc (by assumption) _ | assumption)
    (first
      | (go_at_call 14; refine (regionError_any _ _ _ _ _).mono ?_; rintro e w1 ⟨rfl, hb⟩)
      | (go_at_call 123; refine (when_any _ _ _).mono ?_; rintro e w1 ⟨R1, rfl, hR1, hR2, rfl⟩; have HR1 := hid (And.intro hR1 hR2); clear hR1 hR2)
      | (go_at_call 122; refine (first_any _ _ _ _ (Blk.new_at _ _ _ rfl)).mono ?_; rintro e w1 ⟨R2, rfl, hR3, hR4, rfl⟩; have HR2 := hid (And.intro hR3 hR4); clear hR3 hR4))
  all_goals
    rename_i hH
    have HB := hid hH.2.2.2.2.2.be
    clear hH
    go_wp2_with fail
    go_ret
    have u1 := HR1.out
    have u2 := HR2.out
    have u3 := H.out
    refine ⟨ret_int ?_, HB.out⟩
    rw [u3]
    first
      | exact u2.1 h1
      | (have hw : IntKind.i64.wrap (a * b) = a * b := by rw [IntKind.wrap_i64]; omega
         rw [u2.2 (by first | trivial | exact h1 | rfl)]
         first | exact u1.2 (by rw [hw]; exact zz) | exact u1.1 (by rw [hw]; exact zz))

theorem matteError_any (x y a b : Int) (A : Option Addr) (n c : Nat) (w : World) : Calls Try.prog 58 #[frm x y a b A n c] w fun e w' => e = .returned (.int .i64 (matE x y a b n)) ∧ Below w.heap.size w w' := by
  by_cases h1 : regE x y a b = 0
  · by_cases h2 : (n : Int) = a * b
    · exact matteError_any0 x y a b A n c w h1 h2
    · exact matteError_any1 x y a b A n c w h1 h2
  · exact matteError_any2 x y a b A n c w h1

end Go.Proofs.Ytoahfnfmhgeooaa
