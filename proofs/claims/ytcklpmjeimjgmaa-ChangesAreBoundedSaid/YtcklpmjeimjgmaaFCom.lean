/-
  Common and Inside, in the program and in the reference.
-/
import Derived.Test.YtcklpmjeimjgmaaFTotal
import Derived.Lib.MinMax
import Derived.BigQuiet
import Derived.Deep.QuietTactic
import Derived.RegionTactic
import Derived.BigRegion
namespace Go.Proofs.Ytcklpmjeimjgmaa
open Go.RowKit

/-- Numbers of a region that are small enough. -/
structure Small (x y a b : Int) : Prop where
  x1 : -4194304 ≤ x
  x2 : x ≤ 4194304
  y1 : -4194304 ≤ y
  y2 : y ≤ 4194304
  a1 : 0 ≤ a
  a2 : a ≤ 256
  b1 : 0 ≤ b
  b2 : b ≤ 256
theorem small_of {x y a b : Int} (h : regE x y a b = 0) : Small x y a b := by
  obtain ⟨h1, h2, h3, h4, _, h5, h6, h7, h8⟩ := regE_zero h
  exact ⟨by omega, by omega, by omega, by omega, by omega, by omega, by omega, by omega⟩

def Tup (w : World) (r : Value) (ok : Bool) (e : Ending) (w' : World) : Prop := e = .returned (.tuple #[r, .bool ok]) ∧ Below w.heap.size w w'

theorem below_set4 {B : Nat} {a w : World} (h : Below B a w) {g : Nat} (hg : B ≤ g) (u0 u1 u2 u3 : Value) :
    Below B a ((((w.setCell ⟨g, 0, none⟩ u0).setCell ⟨g, 1, none⟩ u1).setCell ⟨g, 2, none⟩ u2).setCell ⟨g, 3, none⟩ u3) :=
  (((h.setCell (p := ⟨g, 0, none⟩) hg u0).setCell (p := ⟨g, 1, none⟩) hg u1).setCell (p := ⟨g, 2, none⟩) hg u2).setCell (p := ⟨g, 3, none⟩) hg u3
abbrev zreg : Value := reg 0 0 0 0

set_option maxRecDepth 100000 in
set_option maxHeartbeats 2000000 in
theorem common_yes (x y a b x' y' a' b' : Int) (s : Small x y a b) (s' : Small x' y' a' b') (h1 : max x x' < min (x + a) (x' + a')) (h2 : max y y' < min (y + b) (y' + b')) (w : World) :
    Calls Try.prog 66 #[reg x y a b, reg x' y' a' b'] w (Tup w (reg (max x x') (max y y') (min (x + a) (x' + a') - max x x') (min (y + b) (y' + b') - max y y')) true) := by
  obtain ⟨x1, x2, y1, y2, a1, a2, b1, b2⟩ := s
  obtain ⟨x1', x2', y1', y2', a1', a2', b1', b2'⟩ := s'
  obtain ⟨L, hL⟩ : ∃ L, max x x' = L := ⟨_, rfl⟩
  obtain ⟨T, hT⟩ : ∃ T, max y y' = T := ⟨_, rfl⟩
  obtain ⟨R, hR⟩ : ∃ R, min (x + a) (x' + a') = R := ⟨_, rfl⟩
  obtain ⟨B, hB⟩ : ∃ B, min (y + b) (y' + b') = B := ⟨_, rfl⟩
  rw [hL, hR] at h1
  rw [hT, hB] at h2
  rw [hL, hR, hT, hB]
  have L1 : -4194304 ≤ L ∧ L ≤ 4194304 := by omega
  have T1 : -4194304 ≤ T ∧ T ≤ 4194304 := by omega
  have R1 : -4194304 ≤ R ∧ R ≤ 4194560 := by omega
  have B1 : -4194304 ≤ B ∧ B ≤ 4194560 := by omega
  obtain ⟨L1, L2⟩ := L1
  obtain ⟨T1, T2⟩ := T1
  obtain ⟨R1, R2⟩ := R1
  obtain ⟨B1, B2⟩ := B1
  go_enter Try.func66, Try.ntmps66
  go_wp2
  go_quiet (fail)
  go_wp2
  go_quiet (fail)
  go_wp2
  refine bodyPost_ret (v := .tuple #[reg L T (R - L) (B - T), .bool true]) (results_row_tmp rfl _ _ _ _ _ _ rfl rfl (((Blk.new_at _ _ _ (by simp)).drewN _).set4 _ _ _ _) Try.underlying23 rfl (by kernel_rfl)) rfl ⟨rfl, ?_⟩
  exact below_set4 (below_drewN ((((Below.refl _ _).alloc (Nat.le_refl _) _).alloc (by simp) _).alloc (by simp; omega) _) _) (by omega) _ _ _ _

set_option maxRecDepth 100000 in
set_option maxHeartbeats 2000000 in
theorem common_no (x y a b x' y' a' b' : Int) (s : Small x y a b) (s' : Small x' y' a' b') (h1 : ¬ (max x x' < min (x + a) (x' + a') ∧ max y y' < min (y + b) (y' + b'))) (w : World) :
    Calls Try.prog 66 #[reg x y a b, reg x' y' a' b'] w (Tup w zreg false) := by
  obtain ⟨x1, x2, y1, y2, a1, a2, b1, b2⟩ := s
  obtain ⟨x1', x2', y1', y2', a1', a2', b1', b2'⟩ := s'
  obtain ⟨L, hL⟩ : ∃ L, max x x' = L := ⟨_, rfl⟩
  obtain ⟨T, hT⟩ : ∃ T, max y y' = T := ⟨_, rfl⟩
  obtain ⟨R, hR⟩ : ∃ R, min (x + a) (x' + a') = R := ⟨_, rfl⟩
  obtain ⟨B, hB⟩ : ∃ B, min (y + b) (y' + b') = B := ⟨_, rfl⟩
  rw [hL, hR, hT, hB] at h1
  have L1 : -4194304 ≤ L ∧ L ≤ 4194304 := by omega
  have T1 : -4194304 ≤ T ∧ T ≤ 4194304 := by omega
  have R1 : -4194304 ≤ R ∧ R ≤ 4194560 := by omega
  have B1 : -4194304 ≤ B ∧ B ≤ 4194560 := by omega
  obtain ⟨L1, L2⟩ := L1
  obtain ⟨T1, T2⟩ := T1
  obtain ⟨R1, R2⟩ := R1
  obtain ⟨B1, B2⟩ := B1
  by_cases h2 : L < R
  · have h3 : ¬ T < B := fun c => h1 ⟨h2, c⟩
    clear h1
    go_enter Try.func66, Try.ntmps66
    go_wp2
    go_quiet (fail)
    go_wp2
    go_quiet (fail)
    go_wp2
    refine bodyPost_ret (v := .tuple #[zreg, .bool false]) (results_row_tmp rfl _ _ _ _ _ _ rfl rfl (((Blk.new_at _ _ _ (by simp)).drewN _).set4 _ _ _ _) Try.underlying23 rfl (by kernel_rfl)) rfl ⟨rfl, ?_⟩
    exact below_set4 (below_drewN ((((Below.refl _ _).alloc (Nat.le_refl _) _).alloc (by simp) _).alloc (by simp; omega) _) _) (by omega) _ _ _ _
  · clear h1
    go_enter Try.func66, Try.ntmps66
    go_wp2
    go_quiet (fail)
    go_wp2
    go_quiet (fail)
    go_wp2
    refine bodyPost_ret (v := .tuple #[zreg, .bool false]) (results_row_tmp rfl _ _ _ _ _ _ rfl rfl (((Blk.new_at _ _ _ (by simp)).drewN _).set4 _ _ _ _) Try.underlying23 rfl (by kernel_rfl)) rfl ⟨rfl, ?_⟩
    exact below_set4 (below_drewN ((((Below.refl _ _).alloc (Nat.le_refl _) _).alloc (by simp) _).alloc (by simp; omega) _) _) (by omega) _ _ _ _

/-- Are all pixels of the first region pixels of the second one? -/
def inB (x y a b x' y' a' b' : Int) : Bool := decide (x' ≤ x ∧ x + a ≤ x' + a' ∧ y' ≤ y ∧ y + b ≤ y' + b')
theorem inB_true {x y a b x' y' a' b' : Int} : inB x y a b x' y' a' b' = true ↔ x' ≤ x ∧ x + a ≤ x' + a' ∧ y' ≤ y ∧ y + b ≤ y' + b' := by simp [inB]
theorem inB_false {x y a b x' y' a' b' : Int} : inB x y a b x' y' a' b' = false ↔ ¬ (x' ≤ x ∧ x + a ≤ x' + a' ∧ y' ≤ y ∧ y + b ≤ y' + b') := by simp [inB]

set_option maxRecDepth 100000 in
set_option maxHeartbeats 2000000 in
theorem inside_any (x y a b x' y' a' b' : Int) (s : Small x y a b) (s' : Small x' y' a' b') (w : World) :
    Calls Try.prog 68 #[reg x y a b, reg x' y' a' b'] w fun e w' => e = .returned (.bool (inB x y a b x' y' a' b')) ∧ Below w.heap.size w w' := by
  obtain ⟨x1, x2, y1, y2, a1, a2, b1, b2⟩ := s
  obtain ⟨x1', x2', y1', y2', a1', a2', b1', b2'⟩ := s'
  by_cases k0 : x' ≤ x
  case' neg =>
    have hB : inB x y a b x' y' a' b' = false := inB_false.2 (fun h => k0 (by omega))
    go_enter Try.func68, Try.ntmps68
    go_wp2
    try (go_quiet (fail); go_wp2)
    go_ret
    first | exact ⟨rfl, below_drewN (((Below.refl _ _).alloc (Nat.le_refl _) _).alloc (by simp) _) _⟩ | exact ⟨rfl, (((Below.refl _ _).alloc (Nat.le_refl _) _).alloc (by simp) _)⟩ | exact ⟨by rw [hB]; rfl, (((Below.refl _ _).alloc (Nat.le_refl _) _).alloc (by simp) _)⟩
  by_cases k1 : x + a ≤ x' + a'
  case' neg =>
    have hB : inB x y a b x' y' a' b' = false := inB_false.2 (fun h => k1 (by omega))
    go_enter Try.func68, Try.ntmps68
    go_wp2
    try (go_quiet (fail); go_wp2)
    go_ret
    first | exact ⟨rfl, below_drewN (((Below.refl _ _).alloc (Nat.le_refl _) _).alloc (by simp) _) _⟩ | exact ⟨rfl, (((Below.refl _ _).alloc (Nat.le_refl _) _).alloc (by simp) _)⟩ | exact ⟨by rw [hB]; rfl, (((Below.refl _ _).alloc (Nat.le_refl _) _).alloc (by simp) _)⟩
  by_cases k2 : y' ≤ y
  case' neg =>
    have hB : inB x y a b x' y' a' b' = false := inB_false.2 (fun h => k2 (by omega))
    go_enter Try.func68, Try.ntmps68
    go_wp2
    try (go_quiet (fail); go_wp2)
    go_ret
    first | exact ⟨rfl, below_drewN (((Below.refl _ _).alloc (Nat.le_refl _) _).alloc (by simp) _) _⟩ | exact ⟨rfl, (((Below.refl _ _).alloc (Nat.le_refl _) _).alloc (by simp) _)⟩ | exact ⟨by rw [hB]; rfl, (((Below.refl _ _).alloc (Nat.le_refl _) _).alloc (by simp) _)⟩
  by_cases k3 : y + b ≤ y' + b'
  case' neg =>
    have hB : inB x y a b x' y' a' b' = false := inB_false.2 (fun h => k3 (by omega))
    go_enter Try.func68, Try.ntmps68
    go_wp2
    try (go_quiet (fail); go_wp2)
    go_ret
    first | exact ⟨rfl, below_drewN (((Below.refl _ _).alloc (Nat.le_refl _) _).alloc (by simp) _) _⟩ | exact ⟨rfl, (((Below.refl _ _).alloc (Nat.le_refl _) _).alloc (by simp) _)⟩ | exact ⟨by rw [hB]; rfl, (((Below.refl _ _).alloc (Nat.le_refl _) _).alloc (by simp) _)⟩
  have hB : inB x y a b x' y' a' b' = true := inB_true.2 (by omega)
  go_enter Try.func68, Try.ntmps68
  go_wp2
  try (go_quiet (fail); go_wp2)
  go_ret
  first | exact ⟨rfl, below_drewN (((Below.refl _ _).alloc (Nat.le_refl _) _).alloc (by simp) _) _⟩ | exact ⟨rfl, (((Below.refl _ _).alloc (Nat.le_refl _) _).alloc (by simp) _)⟩ | exact ⟨by rw [hB]; rfl, (((Below.refl _ _).alloc (Nat.le_refl _) _).alloc (by simp) _)⟩

set_option maxRecDepth 100000 in
set_option maxHeartbeats 2000000 in
theorem insider_any (x y a b x' y' a' b' : Int) (s : Small x y a b) (s' : Small x' y' a' b') (w : World) :
    Calls Try.prog 60 #[reg x y a b, reg x' y' a' b'] w fun e w' => e = .returned (.bool (inB x y a b x' y' a' b')) ∧ Below w.heap.size w w' := by
  obtain ⟨x1, x2, y1, y2, a1, a2, b1, b2⟩ := s
  obtain ⟨x1', x2', y1', y2', a1', a2', b1', b2'⟩ := s'
  by_cases k0 : x' ≤ x
  case' neg =>
    have hB : inB x y a b x' y' a' b' = false := inB_false.2 (fun h => k0 (by omega))
    go_enter Try.func60, Try.ntmps60
    go_wp2
    try (go_quiet (fail); go_wp2)
    go_ret
    first | exact ⟨rfl, below_drewN (((Below.refl _ _).alloc (Nat.le_refl _) _).alloc (by simp) _) _⟩ | exact ⟨rfl, (((Below.refl _ _).alloc (Nat.le_refl _) _).alloc (by simp) _)⟩ | exact ⟨by rw [hB]; rfl, (((Below.refl _ _).alloc (Nat.le_refl _) _).alloc (by simp) _)⟩
  by_cases k1 : y' ≤ y
  case' neg =>
    have hB : inB x y a b x' y' a' b' = false := inB_false.2 (fun h => k1 (by omega))
    go_enter Try.func60, Try.ntmps60
    go_wp2
    try (go_quiet (fail); go_wp2)
    go_ret
    first | exact ⟨rfl, below_drewN (((Below.refl _ _).alloc (Nat.le_refl _) _).alloc (by simp) _) _⟩ | exact ⟨rfl, (((Below.refl _ _).alloc (Nat.le_refl _) _).alloc (by simp) _)⟩ | exact ⟨by rw [hB]; rfl, (((Below.refl _ _).alloc (Nat.le_refl _) _).alloc (by simp) _)⟩
  by_cases k2 : x ≤ x' + a' - a
  case' neg =>
    have hB : inB x y a b x' y' a' b' = false := inB_false.2 (fun h => k2 (by omega))
    go_enter Try.func60, Try.ntmps60
    go_wp2
    try (go_quiet (fail); go_wp2)
    go_ret
    first | exact ⟨rfl, below_drewN (((Below.refl _ _).alloc (Nat.le_refl _) _).alloc (by simp) _) _⟩ | exact ⟨rfl, (((Below.refl _ _).alloc (Nat.le_refl _) _).alloc (by simp) _)⟩ | exact ⟨by rw [hB]; rfl, (((Below.refl _ _).alloc (Nat.le_refl _) _).alloc (by simp) _)⟩
  by_cases k3 : y ≤ y' + b' - b
  case' neg =>
    have hB : inB x y a b x' y' a' b' = false := inB_false.2 (fun h => k3 (by omega))
    go_enter Try.func60, Try.ntmps60
    go_wp2
    try (go_quiet (fail); go_wp2)
    go_ret
    first | exact ⟨rfl, below_drewN (((Below.refl _ _).alloc (Nat.le_refl _) _).alloc (by simp) _) _⟩ | exact ⟨rfl, (((Below.refl _ _).alloc (Nat.le_refl _) _).alloc (by simp) _)⟩ | exact ⟨by rw [hB]; rfl, (((Below.refl _ _).alloc (Nat.le_refl _) _).alloc (by simp) _)⟩
  have hB : inB x y a b x' y' a' b' = true := inB_true.2 (by omega)
  go_enter Try.func60, Try.ntmps60
  go_wp2
  try (go_quiet (fail); go_wp2)
  go_ret
  first | exact ⟨rfl, below_drewN (((Below.refl _ _).alloc (Nat.le_refl _) _).alloc (by simp) _) _⟩ | exact ⟨rfl, (((Below.refl _ _).alloc (Nat.le_refl _) _).alloc (by simp) _)⟩ | exact ⟨by rw [hB]; rfl, (((Below.refl _ _).alloc (Nat.le_refl _) _).alloc (by simp) _)⟩

end Go.Proofs.Ytcklpmjeimjgmaa
