/-
  Windows: polygons, in the program.
-/
import Derived.Test.YtfeabmdioeelhaaYEll
namespace Go.Proofs.Ytfeabmdioeelhaa
open Go.RowKit Go.Shelf
attribute [local go_sem] run_store_float

/-- Is the edge from p to q crossed on the way from (x, y)? -/
def crossB (px py qx qy x y : Int) : Bool :=
  if decide (y < py) = decide (y < qy) then false else if py < qy then decide ((x - px) * (qy - py) < (qx - px) * (y - py)) else decide ((qx - px) * (y - py) < (x - px) * (qy - py))
theorem crossB_moved (px py qx qy x y dx dy : Int) : crossB (px + dx) (py + dy) (qx + dx) (qy + dy) (x + dx) (y + dy) = crossB px py qx qy x y := by
  unfold crossB
  have e1 : x + dx - (px + dx) = x - px := by omega
  have e2 : qy + dy - (py + dy) = qy - py := by omega
  have e3 : qx + dx - (px + dx) = qx - px := by omega
  have e4 : y + dy - (py + dy) = y - py := by omega
  rw [e1, e2, e3, e4]
  have d1 : decide (y + dy < py + dy) = decide (y < py) := by congr 1; exact propext ⟨fun h => by omega, fun h => by omega⟩
  have d2 : decide (y + dy < qy + dy) = decide (y < qy) := by congr 1; exact propext ⟨fun h => by omega, fun h => by omega⟩
  rw [d1, d2]
  by_cases h : py < qy
  · rw [if_pos h, if_pos (show py + dy < qy + dy by omega)]
  · rw [if_neg h, if_neg (show ¬ py + dy < qy + dy by omega)]

theorem mul_bd {a b : Int} (h1 : -4194304 ≤ a) (h2 : a ≤ 4194304) (h3 : -4194304 ≤ b) (h4 : b ≤ 4194304) : -17592186044416 ≤ a * b ∧ a * b ≤ 17592186044416 := by
  have k1 : (a.natAbs : Int) ≤ 4194304 := by omega
  have k2 : (b.natAbs : Int) ≤ 4194304 := by omega
  have : (a * b).natAbs ≤ 4194304 * 4194304 := by
    rw [Int.natAbs_mul]
    exact Nat.mul_le_mul (by omega) (by omega)
  omega

set_option maxRecDepth 100000 in
set_option maxHeartbeats 1000000 in
theorem cross_any (px py qx qy x y : Int) (w : World) (h1 : -1048576 ≤ px) (h2 : px ≤ 1048576) (h3 : -1048576 ≤ py) (h4 : py ≤ 1048576) (h5 : -1048576 ≤ qx) (h6 : qx ≤ 1048576) (h7 : -1048576 ≤ qy) (h8 : qy ≤ 1048576)
    (x1 : -2097152 ≤ x) (x2 : x ≤ 2097152) (y1 : -2097152 ≤ y) (y2 : y ≤ 2097152) :
    Calls Try.prog 215 #[pnt px py, pnt qx qy, .int .i64 x, .int .i64 y] w fun e w' => e = .returned (.bool (crossB px py qx qy x y)) ∧ Below w.heap.size w w' := by
  have w1 : IntKind.i64.wrap (x - px) = x - px := by rw [IntKind.wrap_i64]; omega
  have w2 : IntKind.i64.wrap (qy - py) = qy - py := by rw [IntKind.wrap_i64]; omega
  have w3 : IntKind.i64.wrap (qx - px) = qx - px := by rw [IntKind.wrap_i64]; omega
  have w4 : IntKind.i64.wrap (y - py) = y - py := by rw [IntKind.wrap_i64]; omega
  have w5 : IntKind.i64.wrap ((x - px) * (qy - py)) = (x - px) * (qy - py) := by
    have := mul_bd (a := x - px) (b := qy - py) (by omega) (by omega) (by omega) (by omega)
    rw [IntKind.wrap_i64]; omega
  have w6 : IntKind.i64.wrap ((qx - px) * (y - py)) = (qx - px) * (y - py) := by
    have := mul_bd (a := qx - px) (b := y - py) (by omega) (by omega) (by omega) (by omega)
    rw [IntKind.wrap_i64]; omega
  have W1 := hid w1
  have W2 := hid w2
  have W3 := hid w3
  have W4 := hid w4
  have W5 := hid w5
  have W6 := hid w6
  clear w1 w2 w3 w4 w5 w6
  by_cases c1 : y < py
  · by_cases c2 : y < qy
    · have HQ : RowKit.Hid (crossB px py qx qy x y = false) := hid (by unfold crossB; rw [if_pos (by simp [c1, c2])])
      go_enter Try.func215, Try.ntmps215
      go_wp2
      go_ret
      exact ⟨ret_bool HQ.out.symm, ((Below.refl _ _).alloc (Nat.le_refl _) _).alloc (by simp) _⟩
    · have c3 : ¬ py < qy := by omega
      have HQ : RowKit.Hid (crossB px py qx qy x y = decide ((qx - px) * (y - py) < (x - px) * (qy - py))) := hid (by unfold crossB; rw [if_neg (by simp [c1, c2]), if_neg c3])
      go_enter Try.func215, Try.ntmps215
      go_wp2_with fail
      have w1 := W1.out
      have w2 := W2.out
      have w3 := W3.out
      have w4 := W4.out
      have w5 := W5.out
      have w6 := W6.out
      go_quiet (fail)
      clear w1 w2 w3 w4 w5 w6
      go_wp2_with fail
      go_ret
      exact ⟨ret_bool HQ.out.symm, below_drewN (((Below.refl _ _).alloc (Nat.le_refl _) _).alloc (by simp) _) _⟩
  · by_cases c2 : y < qy
    · have c3 : py < qy := by omega
      have HQ : RowKit.Hid (crossB px py qx qy x y = decide ((x - px) * (qy - py) < (qx - px) * (y - py))) := hid (by unfold crossB; rw [if_neg (by simp [c1, c2]), if_pos c3])
      go_enter Try.func215, Try.ntmps215
      go_wp2_with fail
      have w1 := W1.out
      have w2 := W2.out
      have w3 := W3.out
      have w4 := W4.out
      have w5 := W5.out
      have w6 := W6.out
      go_quiet (fail)
      clear w1 w2 w3 w4 w5 w6
      go_wp2_with fail
      go_ret
      exact ⟨ret_bool HQ.out.symm, below_drewN (((Below.refl _ _).alloc (Nat.le_refl _) _).alloc (by simp) _) _⟩
    · have HQ : RowKit.Hid (crossB px py qx qy x y = false) := hid (by unfold crossB; rw [if_pos (by simp [c1, c2])])
      go_enter Try.func215, Try.ntmps215
      go_wp2
      go_ret
      exact ⟨ret_bool HQ.out.symm, ((Below.refl _ _).alloc (Nat.le_refl _) _).alloc (by simp) _⟩

/-- The point ahead of the one with the number k, of n. -/
def prv (n k : Nat) : Nat := if k = 0 then n - 1 else k - 1
/-- Is the number of edges that are crossed odd, of the first k? -/
def parB (P Q : Nat → Int) (n : Nat) (x y : Int) : Nat → Bool
  | 0 => false
  | k + 1 => parB P Q n x y k != crossB (P (prv n k)) (Q (prv n k)) (P k) (Q k) x y
theorem parB_moved (P Q : Nat → Int) (n : Nat) (x y dx dy : Int) : ∀ k, parB (fun i => P i + dx) (fun i => Q i + dy) n (x + dx) (y + dy) k = parB P Q n x y k
  | 0 => rfl
  | k + 1 => by
    show (parB _ _ n _ _ k != crossB _ _ _ _ _ _) = _
    rw [parB_moved P Q n x y dx dy k, crossB_moved]; rfl
def b2f (b : Bool) : Nat := if b then 1065353216 else 0
theorem sub_b2f (b : Bool) : floatBits .sub .f32 1065353216 (b2f b) = some (b2f (!b)) := by cases b <;> decide +kernel

structure PoRel (w : World) (B : Nat) (P Q : Nat → Int) (n k : Nat) (wr : World) : Prop where
  pb : Blk wr B 90 #[.int .i64 (P (prv n k)), .int .i64 (Q (prv n k))]
  be : Below w.heap.size w wr
  lo : w.heap.size ≤ B

set_option maxRecDepth 100000 in
set_option maxHeartbeats 2000000 in
theorem poly_any (A : Option Addr) (n c : Nat) (P Q : Nat → Int) (x y : Int) (w : World) (hn : n ≤ 32) (hn0 : 0 < n) (hP : Pts w A n P Q) (hpl : ∀ i, i < n → -1048576 ≤ P i ∧ P i ≤ 1048576 ∧ -1048576 ≤ Q i ∧ Q i ≤ 1048576)
    (x1 : -2097152 ≤ x) (x2 : x ≤ 2097152) (y1 : -2097152 ≤ y) (y2 : y ≤ 2097152) :
    Calls Try.prog 171 #[.slice A n c, .int .i64 x, .int .i64 y] w fun e w' => e = .returned (.float .f32 (b2f (parB P Q n x y n))) ∧ Below w.heap.size w w' := by
  obtain ⟨ba, oa, rfl, hba, hR⟩ := hP hn0
  have HR := hid hR
  have HPL := hid hpl
  have s1 := (hR (n - 1) (by omega)).1
  have s2 := (hR (n - 1) (by omega)).2
  obtain ⟨m, hm⟩ : ∃ m, m = n - 1 := ⟨_, rfl⟩
  have hm1 : (n : Int) - 1 = (m : Int) := by omega
  have hm2 : m < n := by omega
  rw [← hm] at s1 s2
  have HM := hid hm
  clear hP hR hpl hm
  go_enter Try.func171, Try.ntmps171
  go_wp2_with fail
  go_loopw [7, 19] (fun v i wr => ∃ k : Nat, k ≤ n ∧ i = .int .i64 k ∧ v = .float .f32 (b2f (parB P Q n x y k)) ∧ PoRel w w.heap.size P Q n k wr) (fun _ i _ => n - (intOf i).toNat)
  case atStart =>
    refine ⟨0, Nat.zero_le _, rfl, rfl, ?_, (Below.refl _ _).alloc (Nat.le_refl _) _, Nat.le_refl _⟩
    have e : prv n 0 = m := by unfold prv; rw [if_pos rfl, HM.out]
    rw [e]
    exact Blk.new_at _ _ _ rfl
  case round =>
    clear s1 s2 hm1
    obtain ⟨k, hk, rfl, rfl, hrel⟩ := hrel
    have HL := hid hrel
    by_cases hlt : k < n
    · have hr := HR.out k hlt
      have s1 : wr.cell? ⟨ba, oa + k * 2, none⟩ = some (.int .i64 (P k)) := (hrel.be.cell (p := ⟨ba, oa + k * 2, none⟩) hba).trans hr.1
      have s2 : wr.cell? ⟨ba, oa + k * 2 + 1, none⟩ = some (.int .i64 (Q k)) := (hrel.be.cell (p := ⟨ba, oa + k * 2 + 1, none⟩) hba).trans hr.2
      have p0 := hrel.pb.cell 0
      have p1 := hrel.pb.cell 1
      have pf := fun i => hrel.pb.frozen i
      have pl := hrel.pb.lt
      simp at p0 p1
      have hpv : prv n k < n := by unfold prv; split <;> omega
      obtain ⟨a1, a2, a3, a4⟩ := HPL.out _ hpv
      obtain ⟨b1, b2, b3, b4⟩ := HPL.out k hlt
      obtain ⟨pv, hpv2⟩ : ∃ pv, pv = prv n k := ⟨_, rfl⟩
      rw [← hpv2] at p0 p1 a1 a2 a3 a4
      have HPV := hid hpv2
      have HN : RowKit.Hid (parB P Q n x y (k + 1) = (parB P Q n x y k != crossB (P pv) (Q pv) (P k) (Q k) x y)) := hid (by rw [hpv2]; rfl)
      obtain ⟨B, hB⟩ : ∃ B, B = parB P Q n x y k := ⟨_, rfl⟩
      rw [← hB] at HN
      rw [← hB]
      have v1 := fopv (sub_b2f B)
      have v2 := fdrv (sub_b2f B)
      clear hr hrel hpv hpv2 hB
      cases hcr : crossB (P pv) (Q pv) (P k) (Q k) x y
      all_goals
        rw [hcr] at HN
        go_wp2_with (go_at_call 215; (with_reducible refine (cross_any _ _ _ _ _ _ _ (by assumption) (by assumption) (by assumption) (by assumption) (by assumption) (by assumption) (by assumption) (by assumption) (by assumption) (by assumption) (by assumption) (by assumption)).mono ?_); rintro e w2 ⟨rfl, hb⟩; obtain ⟨hc, hf⟩ := bcell hb; have hz := hb.size; have HB := hid hb; clear hb)
        have R : PoRel w w.heap.size P Q n (k + 1) ((w2.setCell ⟨w.heap.size, 0, none⟩ (.int .i64 (P k))).setCell ⟨w.heap.size, 1, none⟩ (.int .i64 (Q k))) := by
          have h := HL.out
          have hal := h.be.alloc (Nat.le_of_lt pl) (.cells #[.int .i64 (P k), .int .i64 (Q k)] 90)
          refine ⟨?_, ((hal.trans (HB.out.mono (by simp; omega))).setCell (Nat.le_refl _) _).setCell (Nat.le_refl _) _, Nat.le_refl _⟩
          have hb := (((h.pb.alloc (.cells #[.int .i64 (P k), .int .i64 (Q k)] 90)).below HB.out (by simp; omega)).set_ 0 (.int .i64 (P k))).set_ 1 (.int .i64 (Q k))
          have e : prv n (k + 1) = k := by unfold prv; simp
          rw [e]
          simpa using hb
        have HRR := hid R
        clear R
        go_roundw
        case rel => exact ⟨k + 1, by omega, by go_num, by rw [HN.out]; cases B <;> rfl, HRR.out⟩
        case measure => simp [intOf]; omega
    · obtain rfl : k = n := by omega
      go_wp2_with fail
      go_ret
      exact ⟨rfl, HL.out.be⟩
end Go.Proofs.Ytfeabmdioeelhaa
