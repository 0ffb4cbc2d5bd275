/-
  fit makes a right frame of whatever frame.
-/
import Derived.Test.YtcklpmjeimjgmaaFMem
namespace Go.Proofs.Ytcklpmjeimjgmaa
open Go.RowKit
attribute [local go_sem] run_store_float

/-- The relation of fit's loop. -/
def FitRel (w : World) (N : Nat) (X Y p q : Int) (A : Option Addr) (n c : Nat) (wr : World) : Prop :=
  ∃ g : Nat → Nat, wr.rowIs (w.heap.size + 1 + 1) 27 N (fun j => .float .f32 (g j)) ∧
    Blk wr w.heap.size 26 #[.int .i64 X, .int .i64 Y, .int .i64 p, .int .i64 q, .slice A n c] ∧
    Blk wr (w.heap.size + 1) 26 #[.int .i64 0, .int .i64 0, .int .i64 0, .int .i64 0, .slice none 0 0] ∧ Below w.heap.size w wr

def Fitted (w : World) (e : Ending) (w' : World) : Prop := ∃ (X Y p q : Int) (b N : Nat) (g : Nat → Nat), e = .returned (frm X Y p q (some ⟨b, 0, none⟩) N N) ∧
  -1000 ≤ X ∧ X ≤ 1000 ∧ -1000 ≤ Y ∧ Y ≤ 1000 ∧ 1 ≤ p ∧ p ≤ 8 ∧ 1 ≤ q ∧ q ≤ 8 ∧ (N : Int) = 4 * p * q ∧ w.heap.size ≤ b ∧ b < w'.heap.size ∧ Rd w' b 0 N g ∧ Below w.heap.size w w'

set_option maxRecDepth 100000 in
set_option maxHeartbeats 2000000 in
theorem fit_any (x y a b : Int) (A : Option Addr) (n c : Nat) (F : Nat → Nat) (w : World) (hF : Src w A n F) :
    Calls Try.prog 21 #[frm x y a b A n c] w (Fitted w) := by
  obtain ⟨a1, a2⟩ := and7 a
  obtain ⟨b1, b2⟩ := and7 b
  obtain ⟨p, hp⟩ : ∃ p, 1 + bits .and .i64 a 7 = p := ⟨_, rfl⟩
  obtain ⟨q, hq⟩ : ∃ q, 1 + bits .and .i64 b 7 = q := ⟨_, rfl⟩
  have p1 : 1 ≤ p := by omega
  have p2 : p ≤ 8 := by omega
  have q1 : 1 ≤ q := by omega
  have q2 : q ≤ 8 := by omega
  obtain ⟨N, hN⟩ : ∃ N : Nat, 4 * p * q = N := by
    have := (prod_le p1 (by omega) q1 (by omega)).1
    refine ⟨(4 * p * q).toNat, ?_⟩
    rw [Int.mul_assoc]; omega
  have HN : Hid ((N : Int) = 4 * p * q) := hN.symm
  have hN2 : (N : Int) ≤ 256 := by
    rw [← hN]
    have := Int.mul_le_mul p2 q2 (by omega) (by omega)
    rw [Int.mul_assoc]; omega
  have hN3 : N ≤ 256 := by omega
  have X1 : -1000 ≤ min (max x (-1000)) 1000 ∧ min (max x (-1000)) 1000 ≤ 1000 := by omega
  have Y1 : -1000 ≤ min (max y (-1000)) 1000 ∧ min (max y (-1000)) 1000 ≤ 1000 := by omega
  have HX := hid X1
  have HY := hid Y1
  clear X1 Y1
  have hmk := run_make_row' (P := Try.prog) 24 27 (.float .f32 0) 4 Try.underlying24 info_f32 rfl .i64 .i64 N (by omega) (by omega)
  have HF := hid hF
  clear hF
  go_enter Try.func21, Try.ntmps21
  go_wp2
  clear hmk hN hp hq a1 a2 b1 b2
  go_loopw [44] (fun i wr => ∃ k : Nat, k ≤ N ∧ i = .int .i64 k ∧ FitRel w N (min (max x (-1000)) 1000) (min (max y (-1000)) 1000) p q A n c wr) (fun i _ => N - (intOf i).toNat)
  case atStart =>
    refine ⟨0, Nat.zero_le _, rfl, fun _ => 0, ?_, ?_, ?_, ?_⟩
    · exact rowIs_made_at _ _ _ _ (by simp)
    · exact ((Blk.new _ _ _).alloc _).alloc _
    · exact (Blk.new_at _ _ _ (by simp)).alloc _
    · exact (((Below.refl _ _).alloc (Nat.le_refl _) _).alloc (by simp) _).alloc (by simp; omega) _
  case round =>
    obtain ⟨k, hk, rfl, g, hrow, hb0, hb1, hbel⟩ := hrel
    have HR := hid hrow
    have HB0 := hid hb0
    have HB1 := hid hb1
    have HB := hid hbel
    have c4 := hb0.cell 4
    simp at c4
    by_cases hlt : k < N
    · by_cases hn : 0 < n
      · obtain ⟨ba, oa, rfl, hba, hR⟩ := HF.out hn
        have n0 : ((n : Int) == 0) = false := by rw [beq_eq_false_iff_ne]; omega
        have hcl := hrow.cell hlt
        have hfr := hrow.frozen k
        have hkn : k % n < n := Nat.mod_lt _ hn
        have hsrc : wr.cell? ⟨ba, oa + k % n, none⟩ = some (.float .f32 (F (k % n))) := by rw [hbel.cell (p := ⟨ba, oa + k % n, none⟩) hba]; exact hR _ hkn
        clear hrow hb0 hb1 hbel hR
        go_wp2
        go_region
        all_goals
          go_wp2
          go_roundw
          case rel =>
            refine ⟨k + 1, by omega, by go_num, fun j => if j = k then F (k % n) else g j, ?_, ?_, ?_, ?_⟩
            · refine World.rowIs.congr ((HR.out.set k _).drew) (fun i _ => ?_)
              by_cases hik : i = k <;> simp [hik]
            · exact (HB0.out.far (by simp; omega) _)
            · exact (HB1.out.far (by simp) _)
            · exact (HB.out.setCell (by simp; omega) _).drew
          case measure => simp [intOf]; omega
      · have hn0 : n = 0 := by omega
        subst hn0
        clear hrow hb0 hb1 hbel
        go_wp2
        go_roundw
        case rel => exact ⟨k + 1, by omega, by go_num, g, HR.out, HB0.out, HB1.out, HB.out⟩
        case measure => simp [intOf]; omega
    · have : k = N := by omega
      subst this
      have r0 := hb1.cell 0
      have r1 := hb1.cell 1
      have r2 := hb1.cell 2
      have r3 := hb1.cell 3
      have r4 := hb1.cell 4
      have c0 := hb0.cell 0
      have c1 := hb0.cell 1
      have c2 := hb0.cell 2
      have c3 := hb0.cell 3
      have f0 := fun i => hb0.frozen i
      have f1 := fun i => hb1.frozen i
      simp at r0 r1 r2 r3 r4 c0 c1 c2 c3
      clear hrow hb0 hb1 hbel
      go_wp2
      have hrow2 := HR.out
      have hblk := (HB1.out.far (p := ⟨w.heap.size, 4, none⟩) (by simp) (.slice (some ⟨w.heap.size + 1 + 1, 0, none⟩) k k)).set5 (.int .i64 (min (max x (-1000)) 1000)) (.int .i64 (min (max y (-1000)) 1000)) (.int .i64 p) (.int .i64 q) (.slice (some ⟨w.heap.size + 1 + 1, 0, none⟩) k k)
      refine bodyPost_ret (v := frm (min (max x (-1000)) 1000) (min (max y (-1000)) 1000) p q (some ⟨w.heap.size + 1 + 1, 0, none⟩) k k) (results_cell_row rfl _ _ _ _ _ _ _ rfl hblk Try.underlying26 rfl (by kernel_rfl)) rfl ?_
      refine ⟨_, _, p, q, w.heap.size + 1 + 1, k, g, rfl, HX.out.1, HX.out.2, HY.out.1, HY.out.2, p1, p2, q1, q2, HN.out, by omega, ?_, ?_, ?_⟩
      · have := hrow2.lt
        simpa using this
      · intro i hi
        rw [Nat.zero_add]
        have := (((((((hrow2.setOther (a := ⟨w.heap.size, 4, none⟩) (by simp; omega) (.slice (some ⟨w.heap.size + 1 + 1, 0, none⟩) k k)).setOther (a := ⟨w.heap.size + 1, 0, none⟩) (by simp) (.int .i64 (min (max x (-1000)) 1000)))).setOther (a := ⟨w.heap.size + 1, 1, none⟩) (by simp) (.int .i64 (min (max y (-1000)) 1000))).setOther (a := ⟨w.heap.size + 1, 2, none⟩) (by simp) (.int .i64 p)).setOther (a := ⟨w.heap.size + 1, 3, none⟩) (by simp) (.int .i64 q)).setOther (a := ⟨w.heap.size + 1, 4, none⟩) (by simp) (.slice (some ⟨w.heap.size + 1 + 1, 0, none⟩) k k))
        exact this.cell hi
      · exact (((((HB.out.setCell (by simp) _).setCell (by simp) _).setCell (by simp) _).setCell (by simp) _).setCell (by simp) _).setCell (by simp) _
end Go.Proofs.Ytcklpmjeimjgmaa
