/-
  like and matteOf.
-/
import Derived.Test.YtcklpmjeimjgmaaFPlLaw
import Derived.Deep.RegionHeld3
namespace Go.Proofs.Ytcklpmjeimjgmaa
open Go.RowKit
attribute [local go_sem] run_store_float

/-- The relation of like's loop. -/
def LRel (w : World) (X Y x y a b : Int) (p q N n c : Nat) (A : Option Addr) (wr : World) : Prop :=
  ∃ g : Nat → Nat, wr.rowIs (w.heap.size + 3) 27 N (fun j => .float .f32 (g j)) ∧ Blk wr w.heap.size 26 #[.int .i64 x, .int .i64 y, .int .i64 a, .int .i64 b, .slice A n c] ∧
    Blk wr (w.heap.size + 1) 23 #[.int .i64 X, .int .i64 Y, .int .i64 p, .int .i64 q] ∧ Blk wr (w.heap.size + 2) 26 #[.int .i64 0, .int .i64 0, .int .i64 0, .int .i64 0, .slice none 0 0] ∧ Below w.heap.size w wr

set_option maxRecDepth 100000 in
set_option maxHeartbeats 2000000 in
theorem like_any (X Y x y a b : Int) (p q N n c : Nat) (A : Option Addr) (F : Nat → Nat) (w : World) (hn : 0 < n) (hN : N = 4 * (p * q)) (hp : p ≤ 8) (hq : q ≤ 8) (hF : Src w A n F) :
    Calls Try.prog 44 #[frm x y a b A n c, reg X Y p q] w fun e w' => ∃ g, Framed w X Y p q N g e w' := by
  have hN2 : (4 : Int) * (p : Int) * (q : Int) = (N : Int) := by rw [hN, Int.mul_assoc]; simp
  have hle : p * q ≤ 8 * 8 := Nat.mul_le_mul hp hq
  have hN3 : N ≤ 256 := by omega
  have hmk := run_make_row' (P := Try.prog) 24 27 (.float .f32 0) 4 Try.underlying24 info_f32 rfl .i64 .i64 N (by omega) (by omega)
  have HF := hid hF
  clear hF hN
  go_enter Try.func44, Try.ntmps44
  go_wp2_with fail
  clear hmk hN2
  go_loopw [18] (fun i wr => ∃ k : Nat, k ≤ N ∧ i = .int .i64 k ∧ LRel w X Y X Y p q p q N n c A wr) (fun i _ => N - (intOf i).toNat)
  case atStart =>
    refine ⟨0, Nat.zero_le _, rfl, fun _ => 0, ?_, ?_, ?_, ?_, ?_⟩
    · exact rowIs_made_at _ _ _ _ (by simp)
    · exact (((Blk.new_at _ _ _ rfl).alloc _).alloc _).alloc _
    · exact ((Blk.new_at _ _ _ (by simp)).alloc _).alloc _
    · exact (Blk.new_at _ _ _ (by simp)).alloc _
    · exact ((((Below.refl _ _).alloc (Nat.le_refl _) _).alloc (by simp) _).alloc (by simp; omega) _).alloc (by simp; omega) _
  case round =>
    obtain ⟨k, hk, rfl, g, hrow, hb0, hb1, hb2, hbel⟩ := hrel
    have HR := hid hrow
    have HB0 := hid hb0
    have HB1 := hid hb1
    have HB2 := hid hb2
    have HB := hid hbel
    have c4 := hb0.cell 4
    simp at c4
    by_cases hlt : k < N
    · obtain ⟨ba, oa, rfl, hba, hR⟩ := HF.out hn
      have n0 : ((n : Int) == 0) = false := by rw [beq_eq_false_iff_ne]; omega
      have hcl := hrow.cell hlt
      have hfr := hrow.frozen k
      have hkn : k % n < n := Nat.mod_lt _ hn
      have hsrc : wr.cell? ⟨ba, oa + k % n, none⟩ = some (.float .f32 (F (k % n))) := by rw [hbel.cell (p := ⟨ba, oa + k % n, none⟩) hba]; exact hR _ hkn
      clear hrow hb0 hb1 hb2 hbel hR
      go_wp2_with fail
      go_region
      all_goals
        go_wp2_with fail
        go_roundw
        case rel =>
          refine ⟨k + 1, by omega, by go_num, fun j => if j = k then F (k % n) else g j, ?_, ?_, ?_, ?_, ?_⟩
          · refine World.rowIs.congr ((HR.out.set k _).drew) (fun i _ => ?_)
            by_cases hik : i = k <;> simp [hik]
          · exact (HB0.out.far (by first | (simp; done) | (simp; omega)) _)
          · exact (HB1.out.far (by first | (simp; done) | (simp; omega)) _)
          · exact (HB2.out.far (by first | (simp; done) | (simp; omega)) _)
          · exact (HB.out.setCell (by first | (simp; done) | (simp; omega)) _).drew
        case measure => simp [intOf]; omega
    · have : k = N := by omega
      subst this
      have r0 := hb2.cell 0
      have r1 := hb2.cell 1
      have r2 := hb2.cell 2
      have r3 := hb2.cell 3
      have r4 := hb2.cell 4
      have c0 := hb0.cell 0
      have c1 := hb0.cell 1
      have c2 := hb0.cell 2
      have c3 := hb0.cell 3
      have f0 := fun i => hb0.frozen i
      have f1 := fun i => hb2.frozen i
      simp at r0 r1 r2 r3 r4 c0 c1 c2 c3
      clear hrow hb0 hb1 hb2 hbel
      go_wp2_with fail
      have hrow2 := HR.out
      have hblk := (HB2.out.far (p := ⟨w.heap.size, 4, none⟩) (by simp) (.slice (some ⟨w.heap.size + 3, 0, none⟩) k k)).set5 (.int .i64 X) (.int .i64 Y) (.int .i64 p) (.int .i64 q) (.slice (some ⟨w.heap.size + 3, 0, none⟩) k k)
      refine bodyPost_ret (v := frm X Y p q (some ⟨w.heap.size + 3, 0, none⟩) k k) (results_cell_row rfl _ _ _ _ _ _ _ rfl hblk Try.underlying26 rfl (by kernel_rfl)) rfl ?_
      refine ⟨g, w.heap.size + 3, k, rfl, Nat.le_refl _, by unfold maxLen; omega, by omega, ?_, ?_, ?_⟩
      · have := hrow2.lt
        simpa [World.setCell] using this
      · intro i hi
        rw [Nat.zero_add]
        have := (((((((hrow2.setOther (a := ⟨w.heap.size, 4, none⟩) (by simp) (.slice (some ⟨w.heap.size + 3, 0, none⟩) k k)).setOther (a := ⟨w.heap.size + 2, 0, none⟩) (by simp) (.int .i64 X)))).setOther (a := ⟨w.heap.size + 2, 1, none⟩) (by simp) (.int .i64 Y)).setOther (a := ⟨w.heap.size + 2, 2, none⟩) (by simp) (.int .i64 p)).setOther (a := ⟨w.heap.size + 2, 3, none⟩) (by simp) (.int .i64 q)).setOther (a := ⟨w.heap.size + 2, 4, none⟩) (by simp) (.slice (some ⟨w.heap.size + 3, 0, none⟩) k k)
        exact this.cell hi
      · exact (((((HB.out.setCell (by first | (simp; done) | (simp; omega)) _).setCell (by first | (simp; done) | (simp; omega)) _).setCell (by first | (simp; done) | (simp; omega)) _).setCell (by first | (simp; done) | (simp; omega)) _).setCell (by first | (simp; done) | (simp; omega)) _).setCell (by first | (simp; done) | (simp; omega)) _

end Go.Proofs.Ytcklpmjeimjgmaa
