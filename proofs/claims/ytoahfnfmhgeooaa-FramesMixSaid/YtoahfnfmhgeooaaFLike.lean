/-
  like and matteOf.
-/
import Derived.Test.YtoahfnfmhgeooaaFPlLaw
import Derived.Deep.RegionHeld3
namespace Go.Proofs.Ytoahfnfmhgeooaa
open Go.RowKit
attribute [local go_sem] run_store_float

/-- The relation of like's loop. -/
def LRel (w : World) (X Y x y a b : Int) (p q N n c : Nat) (A : Option Addr) (wr : World) : Prop :=
  ∃ g : Nat → Nat, wr.rowIs (w.heap.size + 3) 40 N (fun j => .float .f32 (g j)) ∧ Blk wr w.heap.size 39 #[.int .i64 x, .int .i64 y, .int .i64 a, .int .i64 b, .slice A n c] ∧
    Blk wr (w.heap.size + 1) 23 #[.int .i64 X, .int .i64 Y, .int .i64 p, .int .i64 q] ∧ Blk wr (w.heap.size + 2) 39 #[.int .i64 0, .int .i64 0, .int .i64 0, .int .i64 0, .slice none 0 0] ∧ Below w.heap.size w wr

set_option maxRecDepth 100000 in
set_option maxHeartbeats 2000000 in
theorem like_any (X Y x y a b : Int) (p q N n c : Nat) (A : Option Addr) (F : Nat → Nat) (w : World) (hn : 0 < n) (hN : N = 4 * (p * q)) (hp : p ≤ 8) (hq : q ≤ 8) (hF : Src w A n F) :
    Calls Try.prog 50 #[frm x y a b A n c, reg X Y p q] w fun e w' => ∃ g, Framed w X Y p q N g e w' := by
  have hN2 : (4 : Int) * (p : Int) * (q : Int) = (N : Int) := by rw [hN, Int.mul_assoc]; simp
  have hle : p * q ≤ 8 * 8 := Nat.mul_le_mul hp hq
  have hN3 : N ≤ 256 := by omega
  have hmk := run_make_row' (P := Try.prog) 37 40 (.float .f32 0) 4 Try.underlying37 info_f32 rfl .i64 .i64 N (by omega) (by omega)
  have HF := hid hF
  clear hF hN
  go_enter Try.func50, Try.ntmps50
  go_wp2_with fail
  clear hmk hN2
  go_loopw [18] (fun i wr => ∃ k : Nat, k ≤ N ∧ i = .int .i64 k ∧ LRel w X Y X Y p q p q N n c A wr) (fun i _ => N - (intOf i).toNat)
  case atStart =>
    refine ⟨0, Nat.zero_le _, rfl, fun _ => 0, ?_, ?_, ?_, ?_, ?_⟩
    · exact rowIs_made_at _ _ _ _ (by simp)
    · exact (((Blk.new_at _ _ _ rfl).alloc _).alloc _).alloc _
    · exact ((Blk.new_at _ _ _ (by simp)).alloc _).alloc _
    · exact (Blk.new_at _ _ _ (by simp)).alloc _
    · exact ((((Below.refl _ _).alloc (Nat.le_refl _) _).alloc (by simp) _).alloc (by simp; omega) _).alloc (by simp; omega) _
  case round =>
    obtain ⟨k, hk, rfl, g, hrow, hb0, hb1, hb2, hbel⟩ := hrel
    have HR := hid hrow
    have HB0 := hid hb0
    have HB1 := hid hb1
    have HB2 := hid hb2
    have HB := hid hbel
    have c4 := hb0.cell 4
    simp at c4
    by_cases hlt : k < N
    · obtain ⟨ba, oa, rfl, hba, hR⟩ := HF.out hn
      have n0 : ((n : Int) == 0) = false := by rw [beq_eq_false_iff_ne]; omega
      have hcl := hrow.cell hlt
      have hfr := hrow.frozen k
      have hkn : k % n < n := Nat.mod_lt _ hn
      have hsrc : wr.cell? ⟨ba, oa + k % n, none⟩ = some (.float .f32 (F (k % n))) := by rw [hbel.cell (p := ⟨ba, oa + k % n, none⟩) hba]; exact hR _ hkn
      clear hrow hb0 hb1 hb2 hbel hR
      go_wp2_with fail
      go_region
      all_goals
        go_wp2_with fail
        go_roundw
        case rel =>
          refine ⟨k + 1, by omega, by go_num, fun j => if j = k then F (k % n) else g j, ?_, ?_, ?_, ?_, ?_⟩
          · refine World.rowIs.congr ((HR.out.set k _).drew) (fun i _ => ?_)
            by_cases hik : i = k <;> simp [hik]
          · exact (HB0.out.far (by first | (simp; done) | (simp; omega)) _)
          · exact (HB1.out.far (by first | (simp; done) | (simp; omega)) _)
          · exact (HB2.out.far (by first | (simp; done) | (simp; omega)) _)
          · exact (HB.out.setCell (by first | (simp; done) | (simp; omega)) _).drew
        case measure => simp [intOf]; omega
    · have : k = N := by omega
      subst this
      have r0 := hb2.cell 0
      have r1 := hb2.cell 1
      have r2 := hb2.cell 2
      have r3 := hb2.cell 3
      have r4 := hb2.cell 4
      have c0 := hb0.cell 0
      have c1 := hb0.cell 1
      have c2 := hb0.cell 2
      have c3 := hb0.cell 3
      have f0 := fun i => hb0.frozen i
      have f1 := fun i => hb2.frozen i
      simp at r0 r1 r2 r3 r4 c0 c1 c2 c3
      clear hrow hb0 hb1 hb2 hbel
      go_wp2_with fail
      have hrow2 := HR.out
      have hblk := (HB2.out.far (p := ⟨w.heap.size, 4, none⟩) (by simp) (.slice (some ⟨w.heap.size + 3, 0, none⟩) k k)).set5 (.int .i64 X) (.int .i64 Y) (.int .i64 p) (.int .i64 q) (.slice (some ⟨w.heap.size + 3, 0, none⟩) k k)
      refine bodyPost_ret (v := frm X Y p q (some ⟨w.heap.size + 3, 0, none⟩) k k) (results_cell_row rfl _ _ _ _ _ _ _ rfl hblk Try.underlying39 rfl (by kernel_rfl)) rfl ?_
      refine ⟨g, w.heap.size + 3, k, rfl, Nat.le_refl _, by unfold maxLen; omega, by omega, ?_, ?_, ?_⟩
      · have := hrow2.lt
        simpa [World.setCell] using this
      · intro i hi
        rw [Nat.zero_add]
        have := (((((((hrow2.setOther (a := ⟨w.heap.size, 4, none⟩) (by simp) (.slice (some ⟨w.heap.size + 3, 0, none⟩) k k)).setOther (a := ⟨w.heap.size + 2, 0, none⟩) (by simp) (.int .i64 X)))).setOther (a := ⟨w.heap.size + 2, 1, none⟩) (by simp) (.int .i64 Y)).setOther (a := ⟨w.heap.size + 2, 2, none⟩) (by simp) (.int .i64 p)).setOther (a := ⟨w.heap.size + 2, 3, none⟩) (by simp) (.int .i64 q)).setOther (a := ⟨w.heap.size + 2, 4, none⟩) (by simp) (.slice (some ⟨w.heap.size + 3, 0, none⟩) k k)
        exact this.cell hi
      · exact (((((HB.out.setCell (by first | (simp; done) | (simp; omega)) _).setCell (by first | (simp; done) | (simp; omega)) _).setCell (by first | (simp; done) | (simp; omega)) _).setCell (by first | (simp; done) | (simp; omega)) _).setCell (by first | (simp; done) | (simp; omega)) _).setCell (by first | (simp; done) | (simp; omega)) _

/-- The relation of matteOf's loop. -/
structure KRel (w : World) (X Y x y a b : Int) (p q N n c : Nat) (A : Option Addr) (S R : Nat) (wr : World) : Prop where
  row : ∃ g : Nat → Nat, wr.rowIs S 40 N (fun j => .float .f32 (g j))
  b0 : Blk wr w.heap.size 76 #[.int .i64 x, .int .i64 y, .int .i64 a, .int .i64 b, .slice A n c]
  b1 : Blk wr (w.heap.size + 1) 23 #[.int .i64 X, .int .i64 Y, .int .i64 p, .int .i64 q]
  b2 : Blk wr (w.heap.size + 2) 76 zfrm
  r : Blk wr R 76 #[.int .i64 X, .int .i64 Y, .int .i64 p, .int .i64 q, .slice (some ⟨S, 0, none⟩) N N]
  be : Below w.heap.size w wr
  hS : w.heap.size + 2 < S
  hR : w.heap.size + 2 < R
  ne : S ≠ R

set_option maxRecDepth 100000 in
set_option maxHeartbeats 2000000 in
theorem matteOf_any (X Y x y a b : Int) (p q N n c : Nat) (A : Option Addr) (F : Nat → Nat) (w : World) (hN : N = p * q) (hp : p ≤ 8) (hq : q ≤ 8) (hF : Src w A n F) :
    Calls Try.prog 60 #[frm x y a b A n c, reg X Y p q] w fun e w' => ∃ g, Framed w X Y p q N g e w' := by
  have hN2 : (p : Int) * (q : Int) = (N : Int) := by rw [hN]; simp
  have hle : p * q ≤ 8 * 8 := Nat.mul_le_mul hp hq
  have hN3 : N ≤ 64 := by omega
  have hN4 : IntKind.i64.wrap ((p : Int) * (q : Int)) = (N : Int) := by rw [hN2, IntKind.wrap_i64]; omega
  have hmk := run_make_row' (P := Try.prog) 37 40 (.float .f32 0) 4 Try.underlying37 info_f32 rfl .i64 .i64 N (by omega) (by omega)
  have hN5 : IntKind.i64.wrap (N : Int) = (N : Int) := by rw [IntKind.wrap_i64]; omega
  have HF := hid hF
  clear hF hN
  go_enter Try.func60, Try.ntmps60
  go_wp2_with fail
  obtain ⟨wb, hwb⟩ : ∃ wb, wb = ((w.alloc (.cells #[.int .i64 x, .int .i64 y, .int .i64 a, .int .i64 b, .slice A n c] 76)).alloc (.cells #[.int .i64 X, .int .i64 Y, .int .i64 p, .int .i64 q] 23)).alloc (.cells zfrm 76) := ⟨_, rfl⟩
  have b0 : Blk wb w.heap.size 76 #[.int .i64 x, .int .i64 y, .int .i64 a, .int .i64 b, .slice A n c] := by rw [hwb]; exact ((Blk.new_at _ _ _ rfl).alloc _).alloc _
  have b1 : Blk wb (w.heap.size + 1) 23 #[.int .i64 X, .int .i64 Y, .int .i64 p, .int .i64 q] := by rw [hwb]; exact (Blk.new_at _ _ _ (by simp)).alloc _
  have b2 : Blk wb (w.heap.size + 2) 76 zfrm := by rw [hwb]; exact Blk.new_at _ _ _ (by simp)
  have hbe : Below w.heap.size w wb := by rw [hwb]; exact (((Below.refl _ _).alloc (Nat.le_refl _) _).alloc (by simp) _).alloc (by simp; omega) _
  rw [← hwb]
  have e0 := b1.cell 0
  have e1 := b1.cell 1
  have e2 := b1.cell 2
  have e3 := b1.cell 3
  simp at e0 e1 e2 e3
  have HB0 := hid b0
  have HB1 := hid b1
  have HB2 := hid b2
  have HBE := hid hbe
  clear b0 b1 b2 hbe hwb
  go_region_held3 (fun w' => w'.cell? ⟨w.heap.size + 1, 0, none⟩ = some (.int .i64 X) ∧ w'.cell? ⟨w.heap.size + 1, 1, none⟩ = some (.int .i64 Y) ∧ w'.cell? ⟨w.heap.size + 1, 2, none⟩ = some (.int .i64 p) ∧ w'.cell? ⟨w.heap.size + 1, 3, none⟩ = some (.int .i64 q)) (go_keep) (fail)
  all_goals
    rename_i hH
    clear hH e0 e1 e2 e3
    generalize hwz : World.drew _ = wz
    first
      | (have hz : KRel w X Y x y a b p q N n c A wb.heap.size (wb.heap.size + 1) wz := by
           have s1 := HB2.out.lt
           subst hwz
           refine ⟨⟨fun _ => 0, World.rowIs.drew ((rowIs_made_at _ _ _ _ rfl).alloc _)⟩, (HB0.out.alloc _).alloc _, (HB1.out.alloc _).alloc _, (HB2.out.alloc _).alloc _, Blk.new_at _ _ _ (by simp), ((HBE.out.alloc HBE.out.size _).alloc (by have := HBE.out.size; simp; omega) _).drew, by omega, by omega, by omega⟩
         generalize wb.heap.size + 1 = R at *
         generalize wb.heap.size = S at *)
      | (have hz : KRel w X Y x y a b p q N n c A (wb.heap.size + 1) wb.heap.size wz := by
           have s1 := HB2.out.lt
           subst hwz
           refine ⟨⟨fun _ => 0, World.rowIs.drew (rowIs_made_at _ _ _ _ (by simp))⟩, (HB0.out.alloc _).alloc _, (HB1.out.alloc _).alloc _, (HB2.out.alloc _).alloc _, (Blk.new_at _ _ _ rfl).alloc _, ((HBE.out.alloc HBE.out.size _).alloc (by have := HBE.out.size; simp; omega) _).drew, by omega, by omega, by omega⟩
         generalize wb.heap.size + 1 = S at *
         generalize wb.heap.size = R at *)
    have HZ := hid hz
    have r4 := hz.r.cell 4
    simp at r4
    clear hz hwz hmk hN2 hN4 hN5
    go_wp2_with fail
    clear r4
    go_loopw [18] (fun i wr => ∃ k : Nat, k ≤ N ∧ i = .int .i64 k ∧ KRel w X Y x y a b p q N n c A S R wr) (fun i _ => N - (intOf i).toNat)
    case atStart => exact ⟨0, Nat.zero_le _, rfl, HZ.out⟩
    case round =>
      clear HZ
      obtain ⟨k, hk, rfl, hrel⟩ := hrel
      have HL := hid hrel
      have c4 := hrel.b0.cell 4
      have r4 := hrel.r.cell 4
      simp at c4 r4
      by_cases hlt : k < N
      · obtain ⟨g, hrow⟩ := hrel.row
        by_cases hn : 0 < n
        · obtain ⟨ba, oa, rfl, hba, hRa⟩ := HF.out hn
          have n0 : ((n : Int) == 0) = false := by rw [beq_eq_false_iff_ne]; omega
          have hcl := hrow.cell hlt
          have hfr := hrow.frozen k
          have hkn : k % n < n := Nat.mod_lt _ hn
          have hsrc : wr.cell? ⟨ba, oa + k % n, none⟩ = some (.float .f32 (F (k % n))) := by rw [hrel.be.cell (p := ⟨ba, oa + k % n, none⟩) hba]; exact hRa _ hkn
          have HRW := hid hrow
          clear hrel hrow hRa
          go_wp2_with fail
          go_region
          all_goals
            go_wp2_with fail
            go_roundw
            case rel =>
              have h1 := HL.out.hS
              have h2 := HL.out.ne
              refine ⟨k + 1, by omega, by go_num, ⟨fun j => if j = k then F (k % n) else g j, World.rowIs.congr ((HRW.out.set k _).drew) (fun i _ => ?_)⟩, HL.out.b0.far (by simp; omega) _, HL.out.b1.far (by simp; omega) _, HL.out.b2.far (by simp; omega) _, HL.out.r.far (by simpa using fun e => h2 e.symm) _, (HL.out.be.setCell (by simp; omega) _).drew, h1, HL.out.hR, h2⟩
              by_cases hik : i = k <;> simp [hik]
            case measure => simp [intOf]; omega
        · have hn0 : n = 0 := by omega
          subst hn0
          clear hrel hrow
          go_wp2_with fail
          go_roundw
          case rel => exact ⟨k + 1, by omega, by go_num, HL.out⟩
          case measure => simp [intOf]; omega
      · have hk5 : k = N := by omega
        subst hk5
        obtain ⟨g, hrow⟩ := hrel.row
        have e0 := hrel.r.cell 0
        have e1 := hrel.r.cell 1
        have e2 := hrel.r.cell 2
        have e3 := hrel.r.cell 3
        have z0 := hrel.b2.cell 0
        have z1 := hrel.b2.cell 1
        have z2 := hrel.b2.cell 2
        have z3 := hrel.b2.cell 3
        have z4 := hrel.b2.cell 4
        have fz := fun i => hrel.b2.frozen i
        simp at e0 e1 e2 e3 z0 z1 z2 z3 z4
        have hblk := hrel.b2.set5 (.int .i64 X) (.int .i64 Y) (.int .i64 p) (.int .i64 q) (.slice (some ⟨S, 0, none⟩) k k)
        have HBK := hid hblk
        have HRW := hid hrow
        clear hblk hrel hrow
        go_wp2_with fail
        refine bodyPost_ret (v := frm X Y p q (some ⟨S, 0, none⟩) k k) (results_cell_row rfl _ _ _ _ _ _ _ rfl HBK.out Try.underlying76 rfl (by kernel_rfl)) rfl ?_
        have h1 := HL.out.hS
        have h2 := HRW.out.lt
        refine ⟨g, S, k, rfl, Nat.le_refl _, by unfold maxLen; omega, by omega, by rw [size_set5]; exact h2, ?_, below_set5 HL.out.be (by omega) _ _ _ _ _⟩
        intro i hi
        have e : ∀ (w : World) (o : Nat) (u : Value) (g : Nat), S ≠ g → (w.setCell ⟨g, o, none⟩ u).cell? ⟨S, 0 + i, none⟩ = w.cell? ⟨S, 0 + i, none⟩ := fun w o u g hg =>
          World.cell?_setCell_other w ⟨g, o, none⟩ ⟨S, 0 + i, none⟩ u (fun e => hg (by injection e with e1; exact e1.symm))
        have hS : S ≠ w.heap.size + 2 := by omega
        rw [e _ _ _ _ hS, e _ _ _ _ hS, e _ _ _ _ hS, e _ _ _ _ hS, e _ _ _ _ hS, Nat.zero_add, HRW.out.cell hi]
end Go.Proofs.Ytoahfnfmhgeooaa
