/-
  Colours: HueApart of the reference, Luma and Saturate in both; pixels compared.
-/
import Derived.Test.YtcmakibomdinbaaCLuma
namespace Go.Proofs.Ytcmakibomdinbaa
open Go.RowKit
attribute [local go_sem] run_store_float

set_option maxRecDepth 100000 in
set_option maxHeartbeats 1000000 in
theorem apartr_any (a b : Nat) (w : World) : Calls Try.prog 54 #[.float .f32 a, .float .f32 b] w fun e w' => e = .returned (.float .f32 (apartC a b)) ∧ Below w.heap.size w w' := by
  by_cases hf : (fin a && fin b) = true
  · have ha : fin a = true := by simp at hf; exact hf.1
    have hb : fin b = true := by simp at hf; exact hf.2
    have HC : RowKit.Hid (apartC a b = cl (cop .sub .f32 (cop .sub .f32 a b) (flC (cop .add .f32 (cop .sub .f32 a b) 1056964608)) % 2147483648)) := hid (by unfold apartC; rw [if_pos hf])
    have nd := sub_num ha hb
    obtain ⟨s1, s2⟩ := fop_cop nd
    have CD := hid (cn_of_not nd)
    have na := add_num nd half_fin
    obtain ⟨s3, s4⟩ := fop_cop na
    have NA := hid (isN_wid _ na)
    obtain ⟨u1, u2⟩ := widF _ na
    obtain ⟨u3, u4⟩ := flF _ na
    have fl0 : RowKit.Hid (cn .f32 (flC (cop .add .f32 (cop .sub .f32 a b) 1056964608)) = flC (cop .add .f32 (cop .sub .f32 a b) 1056964608)) := hid (by
      apply cn_of_not
      cases hr : FloatKind.f32.format.read (cop .add .f32 (cop .sub .f32 a b) 1056964608) with
      | nan s t => unfold isN at na; rw [hr] at na; cases na
      | number s m p => exact (ffloor ⟨s, m, p, hr, rfl⟩).2.not_nan
      | infinity s =>
        have e : wid (cop .add .f32 (cop .sub .f32 a b) 1056964608) = FloatKind.f64.encode (.infinity s) := by
          unfold wid
          have : FloatKind.f32.decode (cop .add .f32 (cop .sub .f32 a b) 1056964608) = .infinity s := hr
          rw [this]
        unfold flC
        rw [e]
        cases s <;> decide +kernel)
    clear hf nd na
    go_enter Try.func54, Try.ntmps54
    go_wp2_with (first
      | (go_at_call 103; refine (isNum_any _ _).mono ?_; rintro e w' ⟨rfl, k, rfl⟩)
      | (go_at_call 114; refine (floor_any _ NA.out _).mono ?_; rintro e w' ⟨rfl, rfl⟩)
      | (go_at_call 115; refine (absr_any _ (fop_lt _ _ _ _) _).mono ?_; rintro e w' ⟨rfl, rfl⟩)
      | (go_at_call 35; refine (fix_any _ _).mono ?_; rintro e w' ⟨rfl, rfl⟩))
    go_ret
    refine ⟨ret_f ?_, ends_below (Below.refl _ _) ⟨_, rfl⟩⟩
    rw [HC.out, ← cn_mod, cn_fop, CD.out, fl0.out]
  · have HC : RowKit.Hid (apartC a b = 2143289344) := hid (by unfold apartC; rw [if_neg hf])
    have hf' : (fin a && fin b) = false := by simpa using hf
    cases ha : fin a
    case' true =>
      have hb : fin b = false := by rw [ha] at hf'; simpa using hf'
    all_goals
      clear hf hf'
      go_enter Try.func54, Try.ntmps54
      go_wp2_with (first
        | (go_at_call 103; refine (isNum_any _ _).mono ?_; rintro e w' ⟨rfl, k, rfl⟩)
        | (go_at_call 96; refine (theNaN_any _).mono ?_; rintro e w' ⟨rfl, rfl⟩))
      go_ret
      exact ⟨ret_f HC.out.symm, ends_below (Below.refl _ _) ⟨_, rfl⟩⟩

/-- Three singles. -/
def tri (g : Nat → Nat) : Value := .agg #[.float .f32 (g 0), .float .f32 (g 1), .float .f32 (g 2)]
theorem tri_cells (g : Nat → Nat) : tri g = .agg #[.float .f32 (g 0), .float .f32 (g 1), .float .f32 (g 2)] := rfl
def lumaC (g f : Nat → Nat) : Nat :=
  cop .add .f32 (cop .add .f32 (cop .mul .f32 (cn .f32 (g 0)) (cn .f32 (f 0))) (cop .mul .f32 (cn .f32 (g 1)) (cn .f32 (f 1)))) (cop .mul .f32 (cn .f32 (g 2)) (cn .f32 (f 2)))

set_option maxRecDepth 100000 in
theorem lumap_any (g f : Nat → Nat) (w : World) : Calls Try.prog 56 #[tri g, pix f] w fun e w' => e = .returned (.float .f32 (lumaC g f)) ∧ Below w.heap.size w w' := by
  rw [tri_cells, pix_cells]
  go_enter Try.func56, Try.ntmps56
  go_wp2_with (go_at_call 77; refine (clean_any _ _).mono ?_; rintro e w' ⟨rfl, rfl⟩)
  go_ret
  refine ⟨ret_f ?_, ends_below (((Below.refl _ _).alloc (Nat.le_refl _) _).alloc (by simp) _) ⟨_, rfl⟩⟩
  unfold cl; simp only [cn_fop]; rfl

set_option maxRecDepth 100000 in
theorem lumar_any (g f : Nat → Nat) (w : World) : Calls Try.prog 57 #[tri g, pix f] w fun e w' => e = .returned (.float .f32 (lumaC g f)) ∧ Below w.heap.size w w' := by
  rw [tri_cells, pix_cells]
  go_enter Try.func57, Try.ntmps57
  go_wp2_with (go_at_call 35; refine (fix_any _ _).mono ?_; rintro e w' ⟨rfl, rfl⟩)
  go_ret
  refine ⟨ret_f ?_, ends_below (((Below.refl _ _).alloc (Nat.le_refl _) _).alloc (by simp) _) ⟨_, rfl⟩⟩
  unfold cl; simp only [cn_fop]; rfl

/-- A colour moved from a luma. -/
def moveC (l a c : Nat) : Nat := cop .add .f32 (cn .f32 l) (cop .mul .f32 (cop .sub .f32 (cn .f32 c) (cn .f32 l)) (cn .f32 a))
def satuC (l a : Nat) (f : Nat → Nat) (j : Nat) : Nat := if j < 3 then moveC l a (f j) else cl (f j)

/-- The relation of the loop of Saturate. -/
structure SRel (l a : Nat) (f : Nat → Nat) (w : World) (k : Nat) (R : Nat → Nat) (wr : World) : Prop where
  done : ∀ j, j < k → cl (R j) = moveC l a (f j)
  rest : ∀ j, k ≤ j → R j = f j
  b1 : Blk wr (w.heap.size + 1) 24 (pixA R)
  b2 : Blk wr (w.heap.size + 1 + 1) 24 zpix
  be : Below w.heap.size w wr
theorem SRel.step {l a : Nat} {f : Nat → Nat} {w wr : World} {k r : Nat} {R : Nat → Nat} (h : SRel l a f w k R wr) (hk : k < 3) (hr : cl r = moveC l a (f k)) (n : Nat) : ∃ R', SRel l a f w (k + 1) R' ((wr.setCell ⟨w.heap.size + 1, k, none⟩ (.float .f32 r)).drewN n) := by
  refine ⟨fun j => if j = k then r else R j, ?_, ?_, ?_, ?_, ?_⟩
  · intro j hj
    by_cases e : j = k
    · subst e; rw [if_pos rfl]; exact hr
    · rw [if_neg e]; exact h.done j (by omega)
  · intro j hj
    rw [if_neg (by omega)]
    exact h.rest j (by omega)
  · have := h.b1.set_ k (.float .f32 r)
    have hk3 : k = 0 ∨ k = 1 ∨ k = 2 := by omega
    refine Blk.drewN ?_ n
    rcases hk3 with rfl | rfl | rfl <;> simpa [pixA] using this
  · exact (h.b2.far (by simp) _).drewN n
  · exact below_drewN (h.be.setCell (by simp) _) n
def SSome (l a : Nat) (f : Nat → Nat) (w : World) (k : Nat) (wr : World) : Prop := ∃ R, SRel l a f w k R wr

set_option maxRecDepth 100000 in
set_option maxHeartbeats 2000000 in
theorem satup_any (g f : Nat → Nat) (a : Nat) (w : World) : Calls Try.prog 58 #[tri g, pix f, .float .f32 a] w fun e w' => e = .returned (pix (satuC (lumaC g f) a f)) ∧ Below w.heap.size w w' := by
  rw [tri_cells, pix_cells]
  go_enter Try.func58, Try.ntmps58
  go_wp2_with fail
  refine (lumap_any g f _).mono ?_
  rintro e w1 ⟨rfl, hb1⟩
  have hz : SSome (lumaC g f) a f w 0 w1 := by
    refine ⟨f, fun j hj => by omega, fun j _ => rfl, ?_, ?_, ?_⟩
    · exact Blk.below ((Blk.new_at _ _ _ (by simp)).alloc _) hb1 (by simp)
    · exact Blk.below (Blk.new_at _ _ _ (by simp)) hb1 (by simp)
    · exact ((((Below.refl _ _).alloc (Nat.le_refl _) _).alloc (by simp) _).alloc (by simp; omega) _).trans (hb1.mono (by simp; omega))
  have HZ := hid hz
  clear hz hb1
  go_wp2_with fail
  go_loopw [15] (fun i wr => ∃ k : Nat, k ≤ 3 ∧ i = .int .i64 k ∧ SSome (lumaC g f) a f w k wr) (fun i _ => 3 - (intOf i).toNat)
  case atStart => exact ⟨0, by omega, rfl, HZ.out⟩
  case round =>
    obtain ⟨k, hk, rfl, hrel⟩ := hrel
    clear HZ
    obtain ⟨R, hR⟩ := hrel
    have HR := hid hR
    by_cases hlt : k < 3
    · have c1 := hR.b1.lt
      have c2 := hR.b1.frozen k
      have c4 : wr.cell? ⟨w.heap.size + 1, k, none⟩ = some (.float .f32 (f k)) := by
        rw [hR.b1.cell k]
        have hr := hR.rest k (Nat.le_refl _)
        have hk3 : k = 0 ∨ k = 1 ∨ k = 2 := by omega
        rcases hk3 with rfl | rfl | rfl <;> simp [pixA, hr]
      have k1 : (0 : Int) ≤ (k : Int) := by omega
      have k2 : (k : Int) < 3 := by omega
      have k3 : (k : Int) < 4 := by omega
      clear hR
      go_wp2_with fail
      go_roundw
      case rel => exact ⟨k + 1, by omega, by go_num, HR.out.step hlt (by unfold cl; simp only [cn_fop]; rfl) _⟩
      case measure => simp [intOf]; omega
    · obtain rfl : k = 3 := by omega
      have e0 := hR.b1.cell 0
      have e1 := hR.b1.cell 1
      have e2 := hR.b1.cell 2
      have e3 := hR.b1.cell 3
      simp [pixA] at e0 e1 e2 e3
      clear hR
      go_wp2_with fail
      refine (cleaned4 _ _ _ _ _).mono ?_
      rintro e w2 ⟨rfl, hb2⟩
      have hz : Blk w2 (w.heap.size + 1 + 1) 24 zpix := HR.out.b2.below hb2 HR.out.b2.lt
      have hbe : Below w.heap.size w w2 := below_to HR.out.be hb2
      have HB := hid hz
      have HE := hid hbe
      have z0 := hz.cell 0
      have z1 := hz.cell 1
      have z2 := hz.cell 2
      have z3 := hz.cell 3
      have y0 := hz.frozen 0
      have y1 := hz.frozen 1
      have y2 := hz.frozen 2
      have y3 := hz.frozen 3
      simp at z0 z1 z2 z3
      clear hb2 hz hbe
      go_wp2_with fail
      refine bodyPost_ret (results_cell_row rfl _ _ _ _ _ _ _ rfl (blk_set4 HB.out _ _ _ _) Try.underlying24 rfl (by kernel_rfl)) rfl ⟨?_, below_set4 HE.out (by omega) _ _ _ _⟩
      have h3 := HR.out.rest 3 (by omega)
      exact congrArg _ (pix_four (HR.out.done 0 (by omega)) (HR.out.done 1 (by omega)) (HR.out.done 2 (by omega)) (by rw [h3]; rfl))

/-- The function value of SaturatedOf. -/
theorem satF_any (l a c bl ba : Nat) (w : World) (hl : Blk w bl 22 #[.float .f32 l]) (ha : Blk w ba 22 #[.float .f32 a]) :
    Calls Try.prog 117 #[.float .f32 c, .pointer (some ⟨bl, 0, none⟩), .pointer (some ⟨ba, 0, none⟩)] w fun e w' => e = .returned (.float .f32 (moveC l a c)) ∧ ∃ n, w' = w.drewN n := by
  have d0 := hl.cell 0
  have d1 := ha.cell 0
  simp at d0 d1
  clear hl ha
  go_enter Try.func117, Try.ntmps117
  go_wp2_with (go_at_call 35; refine (fix_any _ _).mono ?_; rintro e w' ⟨rfl, rfl⟩)
  go_ret
  refine ⟨ret_f ?_, _, rfl⟩
  unfold cl; simp only [cn_fop]; rfl

end Go.Proofs.Ytcmakibomdinbaa
