/-
  Compress of the program.
-/
import Derived.Test.YthoiiccecneefaaQPc
import Derived.Lib.ItoaWalk
import Derived.Deep.CutBlock
namespace Go.Proofs.Ythoiiccecneefaa
open Go.RowKit Go.Shelf
attribute [local go_sem] run_store_float

abbrev zpx : Array Value := #[.float .f32 0, .float .f32 0, .float .f32 0, .float .f32 0]
def threeB (P : Nat → Nat) : Bool := fin (P 0) && fin (P 1) && fin (P 2)
/-- Does a pixel stay as it is? -/
def stayB (P : Nat → Nat) : Bool := !threeB P || !gtB (gre (P 0) (P 1) (P 2)) 0
/-- A compressed pixel. -/
def cpP (P : Nat → Nat) (f : Nat) : Nat → Nat := col P fun k => if stayB P = true then cl (P k) else cmpC (gre (P 0) (P 1) (P 2)) (P k) f
def cpE (f : Nat) : Int := if fin f = true then (if frmB f = true then 0 else 3) else 2

theorem areOne_any (b v : Nat) {t : TypeId} (w : World) (h : Blk w b t #[.float .f32 v]) : Calls Try.prog 74 #[.slice (some ⟨b, 0, none⟩) 1 1] w fun e w' => e = .returned (.bool (fin v)) ∧ w = w' := by
  have h1 := areNumbers_any b 0 1 1 (fun _ => v) w (by omega) (fun i hi => by
    have : i = 0 := by omega
    subst this
    exact h.cell 0)
  have e : allB (fun i => fin ((fun _ => v) i)) 1 = fin v := by simp [allB]
  rwa [e] at h1
theorem areTwo_any (b u v : Nat) {t : TypeId} (w : World) (h : Blk w b t #[.float .f32 u, .float .f32 v]) : Calls Try.prog 74 #[.slice (some ⟨b, 0, none⟩) 2 2] w fun e w' => e = .returned (.bool (fin u && fin v)) ∧ w = w' := by
  have h1 := areNumbers_any b 0 2 2 (fun k => if k = 0 then u else v) w (by omega) (fun i hi => by
    have : i = 0 ∨ i = 1 := by omega
    rcases this with rfl | rfl
    · exact h.cell 0
    · exact h.cell 1)
  rwa [two_numbers] at h1
theorem areThree_any (b : Nat) (P : Nat → Nat) {t : TypeId} (w : World) (h : Blk w b t (pixA P)) : Calls Try.prog 74 #[.slice (some ⟨b, 0, none⟩) 3 4] w fun e w' => e = .returned (.bool (threeB P)) ∧ w = w' := by
  have h1 := areNumbers_any b 0 3 4 P w (by omega) (fun i hi => by
    have : i = 0 ∨ i = 1 ∨ i = 2 := by omega
    rcases this with rfl | rfl | rfl
    · exact h.cell 0
    · exact h.cell 1
    · exact h.cell 2)
  have e : allB (fun i => fin (P i)) 3 = threeB P := by simp [allB, threeB]
  rwa [e] at h1

theorem enters_compr1 (args : Array Value) (w : World) : (callFunc 87 args).run Try.prog w = .ok (.enter 87 args) w := enters_of Try.func87 (by kernel_rfl) rfl args w
theorem compr1_stay (i : Int) (c bs ba bf : Nat) (w : World) (hs : Blk w bs 4 #[.bool true]) :
    Calls Try.prog 87 #[.int .i64 i, .float .f32 c, .pointer (some ⟨bs, 0, none⟩), .pointer (some ⟨ba, 0, none⟩), .pointer (some ⟨bf, 0, none⟩)] w (Gave w (cl c)) := by
  have s0 := hs.cell 0
  simp at s0
  clear hs
  go_enter Try.func87, Try.ntmps87
  go_wp2_with fail
  go_ret
  exact ⟨_, rfl, rfl, Below.refl _ _⟩
theorem compr1_go (i : Int) (a c f bs ba bf : Nat) (w : World) (ha : gtB a 0 = true) (hfa : fin a = true) (hc : fin c = true) (hf : fin f = true) (hfr : frmB f = true) (hs : Blk w bs 4 #[.bool false]) (hba : Blk w ba 40 #[.float .f32 a]) (hbf : Blk w bf 40 #[.float .f32 f]) :
    Calls Try.prog 87 #[.int .i64 i, .float .f32 c, .pointer (some ⟨bs, 0, none⟩), .pointer (some ⟨ba, 0, none⟩), .pointer (some ⟨bf, 0, none⟩)] w (Gave w (cmpC a c f)) := by
  have s0 := hs.cell 0
  have a0 := hba.cell 0
  have f0 := hbf.cell 0
  simp at s0 a0 f0
  have HC := hid fun w => compressed_any a c f w ha hfa hc hf hfr
  clear hs hba hbf ha hfa hc hf hfr
  go_enter Try.func87, Try.ntmps87
  go_wp2_with (go_at_call 88; refine (HC.out _).mono ?_; rintro e w' ⟨v, rfl, hv, n, rfl⟩; have HV := hid hv; clear hv)
  go_ret
  exact ⟨_, rfl, HV.out, below_drewN (Below.refl _ _) _⟩

/-- What stands in the boxes of Compress. -/
structure CB (P : Nat → Nat) (f : Nat) (w wr : World) : Prop where
  p : Blk wr w.heap.size 47 (pixA P)
  f : Blk wr (w.heap.size + 1) 40 #[.float .f32 f]
  r : Blk wr (w.heap.size + 1 + 1) 47 zpx
  be : Below w.heap.size w wr
theorem CB.below {P : Nat → Nat} {f : Nat} {w wr w1 : World} (h : CB P f w wr) (hb : Below wr.heap.size wr w1) : CB P f w w1 :=
  ⟨h.p.below hb h.p.lt, h.f.below hb h.f.lt, h.r.below hb h.r.lt, below_to h.be hb⟩
theorem CB.alloc {P : Nat → Nat} {f : Nat} {w wr : World} (h : CB P f w wr) (o : Obj) : CB P f w (wr.alloc o) := h.below ((Below.refl _ _).alloc (Nat.le_refl _) o)
theorem CB.new (P : Nat → Nat) (f : Nat) (w : World) : CB P f w (((w.alloc (.cells (pixA P) 47)).alloc (.cells #[.float .f32 f] 40)).alloc (.cells zpx 47)) :=
  ⟨((Blk.new_at _ _ _ rfl).alloc _).alloc _, (Blk.new_at _ _ _ (by simp)).alloc _, Blk.new_at _ _ _ (by simp), (((Below.refl _ _).alloc (Nat.le_refl _) _).alloc (by simp) _).alloc (by simp; omega) _⟩

theorem frm_orders {f : Nat} (hfr : frmB f = true) : (FloatKind.f32.format.order f 0 == some .lt) = false ∧ (FloatKind.f32.format.order f 1065353216 == some .gt || FloatKind.f32.format.order f 1065353216 == some .eq) = false := by
  unfold frmB at hfr
  rw [Bool.and_eq_true, Bool.or_eq_true] at hfr
  have h1 : FloatKind.f32.format.order f 1065353216 = some .lt := eq_of_beq hfr.2
  refine ⟨?_, by rw [h1]; rfl⟩
  rcases hfr.1 with h | h
  · rw [show FloatKind.f32.format.order f 0 = some .gt from eq_of_beq h]; rfl
  · rw [show FloatKind.f32.format.order f 0 = some .eq from eq_of_beq h]; rfl

set_option maxRecDepth 100000 in
set_option maxHeartbeats 4000000 in
theorem compress_bad (P : Nat → Nat) (f : Nat) (w : World) (h : cpE f ≠ 0) :
    Calls Try.prog 39 #[pix P, .float .f32 f] w fun e w' => e = .returned (.tuple #[.agg zpx, .int .i64 (cpE f)]) ∧ Below w.heap.size w w' := by
  have HN := hid (CB.new P f w)
  rw [pix_cells P]
  cases hf : fin f
  · have HE : RowKit.Hid (cpE f = 2) := hid (by unfold cpE; rw [if_neg (by rw [hf]; simp)])
    rw [HE.out]
    clear HE h
    go_enter Try.func39, Try.ntmps39
    go_upto_region 1 with fail
    go_name_world wa hwa
    have HA : RowKit.Hid (CB P f w wa) := by
      show CB P f w wa
      rw [← hwa]
      exact HN.out
    clear hwa HN
    have f0 := HA.out.f.cell 0
    simp at f0
    go_upto_region 2 with (go_at_call 74; refine (areOne_any _ _ _ (Blk.new_at _ _ _ rfl)).mono ?_; rintro e w' ⟨rfl, rfl⟩; rw [hf])
    go_name_world wb hwb
    have HB : RowKit.Hid (CB P f w wb) := by
      show CB P f w wb
      rw [← hwb]
      exact HA.out.alloc _
    clear hwb HA f0
    have r0 := HB.out.r.cell 0
    have r1 := HB.out.r.cell 1
    have r2 := HB.out.r.cell 2
    have r3 := HB.out.r.cell 3
    have fz := fun i => HB.out.r.frozen i
    simp at r0 r1 r2 r3
    have HBK := hid (HB.out.r.set4 (.float .f32 0) (.float .f32 0) (.float .f32 0) (.float .f32 0))
    have HBE := hid HB.out.be
    go_wp2_with fail
    refine bodyPost_ret (v := .tuple #[.agg zpx, .int .i64 2]) (results_row_tmp rfl _ _ _ _ _ _ rfl rfl HBK.out Try.underlying47 rfl (by kernel_rfl)) rfl ⟨rfl, ?_⟩
    exact (((HBE.out.setCell (by simp; omega) _).setCell (by simp; omega) _).setCell (by simp; omega) _).setCell (by simp; omega) _
  · have hfr : frmB f = false := by
      cases hh : frmB f with
      | false => rfl
      | true => exact absurd (by unfold cpE; rw [if_pos hf, if_pos hh]) h
    have HE : RowKit.Hid (cpE f = 3) := hid (by unfold cpE; rw [if_pos hf, if_neg (by rw [hfr]; simp)])
    rw [HE.out]
    clear HE h
    obtain ⟨o0, h0⟩ := order_some (fin_not_nan hf) fv_0.not_nan
    obtain ⟨o1, h1⟩ := order_some (fin_not_nan hf) fv_1.not_nan
    unfold frmB at hfr
    rw [h0, h1] at hfr
    have HF := hid hf
    cases o0 <;> cases o1
    all_goals
      first
        | (exfalso; revert hfr; decide)
        | (clear hfr
           go_enter Try.func39, Try.ntmps39
           go_upto_region 1 with fail
           go_name_world wa hwa
           have HA : RowKit.Hid (CB P f w wa) := by
             show CB P f w wa
             rw [← hwa]
             exact HN.out
           clear hwa HN
           have f0 := HA.out.f.cell 0
           have lf := HA.out.f.lt
           simp at f0
           go_upto_region 4 with (go_at_call 74; refine (areOne_any _ _ _ (Blk.new_at _ _ _ rfl)).mono ?_; rintro e w' ⟨rfl, rfl⟩; rw [HF.out])
           go_name_world wb hwb
           have HB : RowKit.Hid (CB P f w wb) := by
             show CB P f w wb
             rw [← hwb]
             exact HA.out.alloc _
           clear hwb HA f0
           have r0 := HB.out.r.cell 0
           have r1 := HB.out.r.cell 1
           have r2 := HB.out.r.cell 2
           have r3 := HB.out.r.cell 3
           have fz := fun i => HB.out.r.frozen i
           simp at r0 r1 r2 r3
           have HBK := hid (HB.out.r.set4 (.float .f32 0) (.float .f32 0) (.float .f32 0) (.float .f32 0))
           have HBE := hid HB.out.be
           go_wp2_with fail
           refine bodyPost_ret (v := .tuple #[.agg zpx, .int .i64 3]) (results_row_tmp rfl _ _ _ _ _ _ rfl rfl HBK.out Try.underlying47 rfl (by kernel_rfl)) rfl ⟨rfl, ?_⟩
           exact (((HBE.out.setCell (by simp; omega) _).setCell (by simp; omega) _).setCell (by simp; omega) _).setCell (by simp; omega) _)
end Go.Proofs.Ythoiiccecneefaa
