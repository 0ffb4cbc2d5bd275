/-
  Compress of the program where nothing is wrong.
-/
import Derived.Test.YthoiiccecneefaaQPg
import Derived.Test.YthoiiccecneefaaQVr
namespace Go.Proofs.Ythoiiccecneefaa
open Go.RowKit Go.Shelf
attribute [local go_sem] run_store_float

/-- The boxes of Compress, with the greatest channel and what stays. -/
structure CB2 (P : Nat → Nat) (f M ba bs : Nat) (st : Bool) (w wr : World) : Prop extends CB P f w wr where
  a : Blk wr ba 40 #[.float .f32 M]
  s : Blk wr bs 4 #[.bool st]
theorem CB2.below {P : Nat → Nat} {f M ba bs : Nat} {st : Bool} {w wr w1 : World} (h : CB2 P f M ba bs st w wr) (hb : Below wr.heap.size wr w1) : CB2 P f M ba bs st w w1 :=
  ⟨h.toCB.below hb, h.a.below hb h.a.lt, h.s.below hb h.s.lt⟩
theorem CB.below_set {P : Nat → Nat} {f : Nat} {w wr : World} (h : CB P f w wr) {b : Nat} {v : Value} (hb : w.heap.size + 1 + 1 < b) : CB P f w (wr.setCell ⟨b, 0, none⟩ v) :=
  ⟨h.p.far (by show _ ≠ b; omega) _, h.f.far (by show _ ≠ b; omega) _, h.r.far (by show _ ≠ b; omega) _, h.be.setCell (by show _ ≤ b; omega) _⟩
theorem leq_not_gt {M : Nat} (h : fin M = true) : (FloatKind.f32.format.order M 0 == some .lt || FloatKind.f32.format.order M 0 == some .eq) = !gtB M 0 := by
  obtain ⟨o, ho⟩ := order_some (fin_not_nan h) fv_0.not_nan
  unfold gtB
  rw [ho]
  cases o <;> rfl

set_option maxRecDepth 100000 in
set_option maxHeartbeats 4000000 in
theorem compress_broken (P : Nat → Nat) (f : Nat) (w : World) (hf : fin f = true) (hfr : frmB f = true) (hn : threeB P = false) :
    Calls Try.prog 39 #[pix P, .float .f32 f] w fun e w' => e = .returned (.tuple #[pix (cpP P f), .int .i64 0]) ∧ Below w.heap.size w w' := by
  have HN := hid (CB.new P f w)
  obtain ⟨q0, q1⟩ := frm_orders hfr
  have hst : stayB P = true := by unfold stayB; rw [hn]; rfl
  have HT := hid hn
  have HM : RowKit.Hid True := hid trivial
  have hm := fun (ts : Array TypeId) (t : TypeId) (w : World) => run_mx3 Try.prog ts t (P 0) (P 1) (P 2) w
  have hmf : ∀ (fn : Fn) (first cap : Array Value) (w : World), (Instr.makeFunc fn first cap).run Try.prog w = .ok (.func fn first cap) w := fun _ _ _ _ => rfl
  have HCO : RowKit.Hid (∀ (wz : World) (M ba bs : Nat), True → CB2 P f M ba bs true w wz → Calls Try.prog 68 #[pix P, .func (.func 87) #[] #[.pointer (some ⟨bs, 0, none⟩), .pointer (some ⟨ba, 0, none⟩), .pointer (some ⟨w.heap.size + 1, 0, none⟩)]] wz fun e w' => e = .returned (pix (cpP P f)) ∧ Below wz.heap.size wz w') :=
    hid fun wz M ba bs hM hz => (coloured_any 87 _ enters_compr1 P (fun k => if stayB P = true then cl (P k) else cmpC (gre (P 0) (P 1) (P 2)) (P k) f) wz (fun k w1 hk hb => by
      rw [if_pos hst]
      exact compr1_stay k (P k) bs ba (w.heap.size + 1) w1 (hz.s.below hb hz.s.lt)))
  have HF := hid hf
  clear hf hfr
  rw [pix_cells P] at HCO ⊢
  obtain ⟨Q, hQ⟩ : ∃ Q, Q = cpP P f := ⟨_, rfl⟩
  rw [← hQ] at HCO ⊢
  clear hQ
  go_enter Try.func39, Try.ntmps39
  go_upto_region 1 with fail
  go_name_world wa hwa
  have HA : RowKit.Hid (CB P f w wa) := by
    show CB P f w wa
    rw [← hwa]
    exact HN.out
  clear hwa HN
  have f0 := HA.out.f.cell 0
  have lf := HA.out.f.lt
  simp at f0
  go_upto_region 5 with (go_at_call 74; refine (areOne_any _ _ _ (Blk.new_at _ _ _ rfl)).mono ?_; rintro e w' ⟨rfl, rfl⟩; rw [HF.out])
  go_name_world wb hwb
  have HB : RowKit.Hid (CB P f w wb) := by
    show CB P f w wb
    rw [← hwb]
    exact HA.out.alloc _
  clear hwb HA f0 lf q0 q1
  have p0 := HB.out.p.cell 0
  have p1 := HB.out.p.cell 1
  have p2 := HB.out.p.cell 2
  simp at p0 p1 p2
  have x3 := box_cell0 wb
  have x4 := box_frozen0 wb
  go_upto_region 6 with fail
  generalize hMM : mxv (mxv (P 0) (P 1) _) (P 2) _ = M
  clear hMM
  go_name_world wc hwc
  have HC : RowKit.Hid (CB P f w wc ∧ Blk wc wb.heap.size 40 #[.float .f32 M]) := by
    show CB P f w wc ∧ Blk wc wb.heap.size 40 #[.float .f32 M]
    rw [← hwc]
    first | exact ⟨HB.out.alloc _, Blk.new_at _ _ _ rfl⟩ | exact ⟨((HB.out.below (below_drewN (Below.refl _ _) _)).alloc _).below_set (by have := HB.out.r.lt; omega), (Blk.new_at _ _ _ rfl).set_ 0 _⟩ | exact ⟨(HB.out.below (below_drewN (Below.refl _ _) _)).alloc _, Blk.new_at _ _ _ rfl⟩
  clear hwc HB p0 p1 p2 x3 x4
  generalize wb.heap.size = ba at *
  have a0 := HC.out.2.cell 0
  have la := HC.out.2.lt
  have lp := HC.out.1.p.lt
  simp at a0
  go_upto_region 7 with (go_at_call 74; refine (areThree_any _ P _ HC.out.1.p).mono ?_; rintro e w' ⟨rfl, rfl⟩; rw [HT.out])
  go_name_world wd hwd
  have HD : RowKit.Hid (CB2 P f M ba wc.heap.size true w wd) := by
    show CB2 P f M ba wc.heap.size true w wd
    rw [← hwd]
    exact ⟨HC.out.1.alloc _, HC.out.2.alloc _, Blk.new_at _ _ _ rfl⟩
  clear hwd a0 la lp
  generalize wc.heap.size = bs at *
  have p0 := HD.out.p.cell 0
  have p1 := HD.out.p.cell 1
  have p2 := HD.out.p.cell 2
  have p3 := HD.out.p.cell 3
  simp at p0 p1 p2 p3
  go_wp2_with fail
  refine (HCO.out _ _ _ _ HM.out HD.out).mono ?_
  rintro e w2 ⟨rfl, hb⟩
  have H2 := hid (HD.out.below hb)
  have r0 := H2.out.r.cell 0
  have r1 := H2.out.r.cell 1
  have r2 := H2.out.r.cell 2
  have r3 := H2.out.r.cell 3
  have fz := fun i => H2.out.r.frozen i
  simp at r0 r1 r2 r3
  have HBK := hid (H2.out.r.set4 (.float .f32 (Q 0)) (.float .f32 (Q 1)) (.float .f32 (Q 2)) (.float .f32 (Q 3)))
  have HBE := hid H2.out.be
  clear hb p0 p1 p2 p3 HCO HD
  rw [pix_cells Q]
  go_wp2_with fail
  refine bodyPost_ret (v := .tuple #[pix Q, .int .i64 0]) (results_row_tmp rfl _ _ _ _ _ _ rfl rfl HBK.out Try.underlying47 rfl (by kernel_rfl)) rfl ⟨rfl, ?_⟩
  exact (((HBE.out.setCell (by simp; omega) _).setCell (by simp; omega) _).setCell (by simp; omega) _).setCell (by simp; omega) _

set_option maxRecDepth 100000 in
set_option maxHeartbeats 4000000 in
theorem compress_dark (P : Nat → Nat) (f : Nat) (w : World) (hf : fin f = true) (hfr : frmB f = true) (hn : threeB P = true) (hg : gtB (gre (P 0) (P 1) (P 2)) 0 = false) :
    Calls Try.prog 39 #[pix P, .float .f32 f] w fun e w' => e = .returned (.tuple #[pix (cpP P f), .int .i64 0]) ∧ Below w.heap.size w w' := by
  have HN := hid (CB.new P f w)
  obtain ⟨q0, q1⟩ := frm_orders hfr
  have hn3 := hn
  unfold threeB at hn3
  rw [Bool.and_eq_true, Bool.and_eq_true] at hn3
  obtain ⟨⟨f0', f1'⟩, f2'⟩ := hn3
  have hP : ∀ k, k < 3 → fin (P k) = true := fun k hk => by
    have : k = 0 ∨ k = 1 ∨ k = 2 := by omega
    rcases this with rfl | rfl | rfl <;> assumption
  obtain ⟨M, hrun, hfM, hMg, hMe⟩ := three_greatest f0' f1' f2'
  have HT := hid hn
  have hm := hrun
  clear hrun f0' f1' f2'
  have HLE := hid (leq_not_gt hfM)
  rw [hMe, hg] at HLE
  have hst : stayB P = true := by unfold stayB; rw [hn, hg]; rfl
  have HM : RowKit.Hid True := hid trivial
  have hle : (FloatKind.f32.format.order M 0 == some .lt || FloatKind.f32.format.order M 0 == some .eq) = true := HLE.out
  clear hMg hMe hP
  have hmf : ∀ (fn : Fn) (first cap : Array Value) (w : World), (Instr.makeFunc fn first cap).run Try.prog w = .ok (.func fn first cap) w := fun _ _ _ _ => rfl
  have HCO : RowKit.Hid (∀ (wz : World) (M ba bs : Nat), True → CB2 P f M ba bs true w wz → Calls Try.prog 68 #[pix P, .func (.func 87) #[] #[.pointer (some ⟨bs, 0, none⟩), .pointer (some ⟨ba, 0, none⟩), .pointer (some ⟨w.heap.size + 1, 0, none⟩)]] wz fun e w' => e = .returned (pix (cpP P f)) ∧ Below wz.heap.size wz w') :=
    hid fun wz M ba bs hM hz => (coloured_any 87 _ enters_compr1 P (fun k => if stayB P = true then cl (P k) else cmpC (gre (P 0) (P 1) (P 2)) (P k) f) wz (fun k w1 hk hb => by
      rw [if_pos hst]
      exact compr1_stay k (P k) bs ba (w.heap.size + 1) w1 (hz.s.below hb hz.s.lt)))
  have HF := hid hf
  clear hf hfr
  rw [pix_cells P] at HCO ⊢
  obtain ⟨Q, hQ⟩ : ∃ Q, Q = cpP P f := ⟨_, rfl⟩
  rw [← hQ] at HCO ⊢
  clear hQ
  go_enter Try.func39, Try.ntmps39
  go_upto_region 1 with fail
  go_name_world wa hwa
  have HA : RowKit.Hid (CB P f w wa) := by
    show CB P f w wa
    rw [← hwa]
    exact HN.out
  clear hwa HN
  have f0 := HA.out.f.cell 0
  have lf := HA.out.f.lt
  simp at f0
  go_upto_region 5 with (go_at_call 74; refine (areOne_any _ _ _ (Blk.new_at _ _ _ rfl)).mono ?_; rintro e w' ⟨rfl, rfl⟩; rw [HF.out])
  go_name_world wb hwb
  have HB : RowKit.Hid (CB P f w wb) := by
    show CB P f w wb
    rw [← hwb]
    exact HA.out.alloc _
  clear hwb HA f0 lf q0 q1
  have p0 := HB.out.p.cell 0
  have p1 := HB.out.p.cell 1
  have p2 := HB.out.p.cell 2
  simp at p0 p1 p2
  go_upto_region 6 with fail
  
  go_name_world wc hwc
  have HC : RowKit.Hid (CB P f w wc ∧ Blk wc wb.heap.size 40 #[.float .f32 M]) := by
    show CB P f w wc ∧ Blk wc wb.heap.size 40 #[.float .f32 M]
    rw [← hwc]
    first | exact ⟨HB.out.alloc _, Blk.new_at _ _ _ rfl⟩ | exact ⟨((HB.out.below (below_drewN (Below.refl _ _) _)).alloc _).below_set (by have := HB.out.r.lt; omega), (Blk.new_at _ _ _ rfl).set_ 0 _⟩ | exact ⟨(HB.out.below (below_drewN (Below.refl _ _) _)).alloc _, Blk.new_at _ _ _ rfl⟩
  clear hwc HB p0 p1 p2
  generalize wb.heap.size = ba at *
  have a0 := HC.out.2.cell 0
  have la := HC.out.2.lt
  have lp := HC.out.1.p.lt
  simp at a0
  go_upto_region 7 with (go_at_call 74; refine (areThree_any _ P _ HC.out.1.p).mono ?_; rintro e w' ⟨rfl, rfl⟩; rw [HT.out])
  go_name_world wd hwd
  have HD : RowKit.Hid (CB2 P f M ba wc.heap.size true w wd) := by
    show CB2 P f M ba wc.heap.size true w wd
    rw [← hwd]
    exact ⟨HC.out.1.alloc _, HC.out.2.alloc _, Blk.new_at _ _ _ rfl⟩
  clear hwd a0 la lp
  generalize wc.heap.size = bs at *
  have p0 := HD.out.p.cell 0
  have p1 := HD.out.p.cell 1
  have p2 := HD.out.p.cell 2
  have p3 := HD.out.p.cell 3
  simp at p0 p1 p2 p3
  go_wp2_with fail
  refine (HCO.out _ _ _ _ HM.out HD.out).mono ?_
  rintro e w2 ⟨rfl, hb⟩
  have H2 := hid (HD.out.below hb)
  have r0 := H2.out.r.cell 0
  have r1 := H2.out.r.cell 1
  have r2 := H2.out.r.cell 2
  have r3 := H2.out.r.cell 3
  have fz := fun i => H2.out.r.frozen i
  simp at r0 r1 r2 r3
  have HBK := hid (H2.out.r.set4 (.float .f32 (Q 0)) (.float .f32 (Q 1)) (.float .f32 (Q 2)) (.float .f32 (Q 3)))
  have HBE := hid H2.out.be
  clear hb p0 p1 p2 p3 HCO HD
  rw [pix_cells Q]
  go_wp2_with fail
  refine bodyPost_ret (v := .tuple #[pix Q, .int .i64 0]) (results_row_tmp rfl _ _ _ _ _ _ rfl rfl HBK.out Try.underlying47 rfl (by kernel_rfl)) rfl ⟨rfl, ?_⟩
  exact (((HBE.out.setCell (by simp; omega) _).setCell (by simp; omega) _).setCell (by simp; omega) _).setCell (by simp; omega) _

set_option maxRecDepth 100000 in
set_option maxHeartbeats 4000000 in
theorem compress_go (P : Nat → Nat) (f : Nat) (w : World) (hf : fin f = true) (hfr : frmB f = true) (hn : threeB P = true) (hg : gtB (gre (P 0) (P 1) (P 2)) 0 = true) :
    Calls Try.prog 39 #[pix P, .float .f32 f] w fun e w' => e = .returned (.tuple #[pix (cpP P f), .int .i64 0]) ∧ Below w.heap.size w w' := by
  have HN := hid (CB.new P f w)
  obtain ⟨q0, q1⟩ := frm_orders hfr
  have hn3 := hn
  unfold threeB at hn3
  rw [Bool.and_eq_true, Bool.and_eq_true] at hn3
  obtain ⟨⟨f0', f1'⟩, f2'⟩ := hn3
  have hP : ∀ k, k < 3 → fin (P k) = true := fun k hk => by
    have : k = 0 ∨ k = 1 ∨ k = 2 := by omega
    rcases this with rfl | rfl | rfl <;> assumption
  obtain ⟨M, hrun, hfM, hMg, hMe⟩ := three_greatest f0' f1' f2'
  have HT := hid hn
  have hm := hrun
  clear hrun f0' f1' f2'
  have HLE := hid (leq_not_gt hfM)
  rw [hMe, hg] at HLE
  have hst : stayB P = false := by unfold stayB; rw [hn, hg]; rfl
  have hMM := hMg hg
  have hgr : gtB M 0 = true := by rw [hMM]; exact hg
  have HM : RowKit.Hid (M = gre (P 0) (P 1) (P 2)) := hid hMM
  have hle : (FloatKind.f32.format.order M 0 == some .lt || FloatKind.f32.format.order M 0 == some .eq) = false := HLE.out
  rw [hMM] at hgr hfM
  clear hMg hMe hMM
  have hmf : ∀ (fn : Fn) (first cap : Array Value) (w : World), (Instr.makeFunc fn first cap).run Try.prog w = .ok (.func fn first cap) w := fun _ _ _ _ => rfl
  have HCO : RowKit.Hid (∀ (wz : World) (M ba bs : Nat), M = gre (P 0) (P 1) (P 2) → CB2 P f M ba bs false w wz → Calls Try.prog 68 #[pix P, .func (.func 87) #[] #[.pointer (some ⟨bs, 0, none⟩), .pointer (some ⟨ba, 0, none⟩), .pointer (some ⟨w.heap.size + 1, 0, none⟩)]] wz fun e w' => e = .returned (pix (cpP P f)) ∧ Below wz.heap.size wz w') :=
    hid fun wz M ba bs hM hz => (coloured_any 87 _ enters_compr1 P (fun k => if stayB P = true then cl (P k) else cmpC (gre (P 0) (P 1) (P 2)) (P k) f) wz (fun k w1 hk hb => by
      rw [if_neg (by rw [hst]; simp)]
      subst hM
      exact compr1_go k _ (P k) f bs ba (w.heap.size + 1) w1 hgr hfM (hP k hk) hf hfr (hz.s.below hb hz.s.lt) (hz.a.below hb hz.a.lt) (hz.f.below hb hz.f.lt)))
  have HF := hid hf
  clear hf hfr
  rw [pix_cells P] at HCO ⊢
  obtain ⟨Q, hQ⟩ : ∃ Q, Q = cpP P f := ⟨_, rfl⟩
  rw [← hQ] at HCO ⊢
  clear hQ
  go_enter Try.func39, Try.ntmps39
  go_upto_region 1 with fail
  go_name_world wa hwa
  have HA : RowKit.Hid (CB P f w wa) := by
    show CB P f w wa
    rw [← hwa]
    exact HN.out
  clear hwa HN
  have f0 := HA.out.f.cell 0
  have lf := HA.out.f.lt
  simp at f0
  go_upto_region 5 with (go_at_call 74; refine (areOne_any _ _ _ (Blk.new_at _ _ _ rfl)).mono ?_; rintro e w' ⟨rfl, rfl⟩; rw [HF.out])
  go_name_world wb hwb
  have HB : RowKit.Hid (CB P f w wb) := by
    show CB P f w wb
    rw [← hwb]
    exact HA.out.alloc _
  clear hwb HA f0 lf q0 q1
  have p0 := HB.out.p.cell 0
  have p1 := HB.out.p.cell 1
  have p2 := HB.out.p.cell 2
  simp at p0 p1 p2
  go_upto_region 6 with fail
  
  go_name_world wc hwc
  have HC : RowKit.Hid (CB P f w wc ∧ Blk wc wb.heap.size 40 #[.float .f32 M]) := by
    show CB P f w wc ∧ Blk wc wb.heap.size 40 #[.float .f32 M]
    rw [← hwc]
    first | exact ⟨HB.out.alloc _, Blk.new_at _ _ _ rfl⟩ | exact ⟨((HB.out.below (below_drewN (Below.refl _ _) _)).alloc _).below_set (by have := HB.out.r.lt; omega), (Blk.new_at _ _ _ rfl).set_ 0 _⟩ | exact ⟨(HB.out.below (below_drewN (Below.refl _ _) _)).alloc _, Blk.new_at _ _ _ rfl⟩
  clear hwc HB p0 p1 p2
  generalize wb.heap.size = ba at *
  have a0 := HC.out.2.cell 0
  have la := HC.out.2.lt
  have lp := HC.out.1.p.lt
  simp at a0
  go_upto_region 7 with (go_at_call 74; refine (areThree_any _ P _ HC.out.1.p).mono ?_; rintro e w' ⟨rfl, rfl⟩; rw [HT.out])
  go_name_world wd hwd
  have HD : RowKit.Hid (CB2 P f M ba wc.heap.size false w wd) := by
    show CB2 P f M ba wc.heap.size false w wd
    rw [← hwd]
    exact ⟨HC.out.1.alloc _, HC.out.2.alloc _, Blk.new_at _ _ _ rfl⟩
  clear hwd a0 la lp
  generalize wc.heap.size = bs at *
  have p0 := HD.out.p.cell 0
  have p1 := HD.out.p.cell 1
  have p2 := HD.out.p.cell 2
  have p3 := HD.out.p.cell 3
  simp at p0 p1 p2 p3
  go_wp2_with fail
  refine (HCO.out _ _ _ _ HM.out HD.out).mono ?_
  rintro e w2 ⟨rfl, hb⟩
  have H2 := hid (HD.out.below hb)
  have r0 := H2.out.r.cell 0
  have r1 := H2.out.r.cell 1
  have r2 := H2.out.r.cell 2
  have r3 := H2.out.r.cell 3
  have fz := fun i => H2.out.r.frozen i
  simp at r0 r1 r2 r3
  have HBK := hid (H2.out.r.set4 (.float .f32 (Q 0)) (.float .f32 (Q 1)) (.float .f32 (Q 2)) (.float .f32 (Q 3)))
  have HBE := hid H2.out.be
  clear hb p0 p1 p2 p3 HCO HD
  rw [pix_cells Q]
  go_wp2_with fail
  refine bodyPost_ret (v := .tuple #[pix Q, .int .i64 0]) (results_row_tmp rfl _ _ _ _ _ _ rfl rfl HBK.out Try.underlying47 rfl (by kernel_rfl)) rfl ⟨rfl, ?_⟩
  exact (((HBE.out.setCell (by simp; omega) _).setCell (by simp; omega) _).setCell (by simp; omega) _).setCell (by simp; omega) _

theorem compress_any (P : Nat → Nat) (f : Nat) (w : World) :
    Calls Try.prog 39 #[pix P, .float .f32 f] w fun e w' => e = .returned (.tuple #[if cpE f = 0 then pix (cpP P f) else .agg zpx, .int .i64 (cpE f)]) ∧ Below w.heap.size w w' := by
  by_cases hE : cpE f = 0
  · rw [if_pos hE, hE]
    cases hf : fin f with
    | false => exfalso; unfold cpE at hE; rw [hf] at hE; simp at hE
    | true =>
      cases hfr : frmB f with
      | false => exfalso; unfold cpE at hE; rw [hf, hfr] at hE; simp at hE
      | true =>
        cases hn : threeB P with
        | false => exact compress_broken P f w hf hfr hn
        | true =>
          cases hg : gtB (gre (P 0) (P 1) (P 2)) 0 with
          | false => exact compress_dark P f w hf hfr hn hg
          | true => exact compress_go P f w hf hfr hn hg
  · rw [if_neg hE]
    exact compress_bad P f w hE
end Go.Proofs.Ythoiiccecneefaa
