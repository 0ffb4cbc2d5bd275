/-
  CompressedOf of the reference.
-/
import Derived.Test.YthoiiccecneefaaQPg
import Derived.Test.YthoiiccecneefaaQEr
namespace Go.Proofs.Ythoiiccecneefaa
open Go.RowKit Go.Shelf
attribute [local go_sem] run_store_float

/-- The greatest of the first channels. -/
def gaK (P : Nat → Nat) (k : Nat) : Nat := if k = 0 then P 0 else if k = 1 then (if gtB (P 1) (P 0) = true then P 1 else P 0) else gre (P 0) (P 1) (P 2)
/-- What stands in the boxes of CompressedOf. -/
structure RB (P : Nat → Nat) (f a : Nat) (w wr : World) : Prop where
  p : Blk wr w.heap.size 47 (pixA P)
  f : Blk wr (w.heap.size + 1) 40 #[.float .f32 f]
  r : Blk wr (w.heap.size + 1 + 1) 47 zpx
  a : Blk wr (w.heap.size + 1 + 1 + 1) 40 #[.float .f32 a]
  be : Below w.heap.size w wr
theorem RB.below {P : Nat → Nat} {f a : Nat} {w wr w1 : World} (h : RB P f a w wr) (hb : Below wr.heap.size wr w1) : RB P f a w w1 :=
  ⟨h.p.below hb h.p.lt, h.f.below hb h.f.lt, h.r.below hb h.r.lt, h.a.below hb h.a.lt, below_to h.be hb⟩
theorem RB.new (P : Nat → Nat) (f : Nat) (w : World) : RB P f (gaK P 0) w ((((w.alloc (.cells (pixA P) 47)).alloc (.cells #[.float .f32 f] 40)).alloc (.cells zpx 47)).alloc (.cells #[.float .f32 (P 0)] 40)) :=
  ⟨(((Blk.new_at _ _ _ rfl).alloc _).alloc _).alloc _, ((Blk.new_at _ _ _ (by simp)).alloc _).alloc _, (Blk.new_at _ _ _ (by simp)).alloc _, Blk.new_at _ _ _ (by simp), ((((Below.refl _ _).alloc (Nat.le_refl _) _).alloc (by simp) _).alloc (by simp; omega) _).alloc (by simp; omega) _⟩
theorem RB.set {P : Nat → Nat} {f a : Nat} {w wr : World} (h : RB P f a w wr) {b : Nat} (u : Nat) (hb : u = b) : RB P f b w (wr.setCell ⟨w.heap.size + 1 + 1 + 1, 0, none⟩ (.float .f32 u)) := by
  subst hb
  exact ⟨h.p.far (by show _ ≠ w.heap.size + 1 + 1 + 1; omega) _, h.f.far (by show _ ≠ w.heap.size + 1 + 1 + 1; omega) _, h.r.far (by show _ ≠ w.heap.size + 1 + 1 + 1; omega) _, h.a.set_ 0 _, h.be.setCell (by show _ ≤ w.heap.size + 1 + 1 + 1; omega) _⟩

theorem gre_cases (x y z : Nat) : gre x y z = x ∨ gre x y z = y ∨ gre x y z = z := by
  unfold gre
  by_cases h1 : gtB y x = true
  · rw [if_pos h1]
    by_cases h2 : gtB z y = true
    · rw [if_pos h2]; exact Or.inr (Or.inr rfl)
    · rw [if_neg h2]; exact Or.inr (Or.inl rfl)
  · rw [if_neg h1]
    by_cases h2 : gtB z x = true
    · rw [if_pos h2]; exact Or.inr (Or.inr rfl)
    · rw [if_neg h2]; exact Or.inl rfl
theorem enters_fix (args : Array Value) (w : World) : (callFunc 42 args).run Try.prog w = .ok (.enter 42 args) w := enters_of Try.func42 (by kernel_rfl) rfl args w
theorem enters_cmpr1 (args : Array Value) (w : World) : (callFunc 90 args).run Try.prog w = .ok (.enter 90 args) w := enters_of Try.func90 (by kernel_rfl) rfl args w
theorem ends_bel {w w' : World} (h : ∃ n, w' = w.drewN n) : Below w.heap.size w w' := by
  obtain ⟨n, rfl⟩ := h
  exact below_drewN (Below.refl _ _) n

set_option maxRecDepth 100000 in
set_option maxHeartbeats 8000000 in
theorem compressedOf_any (P : Nat → Nat) (f : Nat) (w : World) (hf : fin f = true) (hfr : frmB f = true) :
    Calls Try.prog 40 #[pix P, .float .f32 f] w fun e w' => e = .returned (.agg (pixA (cpP P f))) ∧ Below w.heap.size w w' := by
  have HZ := hid (RB.new P f w)
  have hmf : ∀ (fn : Fn) (first cap : Array Value) (w : World), (Instr.makeFunc fn first cap).run Try.prog w = .ok (.func fn first cap) w := fun _ _ _ _ => rfl
  have HST : RowKit.Hid (stayB P = true → ∀ wz, Calls Try.prog 89 #[pix P, .func (.func 42) #[] #[]] wz fun e w' => e = .returned (pix (cpP P f)) ∧ Below wz.heap.size wz w') :=
    hid fun hst wz => eachx_any 42 _ enters_fix P (fun k => if stayB P = true then cl (P k) else cmpC (gre (P 0) (P 1) (P 2)) (P k) f) wz (fun k w1 hk hb => by
      rw [if_pos hst]
      exact (fix_any (P k) w1).mono fun e w' ⟨he, hw⟩ => ⟨he, by rw [← hw]; exact Below.refl _ _⟩)
  have HGO : RowKit.Hid (stayB P = false → threeB P = true → gtB (gre (P 0) (P 1) (P 2)) 0 = true → ∀ wz, RB P f (gre (P 0) (P 1) (P 2)) w wz → Calls Try.prog 89 #[pix P, .func (.func 90) #[] #[.pointer (some ⟨w.heap.size + 1 + 1 + 1, 0, none⟩), .pointer (some ⟨w.heap.size + 1, 0, none⟩)]] wz fun e w' => e = .returned (pix (cpP P f)) ∧ Below wz.heap.size wz w') :=
    hid fun hst hn hg wz hz => by
      have hn3 := hn
      unfold threeB at hn3
      rw [Bool.and_eq_true, Bool.and_eq_true] at hn3
      obtain ⟨⟨f0', f1'⟩, f2'⟩ := hn3
      have hP : ∀ k, k < 3 → fin (P k) = true := fun k hk => by
        have : k = 0 ∨ k = 1 ∨ k = 2 := by omega
        rcases this with rfl | rfl | rfl <;> assumption
      have hfg : fin (gre (P 0) (P 1) (P 2)) = true := by
        rcases gre_cases (P 0) (P 1) (P 2) with h | h | h <;> rw [h] <;> assumption
      exact eachx_any 90 _ enters_cmpr1 P (fun k => if stayB P = true then cl (P k) else cmpC (gre (P 0) (P 1) (P 2)) (P k) f) wz (fun k w1 hk hb => by
        rw [if_neg (by rw [hst]; simp)]
        exact (compr1_any _ (P k) f (w.heap.size + 1 + 1 + 1) (w.heap.size + 1) w1 hg hfg (hP k hk) hf hfr (hz.a.below hb hz.a.lt) (hz.f.below hb hz.f.lt)).mono fun e w' ⟨he, hw⟩ => ⟨he, ends_bel hw⟩)
  clear hf hfr
  rw [pix_cells P] at HST HGO ⊢
  obtain ⟨Q, hQ⟩ : ∃ Q, Q = cpP P f := ⟨_, rfl⟩
  rw [← hQ] at HST HGO ⊢
  clear hQ
  go_enter Try.func40, Try.ntmps40
  go_wp2_with fail
  go_loopw [12] (fun i wr => ∃ k : Nat, k ≤ 2 ∧ i = .int .i64 k ∧ RB P f (gaK P k) w wr) (fun i _ => 2 - (intOf i).toNat)
  case atStart => exact ⟨0, by omega, rfl, HZ.out⟩
  case round =>
    obtain ⟨k, hk, rfl, hr⟩ := hrel
    have HR := hid hr
    clear hr HZ
    by_cases hk2 : k < 2
    · have hc : wr.cell? ⟨w.heap.size, 1 + k, none⟩ = some (.float .f32 (P (1 + k))) := by
        rw [HR.out.p.cell (1 + k)]
        have : k = 0 ∨ k = 1 := by omega
        rcases this with rfl | rfl <;> rfl
      have ha := HR.out.a.cell 0
      have fa := HR.out.a.frozen 0
      simp at ha
      have k0 : (0 : Int) ≤ (k : Int) := by omega
      have k1 : (k : Int) < 2 := by omega
      cases hg : gtB (P (1 + k)) (gaK P k)
      · have HS : RowKit.Hid (RB P f (gaK P (k + 1)) w wr) := hid (by
          have e : gaK P (k + 1) = gaK P k := by
            have : k = 0 ∨ k = 1 := by omega
            rcases this with rfl | rfl
            · show (if gtB (P 1) (P 0) = true then P 1 else P 0) = P 0
              rw [if_neg (by rw [show gtB (P 1) (P 0) = false from hg]; simp)]
            · show gre (P 0) (P 1) (P 2) = (if gtB (P 1) (P 0) = true then P 1 else P 0)
              unfold gre
              rw [if_neg (by rw [show gtB (P 2) (if gtB (P 1) (P 0) = true then P 1 else P 0) = false from hg]; simp)]
          rw [e]
          exact HR.out)
        have hg2 : (FloatKind.f32.format.order (P (1 + k)) (gaK P k) == some .gt) = false := hg
        clear hg HR
        go_wp2_with fail
        go_roundw
        case rel => exact ⟨k + 1, by omega, by go_num, HS.out⟩
        case measure => simp [intOf]; omega
      · have HS : RowKit.Hid (RB P f (gaK P (k + 1)) w (wr.setCell ⟨w.heap.size + 1 + 1 + 1, 0, none⟩ (.float .f32 (P (1 + k))))) := hid (by
          refine HR.out.set _ ?_
          have : k = 0 ∨ k = 1 := by omega
          rcases this with rfl | rfl
          · show P 1 = (if gtB (P 1) (P 0) = true then P 1 else P 0)
            rw [if_pos (show gtB (P 1) (P 0) = true from hg)]
          · show P 2 = gre (P 0) (P 1) (P 2)
            unfold gre
            rw [if_pos (show gtB (P 2) (if gtB (P 1) (P 0) = true then P 1 else P 0) = true from hg)])
        have hg2 : (FloatKind.f32.format.order (P (1 + k)) (gaK P k) == some .gt) = true := hg
        clear hg HR
        go_wp2_with fail
        go_roundw
        case rel => exact ⟨k + 1, by omega, by go_num, HS.out⟩
        case measure => simp [intOf]; omega
    · obtain rfl : k = 2 := by omega
      have hR2 : RB P f (gre (P 0) (P 1) (P 2)) w wr := HR.out
      have HR2 := hid hR2
      have a0 := hR2.a.cell 0
      have p0 := hR2.p.cell 0
      have p1 := hR2.p.cell 1
      have p2 := hR2.p.cell 2
      have p3 := hR2.p.cell 3
      have la := hR2.a.lt
      simp at a0 p0 p1 p2 p3
      clear hR2 HR
      obtain ⟨g, hg⟩ : ∃ g, g = gre (P 0) (P 1) (P 2) := ⟨_, rfl⟩
      rw [← hg] at HR2 HGO a0
      have HSG : RowKit.Hid (stayB P = (!threeB P || !gtB g 0)) := hid (by rw [hg]; rfl)
      have HTB : RowKit.Hid (threeB P = (fin (P 0) && fin (P 1) && fin (P 2))) := hid rfl
      clear hg
      cases h0 : gtB g 0
      · have g1 : (FloatKind.f32.format.order g 0 == some .gt) = false := h0
        have hst : stayB P = true := by rw [HSG.out, h0]; cases threeB P <;> rfl
        have HC := hid (HST.out hst)
        clear HGO HST HSG HTB hst
        go_wp2_with (first
          | (go_at_call 35; refine (isNum_any _ _).mono ?_; rintro e w' ⟨rfl, n1, rfl⟩; first | rw [h1] | rw [h2] | rw [h3])
          | (go_at_call 89; refine (HC.out _).mono ?_; rintro e w2 ⟨rfl, hb⟩
             have hbw : Below wr.heap.size wr w2 := by first | exact hb | exact (below_drewN (Below.refl _ _) _).trans hb
             have H2 := hid (HR2.out.below hbw)
             have r0 := H2.out.r.cell 0
             have r1 := H2.out.r.cell 1
             have r2 := H2.out.r.cell 2
             have r3 := H2.out.r.cell 3
             have fz := fun i => H2.out.r.frozen i
             simp at r0 r1 r2 r3
             have HBK := hid (H2.out.r.set4 (.float .f32 (Q 0)) (.float .f32 (Q 1)) (.float .f32 (Q 2)) (.float .f32 (Q 3)))
             have HBE := hid H2.out.be
             clear hb hbw p0 p1 p2 p3 a0
             rw [pix_cells Q]))
        refine bodyPost_ret (v := .agg (pixA Q)) (results_cell_row rfl _ _ _ _ _ _ _ rfl HBK.out Try.underlying47 rfl (by kernel_rfl)) rfl ⟨rfl, ?_⟩
        exact (((HBE.out.setCell (by simp; omega) _).setCell (by simp; omega) _).setCell (by simp; omega) _).setCell (by simp; omega) _
      have g1 : (FloatKind.f32.format.order g 0 == some .gt) = true := h0
      cases h1 : fin (P 0)
      · have h4 := h1
        have hst : stayB P = true := by rw [HSG.out, HTB.out, h1]; rfl
        have HC := hid (HST.out hst)
        clear HGO HST HSG HTB hst
        go_wp2_with (first
          | (go_at_call 35; refine (isNum_any _ _).mono ?_; rintro e w' ⟨rfl, n1, rfl⟩; first | rw [h1] | rw [h2] | rw [h3])
          | (go_at_call 89; refine (HC.out _).mono ?_; rintro e w2 ⟨rfl, hb⟩
             have hbw : Below wr.heap.size wr w2 := by first | exact hb | exact (below_drewN (Below.refl _ _) _).trans hb
             have H2 := hid (HR2.out.below hbw)
             have r0 := H2.out.r.cell 0
             have r1 := H2.out.r.cell 1
             have r2 := H2.out.r.cell 2
             have r3 := H2.out.r.cell 3
             have fz := fun i => H2.out.r.frozen i
             simp at r0 r1 r2 r3
             have HBK := hid (H2.out.r.set4 (.float .f32 (Q 0)) (.float .f32 (Q 1)) (.float .f32 (Q 2)) (.float .f32 (Q 3)))
             have HBE := hid H2.out.be
             clear hb hbw p0 p1 p2 p3 a0
             rw [pix_cells Q]))
        refine bodyPost_ret (v := .agg (pixA Q)) (results_cell_row rfl _ _ _ _ _ _ _ rfl HBK.out Try.underlying47 rfl (by kernel_rfl)) rfl ⟨rfl, ?_⟩
        exact (((HBE.out.setCell (by simp; omega) _).setCell (by simp; omega) _).setCell (by simp; omega) _).setCell (by simp; omega) _
      cases h2 : fin (P 1)
      · have h4 := h2
        have hst : stayB P = true := by rw [HSG.out, HTB.out, h1, h2]; rfl
        have HC := hid (HST.out hst)
        clear HGO HST HSG HTB hst
        go_wp2_with (first
          | (go_at_call 35; refine (isNum_any _ _).mono ?_; rintro e w' ⟨rfl, n1, rfl⟩; first | rw [h1] | rw [h2] | rw [h3])
          | (go_at_call 89; refine (HC.out _).mono ?_; rintro e w2 ⟨rfl, hb⟩
             have hbw : Below wr.heap.size wr w2 := by first | exact hb | exact (below_drewN (Below.refl _ _) _).trans hb
             have H2 := hid (HR2.out.below hbw)
             have r0 := H2.out.r.cell 0
             have r1 := H2.out.r.cell 1
             have r2 := H2.out.r.cell 2
             have r3 := H2.out.r.cell 3
             have fz := fun i => H2.out.r.frozen i
             simp at r0 r1 r2 r3
             have HBK := hid (H2.out.r.set4 (.float .f32 (Q 0)) (.float .f32 (Q 1)) (.float .f32 (Q 2)) (.float .f32 (Q 3)))
             have HBE := hid H2.out.be
             clear hb hbw p0 p1 p2 p3 a0
             rw [pix_cells Q]))
        refine bodyPost_ret (v := .agg (pixA Q)) (results_cell_row rfl _ _ _ _ _ _ _ rfl HBK.out Try.underlying47 rfl (by kernel_rfl)) rfl ⟨rfl, ?_⟩
        exact (((HBE.out.setCell (by simp; omega) _).setCell (by simp; omega) _).setCell (by simp; omega) _).setCell (by simp; omega) _
      cases h3 : fin (P 2)
      · have h4 := h3
        have hst : stayB P = true := by rw [HSG.out, HTB.out, h1, h2, h3]; rfl
        have HC := hid (HST.out hst)
        clear HGO HST HSG HTB hst
        go_wp2_with (first
          | (go_at_call 35; refine (isNum_any _ _).mono ?_; rintro e w' ⟨rfl, n1, rfl⟩; first | rw [h1] | rw [h2] | rw [h3])
          | (go_at_call 89; refine (HC.out _).mono ?_; rintro e w2 ⟨rfl, hb⟩
             have hbw : Below wr.heap.size wr w2 := by first | exact hb | exact (below_drewN (Below.refl _ _) _).trans hb
             have H2 := hid (HR2.out.below hbw)
             have r0 := H2.out.r.cell 0
             have r1 := H2.out.r.cell 1
             have r2 := H2.out.r.cell 2
             have r3 := H2.out.r.cell 3
             have fz := fun i => H2.out.r.frozen i
             simp at r0 r1 r2 r3
             have HBK := hid (H2.out.r.set4 (.float .f32 (Q 0)) (.float .f32 (Q 1)) (.float .f32 (Q 2)) (.float .f32 (Q 3)))
             have HBE := hid H2.out.be
             clear hb hbw p0 p1 p2 p3 a0
             rw [pix_cells Q]))
        refine bodyPost_ret (v := .agg (pixA Q)) (results_cell_row rfl _ _ _ _ _ _ _ rfl HBK.out Try.underlying47 rfl (by kernel_rfl)) rfl ⟨rfl, ?_⟩
        exact (((HBE.out.setCell (by simp; omega) _).setCell (by simp; omega) _).setCell (by simp; omega) _).setCell (by simp; omega) _
      have ht : threeB P = true := by rw [HTB.out, h1, h2, h3]; rfl
      have hst : stayB P = false := by rw [HSG.out, ht, h0]; rfl
      have HC := hid (HGO.out hst ht h0)
      clear HGO HST HSG HTB ht hst h0
      go_wp2_with (first
        | (go_at_call 35; refine (isNum_any _ _).mono ?_; rintro e w' ⟨rfl, n1, rfl⟩; first | rw [h1] | rw [h2] | rw [h3])
        | (go_at_call 89; refine (HC.out _ (HR2.out.below (by first | exact Below.refl _ _ | exact below_drewN (Below.refl _ _) _ | exact below_drewN (below_drewN (Below.refl _ _) _) _ | exact below_drewN (below_drewN (below_drewN (Below.refl _ _) _) _) _))).mono ?_; rintro e w2 ⟨rfl, hb⟩
           have hbw : Below wr.heap.size wr w2 := by first | exact hb | exact (below_drewN (Below.refl _ _) _).trans hb
           have H2 := hid (HR2.out.below hbw)
           have r0 := H2.out.r.cell 0
           have r1 := H2.out.r.cell 1
           have r2 := H2.out.r.cell 2
           have r3 := H2.out.r.cell 3
           have fz := fun i => H2.out.r.frozen i
           simp at r0 r1 r2 r3
           have HBK := hid (H2.out.r.set4 (.float .f32 (Q 0)) (.float .f32 (Q 1)) (.float .f32 (Q 2)) (.float .f32 (Q 3)))
           have HBE := hid H2.out.be
           clear hb hbw p0 p1 p2 p3 a0
           rw [pix_cells Q]))
      refine bodyPost_ret (v := .agg (pixA Q)) (results_cell_row rfl _ _ _ _ _ _ _ rfl HBK.out Try.underlying47 rfl (by kernel_rfl)) rfl ⟨rfl, ?_⟩
      exact (((HBE.out.setCell (by simp; omega) _).setCell (by simp; omega) _).setCell (by simp; omega) _).setCell (by simp; omega) _
end Go.Proofs.Ythoiiccecneefaa
