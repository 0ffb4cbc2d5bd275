/-
  Clip of the program, whole.
-/
import Derived.Test.YthoiiccecneefaaQPj
namespace Go.Proofs.Ythoiiccecneefaa
open Go.RowKit Go.Shelf
attribute [local go_sem] run_store_float

theorem results_row_tmp2 {P : Program} {fn : Func} {p u v : Tmp} {ty : TypeId} (h : fn.results = #[.cell p ty, .tmp u, .tmp v]) (tmps : Array Value) (w : World) (g : Nat) (t : TypeId) (cs : Array Value) (d : TypeDesc)
    (hp : tmps.getD p undef = .pointer (some ⟨g, 0, none⟩)) {v2 v3 : Value} (hv : tmps.getD u undef = v2) (hv3 : tmps.getD v undef = v3) (hg : Blk w g t cs)
    (hu : P.underlying ty = some d) (hd : (match d with | .struct _ | .array _ _ => true | _ => false) = true) (hi : (P.info? ty).map (·.size) = some cs.size) :
    (results fn tmps).run P w = .ok (.tuple #[.agg cs, v2, v3]) w := by
  subst hv hv3
  have e : (results fn tmps).run P w = ((asAddr (tmps.getD p undef)).run P w).andThen fun a w₁ => ((loadVar ty a).run P w₁).andThen fun v1 w₂ => .ok (.tuple #[v1, tmps.getD u undef, tmps.getD v undef]) w₂ := by
    simp only [results, h]
    simp [Sem.run_bind, Result.andThen]
  rw [e, hp]
  simp [asAddr, run_loadVar_row (P := P) w g t ty cs (0, 0) d hg hu hd hi]

/-- What stands in the boxes of Clip. -/
structure LB (P : Nat → Nat) (lo hi : Nat) (w wr : World) : Prop where
  p : Blk wr w.heap.size 47 (pixA P)
  l : Blk wr (w.heap.size + 1) 40 #[.float .f32 lo]
  h : Blk wr (w.heap.size + 1 + 1) 40 #[.float .f32 hi]
  r : Blk wr (w.heap.size + 1 + 1 + 1) 47 zpx
  be : Below w.heap.size w wr
theorem LB.below {P : Nat → Nat} {lo hi : Nat} {w wr w1 : World} (h : LB P lo hi w wr) (hb : Below wr.heap.size wr w1) : LB P lo hi w w1 :=
  ⟨h.p.below hb h.p.lt, h.l.below hb h.l.lt, h.h.below hb h.h.lt, h.r.below hb h.r.lt, below_to h.be hb⟩
theorem LB.alloc {P : Nat → Nat} {lo hi : Nat} {w wr : World} (h : LB P lo hi w wr) (o : Obj) : LB P lo hi w (wr.alloc o) := h.below ((Below.refl _ _).alloc (Nat.le_refl _) o)
theorem LB.kb {P : Nat → Nat} {lo hi b : Nat} {w wr w1 : World} (h : LB P lo hi w wr) (hb : KB (fun g => g = b) wr w1) (hl : w.heap.size + 1 + 1 + 1 < b) : LB P lo hi w w1 :=
  ⟨h.p.kb hb (by show ¬ _ = b; omega), h.l.kb hb (by show ¬ _ = b; omega), h.h.kb hb (by show ¬ _ = b; omega), h.r.kb hb (by show ¬ _ = b; omega),
    ⟨hb.os.trans h.be.os, hb.tape.trans h.be.tape, hb.output.trans h.be.output, Nat.le_trans h.be.size hb.size, fun k hk => (hb.block k (Nat.lt_of_lt_of_le hk h.be.size) (by show ¬ k = b; omega)).trans (h.be.block k hk)⟩⟩
theorem LB.new (P : Nat → Nat) (lo hi : Nat) (w : World) : LB P lo hi w ((((w.alloc (.cells (pixA P) 47)).alloc (.cells #[.float .f32 lo] 40)).alloc (.cells #[.float .f32 hi] 40)).alloc (.cells zpx 47)) :=
  ⟨(((Blk.new_at _ _ _ rfl).alloc _).alloc _).alloc _, ((Blk.new_at _ _ _ (by simp)).alloc _).alloc _, (Blk.new_at _ _ _ (by simp)).alloc _, Blk.new_at _ _ _ (by simp), ((((Below.refl _ _).alloc (Nat.le_refl _) _).alloc (by simp) _).alloc (by simp; omega) _).alloc (by simp; omega) _⟩

set_option maxRecDepth 100000 in
set_option maxHeartbeats 4000000 in
theorem clip_form (P : Nat → Nat) (lo hi : Nat) (w : World) (h1 : (fin lo && fin hi) = false) :
    Calls Try.prog 41 #[pix P, .float .f32 lo, .float .f32 hi] w fun e w' => e = .returned (.tuple #[.agg zpx, .int .i64 0, .int .i64 (clE lo hi)]) ∧ Below w.heap.size w w' := by
  have HN := hid (LB.new P lo hi w)
  have HE : RowKit.Hid (clE lo hi = 2) := hid (by unfold clE; rw [if_neg (by rw [h1]; simp)])
  rw [HE.out, pix_cells P]
  have HF := hid h1
  clear HE h1
  go_enter Try.func41, Try.ntmps41
  go_upto_region 1 with fail
  go_name_world wa hwa
  have HA : RowKit.Hid (LB P lo hi w wa) := by
    show LB P lo hi w wa
    rw [← hwa]
    exact HN.out
  clear hwa HN
  have l0 := HA.out.l.cell 0
  have h0 := HA.out.h.cell 0
  simp at l0 h0
  go_upto_region 2 with (go_at_call 74; refine (areTwo_any _ _ _ _ (Blk.new_at _ _ _ rfl)).mono ?_; rintro e w' ⟨rfl, rfl⟩; rw [HF.out])
  go_name_world wb hwb
  have HB : RowKit.Hid (LB P lo hi w wb) := by
    show LB P lo hi w wb
    rw [← hwb]
    exact HA.out.alloc _
  clear hwb HA l0 h0
  have r0 := HB.out.r.cell 0
  have r1 := HB.out.r.cell 1
  have r2 := HB.out.r.cell 2
  have r3 := HB.out.r.cell 3
  have fz := fun i => HB.out.r.frozen i
  simp at r0 r1 r2 r3
  have HBK := hid (HB.out.r.set4 (.float .f32 0) (.float .f32 0) (.float .f32 0) (.float .f32 0))
  have HBE := hid HB.out.be
  go_wp2_with fail
  refine bodyPost_ret (v := .tuple #[.agg zpx, .int .i64 0, .int .i64 2]) (results_row_tmp2 rfl _ _ _ _ _ _ rfl rfl rfl HBK.out Try.underlying47 rfl (by kernel_rfl)) rfl ⟨rfl, ?_⟩
  exact (((HBE.out.setCell (by simp; omega) _).setCell (by simp; omega) _).setCell (by simp; omega) _).setCell (by simp; omega) _

set_option maxRecDepth 100000 in
set_option maxHeartbeats 4000000 in
theorem clip_order (P : Nat → Nat) (lo hi : Nat) (w : World) (h1 : (fin lo && fin hi) = true) (h2 : (FloatKind.f32.format.order hi lo == some .lt) = true) :
    Calls Try.prog 41 #[pix P, .float .f32 lo, .float .f32 hi] w fun e w' => e = .returned (.tuple #[.agg zpx, .int .i64 0, .int .i64 (clE lo hi)]) ∧ Below w.heap.size w w' := by
  have HN := hid (LB.new P lo hi w)
  have HE : RowKit.Hid (clE lo hi = 8) := hid (by unfold clE; rw [if_pos h1, if_pos h2])
  rw [HE.out, pix_cells P]
  have HF := hid h1
  clear HE h1
  go_enter Try.func41, Try.ntmps41
  go_upto_region 1 with fail
  go_name_world wa hwa
  have HA : RowKit.Hid (LB P lo hi w wa) := by
    show LB P lo hi w wa
    rw [← hwa]
    exact HN.out
  clear hwa HN
  have l0 := HA.out.l.cell 0
  have h0 := HA.out.h.cell 0
  have ll := HA.out.l.lt
  have lh := HA.out.h.lt
  simp at l0 h0
  go_upto_region 4 with (go_at_call 74; refine (areTwo_any _ _ _ _ (Blk.new_at _ _ _ rfl)).mono ?_; rintro e w' ⟨rfl, rfl⟩; rw [HF.out])
  go_name_world wb hwb
  have HB : RowKit.Hid (LB P lo hi w wb) := by
    show LB P lo hi w wb
    rw [← hwb]
    exact HA.out.alloc _
  clear hwb HA l0 h0 ll lh
  have r0 := HB.out.r.cell 0
  have r1 := HB.out.r.cell 1
  have r2 := HB.out.r.cell 2
  have r3 := HB.out.r.cell 3
  have fz := fun i => HB.out.r.frozen i
  simp at r0 r1 r2 r3
  have HBK := hid (HB.out.r.set4 (.float .f32 0) (.float .f32 0) (.float .f32 0) (.float .f32 0))
  have HBE := hid HB.out.be
  go_wp2_with fail
  refine bodyPost_ret (v := .tuple #[.agg zpx, .int .i64 0, .int .i64 8]) (results_row_tmp2 rfl _ _ _ _ _ _ rfl rfl rfl HBK.out Try.underlying47 rfl (by kernel_rfl)) rfl ⟨rfl, ?_⟩
  exact (((HBE.out.setCell (by simp; omega) _).setCell (by simp; omega) _).setCell (by simp; omega) _).setCell (by simp; omega) _

/-- What stands in the boxes of Clip at its end. -/
structure LD (N : Nat) (Q : Nat → Nat) (bn qb : Nat) (w wr : World) : Prop where
  c : Blk wr bn 3 #[.int .i64 N]
  q : Blk wr qb 47 (pixA Q)
  r : ∃ c0 c1 c2 c3 : Value, Blk wr (w.heap.size + 1 + 1 + 1) 47 #[c0, c1, c2, c3]
  be : Below w.heap.size w wr
  lc : w.heap.size + 1 + 1 + 1 < bn
  lq : w.heap.size + 1 + 1 + 1 < qb
abbrev LDC (N : Nat) (Q : Nat → Nat) (bn qb : Nat) (w w' : World) : Prop := w'.cell? ⟨bn, 0, none⟩ = some (.int .i64 N) ∧ w'.cell? ⟨qb, 0, none⟩ = some (.float .f32 (Q 0)) ∧ w'.cell? ⟨qb, 1, none⟩ = some (.float .f32 (Q 1)) ∧ w'.cell? ⟨qb, 2, none⟩ = some (.float .f32 (Q 2)) ∧ w'.cell? ⟨qb, 3, none⟩ = some (.float .f32 (Q 3)) ∧ LD N Q bn qb w w'
theorem LD.held {N : Nat} {Q : Nat → Nat} {bn qb : Nat} {w wr : World} (h : LD N Q bn qb w wr) : LDC N Q bn qb w wr := ⟨h.c.cell 0, h.q.cell 0, h.q.cell 1, h.q.cell 2, h.q.cell 3, h⟩
theorem LD.below {N : Nat} {Q : Nat → Nat} {bn qb : Nat} {w wr w1 : World} (h : LD N Q bn qb w wr) (hb : Below wr.heap.size wr w1) : LD N Q bn qb w w1 := by
  obtain ⟨c0, c1, c2, c3, h1⟩ := h.r
  exact ⟨h.c.below hb h.c.lt, h.q.below hb h.q.lt, ⟨c0, c1, c2, c3, h1.below hb h1.lt⟩, below_to h.be hb, h.lc, h.lq⟩
theorem LDC.drew {N : Nat} {Q : Nat → Nat} {bn qb : Nat} {w wr : World} (h : LDC N Q bn qb w wr) : LDC N Q bn qb w wr.drew := LD.held (h.2.2.2.2.2.below (Below.refl _ _).drew)
theorem LDC.set4 {N : Nat} {Q : Nat → Nat} {bn qb : Nat} {w wr : World} (h : LDC N Q bn qb w wr) (u0 u1 u2 u3 : Value) : LDC N Q bn qb w ((((wr.setCell ⟨w.heap.size + 1 + 1 + 1, 0, none⟩ u0).setCell ⟨w.heap.size + 1 + 1 + 1, 1, none⟩ u1).setCell ⟨w.heap.size + 1 + 1 + 1, 2, none⟩ u2).setCell ⟨w.heap.size + 1 + 1 + 1, 3, none⟩ u3) := by
  have hk := h.2.2.2.2.2
  obtain ⟨c0, c1, c2, c3, h1⟩ := hk.r
  have lc := hk.lc
  have lq := hk.lq
  exact LD.held ⟨(((hk.c.far (by simp; omega) _).far (by simp; omega) _).far (by simp; omega) _).far (by simp; omega) _, (((hk.q.far (by simp; omega) _).far (by simp; omega) _).far (by simp; omega) _).far (by simp; omega) _, ⟨_, _, _, _, h1.set4 u0 u1 u2 u3⟩, (((hk.be.setCell (by simp; omega) _).setCell (by simp; omega) _).setCell (by simp; omega) _).setCell (by simp; omega) _, lc, lq⟩

set_option maxRecDepth 100000 in
set_option maxHeartbeats 8000000 in
theorem clip_ok (P : Nat → Nat) (lo hi : Nat) (w : World) (h1 : (fin lo && fin hi) = true) (h2 : (FloatKind.f32.format.order hi lo == some .lt) = false) :
    Calls Try.prog 41 #[pix P, .float .f32 lo, .float .f32 hi] w fun e w' => e = .returned (.tuple #[pix (col P fun k => limC (P k) lo hi), .int .i64 (cntC P lo hi 3 : Nat), .int .i64 0]) ∧ Below w.heap.size w w' := by
  have HN := hid (LB.new P lo hi w)
  have hmf : ∀ (fn : Fn) (first cap : Array Value) (w : World), (Instr.makeFunc fn first cap).run Try.prog w = .ok (.func fn first cap) w := fun _ _ _ _ => rfl
  have HCO : RowKit.Hid (∀ (wz : World) (bn : Nat), w.heap.size + 1 + 1 + 1 < bn → LB P lo hi w wz → Blk wz bn 3 #[.int .i64 0] → Calls Try.prog 68 #[pix P, .func (.func 91) #[] #[.pointer (some ⟨w.heap.size + 1, 0, none⟩), .pointer (some ⟨w.heap.size + 1 + 1, 0, none⟩), .pointer (some ⟨bn, 0, none⟩)]] wz fun e w' => e = .returned (pix (col P fun k => limC (P k) lo hi)) ∧ KB (fun g => g = bn) wz w' ∧ Blk w' bn 3 #[.int .i64 (cntC P lo hi 3 : Nat)]) :=
    hid fun wz bn hbn hz hc => coloured_inv 91 _ enters_clip1 P (fun k => limC (P k) lo hi) (fun g => g = bn) (fun k wr => Blk wr bn 3 #[.int .i64 (cntC P lo hi k : Nat)]) wz (fun k e => by subst e; exact hc.lt)
      (fun w1 hb => hc.below hb hc.lt) (fun j w1 w2 hs h hb => h.below hb hc.lt)
      (fun k w1 hk hb hI => by
        have hle := cntC_le P lo hi k
        have hlb := hz.kb hb hbn
        refine (clip1_any k (P k) lo hi (w.heap.size + 1) (w.heap.size + 1 + 1) bn (cntC P lo hi k) w1 (by omega) hlb.l hlb.h hI).mono ?_
        rintro e w2 ⟨rfl, hb2, hkb⟩
        exact ⟨_, rfl, cl_limC .., hkb, hb2⟩)
  rw [pix_cells P] at HCO ⊢
  obtain ⟨Q, hQ⟩ : ∃ Q, Q = col P fun k => limC (P k) lo hi := ⟨_, rfl⟩
  obtain ⟨N, hN⟩ : ∃ N : Nat, N = cntC P lo hi 3 := ⟨_, rfl⟩
  rw [← hQ, ← hN] at HCO ⊢
  clear hQ hN
  have HF := hid h1
  clear h1
  go_enter Try.func41, Try.ntmps41
  go_upto_region 1 with fail
  go_name_world wa hwa
  have HA : RowKit.Hid (LB P lo hi w wa) := by
    show LB P lo hi w wa
    rw [← hwa]
    exact HN.out
  clear hwa HN
  have l0 := HA.out.l.cell 0
  have h0 := HA.out.h.cell 0
  have ll := HA.out.l.lt
  have lh := HA.out.h.lt
  simp at l0 h0
  go_upto_region 6 with (go_at_call 74; refine (areTwo_any _ _ _ _ (Blk.new_at _ _ _ rfl)).mono ?_; rintro e w' ⟨rfl, rfl⟩; rw [HF.out])
  generalize hbn : wa.heap.size + 1 = bn
  go_name_world wb hwb
  have HB : RowKit.Hid (LB P lo hi w wb ∧ Blk wb bn 3 #[.int .i64 0] ∧ w.heap.size + 1 + 1 + 1 < bn) := by
    show LB P lo hi w wb ∧ Blk wb bn 3 #[.int .i64 0] ∧ w.heap.size + 1 + 1 + 1 < bn
    rw [← hwb, ← hbn]
    exact ⟨(HA.out.alloc _).alloc _, Blk.new_at _ _ _ (by simp), by have := HA.out.r.lt; omega⟩
  clear hwb hbn HA l0 h0 ll lh
  have p0 := HB.out.1.p.cell 0
  have p1 := HB.out.1.p.cell 1
  have p2 := HB.out.1.p.cell 2
  have p3 := HB.out.1.p.cell 3
  simp at p0 p1 p2 p3
  go_wp2_with fail
  refine (HCO.out _ _ HB.out.2.2 HB.out.1 HB.out.2.1).mono ?_
  rintro e w2 ⟨rfl, hkb, hc⟩
  have HC := hid (And.intro ((HB.out.1.kb hkb HB.out.2.2).alloc (.cells (pixA Q) 47)) (And.intro (hc.alloc (.cells (pixA Q) 47)) (Blk.new_at (b := w2.heap.size) w2 47 (pixA Q) rfl)))
  have HBN := hid HB.out.2.2
  have HLR := hid (HB.out.1.kb hkb HB.out.2.2).r.lt
  clear hkb hc HB HCO p0 p1 p2 p3
  rw [pix_cells Q]
  go_upto_region 7 with fail
  have hlw : bn < w2.heap.size + 1 := by simpa using HC.out.2.1.lt
  generalize hqb : w2.heap.size = qb
  rw [hqb] at HC
  go_name_world wd hwd
  have HD : RowKit.Hid (LB P lo hi w wd ∧ Blk wd bn 3 #[.int .i64 N] ∧ Blk wd qb 47 (pixA Q)) := by
    show LB P lo hi w wd ∧ Blk wd bn 3 #[.int .i64 N] ∧ Blk wd qb 47 (pixA Q)
    rw [← hwd]
    exact HC.out
  have hqb2 : w.heap.size + 1 + 1 + 1 < qb := by rw [← hqb]; exact HLR.out
  clear hwd HC hqb hlw
  have q0 := HD.out.2.2.cell 0
  have q1 := HD.out.2.2.cell 1
  have q2 := HD.out.2.2.cell 2
  have q3 := HD.out.2.2.cell 3
  have c0 := HD.out.2.1.cell 0
  have r0 := HD.out.1.r.cell 0
  have r1 := HD.out.1.r.cell 1
  have r2 := HD.out.1.r.cell 2
  have r3 := HD.out.1.r.cell 3
  have fz := fun i => HD.out.1.r.frozen i
  simp at q0 q1 q2 q3 c0 r0 r1 r2 r3
  have HL : RowKit.Hid (LDC N Q bn qb w wd.drew) := hid (LD.held (LD.below ⟨HD.out.2.1, HD.out.2.2, ⟨_, _, _, _, HD.out.1.r⟩, HD.out.1.be, HBN.out, hqb2⟩ (Below.refl _ _).drew))
  have HL0 : RowKit.Hid (LDC N Q bn qb w wd) := hid (LD.held ⟨HD.out.2.1, HD.out.2.2, ⟨_, _, _, _, HD.out.1.r⟩, HD.out.1.be, HBN.out, hqb2⟩)
  have hb4 := HD.out.1.r.set4 (.float .f32 (Q 0)) (.float .f32 (Q 1)) (.float .f32 (Q 2)) (.float .f32 (Q 3))
  have HBK := hid (hb4.below (Below.refl _ _).drew hb4.lt)
  have HBE := hid HD.out.1.be
  clear hb4
  go_region_held3 (fun w' => w'.cell? ⟨bn, 0, none⟩ = some (.int .i64 N) ∧ w'.cell? ⟨qb, 0, none⟩ = some (.float .f32 (Q 0)) ∧ w'.cell? ⟨qb, 1, none⟩ = some (.float .f32 (Q 1)) ∧ w'.cell? ⟨qb, 2, none⟩ = some (.float .f32 (Q 2)) ∧ w'.cell? ⟨qb, 3, none⟩ = some (.float .f32 (Q 3)) ∧ LD N Q bn qb w w')
    (first | (with_reducible exact HL.out) | (with_reducible exact LDC.drew (LDC.set4 HL0.out _ _ _ _)) | (with_reducible exact LDC.set4 (by assumption) _ _ _ _) | (with_reducible assumption))
    (first | fail)
  rename_i hH
  clear hH HL HL0
  go_wp2_with fail
  refine bodyPost_ret (v := .tuple #[.agg (pixA Q), .int .i64 N, .int .i64 0]) (results_row_tmp2 rfl _ _ _ _ _ _ rfl rfl rfl HBK.out Try.underlying47 rfl (by kernel_rfl)) rfl ⟨rfl, ?_⟩
  exact ((((HBE.out.setCell (by simp; omega) _).setCell (by simp; omega) _).setCell (by simp; omega) _).setCell (by simp; omega) _).drew
end Go.Proofs.Ythoiiccecneefaa
