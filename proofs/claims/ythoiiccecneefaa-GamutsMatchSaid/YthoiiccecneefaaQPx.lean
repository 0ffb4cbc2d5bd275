/-
  GamutsMatch: the law.
-/
import Derived.Test.YthoiiccecneefaaQPh
import Derived.Test.YthoiiccecneefaaQPi
import Derived.Test.YthoiiccecneefaaQPk
import Derived.Test.YthoiiccecneefaaQOff
import Derived.Lib.ItoaWalk
import Derived.Deep.RegionHeld3
import Derived.Deep.DeepCutAuto
namespace Go.Proofs.Ythoiiccecneefaa
open Go.RowKit Go.Shelf
attribute [local go_sem] run_store_float

theorem pixA_get (P : Nat → Nat) (k : Nat) (hk : k < 4) : (pixA P)[k]? = some (.float .f32 (P k)) := by
  have : k = 0 ∨ k = 1 ∨ k = 2 ∨ k = 3 := by omega
  rcases this with h | h | h | h <;> subst h <;> rfl
theorem eq_zpx (w : World) : (Op.equalIn 10000 47 (.agg zpx) (.agg zpx)).run Try.prog w = .ok true w := by
  kernel_rfl
/-- The boxes of the law in its first half. -/
structure GA (P Q : Nat → Nat) (qb : Nat) (w wr : World) : Prop where
  p : Blk wr w.heap.size 47 (pixA P)
  q : Blk wr qb 47 (pixA Q)
  be : Below w.heap.size w wr
abbrev GAC (P Q : Nat → Nat) (qb : Nat) (w w' : World) : Prop := w'.cell? ⟨w.heap.size, 0, none⟩ = some (.float .f32 (P 0)) ∧ w'.cell? ⟨w.heap.size, 1, none⟩ = some (.float .f32 (P 1)) ∧ w'.cell? ⟨w.heap.size, 2, none⟩ = some (.float .f32 (P 2)) ∧ w'.cell? ⟨w.heap.size, 3, none⟩ = some (.float .f32 (P 3)) ∧ w'.cell? ⟨qb, 0, none⟩ = some (.float .f32 (Q 0)) ∧ w'.cell? ⟨qb, 1, none⟩ = some (.float .f32 (Q 1)) ∧ w'.cell? ⟨qb, 2, none⟩ = some (.float .f32 (Q 2)) ∧ w'.cell? ⟨qb, 3, none⟩ = some (.float .f32 (Q 3)) ∧ GA P Q qb w w'
section
variable {P Q : Nat → Nat} {qb : Nat} {w wr w1 : World}
theorem GA.below (h : GA P Q qb w wr) (hb : Below wr.heap.size wr w1) : GA P Q qb w w1 := ⟨h.p.below hb h.p.lt, h.q.below hb h.q.lt, below_to h.be hb⟩
theorem GA.held (h : GA P Q qb w wr) : GAC P Q qb w wr := ⟨h.p.cell 0, h.p.cell 1, h.p.cell 2, h.p.cell 3, h.q.cell 0, h.q.cell 1, h.q.cell 2, h.q.cell 3, h⟩
theorem GAC.all (h : GAC P Q qb w wr) : GA P Q qb w wr := h.2.2.2.2.2.2.2.2
theorem GAC.on (hb : Below wr.heap.size wr w1) (h : GAC P Q qb w wr) : GAC P Q qb w w1 := (h.all.below hb).held
end
/-- What Compress gives. -/
def cpQ (P : Nat → Nat) (f : Nat) : Nat → Nat := if cpE f = 0 then cpP P f else fun _ => 0
theorem compress_q (P : Nat → Nat) (f : Nat) (w : World) : Calls Try.prog 39 #[.agg (pixA P), .float .f32 f] w fun e w' => e = .returned (.tuple #[.agg (pixA (cpQ P f)), .int .i64 (cpE f)]) ∧ Below w.heap.size w w' :=
  (compress_any P f w).mono fun e w' ⟨he, hb⟩ => ⟨by
    rw [he]
    unfold cpQ
    by_cases h : cpE f = 0
    · rw [if_pos h, if_pos h]; rfl
    · rw [if_neg h, if_neg h], hb⟩
theorem cpE_of {f : Nat} {R E1 E2 : Int} (h1 : E1 ≠ 0 → R = E1) (h2 : E1 = 0 → R = E2) (h3 : (!fin f) = true → E1 = 2) (h4 : (!fin f) = false → E1 = 0) (h5 : (!frmB f) = true → E2 = 3) (h6 : (!frmB f) = false → E2 = 0) : R = cpE f := by
  unfold cpE
  cases hf : fin f <;> cases hr : frmB f <;> rw [hf] at h3 h4 <;> rw [hr] at h5 h6 <;> simp at h3 h4 h5 h6 ⊢
  all_goals
    by_cases h0 : E1 = 0
    · first | omega | (rw [h2 h0]; omega)
    · first | omega | (rw [h1 h0]; omega)

theorem bitx_any (a b : Nat) (w : World) : Calls Try.prog 44 #[.float .f32 a, .float .f32 b] w fun e w' => e = .returned (.bool (cl a == cl b)) ∧ w = w' := by
  by_cases h : cl a = cl b
  · have hz : ((cl a : Int) == (cl b : Int)) = true := by simp [h]
    have H := hid h
    clear h
    go_enter Try.func44, Try.ntmps44
    go_wp2_with (go_at_call 93; refine (bitsOf_any _ _).mono ?_; rintro e w' ⟨rfl, rfl⟩)
    go_ret
    exact ⟨by simp [H.out], rfl⟩
  · have hz : ((cl a : Int) == (cl b : Int)) = false := by rw [beq_eq_false_iff_ne]; omega
    have H := hid h
    clear h
    go_enter Try.func44, Try.ntmps44
    go_wp2_with (go_at_call 93; refine (bitsOf_any _ _).mono ?_; rintro e w' ⟨rfl, rfl⟩)
    go_ret
    exact ⟨by simp [H.out], rfl⟩
/-- The boxes of the law in its loop. -/
structure XB (P C : Nat → Nat) (lo hi cb xb k : Nat) (w wr : World) : Prop where
  g : GA P C cb w wr
  x : Blk wr xb 47 (pixA fun i => if i = 3 then cl (P 3) else if i < k then limC (P i) lo hi else 0)
  lx : w.heap.size < xb
  ne : cb ≠ xb
theorem XB.below {P C : Nat → Nat} {lo hi cb xb k : Nat} {w wr w1 : World} (h : XB P C lo hi cb xb k w wr) (hb : Below wr.heap.size wr w1) : XB P C lo hi cb xb k w w1 :=
  ⟨h.g.below hb, h.x.below hb h.x.lt, h.lx, h.ne⟩
theorem XB.step {P C : Nat → Nat} {lo hi cb xb k : Nat} {w wr : World} (h : XB P C lo hi cb xb k w wr) (hk : k < 3) : XB P C lo hi cb xb (k + 1) w (wr.setCell ⟨xb, k, none⟩ (.float .f32 (limC (P k) lo hi))) := by
  have lx := h.lx
  have ne := h.ne
  refine ⟨⟨h.g.p.far (by show _ ≠ xb; omega) _, h.g.q.far (by show _ ≠ xb; exact ne) _, h.g.be.setCell (by show _ ≤ xb; omega) _⟩, ?_, lx, ne⟩
  have hq := (row4_of_blk (f := fun i => .float .f32 (if i = 3 then cl (P 3) else if i < k then limC (P i) lo hi else 0)) h.x).set k (.float .f32 (limC (P k) lo hi))
  refine blk_of_row4 (f := fun i => .float .f32 (if i = 3 then cl (P 3) else if i < k + 1 then limC (P i) lo hi else 0)) (World.rowIs.congr hq fun i hi => ?_)
  by_cases hi : i = k
  · subst hi
    simp [show ¬ i = 3 by omega]
  · by_cases h3 : i = 3
    · subst h3
      simp [show ¬ 3 = k by omega]
    · by_cases h2 : i < k
      · simp [hi, h3, h2, show i < k + 1 by omega]
      · simp [hi, h3, h2, show ¬ i < k + 1 by omega]

set_option linter.unusedSimpArgs false in
set_option maxRecDepth 100000 in
set_option maxHeartbeats 8000000 in
theorem gamutsMatch_any (P : Nat → Nat) (f lo hi : Nat) (w : World) :
    Calls Try.prog 6 #[pix P, .float .f32 f, .float .f32 lo, .float .f32 hi] w fun e w' => e = .returned (.bool true) ∧ Below w.heap.size w w' := by
  have HCQ := hid fun w1 => compress_q P f w1
  have HQE : RowKit.Hid (cpE f = 0 → ∀ k, cpQ P f k = cpP P f k) := hid fun h k => by unfold cpQ; rw [if_pos h]
  have HQN : RowKit.Hid (cpE f ≠ 0 → ∀ k, cpQ P f k = 0) := hid fun h k => by unfold cpQ; rw [if_neg h]
  obtain ⟨b1, hb1⟩ : ∃ b1, b1 = (FloatKind.f32.format.order f 0 == some .gt || FloatKind.f32.format.order f 0 == some .eq) := ⟨_, rfl⟩
  obtain ⟨b2, hb2⟩ : ∃ b2, b2 = (FloatKind.f32.format.order f 1065353216 == some .lt) := ⟨_, rfl⟩
  have HB12 : RowKit.Hid (frmB f = (b1 && b2)) := hid (by rw [hb1, hb2]; rfl)
  have hb1' := hb1.symm
  have hb2' := hb2.symm
  clear hb1 hb2
  rw [pix_cells P]
  generalize cpQ P f = Q at *
  go_enter Try.func6, Try.ntmps6
  go_wp2_with fail
  refine (HCQ.out _).mono ?_
  rintro e w1 ⟨rfl, hbw⟩
  have HA : RowKit.Hid (GA P Q w1.heap.size w (w1.alloc (.cells (pixA Q) 47))) :=
    hid ⟨((Blk.new_at _ _ _ rfl).below hbw (by simp)).alloc _, Blk.new_at _ _ _ rfl, (((Below.refl _ _).alloc (Nat.le_refl _) _).trans (hbw.mono (by simp))).alloc (by have := hbw.size; simp at this; omega) _⟩
  clear hbw HCQ
  go_upto_region 2 with fail
  generalize w1.heap.size = qb at *
  go_name_world wa hwa
  have HA2 : RowKit.Hid (GA P Q qb w wa) := by
    show GA P Q qb w wa
    rw [← hwa]
    exact HA.out
  clear hwa HA
  go_cut [11] (fun v wx => v = .int .i64 (cpE f) ∧ GA P Q qb w wx)
  case first =>
    cases b1 <;> cases b2 <;> cases hf : fin f
    all_goals
      have HF := hid hf
      clear hf
      go_wp2_with (first
        | (go_at_call 35; refine (isNum_any _ _).mono ?_; rintro e w' ⟨rfl, n1, rfl⟩)
        | (go_at_call 34; with_reducible refine (when_any _ 2 _).mono ?_; rintro e w' ⟨R1, rfl, hR1, hR2, rfl⟩; have HRa := hid (And.intro hR1 hR2); clear hR1 hR2)
        | (go_at_call 34; with_reducible refine (when_any _ 3 _).mono ?_; rintro e w' ⟨R2, rfl, hR1, hR2, rfl⟩; have HRb := hid (And.intro hR1 hR2); clear hR1 hR2)
        | (go_at_call 22; refine (first_any _ _ _ _ (Blk.new_at _ _ _ rfl)).mono ?_; rintro e w' ⟨R3, rfl, hR3, hR4, rfl⟩; have HR3 := hid (And.intro hR3 hR4); clear hR3 hR4))
      have hE : R3 = cpE f := by
        have a1 := HRa.out.1
        have a2 := HRa.out.2
        have c1 := HRb.out.1
        have c2 := HRb.out.2
        have d1 := HR3.out.1
        have d2 := HR3.out.2
        have hfr := HB12.out
        unfold cpE
        rw [hfr]
        rw [HF.out] at a1 a2 ⊢
        simp at a1 a2 c1 c2 d1 d2 ⊢
        omega
      go_meet
      case rel => exact ⟨by rw [hE], (HA2.out.below (below_drewN (Below.refl _ _) _)).below ((Below.refl _ _).alloc (Nat.le_refl _) _)⟩
  case rest =>
    obtain ⟨rfl, hcu⟩ := hcut
    have HD := hid hcu
    clear hcu HA2 hb1' hb2'
    go_upto_region 3 with fail
    go_cut [69] (fun v wx => v = .bool false ∧ GA P Q qb w wx)
    case first =>
      have HH := hid (HD.out.below (Below.refl _ _).drew).held
      by_cases hE0 : cpE f = 0
      · have HQ0 := hid (HQE.out hE0)
        have hff : fin f = true := by
          cases h : fin f with
          | true => rfl
          | false => unfold cpE at hE0; rw [h] at hE0; simp at hE0
        have hfr : frmB f = true := by
          cases h : frmB f with
          | true => rfl
          | false => unfold cpE at hE0; rw [hff, h] at hE0; simp at hE0
        have HGO := hid fun w1 => compressedOf_any P f w1 hff hfr
        have HSP := hid fun w1 => samePix_any Q (cpP P f) (fun k _ => HQ0.out k) w1
        rw [pix_cells P] at HGO
        rw [pix_cells Q, pix_cells (cpP P f)] at HSP
        clear HQE HQN HQ0 hff hfr HD HB12
        generalize cpP P f = G at *
        generalize cpE f = ge at *
        subst hE0
        refine wp_region_held_drew (S := fun w' => w'.cell? ⟨w.heap.size, 0, none⟩ = some (.float .f32 (P 0)) ∧ w'.cell? ⟨w.heap.size, 1, none⟩ = some (.float .f32 (P 1)) ∧ w'.cell? ⟨w.heap.size, 2, none⟩ = some (.float .f32 (P 2)) ∧ w'.cell? ⟨w.heap.size, 3, none⟩ = some (.float .f32 (P 3)) ∧ w'.cell? ⟨qb, 0, none⟩ = some (.float .f32 (Q 0)) ∧ w'.cell? ⟨qb, 1, none⟩ = some (.float .f32 (Q 1)) ∧ w'.cell? ⟨qb, 2, none⟩ = some (.float .f32 (Q 2)) ∧ w'.cell? ⟨qb, 3, none⟩ = some (.float .f32 (Q 3)) ∧ GA P Q qb w w') (by kernel_rfl) HH.out (fun hHeld => ?_)
        refine wpAnyH_ready (rs := [0]) (by kernel_rfl) (by simp) ?_
        refine AllReadyH.cons rfl (fun K hK => ?_) AllReadyH.nil
        go_simp
        (go_at_call 20; refine ((finishes_any _).mono fun e w' h => (And.intro h.1 (ends_bel h.2))).mono ?_; rintro e w3 ⟨rfl, hb⟩)
        refine hK.out _ _ (GAC.on hb hHeld) (fun hHeld1 => ?_)
        clear hK K hHeld
        try simp only [Act.put, List.getElem_toArray, List.getElem_cons_zero, List.getElem_cons_succ, List.setIfInBounds_toArray, List.set_cons_zero, List.set_cons_succ]
        refine wpAnyH_take (i := 1) (v := .bool false) rfl (by kernel_rfl) (by kernel_rfl) (by kernel_rfl) (fun _ _ _ h => h) (Or.inl ⟨by kernel_rfl, fun _ _ => rfl⟩) hHeld1 ?_
        try simp only [Act.put, List.getElem_toArray, List.getElem_cons_zero, List.getElem_cons_succ, List.setIfInBounds_toArray, List.set_cons_zero, List.set_cons_succ]
        refine wpAnyH_take (i := 2) (v := .bool false) rfl (by kernel_rfl) (by kernel_rfl) (by kernel_rfl) (fun _ _ _ h => h) (Or.inl ⟨by kernel_rfl, fun _ _ => rfl⟩) hHeld1 ?_
        try simp only [Act.put, List.getElem_toArray, List.getElem_cons_zero, List.getElem_cons_succ, List.setIfInBounds_toArray, List.set_cons_zero, List.set_cons_succ]
        refine wpAnyH_take (i := 3) (v := .int .i64 0) rfl (by kernel_rfl) (by kernel_rfl) (by kernel_rfl) (fun _ _ _ h => h) (Or.inl ⟨by kernel_rfl, fun _ _ => rfl⟩) hHeld1 ?_
        try simp only [Act.put, List.getElem_toArray, List.getElem_cons_zero, List.getElem_cons_succ, List.setIfInBounds_toArray, List.set_cons_zero, List.set_cons_succ]
        refine wpAnyH_take (i := 4) (v := .bool false) rfl (by kernel_rfl) (by kernel_rfl) (by kernel_rfl) (fun _ _ _ h => h) (Or.inl ⟨by kernel_rfl, fun _ _ => rfl⟩) hHeld1 ?_
        try simp only [Act.put, List.getElem_toArray, List.getElem_cons_zero, List.getElem_cons_succ, List.setIfInBounds_toArray, List.set_cons_zero, List.set_cons_succ]
        refine wpAnyH_take (i := 5) (v := .bool false) rfl (by kernel_rfl) (by kernel_rfl) (by kernel_rfl) (fun _ _ _ h => h) (Or.inl ⟨by kernel_rfl, fun _ _ => rfl⟩) hHeld1 ?_
        try simp only [Act.put, List.getElem_toArray, List.getElem_cons_zero, List.getElem_cons_succ, List.setIfInBounds_toArray, List.set_cons_zero, List.set_cons_succ]
        refine wpAnyH_take (i := 6) (v := undef) rfl (by kernel_rfl) (by kernel_rfl) (by kernel_rfl) (fun _ _ _ h => h) (Or.inr ⟨by kernel_rfl, rfl⟩) hHeld1 ?_
        try simp only [Act.put, List.getElem_toArray, List.getElem_cons_zero, List.getElem_cons_succ, List.setIfInBounds_toArray, List.set_cons_zero, List.set_cons_succ]
        refine wpAnyH_take (i := 7) (v := undef) rfl (by kernel_rfl) (by kernel_rfl) (by kernel_rfl) (fun _ _ _ h => h) (Or.inr ⟨by kernel_rfl, rfl⟩) hHeld1 ?_
        try simp only [Act.put, List.getElem_toArray, List.getElem_cons_zero, List.getElem_cons_succ, List.setIfInBounds_toArray, List.set_cons_zero, List.set_cons_succ]
        refine wpAnyH_take (i := 8) (v := undef) rfl (by kernel_rfl) (by kernel_rfl) (by kernel_rfl) (fun _ _ _ h => h) (Or.inr ⟨by kernel_rfl, rfl⟩) hHeld1 ?_
        try simp only [Act.put, List.getElem_toArray, List.getElem_cons_zero, List.getElem_cons_succ, List.setIfInBounds_toArray, List.set_cons_zero, List.set_cons_succ]
        refine wpAnyH_take (i := 9) (v := undef) rfl (by kernel_rfl) (by kernel_rfl) (by kernel_rfl) (fun _ _ _ h => h) (Or.inr ⟨by kernel_rfl, rfl⟩) hHeld1 ?_
        try simp only [Act.put, List.getElem_toArray, List.getElem_cons_zero, List.getElem_cons_succ, List.setIfInBounds_toArray, List.set_cons_zero, List.set_cons_succ]
        refine wpAnyH_take (i := 10) (v := undef) rfl (by kernel_rfl) (by kernel_rfl) (by kernel_rfl) (fun _ _ _ h => h) (Or.inr ⟨by kernel_rfl, rfl⟩) hHeld1 ?_
        try simp only [Act.put, List.getElem_toArray, List.getElem_cons_zero, List.getElem_cons_succ, List.setIfInBounds_toArray, List.set_cons_zero, List.set_cons_succ]
        refine wpAnyH_take (i := 11) (v := undef) rfl (by kernel_rfl) (by kernel_rfl) (by kernel_rfl) (fun _ _ _ h => h) (Or.inr ⟨by kernel_rfl, rfl⟩) hHeld1 ?_
        try simp only [Act.put, List.getElem_toArray, List.getElem_cons_zero, List.getElem_cons_succ, List.setIfInBounds_toArray, List.set_cons_zero, List.set_cons_succ]
        refine wpAnyH_take (i := 12) (v := undef) rfl (by kernel_rfl) (by kernel_rfl) (by kernel_rfl) (fun _ _ _ h => h) (Or.inr ⟨by kernel_rfl, rfl⟩) hHeld1 ?_
        try simp only [Act.put, List.getElem_toArray, List.getElem_cons_zero, List.getElem_cons_succ, List.setIfInBounds_toArray, List.set_cons_zero, List.set_cons_succ]
        refine wpAnyH_take (i := 13) (v := undef) rfl (by kernel_rfl) (by kernel_rfl) (by kernel_rfl) (fun _ _ _ h => h) (Or.inr ⟨by kernel_rfl, rfl⟩) hHeld1 ?_
        try simp only [Act.put, List.getElem_toArray, List.getElem_cons_zero, List.getElem_cons_succ, List.setIfInBounds_toArray, List.set_cons_zero, List.set_cons_succ]
        refine wpAnyH_take (i := 14) (v := .bool false) rfl (by kernel_rfl) (by kernel_rfl) (by kernel_rfl) (fun _ _ _ h => h) (Or.inl ⟨by kernel_rfl, ?_⟩) hHeld1 ?_
        · intro w2 hSw
          clear hSw
          go_simp
        try simp only [Act.put, List.getElem_toArray, List.getElem_cons_zero, List.getElem_cons_succ, List.setIfInBounds_toArray, List.set_cons_zero, List.set_cons_succ]
        refine wpAnyH_take (i := 15) (v := .bool false) rfl (by kernel_rfl) (by kernel_rfl) (by kernel_rfl) (fun _ _ _ h => h) (Or.inl ⟨by kernel_rfl, ?_⟩) hHeld1 ?_
        · intro w2 hSw
          clear hSw
          go_simp
        try simp only [Act.put, List.getElem_toArray, List.getElem_cons_zero, List.getElem_cons_succ, List.setIfInBounds_toArray, List.set_cons_zero, List.set_cons_succ]
        refine wpAnyH_take (i := 16) (v := .bool false) rfl (by kernel_rfl) (by kernel_rfl) (by kernel_rfl) (fun _ _ _ h => h) (Or.inl ⟨by kernel_rfl, fun _ _ => rfl⟩) hHeld1 ?_
        try simp only [Act.put, List.getElem_toArray, List.getElem_cons_zero, List.getElem_cons_succ, List.setIfInBounds_toArray, List.set_cons_zero, List.set_cons_succ]
        refine wpAnyH_take (i := 17) (v := .int .i64 0) rfl (by kernel_rfl) (by kernel_rfl) (by kernel_rfl) (fun _ _ _ h => h) (Or.inl ⟨by kernel_rfl, fun _ _ => rfl⟩) hHeld1 ?_
        try simp only [Act.put, List.getElem_toArray, List.getElem_cons_zero, List.getElem_cons_succ, List.setIfInBounds_toArray, List.set_cons_zero, List.set_cons_succ]
        refine wpAnyH_take (i := 18) (v := .bool true) rfl (by kernel_rfl) (by kernel_rfl) (by kernel_rfl) (fun _ _ _ h => h) (Or.inl ⟨by kernel_rfl, fun _ _ => rfl⟩) hHeld1 ?_
        try simp only [Act.put, List.getElem_toArray, List.getElem_cons_zero, List.getElem_cons_succ, List.setIfInBounds_toArray, List.set_cons_zero, List.set_cons_succ]
        refine wpAnyH_take (i := 19) (v := .bool true) rfl (by kernel_rfl) (by kernel_rfl) (by kernel_rfl) (fun _ _ _ h => h) (Or.inl ⟨by kernel_rfl, fun _ _ => rfl⟩) hHeld1 ?_
        try simp only [Act.put, List.getElem_toArray, List.getElem_cons_zero, List.getElem_cons_succ, List.setIfInBounds_toArray, List.set_cons_zero, List.set_cons_succ]
        refine wpAnyH_take (i := 20) (v := .int .i64 0) rfl (by kernel_rfl) (by kernel_rfl) (by kernel_rfl) (fun _ _ _ h => h) (Or.inl ⟨by kernel_rfl, fun _ _ => rfl⟩) hHeld1 ?_
        try simp only [Act.put, List.getElem_toArray, List.getElem_cons_zero, List.getElem_cons_succ, List.setIfInBounds_toArray, List.set_cons_zero, List.set_cons_succ]
        refine wpAnyH_take (i := 21) (v := .bool false) rfl (by kernel_rfl) (by kernel_rfl) (by kernel_rfl) (fun _ _ _ h => h) (Or.inl ⟨by kernel_rfl, fun _ _ => rfl⟩) hHeld1 ?_
        try simp only [Act.put, List.getElem_toArray, List.getElem_cons_zero, List.getElem_cons_succ, List.setIfInBounds_toArray, List.set_cons_zero, List.set_cons_succ]
        refine wpAnyH_take (i := 22) (v := .bool false) rfl (by kernel_rfl) (by kernel_rfl) (by kernel_rfl) (fun _ _ _ h => h) (Or.inl ⟨by kernel_rfl, fun _ _ => rfl⟩) hHeld1 ?_
        try simp only [Act.put, List.getElem_toArray, List.getElem_cons_zero, List.getElem_cons_succ, List.setIfInBounds_toArray, List.set_cons_zero, List.set_cons_succ]
        refine wpAnyH_take (i := 23) (v := .agg (pixA Q)) rfl (by kernel_rfl) (by kernel_rfl) (by kernel_rfl) (fun _ _ _ h => h) (Or.inl ⟨by kernel_rfl, ?_⟩) hHeld1 ?_
        · intro w2 hSw
          go_split_ands
          go_simp
        try simp only [Act.put, List.getElem_toArray, List.getElem_cons_zero, List.getElem_cons_succ, List.setIfInBounds_toArray, List.set_cons_zero, List.set_cons_succ]
        refine wpAnyH_take (i := 24) (v := .agg (pixA P)) rfl (by kernel_rfl) (by kernel_rfl) (by kernel_rfl) (fun _ _ _ h => h) (Or.inl ⟨by kernel_rfl, ?_⟩) hHeld1 ?_
        · intro w2 hSw
          go_split_ands
          go_simp
        try simp only [Act.put, List.getElem_toArray, List.getElem_cons_zero, List.getElem_cons_succ, List.setIfInBounds_toArray, List.set_cons_zero, List.set_cons_succ]
        refine wpAnyH_take (i := 25) (v := .float .f32 f) rfl (by kernel_rfl) (by kernel_rfl) (by kernel_rfl) (fun _ _ _ h => h) (Or.inl ⟨by kernel_rfl, fun _ _ => rfl⟩) hHeld1 ?_
        try simp only [Act.put, List.getElem_toArray, List.getElem_cons_zero, List.getElem_cons_succ, List.setIfInBounds_toArray, List.set_cons_zero, List.set_cons_succ]
        refine wpAnyH_ready (rs := [26]) (by kernel_rfl) (by simp) ?_
        refine AllReadyH.cons rfl (fun K hK => ?_) AllReadyH.nil
        go_simp
        (go_at_call 40; with_reducible refine (HGO.out _).mono ?_; rintro e w3 ⟨rfl, hb⟩)
        refine hK.out _ _ (GAC.on hb hHeld1) (fun hHeld2 => ?_)
        clear hK K hHeld1
        try simp only [Act.put, List.getElem_toArray, List.getElem_cons_zero, List.getElem_cons_succ, List.setIfInBounds_toArray, List.set_cons_zero, List.set_cons_succ]
        refine wpAnyH_ready (rs := [27]) (by kernel_rfl) (by simp) ?_
        refine AllReadyH.cons rfl (fun K hK => ?_) AllReadyH.nil
        go_simp
        (go_at_call 24; with_reducible refine (HSP.out _).mono ?_; rintro e w4 ⟨rfl, hb⟩)
        refine hK.out _ _ (GAC.on hb hHeld2) (fun hHeld3 => ?_)
        clear hK K hHeld2
        try simp only [Act.put, List.getElem_toArray, List.getElem_cons_zero, List.getElem_cons_succ, List.setIfInBounds_toArray, List.set_cons_zero, List.set_cons_succ]
        refine wpAnyH_take (i := 28) (v := .bool false) rfl (by kernel_rfl) (by kernel_rfl) (by kernel_rfl) (fun _ _ _ h => h) (Or.inl ⟨by kernel_rfl, fun _ _ => rfl⟩) hHeld3 ?_
        try simp only [Act.put, List.getElem_toArray, List.getElem_cons_zero, List.getElem_cons_succ, List.setIfInBounds_toArray, List.set_cons_zero, List.set_cons_succ]
        refine wpAnyH_take (i := 29) (v := .bool false) rfl (by kernel_rfl) (by kernel_rfl) (by kernel_rfl) (fun _ _ _ h => h) (Or.inl ⟨by kernel_rfl, ?_⟩) hHeld3 ?_
        · intro w2 hSw
          clear hSw
          go_simp
        try simp only [Act.put, List.getElem_toArray, List.getElem_cons_zero, List.getElem_cons_succ, List.setIfInBounds_toArray, List.set_cons_zero, List.set_cons_succ]
        refine wpAnyH_take (i := 30) (v := .bool false) rfl (by kernel_rfl) (by kernel_rfl) (by kernel_rfl) (fun _ _ _ h => h) (Or.inl ⟨by kernel_rfl, ?_⟩) hHeld3 ?_
        · intro w2 hSw
          clear hSw
          go_simp
        try simp only [Act.put, List.getElem_toArray, List.getElem_cons_zero, List.getElem_cons_succ, List.setIfInBounds_toArray, List.set_cons_zero, List.set_cons_succ]
        refine wpAnyH_take (i := 31) (v := .bool false) rfl (by kernel_rfl) (by kernel_rfl) (by kernel_rfl) (fun _ _ _ h => h) (Or.inl ⟨by kernel_rfl, ?_⟩) hHeld3 ?_
        · intro w2 hSw
          clear hSw
          go_simp
        try simp only [Act.put, List.getElem_toArray, List.getElem_cons_zero, List.getElem_cons_succ, List.setIfInBounds_toArray, List.set_cons_zero, List.set_cons_succ]
        refine wpAnyH_done (by kernel_rfl) ?_ _
        have HZ := hid (GAC.all hHeld3)
        clear hHeld3
        go_wp2_with fail
        go_meet
        case rel => exact ⟨rfl, HZ.out⟩
      · have HQZ := hid (HQN.out hE0)
        have z9 : (cpE f != 0) = true := by simp [hE0]
        have z8 : (cpE f == 0) = false := by simp [hE0]
        clear HQE HQN HD HB12
        refine wp_region_held_drew (S := fun w' => w'.cell? ⟨w.heap.size, 0, none⟩ = some (.float .f32 (P 0)) ∧ w'.cell? ⟨w.heap.size, 1, none⟩ = some (.float .f32 (P 1)) ∧ w'.cell? ⟨w.heap.size, 2, none⟩ = some (.float .f32 (P 2)) ∧ w'.cell? ⟨w.heap.size, 3, none⟩ = some (.float .f32 (P 3)) ∧ w'.cell? ⟨qb, 0, none⟩ = some (.float .f32 (Q 0)) ∧ w'.cell? ⟨qb, 1, none⟩ = some (.float .f32 (Q 1)) ∧ w'.cell? ⟨qb, 2, none⟩ = some (.float .f32 (Q 2)) ∧ w'.cell? ⟨qb, 3, none⟩ = some (.float .f32 (Q 3)) ∧ GA P Q qb w w') (by kernel_rfl) HH.out (fun hHeld => ?_)
        refine wpAnyH_ready (rs := [0]) (by kernel_rfl) (by simp) ?_
        refine AllReadyH.cons rfl (fun K hK => ?_) AllReadyH.nil
        go_simp
        (go_at_call 20; refine ((finishes_any _).mono fun e w' h => (And.intro h.1 (ends_bel h.2))).mono ?_; rintro e w3 ⟨rfl, hb⟩)
        refine hK.out _ _ (GAC.on hb hHeld) (fun hHeld1 => ?_)
        clear hK K hHeld
        try simp only [Act.put, List.getElem_toArray, List.getElem_cons_zero, List.getElem_cons_succ, List.setIfInBounds_toArray, List.set_cons_zero, List.set_cons_succ]
        refine wpAnyH_take (i := 1) (v := .bool false) rfl (by kernel_rfl) (by kernel_rfl) (by kernel_rfl) (fun _ _ _ h => h) (Or.inl ⟨by kernel_rfl, fun _ _ => rfl⟩) hHeld1 ?_
        try simp only [Act.put, List.getElem_toArray, List.getElem_cons_zero, List.getElem_cons_succ, List.setIfInBounds_toArray, List.set_cons_zero, List.set_cons_succ]
        refine wpAnyH_take (i := 2) (v := .bool false) rfl (by kernel_rfl) (by kernel_rfl) (by kernel_rfl) (fun _ _ _ h => h) (Or.inl ⟨by kernel_rfl, fun _ _ => rfl⟩) hHeld1 ?_
        try simp only [Act.put, List.getElem_toArray, List.getElem_cons_zero, List.getElem_cons_succ, List.setIfInBounds_toArray, List.set_cons_zero, List.set_cons_succ]
        refine wpAnyH_take (i := 3) (v := .int .i64 (cpE f)) rfl (by kernel_rfl) (by kernel_rfl) (by kernel_rfl) (fun _ _ _ h => h) (Or.inl ⟨by kernel_rfl, fun _ _ => rfl⟩) hHeld1 ?_
        try simp only [Act.put, List.getElem_toArray, List.getElem_cons_zero, List.getElem_cons_succ, List.setIfInBounds_toArray, List.set_cons_zero, List.set_cons_succ]
        refine wpAnyH_take (i := 4) (v := .bool true) rfl (by kernel_rfl) (by kernel_rfl) (by kernel_rfl) (fun _ _ _ h => h) (Or.inl ⟨by kernel_rfl, ?_⟩) hHeld1 ?_
        · intro w2 hSw
          clear hSw
          go_simp
        try simp only [Act.put, List.getElem_toArray, List.getElem_cons_zero, List.getElem_cons_succ, List.setIfInBounds_toArray, List.set_cons_zero, List.set_cons_succ]
        refine wpAnyH_take (i := 5) (v := .bool true) rfl (by kernel_rfl) (by kernel_rfl) (by kernel_rfl) (fun _ _ _ h => h) (Or.inl ⟨by kernel_rfl, fun _ _ => rfl⟩) hHeld1 ?_
        try simp only [Act.put, List.getElem_toArray, List.getElem_cons_zero, List.getElem_cons_succ, List.setIfInBounds_toArray, List.set_cons_zero, List.set_cons_succ]
        refine wpAnyH_take (i := 6) (v := .agg zpx) rfl (by kernel_rfl) (by kernel_rfl) (by kernel_rfl) (fun _ _ _ h => h) (Or.inl ⟨by kernel_rfl, ?_⟩) hHeld1 ?_
        · intro w2 hSw
          obtain ⟨_, _, _, _, hq0, hq1, hq2, hq3, _⟩ := hSw
          rw [HQZ.out 0] at hq0
          rw [HQZ.out 1] at hq1
          rw [HQZ.out 2] at hq2
          rw [HQZ.out 3] at hq3
          go_simp
        try simp only [Act.put, List.getElem_toArray, List.getElem_cons_zero, List.getElem_cons_succ, List.setIfInBounds_toArray, List.set_cons_zero, List.set_cons_succ]
        refine wpAnyH_take (i := 7) (v := .agg zpx) rfl (by kernel_rfl) (by kernel_rfl) (by kernel_rfl) (fun _ _ _ h => h) (Or.inl ⟨by kernel_rfl, ?_⟩) hHeld1 ?_
        · intro w2 hSw
          clear hSw
          go_simp
        try simp only [Act.put, List.getElem_toArray, List.getElem_cons_zero, List.getElem_cons_succ, List.setIfInBounds_toArray, List.set_cons_zero, List.set_cons_succ]
        refine wpAnyH_take (i := 8) (v := .bool false) rfl (by kernel_rfl) (by kernel_rfl) (by kernel_rfl) (fun _ _ _ h => h) (Or.inl ⟨by kernel_rfl, ?_⟩) hHeld1 ?_
        · intro w2 hSw
          clear hSw
          have e0 := eq_zpx w2
          go_simp
        try simp only [Act.put, List.getElem_toArray, List.getElem_cons_zero, List.getElem_cons_succ, List.setIfInBounds_toArray, List.set_cons_zero, List.set_cons_succ]
        refine wpAnyH_take (i := 9) (v := .bool false) rfl (by kernel_rfl) (by kernel_rfl) (by kernel_rfl) (fun _ _ _ h => h) (Or.inl ⟨by kernel_rfl, fun _ _ => rfl⟩) hHeld1 ?_
        try simp only [Act.put, List.getElem_toArray, List.getElem_cons_zero, List.getElem_cons_succ, List.setIfInBounds_toArray, List.set_cons_zero, List.set_cons_succ]
        refine wpAnyH_take (i := 10) (v := .int .i64 (cpE f)) rfl (by kernel_rfl) (by kernel_rfl) (by kernel_rfl) (fun _ _ _ h => h) (Or.inl ⟨by kernel_rfl, fun _ _ => rfl⟩) hHeld1 ?_
        try simp only [Act.put, List.getElem_toArray, List.getElem_cons_zero, List.getElem_cons_succ, List.setIfInBounds_toArray, List.set_cons_zero, List.set_cons_succ]
        refine wpAnyH_take (i := 11) (v := .int .i64 (cpE f)) rfl (by kernel_rfl) (by kernel_rfl) (by kernel_rfl) (fun _ _ _ h => h) (Or.inl ⟨by kernel_rfl, fun _ _ => rfl⟩) hHeld1 ?_
        try simp only [Act.put, List.getElem_toArray, List.getElem_cons_zero, List.getElem_cons_succ, List.setIfInBounds_toArray, List.set_cons_zero, List.set_cons_succ]
        refine wpAnyH_take (i := 12) (v := .bool false) rfl (by kernel_rfl) (by kernel_rfl) (by kernel_rfl) (fun _ _ _ h => h) (Or.inl ⟨by kernel_rfl, ?_⟩) hHeld1 ?_
        · intro w2 hSw
          clear hSw
          go_simp
        try simp only [Act.put, List.getElem_toArray, List.getElem_cons_zero, List.getElem_cons_succ, List.setIfInBounds_toArray, List.set_cons_zero, List.set_cons_succ]
        refine wpAnyH_take (i := 13) (v := .bool false) rfl (by kernel_rfl) (by kernel_rfl) (by kernel_rfl) (fun _ _ _ h => h) (Or.inl ⟨by kernel_rfl, ?_⟩) hHeld1 ?_
        · intro w2 hSw
          clear hSw
          go_simp
        try simp only [Act.put, List.getElem_toArray, List.getElem_cons_zero, List.getElem_cons_succ, List.setIfInBounds_toArray, List.set_cons_zero, List.set_cons_succ]
        refine wpAnyH_take (i := 14) (v := .bool false) rfl (by kernel_rfl) (by kernel_rfl) (by kernel_rfl) (fun _ _ _ h => h) (Or.inl ⟨by kernel_rfl, ?_⟩) hHeld1 ?_
        · intro w2 hSw
          clear hSw
          go_simp
        try simp only [Act.put, List.getElem_toArray, List.getElem_cons_zero, List.getElem_cons_succ, List.setIfInBounds_toArray, List.set_cons_zero, List.set_cons_succ]
        refine wpAnyH_take (i := 15) (v := .bool false) rfl (by kernel_rfl) (by kernel_rfl) (by kernel_rfl) (fun _ _ _ h => h) (Or.inl ⟨by kernel_rfl, ?_⟩) hHeld1 ?_
        · intro w2 hSw
          clear hSw
          go_simp
        try simp only [Act.put, List.getElem_toArray, List.getElem_cons_zero, List.getElem_cons_succ, List.setIfInBounds_toArray, List.set_cons_zero, List.set_cons_succ]
        refine wpAnyH_take (i := 16) (v := .bool false) rfl (by kernel_rfl) (by kernel_rfl) (by kernel_rfl) (fun _ _ _ h => h) (Or.inl ⟨by kernel_rfl, fun _ _ => rfl⟩) hHeld1 ?_
        try simp only [Act.put, List.getElem_toArray, List.getElem_cons_zero, List.getElem_cons_succ, List.setIfInBounds_toArray, List.set_cons_zero, List.set_cons_succ]
        refine wpAnyH_take (i := 17) (v := .int .i64 (cpE f)) rfl (by kernel_rfl) (by kernel_rfl) (by kernel_rfl) (fun _ _ _ h => h) (Or.inl ⟨by kernel_rfl, fun _ _ => rfl⟩) hHeld1 ?_
        try simp only [Act.put, List.getElem_toArray, List.getElem_cons_zero, List.getElem_cons_succ, List.setIfInBounds_toArray, List.set_cons_zero, List.set_cons_succ]
        refine wpAnyH_take (i := 18) (v := .bool false) rfl (by kernel_rfl) (by kernel_rfl) (by kernel_rfl) (fun _ _ _ h => h) (Or.inl ⟨by kernel_rfl, ?_⟩) hHeld1 ?_
        · intro w2 hSw
          clear hSw
          go_simp
        try simp only [Act.put, List.getElem_toArray, List.getElem_cons_zero, List.getElem_cons_succ, List.setIfInBounds_toArray, List.set_cons_zero, List.set_cons_succ]
        refine wpAnyH_take (i := 19) (v := .bool false) rfl (by kernel_rfl) (by kernel_rfl) (by kernel_rfl) (fun _ _ _ h => h) (Or.inl ⟨by kernel_rfl, fun _ _ => rfl⟩) hHeld1 ?_
        try simp only [Act.put, List.getElem_toArray, List.getElem_cons_zero, List.getElem_cons_succ, List.setIfInBounds_toArray, List.set_cons_zero, List.set_cons_succ]
        refine wpAnyH_take (i := 20) (v := undef) rfl (by kernel_rfl) (by kernel_rfl) (by kernel_rfl) (fun _ _ _ h => h) (Or.inr ⟨by kernel_rfl, rfl⟩) hHeld1 ?_
        try simp only [Act.put, List.getElem_toArray, List.getElem_cons_zero, List.getElem_cons_succ, List.setIfInBounds_toArray, List.set_cons_zero, List.set_cons_succ]
        refine wpAnyH_take (i := 21) (v := undef) rfl (by kernel_rfl) (by kernel_rfl) (by kernel_rfl) (fun _ _ _ h => h) (Or.inr ⟨by kernel_rfl, rfl⟩) hHeld1 ?_
        try simp only [Act.put, List.getElem_toArray, List.getElem_cons_zero, List.getElem_cons_succ, List.setIfInBounds_toArray, List.set_cons_zero, List.set_cons_succ]
        refine wpAnyH_take (i := 22) (v := undef) rfl (by kernel_rfl) (by kernel_rfl) (by kernel_rfl) (fun _ _ _ h => h) (Or.inr ⟨by kernel_rfl, rfl⟩) hHeld1 ?_
        try simp only [Act.put, List.getElem_toArray, List.getElem_cons_zero, List.getElem_cons_succ, List.setIfInBounds_toArray, List.set_cons_zero, List.set_cons_succ]
        refine wpAnyH_take (i := 23) (v := undef) rfl (by kernel_rfl) (by kernel_rfl) (by kernel_rfl) (fun _ _ _ h => h) (Or.inr ⟨by kernel_rfl, rfl⟩) hHeld1 ?_
        try simp only [Act.put, List.getElem_toArray, List.getElem_cons_zero, List.getElem_cons_succ, List.setIfInBounds_toArray, List.set_cons_zero, List.set_cons_succ]
        refine wpAnyH_take (i := 24) (v := undef) rfl (by kernel_rfl) (by kernel_rfl) (by kernel_rfl) (fun _ _ _ h => h) (Or.inr ⟨by kernel_rfl, rfl⟩) hHeld1 ?_
        try simp only [Act.put, List.getElem_toArray, List.getElem_cons_zero, List.getElem_cons_succ, List.setIfInBounds_toArray, List.set_cons_zero, List.set_cons_succ]
        refine wpAnyH_take (i := 25) (v := undef) rfl (by kernel_rfl) (by kernel_rfl) (by kernel_rfl) (fun _ _ _ h => h) (Or.inr ⟨by kernel_rfl, rfl⟩) hHeld1 ?_
        try simp only [Act.put, List.getElem_toArray, List.getElem_cons_zero, List.getElem_cons_succ, List.setIfInBounds_toArray, List.set_cons_zero, List.set_cons_succ]
        refine wpAnyH_take (i := 26) (v := undef) rfl (by kernel_rfl) (by kernel_rfl) (by kernel_rfl) (fun _ _ _ h => h) (Or.inr ⟨by kernel_rfl, rfl⟩) hHeld1 ?_
        try simp only [Act.put, List.getElem_toArray, List.getElem_cons_zero, List.getElem_cons_succ, List.setIfInBounds_toArray, List.set_cons_zero, List.set_cons_succ]
        refine wpAnyH_take (i := 27) (v := undef) rfl (by kernel_rfl) (by kernel_rfl) (by kernel_rfl) (fun _ _ _ h => h) (Or.inr ⟨by kernel_rfl, rfl⟩) hHeld1 ?_
        try simp only [Act.put, List.getElem_toArray, List.getElem_cons_zero, List.getElem_cons_succ, List.setIfInBounds_toArray, List.set_cons_zero, List.set_cons_succ]
        refine wpAnyH_take (i := 28) (v := undef) rfl (by kernel_rfl) (by kernel_rfl) (by kernel_rfl) (fun _ _ _ h => h) (Or.inr ⟨by kernel_rfl, rfl⟩) hHeld1 ?_
        try simp only [Act.put, List.getElem_toArray, List.getElem_cons_zero, List.getElem_cons_succ, List.setIfInBounds_toArray, List.set_cons_zero, List.set_cons_succ]
        refine wpAnyH_take (i := 29) (v := undef) rfl (by kernel_rfl) (by kernel_rfl) (by kernel_rfl) (fun _ _ _ h => h) (Or.inr ⟨by kernel_rfl, rfl⟩) hHeld1 ?_
        try simp only [Act.put, List.getElem_toArray, List.getElem_cons_zero, List.getElem_cons_succ, List.setIfInBounds_toArray, List.set_cons_zero, List.set_cons_succ]
        refine wpAnyH_take (i := 30) (v := .bool false) rfl (by kernel_rfl) (by kernel_rfl) (by kernel_rfl) (fun _ _ _ h => h) (Or.inl ⟨by kernel_rfl, ?_⟩) hHeld1 ?_
        · intro w2 hSw
          clear hSw
          go_simp
        try simp only [Act.put, List.getElem_toArray, List.getElem_cons_zero, List.getElem_cons_succ, List.setIfInBounds_toArray, List.set_cons_zero, List.set_cons_succ]
        refine wpAnyH_take (i := 31) (v := .bool false) rfl (by kernel_rfl) (by kernel_rfl) (by kernel_rfl) (fun _ _ _ h => h) (Or.inl ⟨by kernel_rfl, ?_⟩) hHeld1 ?_
        · intro w2 hSw
          clear hSw
          go_simp
        try simp only [Act.put, List.getElem_toArray, List.getElem_cons_zero, List.getElem_cons_succ, List.setIfInBounds_toArray, List.set_cons_zero, List.set_cons_succ]
        refine wpAnyH_done (by kernel_rfl) ?_ _
        have HZ := hid (GAC.all hHeld1)
        clear hHeld1
        go_wp2_with fail
        go_meet
        case rel => exact ⟨rfl, HZ.out⟩
    case rest =>
      obtain ⟨rfl, hcu⟩ := hcut
      have HX := hid hcu
      clear hcu HD HQE HQN
      have p0 := HX.out.p.cell 0
      have p1 := HX.out.p.cell 1
      have p2 := HX.out.p.cell 2
      have p3 := HX.out.p.cell 3
      simp at p0 p1 p2 p3
      by_cases hspl : clE lo hi = 0
      · have hff : (fin lo && fin hi) = true := by
          cases h : (fin lo && fin hi) with
          | true => rfl
          | false => unfold clE at hspl; rw [h] at hspl; simp at hspl
        have hfo : (FloatKind.f32.format.order hi lo == some .lt) = false := by
          cases h : (FloatKind.f32.format.order hi lo == some .lt) with
          | false => rfl
          | true => unfold clE at hspl; rw [hff, h] at hspl; simp at hspl
        obtain ⟨C, hC⟩ : ∃ C, C = col P fun k => limC (P k) lo hi := ⟨_, rfl⟩
        have HCK : RowKit.Hid (∀ w1, Calls Try.prog 41 #[.agg (pixA P), .float .f32 lo, .float .f32 hi] w1 fun e w' => e = .returned (.tuple #[.agg (pixA C), .int .i64 (cntC P lo hi 3 : Nat), .int .i64 0]) ∧ Below w1.heap.size w1 w') := hid fun w1 => by
          rw [hC]
          exact clip_ok P lo hi w1 hff hfo
        have HCC := hid hC
        clear hff hfo hC
        go_wp2_with fail
        refine (HCK.out _).mono ?_
        rintro e w2 ⟨rfl, hb⟩
        have HC : RowKit.Hid (GA P (C) w2.heap.size w (w2.alloc (.cells (pixA (C)) 47))) := hid ⟨(HX.out.p.below hb HX.out.p.lt).alloc _, Blk.new_at _ _ _ rfl, (below_to HX.out.be hb).alloc ((below_to HX.out.be hb).size) _⟩
        clear hb HX p0 p1 p2 p3
        go_upto_region 6 with fail
        generalize w2.heap.size = cb at *
        go_name_world wd hwd
        have HD : RowKit.Hid (GA P (C) cb w wd) := by
          show GA P (C) cb w wd
          rw [← hwd]
          exact HC.out
        clear hwd HC
        go_cut [11] (fun v wx => v = .int .i64 (clE lo hi) ∧ GA P (C) cb w wx)
        case first =>
          have HSPL := hid hspl
          clear hspl
          cases h1 : fin lo <;> cases h2 : fin hi <;> cases h3 : (FloatKind.f32.format.order hi lo == some .lt)
          all_goals
            go_wp2_with (first
              | (go_at_call 35; refine (isNum_any _ _).mono ?_; rintro e w' ⟨rfl, n1, rfl⟩; first | rw [h1] | rw [h2])
              | (go_at_call 34; with_reducible refine (when_any _ 2 _).mono ?_; rintro e w' ⟨R1, rfl, hR1, hR2, rfl⟩; have HRa := hid (And.intro hR1 hR2); clear hR1 hR2)
              | (go_at_call 34; with_reducible refine (when_any _ 8 _).mono ?_; rintro e w' ⟨R2, rfl, hR1, hR2, rfl⟩; have HRb := hid (And.intro hR1 hR2); clear hR1 hR2)
              | (go_at_call 22; refine (first_any _ _ _ _ (Blk.new_at _ _ _ rfl)).mono ?_; rintro e w' ⟨R3, rfl, hR3, hR4, rfl⟩; have HR3 := hid (And.intro hR3 hR4); clear hR3 hR4))
            have hE : R3 = clE lo hi := by
              have a1 := HRa.out.1
              have a2 := HRa.out.2
              have c1 := HRb.out.1
              have c2 := HRb.out.2
              have d1 := HR3.out.1
              have d2 := HR3.out.2
              unfold clE
              rw [h1, h2, h3]
              simp at a1 a2 c1 c2 d1 d2 ⊢
              omega
            go_meet
            case rel => exact ⟨by rw [hE], (HD.out.below (by first | exact below_drewN (Below.refl _ _) _ | exact below_drewN (below_drewN (Below.refl _ _) _) _)).below ((Below.refl _ _).alloc (Nat.le_refl _) _)⟩
        case rest =>
          obtain ⟨rfl, hcu⟩ := hcut
          have HE := hid hcu
          clear hcu HD
          have hz : clE lo hi = 0 := hspl
          rw [hz]
          have HX3 : RowKit.Hid (∀ i, i < 4 → (if i = 3 then cl (P 3) else if i < 3 then limC (P i) lo hi else 0) = C i) := hid (fun i hi => by
            rw [HCC.out]
            unfold col
            have : i = 0 ∨ i = 1 ∨ i = 2 ∨ i = 3 := by omega
            rcases this with rfl | rfl | rfl | rfl <;> simp)
          have HSP := hid fun w1 => samePix_any C C (fun k _ => rfl) w1
          rw [pix_cells C] at HSP
          have p3 := HE.out.p.cell 3
          simp at p3
          clear hspl hz HCC
          go_upto_region 11 with (go_at_call 42; refine (fix_any _ _).mono ?_; rintro e w' ⟨rfl, rfl⟩)
          have lwc := HE.out.p.lt
          have lqc := HE.out.q.lt
          generalize hxb : wc.heap.size = xb
          go_name_world we hwe
          have HF : RowKit.Hid (XB P C lo hi cb xb 0 w we) := by
            show XB P C lo hi cb xb 0 w we
            rw [← hwe, ← hxb]
            exact ⟨HE.out.below ((Below.refl _ _).alloc (Nat.le_refl _) _), Blk.new_at _ _ _ rfl, lwc, by omega⟩
          clear hwe hxb lwc lqc p3 HE
          go_wp2_with fail
          go_loopw [15, 111] (fun m i wr => ∃ k : Nat, k ≤ 3 ∧ i = .int .i64 k ∧ m = .int .i64 (cntC P lo hi k : Nat) ∧ XB P C lo hi cb xb k w wr) (fun _ i _ => 3 - (intOf i).toNat)
          case atStart => exact ⟨0, by omega, rfl, rfl, HF.out⟩
          case round =>
            clear HF
            obtain ⟨k, hk, rfl, rfl, hr⟩ := hrel
            have HR := hid hr
            clear hr
            by_cases hk3 : k < 3
            · have k0 : (0 : Int) ≤ (k : Int) := by omega
              have k1 : (k : Int) < 4 := by omega
              have k2 : (k : Int) ≤ 2 := by omega
              have pk : wr.cell? ⟨w.heap.size, k, none⟩ = some (.float .f32 (P k)) := by
                rw [HR.out.g.p.cell k]
                exact pixA_get P k (by omega)
              have xk : wr.cell? ⟨xb, k, none⟩ = some (.float .f32 (if k = 3 then cl (P 3) else if k < k then limC (P k) lo hi else 0)) := by
                rw [HR.out.x.cell k]
                exact pixA_get (fun i => if i = 3 then cl (P 3) else if i < k then limC (P i) lo hi else 0) k (by omega)
              have xf := HR.out.x.frozen k
              have lx := HR.out.x.lt
              have HS := hid (HR.out.step hk3)
              have hle := cntC_le P lo hi k
              have hwr : IntKind.i64.wrap ((cntC P lo hi k : Int) + 1) = (cntC P lo hi k : Int) + 1 := by rw [IntKind.wrap_i64]; omega
              clear HR
              go_upto_region 15 with (go_at_call 43; refine (limr_any _ _ _ _).mono ?_; rintro e w' ⟨rfl, rfl⟩)
              go_name_world wq hwq
              have HS2 : RowKit.Hid (XB P C lo hi cb xb (k + 1) w wq) := by
                show XB P C lo hi cb xb (k + 1) w wq
                rw [← hwq]
                exact HS.out
              clear hwq HS pk xk xf lx
              have HD2 := hid (HS2.out.below (Below.refl _ _).drew)
              have pk : wq.drew.cell? ⟨w.heap.size, k, none⟩ = some (.float .f32 (P k)) := by
                rw [HD2.out.g.p.cell k]
                exact pixA_get P k (by omega)
              have xk : wq.drew.cell? ⟨xb, k, none⟩ = some (.float .f32 (limC (P k) lo hi)) := by
                rw [HD2.out.x.cell k]
                refine (pixA_get (fun i => if i = 3 then cl (P 3) else if i < k + 1 then limC (P i) lo hi else 0) k (by omega)).trans ?_
                simp [show ¬ k = 3 by omega]
              obtain ⟨d, hd⟩ : ∃ d, d = dfB lo hi (P k) := ⟨_, rfl⟩
              have HBT : RowKit.Hid ((cl (limC (P k) lo hi) == cl (P k)) = !d) := hid (by rw [hd]; unfold dfB; simp)
              have HCN : RowKit.Hid (cntC P lo hi (k + 1) = cntC P lo hi k + (if d = true then 1 else 0)) := hid (by rw [hd]; rfl)
              clear hd
              cases d
              all_goals
                go_region_held3 (fun w' => w'.cell? ⟨w.heap.size, k, none⟩ = some (.float .f32 (P k)) ∧ w'.cell? ⟨xb, k, none⟩ = some (.float .f32 (limC (P k) lo hi)))
                  (first | exact ⟨pk, xk⟩ | assumption)
                  (first | (go_at_call 44; with_reducible refine (bitx_any _ _ _).mono ?_; rintro e w' ⟨rfl, rfl⟩; rw [HBT.out]))
                rename_i hH
                clear hH pk xk
                go_wp2_with fail
                go_roundw
                case rel => exact ⟨k + 1, by omega, by go_num, by rw [HCN.out]; simp, HD2.out⟩
                case measure => simp [intOf]; omega
            · obtain rfl : k = 3 := by omega
              have x0 : wr.cell? ⟨xb, 0, none⟩ = some (.float .f32 (C 0)) := by rw [← HX3.out 0 (by omega)]; exact HR.out.x.cell 0
              have x1 : wr.cell? ⟨xb, 1, none⟩ = some (.float .f32 (C 1)) := by rw [← HX3.out 1 (by omega)]; exact HR.out.x.cell 1
              have x2 : wr.cell? ⟨xb, 2, none⟩ = some (.float .f32 (C 2)) := by rw [← HX3.out 2 (by omega)]; exact HR.out.x.cell 2
              have x3 : wr.cell? ⟨xb, 3, none⟩ = some (.float .f32 (C 3)) := by rw [← HX3.out 3 (by omega)]; exact HR.out.x.cell 3
              have q0 := HR.out.g.q.cell 0
              have q1 := HR.out.g.q.cell 1
              have q2 := HR.out.g.q.cell 2
              have q3 := HR.out.g.q.cell 3
              simp at q0 q1 q2 q3
              have HBE := hid HR.out.g.be
              clear HR HX3
              generalize cntC P lo hi 3 = N at *
              go_wp2_with (go_at_call 24; with_reducible refine (HSP.out _).mono ?_; rintro e w4 ⟨rfl, hb⟩)
              go_ret
              exact ⟨rfl, below_to HBE.out hb⟩
      · have HCB : RowKit.Hid (∀ w1, Calls Try.prog 41 #[.agg (pixA P), .float .f32 lo, .float .f32 hi] w1 fun e w' => e = .returned (.tuple #[.agg (pixA fun _ => 0), .int .i64 0, .int .i64 (clE lo hi)]) ∧ Below w1.heap.size w1 w') := hid fun w1 => by
          cases hff : (fin lo && fin hi) with
          | false => exact clip_form P lo hi w1 hff
          | true =>
            cases hfo : (FloatKind.f32.format.order hi lo == some .lt) with
            | true => exact clip_order P lo hi w1 hff hfo
            | false => exfalso; exact hspl (by unfold clE; rw [if_pos hff, if_neg (by rw [hfo]; simp)])
        go_wp2_with fail
        refine (HCB.out _).mono ?_
        rintro e w2 ⟨rfl, hb⟩
        have HC : RowKit.Hid (GA P (fun _ => 0) w2.heap.size w (w2.alloc (.cells (pixA (fun _ => 0)) 47))) := hid ⟨(HX.out.p.below hb HX.out.p.lt).alloc _, Blk.new_at _ _ _ rfl, (below_to HX.out.be hb).alloc ((below_to HX.out.be hb).size) _⟩
        clear hb HX p0 p1 p2 p3
        go_upto_region 6 with fail
        generalize w2.heap.size = cb at *
        go_name_world wd hwd
        have HD : RowKit.Hid (GA P (fun _ => 0) cb w wd) := by
          show GA P (fun _ => 0) cb w wd
          rw [← hwd]
          exact HC.out
        clear hwd HC
        go_cut [11] (fun v wx => v = .int .i64 (clE lo hi) ∧ GA P (fun _ => 0) cb w wx)
        case first =>
          have HSPL := hid hspl
          clear hspl
          cases h1 : fin lo <;> cases h2 : fin hi <;> cases h3 : (FloatKind.f32.format.order hi lo == some .lt)
          all_goals
            go_wp2_with (first
              | (go_at_call 35; refine (isNum_any _ _).mono ?_; rintro e w' ⟨rfl, n1, rfl⟩; first | rw [h1] | rw [h2])
              | (go_at_call 34; with_reducible refine (when_any _ 2 _).mono ?_; rintro e w' ⟨R1, rfl, hR1, hR2, rfl⟩; have HRa := hid (And.intro hR1 hR2); clear hR1 hR2)
              | (go_at_call 34; with_reducible refine (when_any _ 8 _).mono ?_; rintro e w' ⟨R2, rfl, hR1, hR2, rfl⟩; have HRb := hid (And.intro hR1 hR2); clear hR1 hR2)
              | (go_at_call 22; refine (first_any _ _ _ _ (Blk.new_at _ _ _ rfl)).mono ?_; rintro e w' ⟨R3, rfl, hR3, hR4, rfl⟩; have HR3 := hid (And.intro hR3 hR4); clear hR3 hR4))
            have hE : R3 = clE lo hi := by
              have a1 := HRa.out.1
              have a2 := HRa.out.2
              have c1 := HRb.out.1
              have c2 := HRb.out.2
              have d1 := HR3.out.1
              have d2 := HR3.out.2
              unfold clE
              rw [h1, h2, h3]
              simp at a1 a2 c1 c2 d1 d2 ⊢
              omega
            go_meet
            case rel => exact ⟨by rw [hE], (HD.out.below (by first | exact below_drewN (Below.refl _ _) _ | exact below_drewN (below_drewN (Below.refl _ _) _) _)).below ((Below.refl _ _).alloc (Nat.le_refl _) _)⟩
        case rest =>
          obtain ⟨rfl, hcu⟩ := hcut
          have HE := hid hcu
          clear hcu HD
          have z9 : (clE lo hi != 0) = true := by simp [hspl]
          have q0 := HE.out.q.cell 0
          have q1 := HE.out.q.cell 1
          have q2 := HE.out.q.cell 2
          have q3 := HE.out.q.cell 3
          have e0 := fun w => eq_zpx w
          simp at q0 q1 q2 q3
          clear hspl
          go_wp2_with fail
          go_ret
          exact ⟨rfl, HE.out.be⟩
end Go.Proofs.Ythoiiccecneefaa
