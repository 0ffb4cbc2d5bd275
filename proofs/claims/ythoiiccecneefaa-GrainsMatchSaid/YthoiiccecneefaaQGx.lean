/-
  GrainsMatch: the law.
-/
import Derived.Test.YthoiiccecneefaaQGl
import Derived.Test.YthoiiccecneefaaQGo
import Derived.Test.YthoiiccecneefaaQVx
namespace Go.Proofs.Ythoiiccecneefaa
open Go.RowKit Go.Shelf
attribute [local go_sem] run_store_float

/-- The boxes of the law ahead of its first results. -/
structure LG0 (sd z : Int) (s f : Nat) (m : Bool) (num X Y a b : Int) (n c : Nat) (A : Option Addr) (P : Nat → Nat) (w wr : World) : Prop where
  g : Blk wr w.heap.size 45 (grnA sd z s f m)
  no : Blk wr (w.heap.size + 1) 3 #[.int .i64 num]
  p : Blk wr (w.heap.size + 1 + 1) 47 (pixA P)
  f : Blk wr (w.heap.size + 1 + 1 + 1) 26 #[.int .i64 X, .int .i64 Y, .int .i64 a, .int .i64 b, .slice A n c]
  be : Below w.heap.size w wr
structure LG1 (sd z : Int) (s f : Nat) (m : Bool) (num X Y a b : Int) (n c : Nat) (A : Option Addr) (P Q : Nat → Nat) (qb : Nat) (w wr : World) : Prop extends LG0 sd z s f m num X Y a b n c A P w wr where
  q : Blk wr qb 47 (pixA Q)
structure LG (L : World → Prop) (sd z : Int) (s f : Nat) (m : Bool) (num X Y a b : Int) (n c : Nat) (A : Option Addr) (P Q : Nat → Nat) (qb hb : Nat) (hv : Array Value) (w wr : World) : Prop extends LG1 sd z s f m num X Y a b n c A P Q qb w wr where
  h : Blk wr hb 26 hv
  l : L wr
  lm : ∀ w1 w2, L w1 → Below w1.heap.size w1 w2 → L w2
section
variable {L : World → Prop} {sd z num X Y a b : Int} {s f n c qb hb : Nat} {m : Bool} {A : Option Addr} {P Q : Nat → Nat} {hv : Array Value} {w wr w1 : World}
theorem LG0.below (h : LG0 sd z s f m num X Y a b n c A P w wr) (hb : Below wr.heap.size wr w1) : LG0 sd z s f m num X Y a b n c A P w w1 :=
  ⟨h.g.below hb h.g.lt, h.no.below hb h.no.lt, h.p.below hb h.p.lt, h.f.below hb h.f.lt, below_to h.be hb⟩
theorem LG1.below (h : LG1 sd z s f m num X Y a b n c A P Q qb w wr) (hb : Below wr.heap.size wr w1) : LG1 sd z s f m num X Y a b n c A P Q qb w w1 :=
  ⟨h.toLG0.below hb, h.q.below hb h.q.lt⟩
theorem LG.below (h : LG L sd z s f m num X Y a b n c A P Q qb hb hv w wr) (hbe : Below wr.heap.size wr w1) : LG L sd z s f m num X Y a b n c A P Q qb hb hv w w1 :=
  ⟨h.toLG1.below hbe, h.h.below hbe h.h.lt, h.lm _ _ h.l hbe, h.lm⟩
theorem LG0.new (sd z : Int) (s f : Nat) (m : Bool) (num X Y a b : Int) (n c : Nat) (A : Option Addr) (P : Nat → Nat) (w : World) :
    LG0 sd z s f m num X Y a b n c A P w ((((w.alloc (.cells (grnA sd z s f m) 45)).alloc (.cells #[.int .i64 num] 3)).alloc (.cells (pixA P) 47)).alloc (.cells #[.int .i64 X, .int .i64 Y, .int .i64 a, .int .i64 b, .slice A n c] 26)) :=
  ⟨(((Blk.new_at _ _ _ rfl).alloc _).alloc _).alloc _, ((Blk.new_at _ _ _ (by simp)).alloc _).alloc _, (Blk.new_at _ _ _ (by simp)).alloc _, Blk.new_at _ _ _ (by simp), ((((Below.refl _ _).alloc (Nat.le_refl _) _).alloc (by simp) _).alloc (by simp; omega) _).alloc (by simp; omega) _⟩
theorem LG0.put (h : LG0 sd z s f m num X Y a b n c A P w wr) (Q : Nat → Nat) : LG1 sd z s f m num X Y a b n c A P Q wr.heap.size w (wr.alloc (.cells (pixA Q) 47)) :=
  ⟨h.below ((Below.refl _ _).alloc (Nat.le_refl _) _), Blk.new_at _ _ _ rfl⟩
theorem LG1.put (h : LG1 sd z s f m num X Y a b n c A P Q qb w wr) (hv : Array Value) (hl : L wr) (hm : ∀ w1 w2, L w1 → Below w1.heap.size w1 w2 → L w2) : LG L sd z s f m num X Y a b n c A P Q qb wr.heap.size hv w (wr.alloc (.cells hv 26)) :=
  ⟨h.below ((Below.refl _ _).alloc (Nat.le_refl _) _), Blk.new_at _ _ _ rfl, hm _ _ hl ((Below.refl _ _).alloc (Nat.le_refl _) _), hm⟩
end

theorem eq_zpx (w : World) : (Op.equalIn 10000 47 (.agg zpx) (.agg zpx)).run Try.prog w = .ok true w := by
  kernel_rfl
/-- What Grained gives. -/
def grpQ (sd z num x y : Int) (s f : Nat) (m : Bool) (P : Nat → Nat) : Nat → Nat := if grpE z x y s f = 0 then grp sd z num x y s f m P else fun _ => 0
theorem grained_q (sd z num x y : Int) (s f : Nat) (m : Bool) (P : Nat → Nat) (w : World) :
    Calls Try.prog 17 #[grn sd z s f m, .int .i64 num, .int .i64 x, .int .i64 y, .agg (pixA P)] w fun e w' => e = .returned (.tuple #[.agg (pixA (grpQ sd z num x y s f m P)), .int .i64 (grpE z x y s f)]) ∧ Below w.heap.size w w' :=
  (grained_any sd z num x y s f m P w).mono fun e w' ⟨he, hb⟩ => ⟨by
    rw [he]
    unfold grpQ
    by_cases h : grpE z x y s f = 0
    · rw [if_pos h, if_pos h]; rfl
    · rw [if_neg h, if_neg h], hb⟩
theorem grpE_first {z x y : Int} {s f : Nat} {R : Int} (h1 : grE z s f ≠ 0 → R = grE z s f) (h2 : grE z s f = 0 → R = plcE x y) : R = grpE z x y s f := by
  unfold grpE
  by_cases h : grE z s f = 0
  · rw [if_pos h, h2 h]; rfl
  · rw [if_neg h, h1 h]

abbrev LGC (L : World → Prop) (sd z : Int) (s f : Nat) (m : Bool) (num X Y a b : Int) (n c : Nat) (A : Option Addr) (P Q : Nat → Nat) (qb hb : Nat) (hv : Array Value) (w w' : World) : Prop := w'.cell? ⟨w.heap.size, 0, none⟩ = some (.int .u32 sd) ∧ w'.cell? ⟨w.heap.size, 1, none⟩ = some (.int .i64 z) ∧ w'.cell? ⟨w.heap.size, 2, none⟩ = some (.float .f32 s) ∧ w'.cell? ⟨w.heap.size, 3, none⟩ = some (.float .f32 f) ∧ w'.cell? ⟨w.heap.size, 4, none⟩ = some (.bool m) ∧ w'.cell? ⟨w.heap.size + 1, 0, none⟩ = some (.int .i64 num) ∧ w'.cell? ⟨w.heap.size + 1 + 1, 0, none⟩ = some (.float .f32 (P 0)) ∧ w'.cell? ⟨w.heap.size + 1 + 1, 1, none⟩ = some (.float .f32 (P 1)) ∧ w'.cell? ⟨w.heap.size + 1 + 1, 2, none⟩ = some (.float .f32 (P 2)) ∧ w'.cell? ⟨w.heap.size + 1 + 1, 3, none⟩ = some (.float .f32 (P 3)) ∧ w'.cell? ⟨qb, 0, none⟩ = some (.float .f32 (Q 0)) ∧ w'.cell? ⟨qb, 1, none⟩ = some (.float .f32 (Q 1)) ∧ w'.cell? ⟨qb, 2, none⟩ = some (.float .f32 (Q 2)) ∧ w'.cell? ⟨qb, 3, none⟩ = some (.float .f32 (Q 3)) ∧ LG L sd z s f m num X Y a b n c A P Q qb hb hv w w'
section
variable {L : World → Prop} {sd z num X Y a b : Int} {s f n c qb hb : Nat} {m : Bool} {A : Option Addr} {P Q : Nat → Nat} {hv : Array Value} {w wr w1 : World}
theorem LG.held (h : LG L sd z s f m num X Y a b n c A P Q qb hb hv w wr) : LGC L sd z s f m num X Y a b n c A P Q qb hb hv w wr := ⟨h.g.cell 0, h.g.cell 1, h.g.cell 2, h.g.cell 3, h.g.cell 4, h.no.cell 0, h.p.cell 0, h.p.cell 1, h.p.cell 2, h.p.cell 3, h.q.cell 0, h.q.cell 1, h.q.cell 2, h.q.cell 3, h⟩
theorem LGC.all (h : LGC L sd z s f m num X Y a b n c A P Q qb hb hv w wr) : LG L sd z s f m num X Y a b n c A P Q qb hb hv w wr := h.2.2.2.2.2.2.2.2.2.2.2.2.2.2
theorem LGC.on (hbe : Below wr.heap.size wr w1) (h : LGC L sd z s f m num X Y a b n c A P Q qb hb hv w wr) : LGC L sd z s f m num X Y a b n c A P Q qb hb hv w w1 := (h.all.below hbe).held
end

set_option linter.unusedSimpArgs false in
set_option maxRecDepth 100000 in
set_option maxHeartbeats 8000000 in
theorem grainLaw_err (sd z : Int) (s f : Nat) (m : Bool) (num x y : Int) (P : Nat → Nat) (X Y a b : Int) (n c : Nat) (A : Option Addr) (w : World) (ie : Int) (hI : ie ≠ 0) (hI1 : frmE X Y a b n ≠ 0 → ie = frmE X Y a b n) (hI2 : frmE X Y a b n = 0 → ie = grE z s f)
    (hGR : ∀ w1, Calls Try.prog 18 #[frm X Y a b A n c, grn sd z s f m, .int .i64 num] w1 (ErrOut w1 ie)) :
    Calls Try.prog 4 #[grn sd z s f m, .int .i64 num, .int .i64 x, .int .i64 y, pix P, frm X Y a b A n c] w fun e w' => e = .returned (.bool true) ∧ Below w.heap.size w w' := by
  have HGR := hid hGR
  have z7 : (ie != 0) = true := by simp [hI]
  clear hGR
  have HGD := hid fun w1 => grained_q sd z num x y s f m P w1
  have HN := hid (LG0.new sd z s f m num X Y a b n c A P w)
  have HQE : RowKit.Hid (grpE z x y s f = 0 → ∀ k, grpQ sd z num x y s f m P k = grp sd z num x y s f m P k) := hid fun h k => by unfold grpQ; rw [if_pos h]
  have HQN : RowKit.Hid (grpE z x y s f ≠ 0 → ∀ k, grpQ sd z num x y s f m P k = 0) := hid fun h k => by unfold grpQ; rw [if_neg h]
  rw [pix_cells P]
  generalize grpQ sd z num x y s f m P = Q at *
  go_enter Try.func4, Try.ntmps4
  go_wp2_with fail
  refine (HGD.out _).mono ?_
  rintro e w1 ⟨rfl, hb1⟩
  have HA := hid ((HN.out.below hb1).put Q)
  clear hb1 HN HGD
  go_upto_region 2 with fail
  generalize w1.heap.size = qb at *
  go_name_world wa hwa
  have HA2 : RowKit.Hid (LG1 sd z s f m num X Y a b n c A P Q qb w wa) := by
    show LG1 sd z s f m num X Y a b n c A P Q qb w wa
    rw [← hwa]
    exact HA.out
  clear hwa HA
  rename RowKit.Hid (LG1 sd z s f m num X Y a b n c A P Q qb w wa) => HA
  have f0 := HA.out.f.cell 0
  have f1 := HA.out.f.cell 1
  have f2 := HA.out.f.cell 2
  have f3 := HA.out.f.cell 3
  have f4 := HA.out.f.cell 4
  have g0 := HA.out.g.cell 0
  have g1 := HA.out.g.cell 1
  have g2 := HA.out.g.cell 2
  have g3 := HA.out.g.cell 3
  have g4 := HA.out.g.cell 4
  have n0 := HA.out.no.cell 0
  simp at f0 f1 f2 f3 f4 g0 g1 g2 g3 g4 n0
  go_wp2_with fail
  refine (HGR.out _).mono ?_
  rintro e w2 ⟨rfl, hb2⟩
  clear f0 f1 f2 f3 f4 g0 g1 g2 g3 g4 n0
  have HB := hid ((HA.out.below hb2).put zfrm trivial (fun _ _ _ _ => trivial))
  clear hb2 HA HGR
  go_upto_region 3 with fail
  generalize w2.heap.size = hb at *
  go_name_world wb hwb
  have HB2 : RowKit.Hid (LG (fun _ => True) sd z s f m num X Y a b n c A P Q qb hb zfrm w wb) := by
    show LG (fun _ => True) sd z s f m num X Y a b n c A P Q qb hb zfrm w wb
    rw [← hwb]
    exact HB.out
  clear hwb HB
  rename RowKit.Hid (LG (fun _ => True) sd z s f m num X Y a b n c A P Q qb hb zfrm w wb) => HB
  have g0 := HB.out.g.cell 0
  have g1 := HB.out.g.cell 1
  have g2 := HB.out.g.cell 2
  have g3 := HB.out.g.cell 3
  have g4 := HB.out.g.cell 4
  simp at g0 g1 g2 g3 g4
  go_wp2_with fail
  refine (grainError_any _ _ _ _ _ _).mono ?_
  rintro e w3 ⟨rfl, hb3⟩
  have HC := hid (HB.out.below hb3)
  clear hb3 HB g0 g1 g2 g3 g4
  have g0 := HC.out.g.cell 0
  have g1 := HC.out.g.cell 1
  have g2 := HC.out.g.cell 2
  have g3 := HC.out.g.cell 3
  have g4 := HC.out.g.cell 4
  simp at g0 g1 g2 g3 g4
  go_upto_region 7 with (first
    | (go_at_call 20; refine (finishes_any _).mono ?_; rintro e w' ⟨rfl, n0, rfl⟩)
    | (go_at_call 21; refine (checkGrain_any _ _ _ _ _ _).mono ?_; rintro e w4 ⟨rfl, hb4⟩)
    | (go_at_call 23; refine (placed_any _ _ _).mono ?_; rintro e w' ⟨rfl, rfl⟩)
    | (go_at_call 22; refine (first_any _ _ _ _ (Blk.new_at _ _ _ rfl)).mono ?_; rintro e w' ⟨R1, rfl, hR3, hR4, rfl⟩))
  obtain rfl : R1 = grpE z x y s f := grpE_first hR3 hR4
  go_name_world wc0 hwc
  have HD : RowKit.Hid (LG (fun _ => True) sd z s f m num X Y a b n c A P Q qb hb zfrm w wc0) := by
    show LG (fun _ => True) sd z s f m num X Y a b n c A P Q qb hb zfrm w wc0
    rw [← hwc]
    exact (HC.out.below ((below_drewN (Below.refl _ _) _).trans hb4)).below ((Below.refl _ _).alloc (Nat.le_refl _) _)
  clear hR3 hR4 hb4 hwc HC g0 g1 g2 g3 g4
  go_cut [82] (fun v wx => v = .bool false ∧ LG (fun _ => True) sd z s f m num X Y a b n c A P Q qb hb zfrm w wx)
  case first =>
    by_cases hE0 : grpE z x y s f = 0
    · have HQ0 := hid (HQE.out hE0)
      have hz := grE_zero (z := z) (s := s) (f := f) (by unfold grpE at hE0; by_cases h : grE z s f = 0; exact h; rw [if_neg h] at hE0; exact absurd hE0 h)
      have hpl : (placeB x && placeB y) = true := by
        unfold grpE at hE0
        cases h : (placeB x && placeB y)
        · by_cases h2 : grE z s f = 0
          · rw [if_pos h2, h] at hE0; cases hE0
          · rw [if_neg h2] at hE0; exact absurd hE0 h2
        · rfl
      rw [Bool.and_eq_true] at hpl
      have hpx := of_decide_eq_true hpl.1
      have hpy := of_decide_eq_true hpl.2
      have HGO := hid fun w1 => grainedOf_any sd z num x y s f m P w1 hz.1.1 hz.1.2 hpx.1 hpx.2 hpy.1 hpy.2
      have HSP := hid fun w1 => samePix_any Q (grp sd z num x y s f m P) (fun k _ => HQ0.out k) w1
      rw [pix_cells P] at HGO
      rw [pix_cells Q, pix_cells (grp sd z num x y s f m P)] at HSP
      clear hz hpl hpx hpy HQE HQN HQ0
      generalize grp sd z num x y s f m P = G at *
      generalize grpE z x y s f = ge at *
      subst hE0
      have HH := hid (HD.out.below (Below.refl _ _).drew).held
      clear HD
      refine wp_region_held_drew (S := fun w' => w'.cell? ⟨w.heap.size, 0, none⟩ = some (.int .u32 sd) ∧ w'.cell? ⟨w.heap.size, 1, none⟩ = some (.int .i64 z) ∧ w'.cell? ⟨w.heap.size, 2, none⟩ = some (.float .f32 s) ∧ w'.cell? ⟨w.heap.size, 3, none⟩ = some (.float .f32 f) ∧ w'.cell? ⟨w.heap.size, 4, none⟩ = some (.bool m) ∧ w'.cell? ⟨w.heap.size + 1, 0, none⟩ = some (.int .i64 num) ∧ w'.cell? ⟨w.heap.size + 1 + 1, 0, none⟩ = some (.float .f32 (P 0)) ∧ w'.cell? ⟨w.heap.size + 1 + 1, 1, none⟩ = some (.float .f32 (P 1)) ∧ w'.cell? ⟨w.heap.size + 1 + 1, 2, none⟩ = some (.float .f32 (P 2)) ∧ w'.cell? ⟨w.heap.size + 1 + 1, 3, none⟩ = some (.float .f32 (P 3)) ∧ w'.cell? ⟨qb, 0, none⟩ = some (.float .f32 (Q 0)) ∧ w'.cell? ⟨qb, 1, none⟩ = some (.float .f32 (Q 1)) ∧ w'.cell? ⟨qb, 2, none⟩ = some (.float .f32 (Q 2)) ∧ w'.cell? ⟨qb, 3, none⟩ = some (.float .f32 (Q 3)) ∧ LG (fun _ => True) sd z s f m num X Y a b n c A P Q qb hb zfrm w w') (by kernel_rfl) HH.out (fun hHeld => ?_)
      refine wpAnyH_take (i := 0) (v := .int .i64 0) rfl (by kernel_rfl) (by kernel_rfl) (by kernel_rfl) (fun _ _ _ h => h) (Or.inl ⟨by kernel_rfl, fun _ _ => rfl⟩) hHeld ?_
      try simp only [Act.put, List.getElem_toArray, List.getElem_cons_zero, List.getElem_cons_succ, List.setIfInBounds_toArray, List.set_cons_zero, List.set_cons_succ]
      refine wpAnyH_take (i := 1) (v := .bool false) rfl (by kernel_rfl) (by kernel_rfl) (by kernel_rfl) (fun _ _ _ h => h) (Or.inl ⟨by kernel_rfl, fun _ _ => rfl⟩) hHeld ?_
      try simp only [Act.put, List.getElem_toArray, List.getElem_cons_zero, List.getElem_cons_succ, List.setIfInBounds_toArray, List.set_cons_zero, List.set_cons_succ]
      refine wpAnyH_take (i := 2) (v := .bool false) rfl (by kernel_rfl) (by kernel_rfl) (by kernel_rfl) (fun _ _ _ h => h) (Or.inl ⟨by kernel_rfl, fun _ _ => rfl⟩) hHeld ?_
      try simp only [Act.put, List.getElem_toArray, List.getElem_cons_zero, List.getElem_cons_succ, List.setIfInBounds_toArray, List.set_cons_zero, List.set_cons_succ]
      refine wpAnyH_take (i := 3) (v := undef) rfl (by kernel_rfl) (by kernel_rfl) (by kernel_rfl) (fun _ _ _ h => h) (Or.inr ⟨by kernel_rfl, rfl⟩) hHeld ?_
      try simp only [Act.put, List.getElem_toArray, List.getElem_cons_zero, List.getElem_cons_succ, List.setIfInBounds_toArray, List.set_cons_zero, List.set_cons_succ]
      refine wpAnyH_take (i := 4) (v := undef) rfl (by kernel_rfl) (by kernel_rfl) (by kernel_rfl) (fun _ _ _ h => h) (Or.inr ⟨by kernel_rfl, rfl⟩) hHeld ?_
      try simp only [Act.put, List.getElem_toArray, List.getElem_cons_zero, List.getElem_cons_succ, List.setIfInBounds_toArray, List.set_cons_zero, List.set_cons_succ]
      refine wpAnyH_take (i := 5) (v := undef) rfl (by kernel_rfl) (by kernel_rfl) (by kernel_rfl) (fun _ _ _ h => h) (Or.inr ⟨by kernel_rfl, rfl⟩) hHeld ?_
      try simp only [Act.put, List.getElem_toArray, List.getElem_cons_zero, List.getElem_cons_succ, List.setIfInBounds_toArray, List.set_cons_zero, List.set_cons_succ]
      refine wpAnyH_take (i := 6) (v := undef) rfl (by kernel_rfl) (by kernel_rfl) (by kernel_rfl) (fun _ _ _ h => h) (Or.inr ⟨by kernel_rfl, rfl⟩) hHeld ?_
      try simp only [Act.put, List.getElem_toArray, List.getElem_cons_zero, List.getElem_cons_succ, List.setIfInBounds_toArray, List.set_cons_zero, List.set_cons_succ]
      refine wpAnyH_take (i := 7) (v := undef) rfl (by kernel_rfl) (by kernel_rfl) (by kernel_rfl) (fun _ _ _ h => h) (Or.inr ⟨by kernel_rfl, rfl⟩) hHeld ?_
      try simp only [Act.put, List.getElem_toArray, List.getElem_cons_zero, List.getElem_cons_succ, List.setIfInBounds_toArray, List.set_cons_zero, List.set_cons_succ]
      refine wpAnyH_take (i := 8) (v := undef) rfl (by kernel_rfl) (by kernel_rfl) (by kernel_rfl) (fun _ _ _ h => h) (Or.inr ⟨by kernel_rfl, rfl⟩) hHeld ?_
      try simp only [Act.put, List.getElem_toArray, List.getElem_cons_zero, List.getElem_cons_succ, List.setIfInBounds_toArray, List.set_cons_zero, List.set_cons_succ]
      refine wpAnyH_take (i := 9) (v := undef) rfl (by kernel_rfl) (by kernel_rfl) (by kernel_rfl) (fun _ _ _ h => h) (Or.inr ⟨by kernel_rfl, rfl⟩) hHeld ?_
      try simp only [Act.put, List.getElem_toArray, List.getElem_cons_zero, List.getElem_cons_succ, List.setIfInBounds_toArray, List.set_cons_zero, List.set_cons_succ]
      refine wpAnyH_take (i := 10) (v := undef) rfl (by kernel_rfl) (by kernel_rfl) (by kernel_rfl) (fun _ _ _ h => h) (Or.inr ⟨by kernel_rfl, rfl⟩) hHeld ?_
      try simp only [Act.put, List.getElem_toArray, List.getElem_cons_zero, List.getElem_cons_succ, List.setIfInBounds_toArray, List.set_cons_zero, List.set_cons_succ]
      refine wpAnyH_take (i := 11) (v := .bool false) rfl (by kernel_rfl) (by kernel_rfl) (by kernel_rfl) (fun _ _ _ h => h) (Or.inl ⟨by kernel_rfl, ?_⟩) hHeld ?_
      · intro w2 hSw
        clear hSw
        go_simp
      try simp only [Act.put, List.getElem_toArray, List.getElem_cons_zero, List.getElem_cons_succ, List.setIfInBounds_toArray, List.set_cons_zero, List.set_cons_succ]
      refine wpAnyH_take (i := 12) (v := .bool false) rfl (by kernel_rfl) (by kernel_rfl) (by kernel_rfl) (fun _ _ _ h => h) (Or.inl ⟨by kernel_rfl, fun _ _ => rfl⟩) hHeld ?_
      try simp only [Act.put, List.getElem_toArray, List.getElem_cons_zero, List.getElem_cons_succ, List.setIfInBounds_toArray, List.set_cons_zero, List.set_cons_succ]
      refine wpAnyH_take (i := 13) (v := .int .i64 0) rfl (by kernel_rfl) (by kernel_rfl) (by kernel_rfl) (fun _ _ _ h => h) (Or.inl ⟨by kernel_rfl, fun _ _ => rfl⟩) hHeld ?_
      try simp only [Act.put, List.getElem_toArray, List.getElem_cons_zero, List.getElem_cons_succ, List.setIfInBounds_toArray, List.set_cons_zero, List.set_cons_succ]
      refine wpAnyH_take (i := 14) (v := .bool true) rfl (by kernel_rfl) (by kernel_rfl) (by kernel_rfl) (fun _ _ _ h => h) (Or.inl ⟨by kernel_rfl, fun _ _ => rfl⟩) hHeld ?_
      try simp only [Act.put, List.getElem_toArray, List.getElem_cons_zero, List.getElem_cons_succ, List.setIfInBounds_toArray, List.set_cons_zero, List.set_cons_succ]
      refine wpAnyH_take (i := 15) (v := .bool true) rfl (by kernel_rfl) (by kernel_rfl) (by kernel_rfl) (fun _ _ _ h => h) (Or.inl ⟨by kernel_rfl, fun _ _ => rfl⟩) hHeld ?_
      try simp only [Act.put, List.getElem_toArray, List.getElem_cons_zero, List.getElem_cons_succ, List.setIfInBounds_toArray, List.set_cons_zero, List.set_cons_succ]
      refine wpAnyH_take (i := 16) (v := .int .i64 0) rfl (by kernel_rfl) (by kernel_rfl) (by kernel_rfl) (fun _ _ _ h => h) (Or.inl ⟨by kernel_rfl, fun _ _ => rfl⟩) hHeld ?_
      try simp only [Act.put, List.getElem_toArray, List.getElem_cons_zero, List.getElem_cons_succ, List.setIfInBounds_toArray, List.set_cons_zero, List.set_cons_succ]
      refine wpAnyH_take (i := 17) (v := .bool false) rfl (by kernel_rfl) (by kernel_rfl) (by kernel_rfl) (fun _ _ _ h => h) (Or.inl ⟨by kernel_rfl, fun _ _ => rfl⟩) hHeld ?_
      try simp only [Act.put, List.getElem_toArray, List.getElem_cons_zero, List.getElem_cons_succ, List.setIfInBounds_toArray, List.set_cons_zero, List.set_cons_succ]
      refine wpAnyH_take (i := 18) (v := .bool false) rfl (by kernel_rfl) (by kernel_rfl) (by kernel_rfl) (fun _ _ _ h => h) (Or.inl ⟨by kernel_rfl, fun _ _ => rfl⟩) hHeld ?_
      try simp only [Act.put, List.getElem_toArray, List.getElem_cons_zero, List.getElem_cons_succ, List.setIfInBounds_toArray, List.set_cons_zero, List.set_cons_succ]
      refine wpAnyH_take (i := 19) (v := .agg (pixA Q)) rfl (by kernel_rfl) (by kernel_rfl) (by kernel_rfl) (fun _ _ _ h => h) (Or.inl ⟨by kernel_rfl, ?_⟩) hHeld ?_
      · intro w2 hSw
        go_split_ands
        go_simp
      try simp only [Act.put, List.getElem_toArray, List.getElem_cons_zero, List.getElem_cons_succ, List.setIfInBounds_toArray, List.set_cons_zero, List.set_cons_succ]
      refine wpAnyH_take (i := 20) (v := grn sd z s f m) rfl (by kernel_rfl) (by kernel_rfl) (by kernel_rfl) (fun _ _ _ h => h) (Or.inl ⟨by kernel_rfl, ?_⟩) hHeld ?_
      · intro w2 hSw
        go_split_ands
        go_simp
      try simp only [Act.put, List.getElem_toArray, List.getElem_cons_zero, List.getElem_cons_succ, List.setIfInBounds_toArray, List.set_cons_zero, List.set_cons_succ]
      refine wpAnyH_take (i := 21) (v := .int .i64 num) rfl (by kernel_rfl) (by kernel_rfl) (by kernel_rfl) (fun _ _ _ h => h) (Or.inl ⟨by kernel_rfl, ?_⟩) hHeld ?_
      · intro w2 hSw
        go_split_ands
        go_simp
      try simp only [Act.put, List.getElem_toArray, List.getElem_cons_zero, List.getElem_cons_succ, List.setIfInBounds_toArray, List.set_cons_zero, List.set_cons_succ]
      refine wpAnyH_take (i := 22) (v := .int .i64 x) rfl (by kernel_rfl) (by kernel_rfl) (by kernel_rfl) (fun _ _ _ h => h) (Or.inl ⟨by kernel_rfl, fun _ _ => rfl⟩) hHeld ?_
      try simp only [Act.put, List.getElem_toArray, List.getElem_cons_zero, List.getElem_cons_succ, List.setIfInBounds_toArray, List.set_cons_zero, List.set_cons_succ]
      refine wpAnyH_take (i := 23) (v := .int .i64 y) rfl (by kernel_rfl) (by kernel_rfl) (by kernel_rfl) (fun _ _ _ h => h) (Or.inl ⟨by kernel_rfl, fun _ _ => rfl⟩) hHeld ?_
      try simp only [Act.put, List.getElem_toArray, List.getElem_cons_zero, List.getElem_cons_succ, List.setIfInBounds_toArray, List.set_cons_zero, List.set_cons_succ]
      refine wpAnyH_take (i := 24) (v := .agg (pixA P)) rfl (by kernel_rfl) (by kernel_rfl) (by kernel_rfl) (fun _ _ _ h => h) (Or.inl ⟨by kernel_rfl, ?_⟩) hHeld ?_
      · intro w2 hSw
        go_split_ands
        go_simp
      try simp only [Act.put, List.getElem_toArray, List.getElem_cons_zero, List.getElem_cons_succ, List.setIfInBounds_toArray, List.set_cons_zero, List.set_cons_succ]
      refine wpAnyH_ready (rs := [25]) (by kernel_rfl) (by simp) ?_
      refine AllReadyH.cons rfl (fun K hK => ?_) AllReadyH.nil
      go_simp
      (go_at_call 25; with_reducible refine (HGO.out _).mono ?_; rintro e w3 ⟨rfl, hb⟩)
      refine hK.out _ _ (LGC.on hb hHeld) (fun hHeld2 => ?_)
      clear hK K hHeld
      try simp only [Act.put, List.getElem_toArray, List.getElem_cons_zero, List.getElem_cons_succ, List.setIfInBounds_toArray, List.set_cons_zero, List.set_cons_succ]
      refine wpAnyH_ready (rs := [26]) (by kernel_rfl) (by simp) ?_
      refine AllReadyH.cons rfl (fun K hK => ?_) AllReadyH.nil
      go_simp
      (go_at_call 24; with_reducible refine (HSP.out _).mono ?_; rintro e w4 ⟨rfl, hb⟩)
      refine hK.out _ _ (LGC.on hb hHeld2) (fun hHeld3 => ?_)
      clear hK K hHeld2
      try simp only [Act.put, List.getElem_toArray, List.getElem_cons_zero, List.getElem_cons_succ, List.setIfInBounds_toArray, List.set_cons_zero, List.set_cons_succ]
      refine wpAnyH_take (i := 27) (v := .bool false) rfl (by kernel_rfl) (by kernel_rfl) (by kernel_rfl) (fun _ _ _ h => h) (Or.inl ⟨by kernel_rfl, fun _ _ => rfl⟩) hHeld3 ?_
      try simp only [Act.put, List.getElem_toArray, List.getElem_cons_zero, List.getElem_cons_succ, List.setIfInBounds_toArray, List.set_cons_zero, List.set_cons_succ]
      refine wpAnyH_take (i := 28) (v := .bool false) rfl (by kernel_rfl) (by kernel_rfl) (by kernel_rfl) (fun _ _ _ h => h) (Or.inl ⟨by kernel_rfl, ?_⟩) hHeld3 ?_
      · intro w2 hSw
        clear hSw
        go_simp
      try simp only [Act.put, List.getElem_toArray, List.getElem_cons_zero, List.getElem_cons_succ, List.setIfInBounds_toArray, List.set_cons_zero, List.set_cons_succ]
      refine wpAnyH_take (i := 29) (v := .bool false) rfl (by kernel_rfl) (by kernel_rfl) (by kernel_rfl) (fun _ _ _ h => h) (Or.inl ⟨by kernel_rfl, ?_⟩) hHeld3 ?_
      · intro w2 hSw
        clear hSw
        go_simp
      try simp only [Act.put, List.getElem_toArray, List.getElem_cons_zero, List.getElem_cons_succ, List.setIfInBounds_toArray, List.set_cons_zero, List.set_cons_succ]
      refine wpAnyH_take (i := 30) (v := .bool false) rfl (by kernel_rfl) (by kernel_rfl) (by kernel_rfl) (fun _ _ _ h => h) (Or.inl ⟨by kernel_rfl, ?_⟩) hHeld3 ?_
      · intro w2 hSw
        clear hSw
        go_simp
      try simp only [Act.put, List.getElem_toArray, List.getElem_cons_zero, List.getElem_cons_succ, List.setIfInBounds_toArray, List.set_cons_zero, List.set_cons_succ]
      refine wpAnyH_done (by kernel_rfl) ?_ _
      have HZ := hid (LGC.all hHeld3)
      clear hHeld3
      go_wp2_with fail
      go_meet
      case rel => exact ⟨rfl, HZ.out⟩
    · have hq := HQN.out hE0
      have z9 : (grpE z x y s f != 0) = true := by simp [hE0]
      have z8 : (grpE z x y s f == 0) = false := by simp [hE0]
      have q0 := HD.out.q.cell 0
      have q1 := HD.out.q.cell 1
      have q2 := HD.out.q.cell 2
      have q3 := HD.out.q.cell 3
      simp at q0 q1 q2 q3
      rw [hq 0] at q0
      rw [hq 1] at q1
      rw [hq 2] at q2
      rw [hq 3] at q3
      have HH : RowKit.Hid (wc0.drew.cell? ⟨qb, 0, none⟩ = some (.float .f32 0) ∧ wc0.drew.cell? ⟨qb, 1, none⟩ = some (.float .f32 0) ∧ wc0.drew.cell? ⟨qb, 2, none⟩ = some (.float .f32 0) ∧ wc0.drew.cell? ⟨qb, 3, none⟩ = some (.float .f32 0) ∧ LG (fun _ => True) sd z s f m num X Y a b n c A P Q qb hb zfrm w wc0.drew) := hid ⟨q0, q1, q2, q3, HD.out.below (Below.refl _ _).drew⟩
      clear HD q0 q1 q2 q3 hq HQE HQN
      refine wp_region_held_drew (S := fun w' => w'.cell? ⟨qb, 0, none⟩ = some (.float .f32 0) ∧ w'.cell? ⟨qb, 1, none⟩ = some (.float .f32 0) ∧ w'.cell? ⟨qb, 2, none⟩ = some (.float .f32 0) ∧ w'.cell? ⟨qb, 3, none⟩ = some (.float .f32 0) ∧ LG (fun _ => True) sd z s f m num X Y a b n c A P Q qb hb zfrm w w') (by kernel_rfl) HH.out (fun hHeld => ?_)
      refine wpAnyH_take (i := 0) (v := .int .i64 (grpE z x y s f)) rfl (by kernel_rfl) (by kernel_rfl) (by kernel_rfl) (fun _ _ _ h => h) (Or.inl ⟨by kernel_rfl, fun _ _ => rfl⟩) hHeld ?_
      try simp only [Act.put, List.getElem_toArray, List.getElem_cons_zero, List.getElem_cons_succ, List.setIfInBounds_toArray, List.set_cons_zero, List.set_cons_succ]
      refine wpAnyH_take (i := 1) (v := .bool true) rfl (by kernel_rfl) (by kernel_rfl) (by kernel_rfl) (fun _ _ _ h => h) (Or.inl ⟨by kernel_rfl, ?_⟩) hHeld ?_
      · intro w2 hSw
        clear hSw
        go_simp
      try simp only [Act.put, List.getElem_toArray, List.getElem_cons_zero, List.getElem_cons_succ, List.setIfInBounds_toArray, List.set_cons_zero, List.set_cons_succ]
      refine wpAnyH_take (i := 2) (v := .bool true) rfl (by kernel_rfl) (by kernel_rfl) (by kernel_rfl) (fun _ _ _ h => h) (Or.inl ⟨by kernel_rfl, fun _ _ => rfl⟩) hHeld ?_
      try simp only [Act.put, List.getElem_toArray, List.getElem_cons_zero, List.getElem_cons_succ, List.setIfInBounds_toArray, List.set_cons_zero, List.set_cons_succ]
      refine wpAnyH_take (i := 3) (v := .agg zpx) rfl (by kernel_rfl) (by kernel_rfl) (by kernel_rfl) (fun _ _ _ h => h) (Or.inl ⟨by kernel_rfl, ?_⟩) hHeld ?_
      · intro w2 hSw
        go_split_ands
        go_simp
      try simp only [Act.put, List.getElem_toArray, List.getElem_cons_zero, List.getElem_cons_succ, List.setIfInBounds_toArray, List.set_cons_zero, List.set_cons_succ]
      refine wpAnyH_take (i := 4) (v := .agg zpx) rfl (by kernel_rfl) (by kernel_rfl) (by kernel_rfl) (fun _ _ _ h => h) (Or.inl ⟨by kernel_rfl, ?_⟩) hHeld ?_
      · intro w2 hSw
        clear hSw
        go_simp
      try simp only [Act.put, List.getElem_toArray, List.getElem_cons_zero, List.getElem_cons_succ, List.setIfInBounds_toArray, List.set_cons_zero, List.set_cons_succ]
      refine wpAnyH_take (i := 5) (v := .bool false) rfl (by kernel_rfl) (by kernel_rfl) (by kernel_rfl) (fun _ _ _ h => h) (Or.inl ⟨by kernel_rfl, ?_⟩) hHeld ?_
      · intro w2 hSw
        clear hSw
        have e0 := eq_zpx w2
        go_simp
      try simp only [Act.put, List.getElem_toArray, List.getElem_cons_zero, List.getElem_cons_succ, List.setIfInBounds_toArray, List.set_cons_zero, List.set_cons_succ]
      refine wpAnyH_take (i := 6) (v := .bool false) rfl (by kernel_rfl) (by kernel_rfl) (by kernel_rfl) (fun _ _ _ h => h) (Or.inl ⟨by kernel_rfl, fun _ _ => rfl⟩) hHeld ?_
      try simp only [Act.put, List.getElem_toArray, List.getElem_cons_zero, List.getElem_cons_succ, List.setIfInBounds_toArray, List.set_cons_zero, List.set_cons_succ]
      refine wpAnyH_take (i := 7) (v := .int .i64 (grpE z x y s f)) rfl (by kernel_rfl) (by kernel_rfl) (by kernel_rfl) (fun _ _ _ h => h) (Or.inl ⟨by kernel_rfl, fun _ _ => rfl⟩) hHeld ?_
      try simp only [Act.put, List.getElem_toArray, List.getElem_cons_zero, List.getElem_cons_succ, List.setIfInBounds_toArray, List.set_cons_zero, List.set_cons_succ]
      refine wpAnyH_take (i := 8) (v := .int .i64 (grpE z x y s f)) rfl (by kernel_rfl) (by kernel_rfl) (by kernel_rfl) (fun _ _ _ h => h) (Or.inl ⟨by kernel_rfl, fun _ _ => rfl⟩) hHeld ?_
      try simp only [Act.put, List.getElem_toArray, List.getElem_cons_zero, List.getElem_cons_succ, List.setIfInBounds_toArray, List.set_cons_zero, List.set_cons_succ]
      refine wpAnyH_take (i := 9) (v := .bool false) rfl (by kernel_rfl) (by kernel_rfl) (by kernel_rfl) (fun _ _ _ h => h) (Or.inl ⟨by kernel_rfl, ?_⟩) hHeld ?_
      · intro w2 hSw
        clear hSw
        go_simp
      try simp only [Act.put, List.getElem_toArray, List.getElem_cons_zero, List.getElem_cons_succ, List.setIfInBounds_toArray, List.set_cons_zero, List.set_cons_succ]
      refine wpAnyH_take (i := 10) (v := .bool false) rfl (by kernel_rfl) (by kernel_rfl) (by kernel_rfl) (fun _ _ _ h => h) (Or.inl ⟨by kernel_rfl, ?_⟩) hHeld ?_
      · intro w2 hSw
        clear hSw
        go_simp
      try simp only [Act.put, List.getElem_toArray, List.getElem_cons_zero, List.getElem_cons_succ, List.setIfInBounds_toArray, List.set_cons_zero, List.set_cons_succ]
      refine wpAnyH_take (i := 11) (v := .bool false) rfl (by kernel_rfl) (by kernel_rfl) (by kernel_rfl) (fun _ _ _ h => h) (Or.inl ⟨by kernel_rfl, ?_⟩) hHeld ?_
      · intro w2 hSw
        clear hSw
        go_simp
      try simp only [Act.put, List.getElem_toArray, List.getElem_cons_zero, List.getElem_cons_succ, List.setIfInBounds_toArray, List.set_cons_zero, List.set_cons_succ]
      refine wpAnyH_take (i := 12) (v := .bool false) rfl (by kernel_rfl) (by kernel_rfl) (by kernel_rfl) (fun _ _ _ h => h) (Or.inl ⟨by kernel_rfl, fun _ _ => rfl⟩) hHeld ?_
      try simp only [Act.put, List.getElem_toArray, List.getElem_cons_zero, List.getElem_cons_succ, List.setIfInBounds_toArray, List.set_cons_zero, List.set_cons_succ]
      refine wpAnyH_take (i := 13) (v := .int .i64 (grpE z x y s f)) rfl (by kernel_rfl) (by kernel_rfl) (by kernel_rfl) (fun _ _ _ h => h) (Or.inl ⟨by kernel_rfl, fun _ _ => rfl⟩) hHeld ?_
      try simp only [Act.put, List.getElem_toArray, List.getElem_cons_zero, List.getElem_cons_succ, List.setIfInBounds_toArray, List.set_cons_zero, List.set_cons_succ]
      refine wpAnyH_take (i := 14) (v := .bool false) rfl (by kernel_rfl) (by kernel_rfl) (by kernel_rfl) (fun _ _ _ h => h) (Or.inl ⟨by kernel_rfl, ?_⟩) hHeld ?_
      · intro w2 hSw
        clear hSw
        go_simp
      try simp only [Act.put, List.getElem_toArray, List.getElem_cons_zero, List.getElem_cons_succ, List.setIfInBounds_toArray, List.set_cons_zero, List.set_cons_succ]
      refine wpAnyH_take (i := 15) (v := .bool false) rfl (by kernel_rfl) (by kernel_rfl) (by kernel_rfl) (fun _ _ _ h => h) (Or.inl ⟨by kernel_rfl, fun _ _ => rfl⟩) hHeld ?_
      try simp only [Act.put, List.getElem_toArray, List.getElem_cons_zero, List.getElem_cons_succ, List.setIfInBounds_toArray, List.set_cons_zero, List.set_cons_succ]
      refine wpAnyH_take (i := 16) (v := undef) rfl (by kernel_rfl) (by kernel_rfl) (by kernel_rfl) (fun _ _ _ h => h) (Or.inr ⟨by kernel_rfl, rfl⟩) hHeld ?_
      try simp only [Act.put, List.getElem_toArray, List.getElem_cons_zero, List.getElem_cons_succ, List.setIfInBounds_toArray, List.set_cons_zero, List.set_cons_succ]
      refine wpAnyH_take (i := 17) (v := undef) rfl (by kernel_rfl) (by kernel_rfl) (by kernel_rfl) (fun _ _ _ h => h) (Or.inr ⟨by kernel_rfl, rfl⟩) hHeld ?_
      try simp only [Act.put, List.getElem_toArray, List.getElem_cons_zero, List.getElem_cons_succ, List.setIfInBounds_toArray, List.set_cons_zero, List.set_cons_succ]
      refine wpAnyH_take (i := 18) (v := undef) rfl (by kernel_rfl) (by kernel_rfl) (by kernel_rfl) (fun _ _ _ h => h) (Or.inr ⟨by kernel_rfl, rfl⟩) hHeld ?_
      try simp only [Act.put, List.getElem_toArray, List.getElem_cons_zero, List.getElem_cons_succ, List.setIfInBounds_toArray, List.set_cons_zero, List.set_cons_succ]
      refine wpAnyH_take (i := 19) (v := undef) rfl (by kernel_rfl) (by kernel_rfl) (by kernel_rfl) (fun _ _ _ h => h) (Or.inr ⟨by kernel_rfl, rfl⟩) hHeld ?_
      try simp only [Act.put, List.getElem_toArray, List.getElem_cons_zero, List.getElem_cons_succ, List.setIfInBounds_toArray, List.set_cons_zero, List.set_cons_succ]
      refine wpAnyH_take (i := 20) (v := undef) rfl (by kernel_rfl) (by kernel_rfl) (by kernel_rfl) (fun _ _ _ h => h) (Or.inr ⟨by kernel_rfl, rfl⟩) hHeld ?_
      try simp only [Act.put, List.getElem_toArray, List.getElem_cons_zero, List.getElem_cons_succ, List.setIfInBounds_toArray, List.set_cons_zero, List.set_cons_succ]
      refine wpAnyH_take (i := 21) (v := undef) rfl (by kernel_rfl) (by kernel_rfl) (by kernel_rfl) (fun _ _ _ h => h) (Or.inr ⟨by kernel_rfl, rfl⟩) hHeld ?_
      try simp only [Act.put, List.getElem_toArray, List.getElem_cons_zero, List.getElem_cons_succ, List.setIfInBounds_toArray, List.set_cons_zero, List.set_cons_succ]
      refine wpAnyH_take (i := 22) (v := undef) rfl (by kernel_rfl) (by kernel_rfl) (by kernel_rfl) (fun _ _ _ h => h) (Or.inr ⟨by kernel_rfl, rfl⟩) hHeld ?_
      try simp only [Act.put, List.getElem_toArray, List.getElem_cons_zero, List.getElem_cons_succ, List.setIfInBounds_toArray, List.set_cons_zero, List.set_cons_succ]
      refine wpAnyH_take (i := 23) (v := undef) rfl (by kernel_rfl) (by kernel_rfl) (by kernel_rfl) (fun _ _ _ h => h) (Or.inr ⟨by kernel_rfl, rfl⟩) hHeld ?_
      try simp only [Act.put, List.getElem_toArray, List.getElem_cons_zero, List.getElem_cons_succ, List.setIfInBounds_toArray, List.set_cons_zero, List.set_cons_succ]
      refine wpAnyH_take (i := 24) (v := undef) rfl (by kernel_rfl) (by kernel_rfl) (by kernel_rfl) (fun _ _ _ h => h) (Or.inr ⟨by kernel_rfl, rfl⟩) hHeld ?_
      try simp only [Act.put, List.getElem_toArray, List.getElem_cons_zero, List.getElem_cons_succ, List.setIfInBounds_toArray, List.set_cons_zero, List.set_cons_succ]
      refine wpAnyH_take (i := 25) (v := undef) rfl (by kernel_rfl) (by kernel_rfl) (by kernel_rfl) (fun _ _ _ h => h) (Or.inr ⟨by kernel_rfl, rfl⟩) hHeld ?_
      try simp only [Act.put, List.getElem_toArray, List.getElem_cons_zero, List.getElem_cons_succ, List.setIfInBounds_toArray, List.set_cons_zero, List.set_cons_succ]
      refine wpAnyH_take (i := 26) (v := undef) rfl (by kernel_rfl) (by kernel_rfl) (by kernel_rfl) (fun _ _ _ h => h) (Or.inr ⟨by kernel_rfl, rfl⟩) hHeld ?_
      try simp only [Act.put, List.getElem_toArray, List.getElem_cons_zero, List.getElem_cons_succ, List.setIfInBounds_toArray, List.set_cons_zero, List.set_cons_succ]
      refine wpAnyH_take (i := 27) (v := undef) rfl (by kernel_rfl) (by kernel_rfl) (by kernel_rfl) (fun _ _ _ h => h) (Or.inr ⟨by kernel_rfl, rfl⟩) hHeld ?_
      try simp only [Act.put, List.getElem_toArray, List.getElem_cons_zero, List.getElem_cons_succ, List.setIfInBounds_toArray, List.set_cons_zero, List.set_cons_succ]
      refine wpAnyH_take (i := 28) (v := undef) rfl (by kernel_rfl) (by kernel_rfl) (by kernel_rfl) (fun _ _ _ h => h) (Or.inr ⟨by kernel_rfl, rfl⟩) hHeld ?_
      try simp only [Act.put, List.getElem_toArray, List.getElem_cons_zero, List.getElem_cons_succ, List.setIfInBounds_toArray, List.set_cons_zero, List.set_cons_succ]
      refine wpAnyH_take (i := 29) (v := .bool false) rfl (by kernel_rfl) (by kernel_rfl) (by kernel_rfl) (fun _ _ _ h => h) (Or.inl ⟨by kernel_rfl, ?_⟩) hHeld ?_
      · intro w2 hSw
        clear hSw
        go_simp
      try simp only [Act.put, List.getElem_toArray, List.getElem_cons_zero, List.getElem_cons_succ, List.setIfInBounds_toArray, List.set_cons_zero, List.set_cons_succ]
      refine wpAnyH_take (i := 30) (v := .bool false) rfl (by kernel_rfl) (by kernel_rfl) (by kernel_rfl) (fun _ _ _ h => h) (Or.inl ⟨by kernel_rfl, ?_⟩) hHeld ?_
      · intro w2 hSw
        clear hSw
        go_simp
      try simp only [Act.put, List.getElem_toArray, List.getElem_cons_zero, List.getElem_cons_succ, List.setIfInBounds_toArray, List.set_cons_zero, List.set_cons_succ]
      refine wpAnyH_done (by kernel_rfl) ?_ _
      have HZ := hid hHeld.2.2.2.2
      clear hHeld
      go_wp2_with fail
      go_meet
      case rel => exact ⟨rfl, HZ.out⟩
  case rest =>
    obtain ⟨rfl, hcu⟩ := hcut
    have HD := hid hcu
    clear hcu
    have f0 := HD.out.f.cell 0
    have f1 := HD.out.f.cell 1
    have f2 := HD.out.f.cell 2
    have f3 := HD.out.f.cell 3
    have f4 := HD.out.f.cell 4
    simp at f0 f1 f2 f3 f4
    clear HQE HQN
    go_upto_region 11 with (first
      | (go_at_call 26; refine (frameError_any _ _ _ _ _ _ _ _).mono ?_; rintro e w5 ⟨rfl, hb5⟩)
      | (go_at_call 22; refine (first_any _ _ _ _ (Blk.new_at _ _ _ rfl)).mono ?_; rintro e w' ⟨R2, rfl, hR5, hR6, rfl⟩
         obtain rfl : R2 = ie := by
           by_cases h : frmE X Y a b n = 0
           · rw [hR6 h, hI2 h]
           · rw [hR5 h, hI1 h]))
    go_name_world wd hwd
    have HE : RowKit.Hid (LG (fun _ => True) sd z s f m num X Y a b n c A P Q qb hb zfrm w wd) := by
      show LG (fun _ => True) sd z s f m num X Y a b n c A P Q qb hb zfrm w wd
      rw [← hwd]
      exact (HD.out.below hb5).below ((Below.refl _ _).alloc (Nat.le_refl _) _)
    clear hwd hb5 HD hR5 hR6 f0 f1 f2 f3 f4
    have h0 := HE.out.h.cell 0
    have h1 := HE.out.h.cell 1
    have h2 := HE.out.h.cell 2
    have h3 := HE.out.h.cell 3
    have h4 := HE.out.h.cell 4
    simp at h0 h1 h2 h3 h4
    go_wp2_with (go_at_call 27; refine (none_any _).mono ?_; rintro e w6 ⟨rfl, hb6⟩)
    go_ret
    exact ⟨rfl, below_to HE.out.be hb6⟩

/-- The frame with grain. -/
def grF (sd z num X Y : Int) (s f : Nat) (m : Bool) (a : Nat) (F : Nat → Nat) : Nat → Nat := gI (fun i j => grp sd z num (X + i) (Y + j) s f m (fun k => F (4 * (a * j + i) + k))) a
/-- What the two frames read as. -/
def GL (n : Nat) (A : Option Addr) (F : Nat → Nat) (g : Nat) (G : Nat → Nat) (wr : World) : Prop := Src wr A n F ∧ Src wr (some ⟨g, 0, none⟩) n G
theorem GL.below {n : Nat} {A : Option Addr} {F : Nat → Nat} {g : Nat} {G : Nat → Nat} (w1 w2 : World) (h : GL n A F g G w1) (hb : Below w1.heap.size w1 w2) : GL n A F g G w2 := ⟨h.1.below hb, h.2.below hb⟩
abbrev LGD (sd z : Int) (s f : Nat) (m : Bool) (num X Y : Int) (a b : Nat) (n c : Nat) (A : Option Addr) (F : Nat → Nat) (P Q : Nat → Nat) (g d qb hb : Nat) (w w' : World) : Prop := w'.cell? ⟨w.heap.size + 1 + 1 + 1, 0, none⟩ = some (.int .i64 X) ∧ w'.cell? ⟨w.heap.size + 1 + 1 + 1, 1, none⟩ = some (.int .i64 Y) ∧ w'.cell? ⟨w.heap.size + 1 + 1 + 1, 2, none⟩ = some (.int .i64 a) ∧ w'.cell? ⟨w.heap.size + 1 + 1 + 1, 3, none⟩ = some (.int .i64 b) ∧ w'.cell? ⟨w.heap.size + 1 + 1 + 1, 4, none⟩ = some (.slice A n c) ∧ w'.cell? ⟨hb, 0, none⟩ = some (.int .i64 X) ∧ w'.cell? ⟨hb, 1, none⟩ = some (.int .i64 Y) ∧ w'.cell? ⟨hb, 2, none⟩ = some (.int .i64 a) ∧ w'.cell? ⟨hb, 3, none⟩ = some (.int .i64 b) ∧ w'.cell? ⟨hb, 4, none⟩ = some (.slice (some ⟨g, 0, none⟩) n d) ∧ LG (GL n A F g (grF sd z num X Y s f m a F)) sd z s f m num X Y a b n c A P Q qb hb #[.int .i64 X, .int .i64 Y, .int .i64 a, .int .i64 b, .slice (some ⟨g, 0, none⟩) n d] w w'
section
variable {sd z num X Y : Int} {s f n c qb hb a b g d : Nat} {m : Bool} {A : Option Addr} {F : Nat → Nat} {P Q : Nat → Nat} {w wr w1 : World}
theorem LGD.mk (h : LG (GL n A F g (grF sd z num X Y s f m a F)) sd z s f m num X Y a b n c A P Q qb hb #[.int .i64 X, .int .i64 Y, .int .i64 a, .int .i64 b, .slice (some ⟨g, 0, none⟩) n d] w wr) : LGD sd z s f m num X Y a b n c A F P Q g d qb hb w wr := ⟨h.f.cell 0, h.f.cell 1, h.f.cell 2, h.f.cell 3, h.f.cell 4, h.h.cell 0, h.h.cell 1, h.h.cell 2, h.h.cell 3, h.h.cell 4, h⟩
theorem LGD.all (h : LGD sd z s f m num X Y a b n c A F P Q g d qb hb w wr) : LG (GL n A F g (grF sd z num X Y s f m a F)) sd z s f m num X Y a b n c A P Q qb hb #[.int .i64 X, .int .i64 Y, .int .i64 a, .int .i64 b, .slice (some ⟨g, 0, none⟩) n d] w wr := h.2.2.2.2.2.2.2.2.2.2
theorem LGD.on (hbe : Below wr.heap.size wr w1) (h : LGD sd z s f m num X Y a b n c A F P Q g d qb hb w wr) : LGD sd z s f m num X Y a b n c A F P Q g d qb hb w w1 := LGD.mk (h.all.below hbe)
theorem LGD.alloc (h : LGD sd z s f m num X Y a b n c A F P Q g d qb hb w wr) (o : Obj) : LGD sd z s f m num X Y a b n c A F P Q g d qb hb w (wr.alloc o) := h.on ((Below.refl _ _).alloc (Nat.le_refl _) o)
end

set_option linter.unusedSimpArgs false in
set_option maxRecDepth 100000 in
set_option maxHeartbeats 8000000 in
theorem grainLaw_ok (sd z : Int) (s f : Nat) (m : Bool) (num x y : Int) (P : Nat → Nat) (X Y : Int) (a b n c : Nat) (A : Option Addr) (F : Nat → Nat) (w : World) (hE : frmE X Y a b n = 0) (hG : grE z s f = 0) (hnc : n ≤ c) (hcm : c ≤ maxLen) (hF : Src w A n F) :
    Calls Try.prog 4 #[grn sd z s f m, .int .i64 num, .int .i64 x, .int .i64 y, pix P, frm X Y a b A n c] w fun e w' => e = .returned (.bool true) ∧ Below w.heap.size w w' := by
  obtain ⟨hreg, hn4⟩ := frmE_zero hE
  obtain ⟨a1, a2, b1, b2, ab, x1, x2, y1, y2⟩ := regE_zero hreg
  have hn : n = 4 * (a * b) := by
    have e : 4 * (a : Int) * (b : Int) = ((4 * (a * b) : Nat) : Int) := by rw [Int.mul_assoc]; simp
    rw [e] at hn4
    exact_mod_cast hn4
  have hpq : a * b ≤ 16384 := by
    have e : (a : Int) * (b : Int) = ((a * b : Nat) : Int) := by simp
    rw [e] at ab
    omega
  obtain ⟨⟨z1, z2⟩, _, _⟩ := grE_zero hG
  have HFE := hid hE
  have HGE := hid hG
  have HF := hid hF
  have HGR := hid fun w1 (hb : Below w.heap.size w w1) => grain_ok sd z s f m num X Y a b n c A F w1 hE hG hnc hcm (hF.below hb)
  have HMD := hid fun (Q : Nat → Nat) (g d qb hb : Nat) (w1 : World) (hc : LGD sd z s f m num X Y a b n c A F P Q g d qb hb w w1) => made_any 31 #[.pointer (some ⟨w.heap.size, 0, none⟩), .pointer (some ⟨w.heap.size + 1, 0, none⟩), .pointer (some ⟨w.heap.size + 1 + 1 + 1, 0, none⟩)] enters_grLaw1 X Y a b n (fun i j => grp sd z num (X + i) (Y + j) s f m (fun k => F (4 * (a * j + i) + k))) w1 hn (by omega) (by omega) (by omega) (by omega) (by omega) (by omega) (by omega) (by omega) (by omega)
    (fun i j w2 hi hj hb => grLaw1_any sd z num X Y s f m a b n c A F w.heap.size (w.heap.size + 1) (w.heap.size + 1 + 1 + 1) i j w2 z1 z2 hi hj hn hnc hcm (by omega) (by omega) (by omega) (by omega) (by omega) (by omega) (by omega) (hc.all.l.1.below hb) (hc.all.g.below hb hc.all.g.lt) (hc.all.no.below hb hc.all.no.lt) (hc.all.f.below hb hc.all.f.lt))
  have HSF := hid fun (Q : Nat → Nat) (g d qb hb b2 c2 : Nat) (w1 : World) (hc : LGD sd z s f m num X Y a b n c A F P Q g d qb hb w w1) (hs : Src w1 (some ⟨b2, 0, none⟩) n (grF sd z num X Y s f m a F)) => sameFrame_any X Y a b n d c2 (some ⟨g, 0, none⟩) (some ⟨b2, 0, none⟩) (grF sd z num X Y s f m a F) (grF sd z num X Y s f m a F) w1 (by omega) hc.all.l.2 hs (fun _ _ => rfl)
  have hmf : ∀ (fn : Fn) (first cap : Array Value) (w : World), (Instr.makeFunc fn first cap).run Try.prog w = .ok (.func fn first cap) w := fun _ _ _ _ => rfl
  clear hreg hn4 hn hpq ab hE hG hF z1 z2
  have HGD := hid fun w1 => grained_q sd z num x y s f m P w1
  have HN := hid (LG0.new sd z s f m num X Y a b n c A P w)
  have HQE : RowKit.Hid (grpE z x y s f = 0 → ∀ k, grpQ sd z num x y s f m P k = grp sd z num x y s f m P k) := hid fun h k => by unfold grpQ; rw [if_pos h]
  have HQN : RowKit.Hid (grpE z x y s f ≠ 0 → ∀ k, grpQ sd z num x y s f m P k = 0) := hid fun h k => by unfold grpQ; rw [if_neg h]
  rw [pix_cells P]
  generalize grpQ sd z num x y s f m P = Q at *
  go_enter Try.func4, Try.ntmps4
  go_wp2_with fail
  refine (HGD.out _).mono ?_
  rintro e w1 ⟨rfl, hb1⟩
  have HA := hid ((HN.out.below hb1).put Q)
  clear hb1 HN HGD
  go_upto_region 2 with fail
  generalize w1.heap.size = qb at *
  go_name_world wa hwa
  have HA2 : RowKit.Hid (LG1 sd z s f m num X Y a b n c A P Q qb w wa) := by
    show LG1 sd z s f m num X Y a b n c A P Q qb w wa
    rw [← hwa]
    exact HA.out
  clear hwa HA
  rename RowKit.Hid (LG1 sd z s f m num X Y a b n c A P Q qb w wa) => HA
  have f0 := HA.out.f.cell 0
  have f1 := HA.out.f.cell 1
  have f2 := HA.out.f.cell 2
  have f3 := HA.out.f.cell 3
  have f4 := HA.out.f.cell 4
  have g0 := HA.out.g.cell 0
  have g1 := HA.out.g.cell 1
  have g2 := HA.out.g.cell 2
  have g3 := HA.out.g.cell 3
  have g4 := HA.out.g.cell 4
  have n0 := HA.out.no.cell 0
  simp at f0 f1 f2 f3 f4 g0 g1 g2 g3 g4 n0
  go_wp2_with fail
  refine (HGR.out _ HA.out.be).mono ?_
  rintro e w2 ⟨g, d, rfl, hs, hb2⟩
  clear f0 f1 f2 f3 f4 g0 g1 g2 g3 g4 n0
  have HB := hid ((HA.out.below hb2).put #[.int .i64 X, .int .i64 Y, .int .i64 a, .int .i64 b, .slice (some ⟨g, 0, none⟩) n d] (show GL n A F g (grF sd z num X Y s f m a F) w2 from ⟨HF.out.below (below_to HA.out.be hb2), hs⟩) GL.below)
  clear hb2 HA HGR hs
  go_upto_region 3 with fail
  generalize w2.heap.size = hb at *
  go_name_world wb hwb
  have HB2 : RowKit.Hid (LG (GL n A F g (grF sd z num X Y s f m a F)) sd z s f m num X Y a b n c A P Q qb hb #[.int .i64 X, .int .i64 Y, .int .i64 a, .int .i64 b, .slice (some ⟨g, 0, none⟩) n d] w wb) := by
    show LG (GL n A F g (grF sd z num X Y s f m a F)) sd z s f m num X Y a b n c A P Q qb hb #[.int .i64 X, .int .i64 Y, .int .i64 a, .int .i64 b, .slice (some ⟨g, 0, none⟩) n d] w wb
    rw [← hwb]
    exact HB.out
  clear hwb HB
  rename RowKit.Hid (LG (GL n A F g (grF sd z num X Y s f m a F)) sd z s f m num X Y a b n c A P Q qb hb #[.int .i64 X, .int .i64 Y, .int .i64 a, .int .i64 b, .slice (some ⟨g, 0, none⟩) n d] w wb) => HB
  have g0 := HB.out.g.cell 0
  have g1 := HB.out.g.cell 1
  have g2 := HB.out.g.cell 2
  have g3 := HB.out.g.cell 3
  have g4 := HB.out.g.cell 4
  simp at g0 g1 g2 g3 g4
  go_wp2_with fail
  refine (grainError_any _ _ _ _ _ _).mono ?_
  rintro e w3 ⟨rfl, hb3⟩
  have HC := hid (HB.out.below hb3)
  clear hb3 HB g0 g1 g2 g3 g4
  have g0 := HC.out.g.cell 0
  have g1 := HC.out.g.cell 1
  have g2 := HC.out.g.cell 2
  have g3 := HC.out.g.cell 3
  have g4 := HC.out.g.cell 4
  simp at g0 g1 g2 g3 g4
  go_upto_region 7 with (first
    | (go_at_call 20; refine (finishes_any _).mono ?_; rintro e w' ⟨rfl, n0, rfl⟩)
    | (go_at_call 21; refine (checkGrain_any _ _ _ _ _ _).mono ?_; rintro e w4 ⟨rfl, hb4⟩)
    | (go_at_call 23; refine (placed_any _ _ _).mono ?_; rintro e w' ⟨rfl, rfl⟩)
    | (go_at_call 22; refine (first_any _ _ _ _ (Blk.new_at _ _ _ rfl)).mono ?_; rintro e w' ⟨R1, rfl, hR3, hR4, rfl⟩))
  obtain rfl : R1 = grpE z x y s f := grpE_first hR3 hR4
  go_name_world wc0 hwc
  have HD : RowKit.Hid (LG (GL n A F g (grF sd z num X Y s f m a F)) sd z s f m num X Y a b n c A P Q qb hb #[.int .i64 X, .int .i64 Y, .int .i64 a, .int .i64 b, .slice (some ⟨g, 0, none⟩) n d] w wc0) := by
    show LG (GL n A F g (grF sd z num X Y s f m a F)) sd z s f m num X Y a b n c A P Q qb hb #[.int .i64 X, .int .i64 Y, .int .i64 a, .int .i64 b, .slice (some ⟨g, 0, none⟩) n d] w wc0
    rw [← hwc]
    exact (HC.out.below ((below_drewN (Below.refl _ _) _).trans hb4)).below ((Below.refl _ _).alloc (Nat.le_refl _) _)
  clear hR3 hR4 hb4 hwc HC g0 g1 g2 g3 g4
  go_cut [82] (fun v wx => v = .bool false ∧ LG (GL n A F g (grF sd z num X Y s f m a F)) sd z s f m num X Y a b n c A P Q qb hb #[.int .i64 X, .int .i64 Y, .int .i64 a, .int .i64 b, .slice (some ⟨g, 0, none⟩) n d] w wx)
  case first =>
    by_cases hE0 : grpE z x y s f = 0
    · have HQ0 := hid (HQE.out hE0)
      have hz := grE_zero (z := z) (s := s) (f := f) (by unfold grpE at hE0; by_cases h : grE z s f = 0; exact h; rw [if_neg h] at hE0; exact absurd hE0 h)
      have hpl : (placeB x && placeB y) = true := by
        unfold grpE at hE0
        cases h : (placeB x && placeB y)
        · by_cases h2 : grE z s f = 0
          · rw [if_pos h2, h] at hE0; cases hE0
          · rw [if_neg h2] at hE0; exact absurd hE0 h2
        · rfl
      rw [Bool.and_eq_true] at hpl
      have hpx := of_decide_eq_true hpl.1
      have hpy := of_decide_eq_true hpl.2
      have HGO := hid fun w1 => grainedOf_any sd z num x y s f m P w1 hz.1.1 hz.1.2 hpx.1 hpx.2 hpy.1 hpy.2
      have HSP := hid fun w1 => samePix_any Q (grp sd z num x y s f m P) (fun k _ => HQ0.out k) w1
      rw [pix_cells P] at HGO
      rw [pix_cells Q, pix_cells (grp sd z num x y s f m P)] at HSP
      clear hz hpl hpx hpy HQE HQN HQ0
      generalize grp sd z num x y s f m P = G at *
      generalize grpE z x y s f = ge at *
      subst hE0
      have HH := hid (HD.out.below (Below.refl _ _).drew).held
      clear HD
      refine wp_region_held_drew (S := fun w' => w'.cell? ⟨w.heap.size, 0, none⟩ = some (.int .u32 sd) ∧ w'.cell? ⟨w.heap.size, 1, none⟩ = some (.int .i64 z) ∧ w'.cell? ⟨w.heap.size, 2, none⟩ = some (.float .f32 s) ∧ w'.cell? ⟨w.heap.size, 3, none⟩ = some (.float .f32 f) ∧ w'.cell? ⟨w.heap.size, 4, none⟩ = some (.bool m) ∧ w'.cell? ⟨w.heap.size + 1, 0, none⟩ = some (.int .i64 num) ∧ w'.cell? ⟨w.heap.size + 1 + 1, 0, none⟩ = some (.float .f32 (P 0)) ∧ w'.cell? ⟨w.heap.size + 1 + 1, 1, none⟩ = some (.float .f32 (P 1)) ∧ w'.cell? ⟨w.heap.size + 1 + 1, 2, none⟩ = some (.float .f32 (P 2)) ∧ w'.cell? ⟨w.heap.size + 1 + 1, 3, none⟩ = some (.float .f32 (P 3)) ∧ w'.cell? ⟨qb, 0, none⟩ = some (.float .f32 (Q 0)) ∧ w'.cell? ⟨qb, 1, none⟩ = some (.float .f32 (Q 1)) ∧ w'.cell? ⟨qb, 2, none⟩ = some (.float .f32 (Q 2)) ∧ w'.cell? ⟨qb, 3, none⟩ = some (.float .f32 (Q 3)) ∧ LG (GL n A F g (grF sd z num X Y s f m a F)) sd z s f m num X Y a b n c A P Q qb hb #[.int .i64 X, .int .i64 Y, .int .i64 a, .int .i64 b, .slice (some ⟨g, 0, none⟩) n d] w w') (by kernel_rfl) HH.out (fun hHeld => ?_)
      refine wpAnyH_take (i := 0) (v := .int .i64 0) rfl (by kernel_rfl) (by kernel_rfl) (by kernel_rfl) (fun _ _ _ h => h) (Or.inl ⟨by kernel_rfl, fun _ _ => rfl⟩) hHeld ?_
      try simp only [Act.put, List.getElem_toArray, List.getElem_cons_zero, List.getElem_cons_succ, List.setIfInBounds_toArray, List.set_cons_zero, List.set_cons_succ]
      refine wpAnyH_take (i := 1) (v := .bool false) rfl (by kernel_rfl) (by kernel_rfl) (by kernel_rfl) (fun _ _ _ h => h) (Or.inl ⟨by kernel_rfl, fun _ _ => rfl⟩) hHeld ?_
      try simp only [Act.put, List.getElem_toArray, List.getElem_cons_zero, List.getElem_cons_succ, List.setIfInBounds_toArray, List.set_cons_zero, List.set_cons_succ]
      refine wpAnyH_take (i := 2) (v := .bool false) rfl (by kernel_rfl) (by kernel_rfl) (by kernel_rfl) (fun _ _ _ h => h) (Or.inl ⟨by kernel_rfl, fun _ _ => rfl⟩) hHeld ?_
      try simp only [Act.put, List.getElem_toArray, List.getElem_cons_zero, List.getElem_cons_succ, List.setIfInBounds_toArray, List.set_cons_zero, List.set_cons_succ]
      refine wpAnyH_take (i := 3) (v := undef) rfl (by kernel_rfl) (by kernel_rfl) (by kernel_rfl) (fun _ _ _ h => h) (Or.inr ⟨by kernel_rfl, rfl⟩) hHeld ?_
      try simp only [Act.put, List.getElem_toArray, List.getElem_cons_zero, List.getElem_cons_succ, List.setIfInBounds_toArray, List.set_cons_zero, List.set_cons_succ]
      refine wpAnyH_take (i := 4) (v := undef) rfl (by kernel_rfl) (by kernel_rfl) (by kernel_rfl) (fun _ _ _ h => h) (Or.inr ⟨by kernel_rfl, rfl⟩) hHeld ?_
      try simp only [Act.put, List.getElem_toArray, List.getElem_cons_zero, List.getElem_cons_succ, List.setIfInBounds_toArray, List.set_cons_zero, List.set_cons_succ]
      refine wpAnyH_take (i := 5) (v := undef) rfl (by kernel_rfl) (by kernel_rfl) (by kernel_rfl) (fun _ _ _ h => h) (Or.inr ⟨by kernel_rfl, rfl⟩) hHeld ?_
      try simp only [Act.put, List.getElem_toArray, List.getElem_cons_zero, List.getElem_cons_succ, List.setIfInBounds_toArray, List.set_cons_zero, List.set_cons_succ]
      refine wpAnyH_take (i := 6) (v := undef) rfl (by kernel_rfl) (by kernel_rfl) (by kernel_rfl) (fun _ _ _ h => h) (Or.inr ⟨by kernel_rfl, rfl⟩) hHeld ?_
      try simp only [Act.put, List.getElem_toArray, List.getElem_cons_zero, List.getElem_cons_succ, List.setIfInBounds_toArray, List.set_cons_zero, List.set_cons_succ]
      refine wpAnyH_take (i := 7) (v := undef) rfl (by kernel_rfl) (by kernel_rfl) (by kernel_rfl) (fun _ _ _ h => h) (Or.inr ⟨by kernel_rfl, rfl⟩) hHeld ?_
      try simp only [Act.put, List.getElem_toArray, List.getElem_cons_zero, List.getElem_cons_succ, List.setIfInBounds_toArray, List.set_cons_zero, List.set_cons_succ]
      refine wpAnyH_take (i := 8) (v := undef) rfl (by kernel_rfl) (by kernel_rfl) (by kernel_rfl) (fun _ _ _ h => h) (Or.inr ⟨by kernel_rfl, rfl⟩) hHeld ?_
      try simp only [Act.put, List.getElem_toArray, List.getElem_cons_zero, List.getElem_cons_succ, List.setIfInBounds_toArray, List.set_cons_zero, List.set_cons_succ]
      refine wpAnyH_take (i := 9) (v := undef) rfl (by kernel_rfl) (by kernel_rfl) (by kernel_rfl) (fun _ _ _ h => h) (Or.inr ⟨by kernel_rfl, rfl⟩) hHeld ?_
      try simp only [Act.put, List.getElem_toArray, List.getElem_cons_zero, List.getElem_cons_succ, List.setIfInBounds_toArray, List.set_cons_zero, List.set_cons_succ]
      refine wpAnyH_take (i := 10) (v := undef) rfl (by kernel_rfl) (by kernel_rfl) (by kernel_rfl) (fun _ _ _ h => h) (Or.inr ⟨by kernel_rfl, rfl⟩) hHeld ?_
      try simp only [Act.put, List.getElem_toArray, List.getElem_cons_zero, List.getElem_cons_succ, List.setIfInBounds_toArray, List.set_cons_zero, List.set_cons_succ]
      refine wpAnyH_take (i := 11) (v := .bool false) rfl (by kernel_rfl) (by kernel_rfl) (by kernel_rfl) (fun _ _ _ h => h) (Or.inl ⟨by kernel_rfl, ?_⟩) hHeld ?_
      · intro w2 hSw
        clear hSw
        go_simp
      try simp only [Act.put, List.getElem_toArray, List.getElem_cons_zero, List.getElem_cons_succ, List.setIfInBounds_toArray, List.set_cons_zero, List.set_cons_succ]
      refine wpAnyH_take (i := 12) (v := .bool false) rfl (by kernel_rfl) (by kernel_rfl) (by kernel_rfl) (fun _ _ _ h => h) (Or.inl ⟨by kernel_rfl, fun _ _ => rfl⟩) hHeld ?_
      try simp only [Act.put, List.getElem_toArray, List.getElem_cons_zero, List.getElem_cons_succ, List.setIfInBounds_toArray, List.set_cons_zero, List.set_cons_succ]
      refine wpAnyH_take (i := 13) (v := .int .i64 0) rfl (by kernel_rfl) (by kernel_rfl) (by kernel_rfl) (fun _ _ _ h => h) (Or.inl ⟨by kernel_rfl, fun _ _ => rfl⟩) hHeld ?_
      try simp only [Act.put, List.getElem_toArray, List.getElem_cons_zero, List.getElem_cons_succ, List.setIfInBounds_toArray, List.set_cons_zero, List.set_cons_succ]
      refine wpAnyH_take (i := 14) (v := .bool true) rfl (by kernel_rfl) (by kernel_rfl) (by kernel_rfl) (fun _ _ _ h => h) (Or.inl ⟨by kernel_rfl, fun _ _ => rfl⟩) hHeld ?_
      try simp only [Act.put, List.getElem_toArray, List.getElem_cons_zero, List.getElem_cons_succ, List.setIfInBounds_toArray, List.set_cons_zero, List.set_cons_succ]
      refine wpAnyH_take (i := 15) (v := .bool true) rfl (by kernel_rfl) (by kernel_rfl) (by kernel_rfl) (fun _ _ _ h => h) (Or.inl ⟨by kernel_rfl, fun _ _ => rfl⟩) hHeld ?_
      try simp only [Act.put, List.getElem_toArray, List.getElem_cons_zero, List.getElem_cons_succ, List.setIfInBounds_toArray, List.set_cons_zero, List.set_cons_succ]
      refine wpAnyH_take (i := 16) (v := .int .i64 0) rfl (by kernel_rfl) (by kernel_rfl) (by kernel_rfl) (fun _ _ _ h => h) (Or.inl ⟨by kernel_rfl, fun _ _ => rfl⟩) hHeld ?_
      try simp only [Act.put, List.getElem_toArray, List.getElem_cons_zero, List.getElem_cons_succ, List.setIfInBounds_toArray, List.set_cons_zero, List.set_cons_succ]
      refine wpAnyH_take (i := 17) (v := .bool false) rfl (by kernel_rfl) (by kernel_rfl) (by kernel_rfl) (fun _ _ _ h => h) (Or.inl ⟨by kernel_rfl, fun _ _ => rfl⟩) hHeld ?_
      try simp only [Act.put, List.getElem_toArray, List.getElem_cons_zero, List.getElem_cons_succ, List.setIfInBounds_toArray, List.set_cons_zero, List.set_cons_succ]
      refine wpAnyH_take (i := 18) (v := .bool false) rfl (by kernel_rfl) (by kernel_rfl) (by kernel_rfl) (fun _ _ _ h => h) (Or.inl ⟨by kernel_rfl, fun _ _ => rfl⟩) hHeld ?_
      try simp only [Act.put, List.getElem_toArray, List.getElem_cons_zero, List.getElem_cons_succ, List.setIfInBounds_toArray, List.set_cons_zero, List.set_cons_succ]
      refine wpAnyH_take (i := 19) (v := .agg (pixA Q)) rfl (by kernel_rfl) (by kernel_rfl) (by kernel_rfl) (fun _ _ _ h => h) (Or.inl ⟨by kernel_rfl, ?_⟩) hHeld ?_
      · intro w2 hSw
        go_split_ands
        go_simp
      try simp only [Act.put, List.getElem_toArray, List.getElem_cons_zero, List.getElem_cons_succ, List.setIfInBounds_toArray, List.set_cons_zero, List.set_cons_succ]
      refine wpAnyH_take (i := 20) (v := grn sd z s f m) rfl (by kernel_rfl) (by kernel_rfl) (by kernel_rfl) (fun _ _ _ h => h) (Or.inl ⟨by kernel_rfl, ?_⟩) hHeld ?_
      · intro w2 hSw
        go_split_ands
        go_simp
      try simp only [Act.put, List.getElem_toArray, List.getElem_cons_zero, List.getElem_cons_succ, List.setIfInBounds_toArray, List.set_cons_zero, List.set_cons_succ]
      refine wpAnyH_take (i := 21) (v := .int .i64 num) rfl (by kernel_rfl) (by kernel_rfl) (by kernel_rfl) (fun _ _ _ h => h) (Or.inl ⟨by kernel_rfl, ?_⟩) hHeld ?_
      · intro w2 hSw
        go_split_ands
        go_simp
      try simp only [Act.put, List.getElem_toArray, List.getElem_cons_zero, List.getElem_cons_succ, List.setIfInBounds_toArray, List.set_cons_zero, List.set_cons_succ]
      refine wpAnyH_take (i := 22) (v := .int .i64 x) rfl (by kernel_rfl) (by kernel_rfl) (by kernel_rfl) (fun _ _ _ h => h) (Or.inl ⟨by kernel_rfl, fun _ _ => rfl⟩) hHeld ?_
      try simp only [Act.put, List.getElem_toArray, List.getElem_cons_zero, List.getElem_cons_succ, List.setIfInBounds_toArray, List.set_cons_zero, List.set_cons_succ]
      refine wpAnyH_take (i := 23) (v := .int .i64 y) rfl (by kernel_rfl) (by kernel_rfl) (by kernel_rfl) (fun _ _ _ h => h) (Or.inl ⟨by kernel_rfl, fun _ _ => rfl⟩) hHeld ?_
      try simp only [Act.put, List.getElem_toArray, List.getElem_cons_zero, List.getElem_cons_succ, List.setIfInBounds_toArray, List.set_cons_zero, List.set_cons_succ]
      refine wpAnyH_take (i := 24) (v := .agg (pixA P)) rfl (by kernel_rfl) (by kernel_rfl) (by kernel_rfl) (fun _ _ _ h => h) (Or.inl ⟨by kernel_rfl, ?_⟩) hHeld ?_
      · intro w2 hSw
        go_split_ands
        go_simp
      try simp only [Act.put, List.getElem_toArray, List.getElem_cons_zero, List.getElem_cons_succ, List.setIfInBounds_toArray, List.set_cons_zero, List.set_cons_succ]
      refine wpAnyH_ready (rs := [25]) (by kernel_rfl) (by simp) ?_
      refine AllReadyH.cons rfl (fun K hK => ?_) AllReadyH.nil
      go_simp
      (go_at_call 25; with_reducible refine (HGO.out _).mono ?_; rintro e w3 ⟨rfl, hb⟩)
      refine hK.out _ _ (LGC.on hb hHeld) (fun hHeld2 => ?_)
      clear hK K hHeld
      try simp only [Act.put, List.getElem_toArray, List.getElem_cons_zero, List.getElem_cons_succ, List.setIfInBounds_toArray, List.set_cons_zero, List.set_cons_succ]
      refine wpAnyH_ready (rs := [26]) (by kernel_rfl) (by simp) ?_
      refine AllReadyH.cons rfl (fun K hK => ?_) AllReadyH.nil
      go_simp
      (go_at_call 24; with_reducible refine (HSP.out _).mono ?_; rintro e w4 ⟨rfl, hb⟩)
      refine hK.out _ _ (LGC.on hb hHeld2) (fun hHeld3 => ?_)
      clear hK K hHeld2
      try simp only [Act.put, List.getElem_toArray, List.getElem_cons_zero, List.getElem_cons_succ, List.setIfInBounds_toArray, List.set_cons_zero, List.set_cons_succ]
      refine wpAnyH_take (i := 27) (v := .bool false) rfl (by kernel_rfl) (by kernel_rfl) (by kernel_rfl) (fun _ _ _ h => h) (Or.inl ⟨by kernel_rfl, fun _ _ => rfl⟩) hHeld3 ?_
      try simp only [Act.put, List.getElem_toArray, List.getElem_cons_zero, List.getElem_cons_succ, List.setIfInBounds_toArray, List.set_cons_zero, List.set_cons_succ]
      refine wpAnyH_take (i := 28) (v := .bool false) rfl (by kernel_rfl) (by kernel_rfl) (by kernel_rfl) (fun _ _ _ h => h) (Or.inl ⟨by kernel_rfl, ?_⟩) hHeld3 ?_
      · intro w2 hSw
        clear hSw
        go_simp
      try simp only [Act.put, List.getElem_toArray, List.getElem_cons_zero, List.getElem_cons_succ, List.setIfInBounds_toArray, List.set_cons_zero, List.set_cons_succ]
      refine wpAnyH_take (i := 29) (v := .bool false) rfl (by kernel_rfl) (by kernel_rfl) (by kernel_rfl) (fun _ _ _ h => h) (Or.inl ⟨by kernel_rfl, ?_⟩) hHeld3 ?_
      · intro w2 hSw
        clear hSw
        go_simp
      try simp only [Act.put, List.getElem_toArray, List.getElem_cons_zero, List.getElem_cons_succ, List.setIfInBounds_toArray, List.set_cons_zero, List.set_cons_succ]
      refine wpAnyH_take (i := 30) (v := .bool false) rfl (by kernel_rfl) (by kernel_rfl) (by kernel_rfl) (fun _ _ _ h => h) (Or.inl ⟨by kernel_rfl, ?_⟩) hHeld3 ?_
      · intro w2 hSw
        clear hSw
        go_simp
      try simp only [Act.put, List.getElem_toArray, List.getElem_cons_zero, List.getElem_cons_succ, List.setIfInBounds_toArray, List.set_cons_zero, List.set_cons_succ]
      refine wpAnyH_done (by kernel_rfl) ?_ _
      have HZ := hid (LGC.all hHeld3)
      clear hHeld3
      go_wp2_with fail
      go_meet
      case rel => exact ⟨rfl, HZ.out⟩
    · have hq := HQN.out hE0
      have z9 : (grpE z x y s f != 0) = true := by simp [hE0]
      have z8 : (grpE z x y s f == 0) = false := by simp [hE0]
      have q0 := HD.out.q.cell 0
      have q1 := HD.out.q.cell 1
      have q2 := HD.out.q.cell 2
      have q3 := HD.out.q.cell 3
      simp at q0 q1 q2 q3
      rw [hq 0] at q0
      rw [hq 1] at q1
      rw [hq 2] at q2
      rw [hq 3] at q3
      have HH : RowKit.Hid (wc0.drew.cell? ⟨qb, 0, none⟩ = some (.float .f32 0) ∧ wc0.drew.cell? ⟨qb, 1, none⟩ = some (.float .f32 0) ∧ wc0.drew.cell? ⟨qb, 2, none⟩ = some (.float .f32 0) ∧ wc0.drew.cell? ⟨qb, 3, none⟩ = some (.float .f32 0) ∧ LG (GL n A F g (grF sd z num X Y s f m a F)) sd z s f m num X Y a b n c A P Q qb hb #[.int .i64 X, .int .i64 Y, .int .i64 a, .int .i64 b, .slice (some ⟨g, 0, none⟩) n d] w wc0.drew) := hid ⟨q0, q1, q2, q3, HD.out.below (Below.refl _ _).drew⟩
      clear HD q0 q1 q2 q3 hq HQE HQN
      refine wp_region_held_drew (S := fun w' => w'.cell? ⟨qb, 0, none⟩ = some (.float .f32 0) ∧ w'.cell? ⟨qb, 1, none⟩ = some (.float .f32 0) ∧ w'.cell? ⟨qb, 2, none⟩ = some (.float .f32 0) ∧ w'.cell? ⟨qb, 3, none⟩ = some (.float .f32 0) ∧ LG (GL n A F g (grF sd z num X Y s f m a F)) sd z s f m num X Y a b n c A P Q qb hb #[.int .i64 X, .int .i64 Y, .int .i64 a, .int .i64 b, .slice (some ⟨g, 0, none⟩) n d] w w') (by kernel_rfl) HH.out (fun hHeld => ?_)
      refine wpAnyH_take (i := 0) (v := .int .i64 (grpE z x y s f)) rfl (by kernel_rfl) (by kernel_rfl) (by kernel_rfl) (fun _ _ _ h => h) (Or.inl ⟨by kernel_rfl, fun _ _ => rfl⟩) hHeld ?_
      try simp only [Act.put, List.getElem_toArray, List.getElem_cons_zero, List.getElem_cons_succ, List.setIfInBounds_toArray, List.set_cons_zero, List.set_cons_succ]
      refine wpAnyH_take (i := 1) (v := .bool true) rfl (by kernel_rfl) (by kernel_rfl) (by kernel_rfl) (fun _ _ _ h => h) (Or.inl ⟨by kernel_rfl, ?_⟩) hHeld ?_
      · intro w2 hSw
        clear hSw
        go_simp
      try simp only [Act.put, List.getElem_toArray, List.getElem_cons_zero, List.getElem_cons_succ, List.setIfInBounds_toArray, List.set_cons_zero, List.set_cons_succ]
      refine wpAnyH_take (i := 2) (v := .bool true) rfl (by kernel_rfl) (by kernel_rfl) (by kernel_rfl) (fun _ _ _ h => h) (Or.inl ⟨by kernel_rfl, fun _ _ => rfl⟩) hHeld ?_
      try simp only [Act.put, List.getElem_toArray, List.getElem_cons_zero, List.getElem_cons_succ, List.setIfInBounds_toArray, List.set_cons_zero, List.set_cons_succ]
      refine wpAnyH_take (i := 3) (v := .agg zpx) rfl (by kernel_rfl) (by kernel_rfl) (by kernel_rfl) (fun _ _ _ h => h) (Or.inl ⟨by kernel_rfl, ?_⟩) hHeld ?_
      · intro w2 hSw
        go_split_ands
        go_simp
      try simp only [Act.put, List.getElem_toArray, List.getElem_cons_zero, List.getElem_cons_succ, List.setIfInBounds_toArray, List.set_cons_zero, List.set_cons_succ]
      refine wpAnyH_take (i := 4) (v := .agg zpx) rfl (by kernel_rfl) (by kernel_rfl) (by kernel_rfl) (fun _ _ _ h => h) (Or.inl ⟨by kernel_rfl, ?_⟩) hHeld ?_
      · intro w2 hSw
        clear hSw
        go_simp
      try simp only [Act.put, List.getElem_toArray, List.getElem_cons_zero, List.getElem_cons_succ, List.setIfInBounds_toArray, List.set_cons_zero, List.set_cons_succ]
      refine wpAnyH_take (i := 5) (v := .bool false) rfl (by kernel_rfl) (by kernel_rfl) (by kernel_rfl) (fun _ _ _ h => h) (Or.inl ⟨by kernel_rfl, ?_⟩) hHeld ?_
      · intro w2 hSw
        clear hSw
        have e0 := eq_zpx w2
        go_simp
      try simp only [Act.put, List.getElem_toArray, List.getElem_cons_zero, List.getElem_cons_succ, List.setIfInBounds_toArray, List.set_cons_zero, List.set_cons_succ]
      refine wpAnyH_take (i := 6) (v := .bool false) rfl (by kernel_rfl) (by kernel_rfl) (by kernel_rfl) (fun _ _ _ h => h) (Or.inl ⟨by kernel_rfl, fun _ _ => rfl⟩) hHeld ?_
      try simp only [Act.put, List.getElem_toArray, List.getElem_cons_zero, List.getElem_cons_succ, List.setIfInBounds_toArray, List.set_cons_zero, List.set_cons_succ]
      refine wpAnyH_take (i := 7) (v := .int .i64 (grpE z x y s f)) rfl (by kernel_rfl) (by kernel_rfl) (by kernel_rfl) (fun _ _ _ h => h) (Or.inl ⟨by kernel_rfl, fun _ _ => rfl⟩) hHeld ?_
      try simp only [Act.put, List.getElem_toArray, List.getElem_cons_zero, List.getElem_cons_succ, List.setIfInBounds_toArray, List.set_cons_zero, List.set_cons_succ]
      refine wpAnyH_take (i := 8) (v := .int .i64 (grpE z x y s f)) rfl (by kernel_rfl) (by kernel_rfl) (by kernel_rfl) (fun _ _ _ h => h) (Or.inl ⟨by kernel_rfl, fun _ _ => rfl⟩) hHeld ?_
      try simp only [Act.put, List.getElem_toArray, List.getElem_cons_zero, List.getElem_cons_succ, List.setIfInBounds_toArray, List.set_cons_zero, List.set_cons_succ]
      refine wpAnyH_take (i := 9) (v := .bool false) rfl (by kernel_rfl) (by kernel_rfl) (by kernel_rfl) (fun _ _ _ h => h) (Or.inl ⟨by kernel_rfl, ?_⟩) hHeld ?_
      · intro w2 hSw
        clear hSw
        go_simp
      try simp only [Act.put, List.getElem_toArray, List.getElem_cons_zero, List.getElem_cons_succ, List.setIfInBounds_toArray, List.set_cons_zero, List.set_cons_succ]
      refine wpAnyH_take (i := 10) (v := .bool false) rfl (by kernel_rfl) (by kernel_rfl) (by kernel_rfl) (fun _ _ _ h => h) (Or.inl ⟨by kernel_rfl, ?_⟩) hHeld ?_
      · intro w2 hSw
        clear hSw
        go_simp
      try simp only [Act.put, List.getElem_toArray, List.getElem_cons_zero, List.getElem_cons_succ, List.setIfInBounds_toArray, List.set_cons_zero, List.set_cons_succ]
      refine wpAnyH_take (i := 11) (v := .bool false) rfl (by kernel_rfl) (by kernel_rfl) (by kernel_rfl) (fun _ _ _ h => h) (Or.inl ⟨by kernel_rfl, ?_⟩) hHeld ?_
      · intro w2 hSw
        clear hSw
        go_simp
      try simp only [Act.put, List.getElem_toArray, List.getElem_cons_zero, List.getElem_cons_succ, List.setIfInBounds_toArray, List.set_cons_zero, List.set_cons_succ]
      refine wpAnyH_take (i := 12) (v := .bool false) rfl (by kernel_rfl) (by kernel_rfl) (by kernel_rfl) (fun _ _ _ h => h) (Or.inl ⟨by kernel_rfl, fun _ _ => rfl⟩) hHeld ?_
      try simp only [Act.put, List.getElem_toArray, List.getElem_cons_zero, List.getElem_cons_succ, List.setIfInBounds_toArray, List.set_cons_zero, List.set_cons_succ]
      refine wpAnyH_take (i := 13) (v := .int .i64 (grpE z x y s f)) rfl (by kernel_rfl) (by kernel_rfl) (by kernel_rfl) (fun _ _ _ h => h) (Or.inl ⟨by kernel_rfl, fun _ _ => rfl⟩) hHeld ?_
      try simp only [Act.put, List.getElem_toArray, List.getElem_cons_zero, List.getElem_cons_succ, List.setIfInBounds_toArray, List.set_cons_zero, List.set_cons_succ]
      refine wpAnyH_take (i := 14) (v := .bool false) rfl (by kernel_rfl) (by kernel_rfl) (by kernel_rfl) (fun _ _ _ h => h) (Or.inl ⟨by kernel_rfl, ?_⟩) hHeld ?_
      · intro w2 hSw
        clear hSw
        go_simp
      try simp only [Act.put, List.getElem_toArray, List.getElem_cons_zero, List.getElem_cons_succ, List.setIfInBounds_toArray, List.set_cons_zero, List.set_cons_succ]
      refine wpAnyH_take (i := 15) (v := .bool false) rfl (by kernel_rfl) (by kernel_rfl) (by kernel_rfl) (fun _ _ _ h => h) (Or.inl ⟨by kernel_rfl, fun _ _ => rfl⟩) hHeld ?_
      try simp only [Act.put, List.getElem_toArray, List.getElem_cons_zero, List.getElem_cons_succ, List.setIfInBounds_toArray, List.set_cons_zero, List.set_cons_succ]
      refine wpAnyH_take (i := 16) (v := undef) rfl (by kernel_rfl) (by kernel_rfl) (by kernel_rfl) (fun _ _ _ h => h) (Or.inr ⟨by kernel_rfl, rfl⟩) hHeld ?_
      try simp only [Act.put, List.getElem_toArray, List.getElem_cons_zero, List.getElem_cons_succ, List.setIfInBounds_toArray, List.set_cons_zero, List.set_cons_succ]
      refine wpAnyH_take (i := 17) (v := undef) rfl (by kernel_rfl) (by kernel_rfl) (by kernel_rfl) (fun _ _ _ h => h) (Or.inr ⟨by kernel_rfl, rfl⟩) hHeld ?_
      try simp only [Act.put, List.getElem_toArray, List.getElem_cons_zero, List.getElem_cons_succ, List.setIfInBounds_toArray, List.set_cons_zero, List.set_cons_succ]
      refine wpAnyH_take (i := 18) (v := undef) rfl (by kernel_rfl) (by kernel_rfl) (by kernel_rfl) (fun _ _ _ h => h) (Or.inr ⟨by kernel_rfl, rfl⟩) hHeld ?_
      try simp only [Act.put, List.getElem_toArray, List.getElem_cons_zero, List.getElem_cons_succ, List.setIfInBounds_toArray, List.set_cons_zero, List.set_cons_succ]
      refine wpAnyH_take (i := 19) (v := undef) rfl (by kernel_rfl) (by kernel_rfl) (by kernel_rfl) (fun _ _ _ h => h) (Or.inr ⟨by kernel_rfl, rfl⟩) hHeld ?_
      try simp only [Act.put, List.getElem_toArray, List.getElem_cons_zero, List.getElem_cons_succ, List.setIfInBounds_toArray, List.set_cons_zero, List.set_cons_succ]
      refine wpAnyH_take (i := 20) (v := undef) rfl (by kernel_rfl) (by kernel_rfl) (by kernel_rfl) (fun _ _ _ h => h) (Or.inr ⟨by kernel_rfl, rfl⟩) hHeld ?_
      try simp only [Act.put, List.getElem_toArray, List.getElem_cons_zero, List.getElem_cons_succ, List.setIfInBounds_toArray, List.set_cons_zero, List.set_cons_succ]
      refine wpAnyH_take (i := 21) (v := undef) rfl (by kernel_rfl) (by kernel_rfl) (by kernel_rfl) (fun _ _ _ h => h) (Or.inr ⟨by kernel_rfl, rfl⟩) hHeld ?_
      try simp only [Act.put, List.getElem_toArray, List.getElem_cons_zero, List.getElem_cons_succ, List.setIfInBounds_toArray, List.set_cons_zero, List.set_cons_succ]
      refine wpAnyH_take (i := 22) (v := undef) rfl (by kernel_rfl) (by kernel_rfl) (by kernel_rfl) (fun _ _ _ h => h) (Or.inr ⟨by kernel_rfl, rfl⟩) hHeld ?_
      try simp only [Act.put, List.getElem_toArray, List.getElem_cons_zero, List.getElem_cons_succ, List.setIfInBounds_toArray, List.set_cons_zero, List.set_cons_succ]
      refine wpAnyH_take (i := 23) (v := undef) rfl (by kernel_rfl) (by kernel_rfl) (by kernel_rfl) (fun _ _ _ h => h) (Or.inr ⟨by kernel_rfl, rfl⟩) hHeld ?_
      try simp only [Act.put, List.getElem_toArray, List.getElem_cons_zero, List.getElem_cons_succ, List.setIfInBounds_toArray, List.set_cons_zero, List.set_cons_succ]
      refine wpAnyH_take (i := 24) (v := undef) rfl (by kernel_rfl) (by kernel_rfl) (by kernel_rfl) (fun _ _ _ h => h) (Or.inr ⟨by kernel_rfl, rfl⟩) hHeld ?_
      try simp only [Act.put, List.getElem_toArray, List.getElem_cons_zero, List.getElem_cons_succ, List.setIfInBounds_toArray, List.set_cons_zero, List.set_cons_succ]
      refine wpAnyH_take (i := 25) (v := undef) rfl (by kernel_rfl) (by kernel_rfl) (by kernel_rfl) (fun _ _ _ h => h) (Or.inr ⟨by kernel_rfl, rfl⟩) hHeld ?_
      try simp only [Act.put, List.getElem_toArray, List.getElem_cons_zero, List.getElem_cons_succ, List.setIfInBounds_toArray, List.set_cons_zero, List.set_cons_succ]
      refine wpAnyH_take (i := 26) (v := undef) rfl (by kernel_rfl) (by kernel_rfl) (by kernel_rfl) (fun _ _ _ h => h) (Or.inr ⟨by kernel_rfl, rfl⟩) hHeld ?_
      try simp only [Act.put, List.getElem_toArray, List.getElem_cons_zero, List.getElem_cons_succ, List.setIfInBounds_toArray, List.set_cons_zero, List.set_cons_succ]
      refine wpAnyH_take (i := 27) (v := undef) rfl (by kernel_rfl) (by kernel_rfl) (by kernel_rfl) (fun _ _ _ h => h) (Or.inr ⟨by kernel_rfl, rfl⟩) hHeld ?_
      try simp only [Act.put, List.getElem_toArray, List.getElem_cons_zero, List.getElem_cons_succ, List.setIfInBounds_toArray, List.set_cons_zero, List.set_cons_succ]
      refine wpAnyH_take (i := 28) (v := undef) rfl (by kernel_rfl) (by kernel_rfl) (by kernel_rfl) (fun _ _ _ h => h) (Or.inr ⟨by kernel_rfl, rfl⟩) hHeld ?_
      try simp only [Act.put, List.getElem_toArray, List.getElem_cons_zero, List.getElem_cons_succ, List.setIfInBounds_toArray, List.set_cons_zero, List.set_cons_succ]
      refine wpAnyH_take (i := 29) (v := .bool false) rfl (by kernel_rfl) (by kernel_rfl) (by kernel_rfl) (fun _ _ _ h => h) (Or.inl ⟨by kernel_rfl, ?_⟩) hHeld ?_
      · intro w2 hSw
        clear hSw
        go_simp
      try simp only [Act.put, List.getElem_toArray, List.getElem_cons_zero, List.getElem_cons_succ, List.setIfInBounds_toArray, List.set_cons_zero, List.set_cons_succ]
      refine wpAnyH_take (i := 30) (v := .bool false) rfl (by kernel_rfl) (by kernel_rfl) (by kernel_rfl) (fun _ _ _ h => h) (Or.inl ⟨by kernel_rfl, ?_⟩) hHeld ?_
      · intro w2 hSw
        clear hSw
        go_simp
      try simp only [Act.put, List.getElem_toArray, List.getElem_cons_zero, List.getElem_cons_succ, List.setIfInBounds_toArray, List.set_cons_zero, List.set_cons_succ]
      refine wpAnyH_done (by kernel_rfl) ?_ _
      have HZ := hid hHeld.2.2.2.2
      clear hHeld
      go_wp2_with fail
      go_meet
      case rel => exact ⟨rfl, HZ.out⟩
  case rest =>
    obtain ⟨rfl, hcu⟩ := hcut
    have HD := hid hcu
    clear hcu
    have f0 := HD.out.f.cell 0
    have f1 := HD.out.f.cell 1
    have f2 := HD.out.f.cell 2
    have f3 := HD.out.f.cell 3
    have f4 := HD.out.f.cell 4
    simp at f0 f1 f2 f3 f4
    clear HQE HQN
    go_upto_region 12 with (first
      | (go_at_call 26; refine (frameError_any _ _ _ _ _ _ _ _).mono ?_; rintro e w5 ⟨rfl, hb5⟩; have hfe := HFE.out; rw [hfe]; have hge := HGE.out; rw [hge]; clear hfe hge)
      | (go_at_call 22; refine (first_any _ _ _ _ (Blk.new_at _ _ _ rfl)).mono ?_; rintro e w' ⟨R2, rfl, hR5, hR6, rfl⟩
         obtain rfl : R2 = 0 := hR6 rfl))
    go_name_world wd hwd
    have HE : RowKit.Hid (LG (GL n A F g (grF sd z num X Y s f m a F)) sd z s f m num X Y a b n c A P Q qb hb #[.int .i64 X, .int .i64 Y, .int .i64 a, .int .i64 b, .slice (some ⟨g, 0, none⟩) n d] w wd) := by
      show LG (GL n A F g (grF sd z num X Y s f m a F)) sd z s f m num X Y a b n c A P Q qb hb #[.int .i64 X, .int .i64 Y, .int .i64 a, .int .i64 b, .slice (some ⟨g, 0, none⟩) n d] w wd
      rw [← hwd]
      exact (HD.out.below hb5).below ((Below.refl _ _).alloc (Nat.le_refl _) _)
    clear hwd hb5 HD hR5 hR6 f0 f1 f2 f3 f4
    have HK := hid (LGD.mk (HE.out.below (Below.refl _ _).drew))
    clear HE
    by_cases h400 : n ≤ 400
    · have hfw : ∀ w1, Calls Try.prog 28 #[frm X Y a b A n c] w1 fun e w' => e = .returned (.bool true) ∧ Below w1.heap.size w1 w' := fun w1 => by
        have h := few_any X Y a b A n c w1
        rwa [decide_eq_true h400] at h
      clear h400
      go_region_held3 (fun w' => w'.cell? ⟨w.heap.size + 1 + 1 + 1, 0, none⟩ = some (.int .i64 X) ∧ w'.cell? ⟨w.heap.size + 1 + 1 + 1, 1, none⟩ = some (.int .i64 Y) ∧ w'.cell? ⟨w.heap.size + 1 + 1 + 1, 2, none⟩ = some (.int .i64 a) ∧ w'.cell? ⟨w.heap.size + 1 + 1 + 1, 3, none⟩ = some (.int .i64 b) ∧ w'.cell? ⟨w.heap.size + 1 + 1 + 1, 4, none⟩ = some (.slice A n c) ∧ w'.cell? ⟨hb, 0, none⟩ = some (.int .i64 X) ∧ w'.cell? ⟨hb, 1, none⟩ = some (.int .i64 Y) ∧ w'.cell? ⟨hb, 2, none⟩ = some (.int .i64 a) ∧ w'.cell? ⟨hb, 3, none⟩ = some (.int .i64 b) ∧ w'.cell? ⟨hb, 4, none⟩ = some (.slice (some ⟨g, 0, none⟩) n d) ∧ LG (GL n A F g (grF sd z num X Y s f m a F)) sd z s f m num X Y a b n c A P Q qb hb #[.int .i64 X, .int .i64 Y, .int .i64 a, .int .i64 b, .slice (some ⟨g, 0, none⟩) n d] w w')
        (first | (with_reducible exact HK.out) | (with_reducible exact LGD.on (by assumption) (by assumption)) | (with_reducible exact LGD.alloc (by assumption) _) | (with_reducible assumption))
        (first
          | (go_at_call 28; refine (hfw _).mono ?_; rintro e w3 ⟨rfl, hbz⟩)
          | (go_at_call 30; refine (HMD.out Q g d qb hb _ (by first | assumption | (go_split_ands; assumption))).mono ?_; rintro e w3 ⟨b2, c2, rfl, _, _, _, hlt2, hrd, hbz⟩; have hs2 : Src _ _ _ (grF sd z num X Y s f m a F) := Src.of_rd hrd hlt2)
          | (go_at_call 29; refine (HSF.out Q g d qb hb _ _ _ (by first | assumption | (go_split_ands; assumption)) (by assumption)).mono ?_; rintro e w4 ⟨rfl, hbz⟩))
      all_goals
        rename_i hH
        have HB := hid (LGD.all hH).be
        clear hH
        go_wp2_with fail
        go_ret
        exact ⟨rfl, HB.out⟩
    · have hfw : ∀ w1, Calls Try.prog 28 #[frm X Y a b A n c] w1 fun e w' => e = .returned (.bool false) ∧ Below w1.heap.size w1 w' := fun w1 => by
        have h := few_any X Y a b A n c w1
        rwa [decide_eq_false h400] at h
      clear h400
      refine wp_region_held_drew (S := fun w' => w'.cell? ⟨w.heap.size + 1 + 1 + 1, 0, none⟩ = some (.int .i64 X) ∧ w'.cell? ⟨w.heap.size + 1 + 1 + 1, 1, none⟩ = some (.int .i64 Y) ∧ w'.cell? ⟨w.heap.size + 1 + 1 + 1, 2, none⟩ = some (.int .i64 a) ∧ w'.cell? ⟨w.heap.size + 1 + 1 + 1, 3, none⟩ = some (.int .i64 b) ∧ w'.cell? ⟨w.heap.size + 1 + 1 + 1, 4, none⟩ = some (.slice A n c) ∧ w'.cell? ⟨hb, 0, none⟩ = some (.int .i64 X) ∧ w'.cell? ⟨hb, 1, none⟩ = some (.int .i64 Y) ∧ w'.cell? ⟨hb, 2, none⟩ = some (.int .i64 a) ∧ w'.cell? ⟨hb, 3, none⟩ = some (.int .i64 b) ∧ w'.cell? ⟨hb, 4, none⟩ = some (.slice (some ⟨g, 0, none⟩) n d) ∧ LG (GL n A F g (grF sd z num X Y s f m a F)) sd z s f m num X Y a b n c A P Q qb hb #[.int .i64 X, .int .i64 Y, .int .i64 a, .int .i64 b, .slice (some ⟨g, 0, none⟩) n d] w w') (by kernel_rfl) HK.out (fun hHeld => ?_)
      refine wpAnyH_take (i := 0) (v := .agg #[.int .i64 X, .int .i64 Y, .int .i64 a, .int .i64 b, .slice A n c]) rfl (by kernel_rfl) (by kernel_rfl) (by kernel_rfl) (fun _ _ _ h => h) (Or.inl ⟨by kernel_rfl, ?_⟩) hHeld ?_
      · intro w2 hSw
        go_split_ands
        go_simp
      try simp only [Act.put, List.getElem_toArray, List.getElem_cons_zero, List.getElem_cons_succ, List.setIfInBounds_toArray, List.set_cons_zero, List.set_cons_succ]
      refine wpAnyH_ready (rs := [1]) (by kernel_rfl) (by simp) ?_
      refine AllReadyH.cons rfl (fun K hK => ?_) AllReadyH.nil
      go_simp
      (go_at_call 28; refine (hfw _).mono ?_; rintro e w3 ⟨rfl, hb⟩)
      refine hK.out _ _ (LGD.on hb hHeld) (fun hHeld2 => ?_)
      clear hK K hHeld
      try simp only [Act.put, List.getElem_toArray, List.getElem_cons_zero, List.getElem_cons_succ, List.setIfInBounds_toArray, List.set_cons_zero, List.set_cons_succ]
      refine wpAnyH_take (i := 2) (v := .bool true) rfl (by kernel_rfl) (by kernel_rfl) (by kernel_rfl) (fun _ _ _ h => h) (Or.inl ⟨by kernel_rfl, fun _ _ => rfl⟩) hHeld2 ?_
      try simp only [Act.put, List.getElem_toArray, List.getElem_cons_zero, List.getElem_cons_succ, List.setIfInBounds_toArray, List.set_cons_zero, List.set_cons_succ]
      refine wpAnyH_take (i := 3) (v := .bool true) rfl (by kernel_rfl) (by kernel_rfl) (by kernel_rfl) (fun _ _ _ h => h) (Or.inl ⟨by kernel_rfl, fun _ _ => rfl⟩) hHeld2 ?_
      try simp only [Act.put, List.getElem_toArray, List.getElem_cons_zero, List.getElem_cons_succ, List.setIfInBounds_toArray, List.set_cons_zero, List.set_cons_succ]
      refine wpAnyH_take (i := 4) (v := undef) rfl (by kernel_rfl) (by kernel_rfl) (by kernel_rfl) (fun _ _ _ h => h) (Or.inr ⟨by kernel_rfl, rfl⟩) hHeld2 ?_
      try simp only [Act.put, List.getElem_toArray, List.getElem_cons_zero, List.getElem_cons_succ, List.setIfInBounds_toArray, List.set_cons_zero, List.set_cons_succ]
      refine wpAnyH_take (i := 5) (v := undef) rfl (by kernel_rfl) (by kernel_rfl) (by kernel_rfl) (fun _ _ _ h => h) (Or.inr ⟨by kernel_rfl, rfl⟩) hHeld2 ?_
      try simp only [Act.put, List.getElem_toArray, List.getElem_cons_zero, List.getElem_cons_succ, List.setIfInBounds_toArray, List.set_cons_zero, List.set_cons_succ]
      refine wpAnyH_take (i := 6) (v := undef) rfl (by kernel_rfl) (by kernel_rfl) (by kernel_rfl) (fun _ _ _ h => h) (Or.inr ⟨by kernel_rfl, rfl⟩) hHeld2 ?_
      try simp only [Act.put, List.getElem_toArray, List.getElem_cons_zero, List.getElem_cons_succ, List.setIfInBounds_toArray, List.set_cons_zero, List.set_cons_succ]
      refine wpAnyH_take (i := 7) (v := undef) rfl (by kernel_rfl) (by kernel_rfl) (by kernel_rfl) (fun _ _ _ h => h) (Or.inr ⟨by kernel_rfl, rfl⟩) hHeld2 ?_
      try simp only [Act.put, List.getElem_toArray, List.getElem_cons_zero, List.getElem_cons_succ, List.setIfInBounds_toArray, List.set_cons_zero, List.set_cons_succ]
      refine wpAnyH_take (i := 8) (v := undef) rfl (by kernel_rfl) (by kernel_rfl) (by kernel_rfl) (fun _ _ _ h => h) (Or.inr ⟨by kernel_rfl, rfl⟩) hHeld2 ?_
      try simp only [Act.put, List.getElem_toArray, List.getElem_cons_zero, List.getElem_cons_succ, List.setIfInBounds_toArray, List.set_cons_zero, List.set_cons_succ]
      refine wpAnyH_take (i := 9) (v := undef) rfl (by kernel_rfl) (by kernel_rfl) (by kernel_rfl) (fun _ _ _ h => h) (Or.inr ⟨by kernel_rfl, rfl⟩) hHeld2 ?_
      try simp only [Act.put, List.getElem_toArray, List.getElem_cons_zero, List.getElem_cons_succ, List.setIfInBounds_toArray, List.set_cons_zero, List.set_cons_succ]
      refine wpAnyH_take (i := 10) (v := undef) rfl (by kernel_rfl) (by kernel_rfl) (by kernel_rfl) (fun _ _ _ h => h) (Or.inr ⟨by kernel_rfl, rfl⟩) hHeld2 ?_
      try simp only [Act.put, List.getElem_toArray, List.getElem_cons_zero, List.getElem_cons_succ, List.setIfInBounds_toArray, List.set_cons_zero, List.set_cons_succ]
      refine wpAnyH_take (i := 11) (v := undef) rfl (by kernel_rfl) (by kernel_rfl) (by kernel_rfl) (fun _ _ _ h => h) (Or.inr ⟨by kernel_rfl, rfl⟩) hHeld2 ?_
      try simp only [Act.put, List.getElem_toArray, List.getElem_cons_zero, List.getElem_cons_succ, List.setIfInBounds_toArray, List.set_cons_zero, List.set_cons_succ]
      refine wpAnyH_take (i := 12) (v := undef) rfl (by kernel_rfl) (by kernel_rfl) (by kernel_rfl) (fun _ _ _ h => h) (Or.inr ⟨by kernel_rfl, rfl⟩) hHeld2 ?_
      try simp only [Act.put, List.getElem_toArray, List.getElem_cons_zero, List.getElem_cons_succ, List.setIfInBounds_toArray, List.set_cons_zero, List.set_cons_succ]
      refine wpAnyH_take (i := 13) (v := undef) rfl (by kernel_rfl) (by kernel_rfl) (by kernel_rfl) (fun _ _ _ h => h) (Or.inr ⟨by kernel_rfl, rfl⟩) hHeld2 ?_
      try simp only [Act.put, List.getElem_toArray, List.getElem_cons_zero, List.getElem_cons_succ, List.setIfInBounds_toArray, List.set_cons_zero, List.set_cons_succ]
      refine wpAnyH_take (i := 14) (v := .bool true) rfl (by kernel_rfl) (by kernel_rfl) (by kernel_rfl) (fun _ _ _ h => h) (Or.inl ⟨by kernel_rfl, ?_⟩) hHeld2 ?_
      · intro w2 hSw
        clear hSw
        go_simp
      try simp only [Act.put, List.getElem_toArray, List.getElem_cons_zero, List.getElem_cons_succ, List.setIfInBounds_toArray, List.set_cons_zero, List.set_cons_succ]
      refine wpAnyH_take (i := 15) (v := .bool true) rfl (by kernel_rfl) (by kernel_rfl) (by kernel_rfl) (fun _ _ _ h => h) (Or.inl ⟨by kernel_rfl, ?_⟩) hHeld2 ?_
      · intro w2 hSw
        clear hSw
        go_simp
      try simp only [Act.put, List.getElem_toArray, List.getElem_cons_zero, List.getElem_cons_succ, List.setIfInBounds_toArray, List.set_cons_zero, List.set_cons_succ]
      refine wpAnyH_done (by kernel_rfl) ?_ _
      have HB := hid (LGD.all hHeld2).be
      clear hHeld2
      go_wp2_with fail
      go_ret
      exact ⟨rfl, HB.out⟩

theorem grainsMatch_any (sd z : Int) (s f : Nat) (m : Bool) (num x y : Int) (P : Nat → Nat) (X Y a b : Int) (n c : Nat) (A : Option Addr) (F : Nat → Nat) (w : World) (hnc : n ≤ c) (hcm : c ≤ maxLen) (hF : Src w A n F) :
    Calls Try.prog 4 #[grn sd z s f m, .int .i64 num, .int .i64 x, .int .i64 y, pix P, frm X Y a b A n c] w fun e w' => e = .returned (.bool true) ∧ Below w.heap.size w w' := by
  by_cases hE : frmE X Y a b n = 0
  · by_cases hG : grE z s f = 0
    · obtain ⟨hreg, _⟩ := frmE_zero hE
      obtain ⟨a1, _, b1, _⟩ := regE_zero hreg
      obtain ⟨p, rfl⟩ : ∃ p : Nat, a = p := ⟨a.toNat, by omega⟩
      obtain ⟨q, rfl⟩ : ∃ q : Nat, b = q := ⟨b.toNat, by omega⟩
      exact grainLaw_ok sd z s f m num x y P X Y p q n c A F w hE hG hnc hcm hF
    · exact grainLaw_err sd z s f m num x y P X Y a b n c A w (grE z s f) hG (fun h => absurd hE h) (fun _ => rfl) fun w1 => grain_bad sd z s f m num X Y a b n c A w1 hE hG
  · exact grainLaw_err sd z s f m num x y P X Y a b n c A w (frmE X Y a b n) hE (fun _ => rfl) (fun h => absurd h hE) fun w1 => grain_frame sd z s f m num X Y a b n c A w1 hE

end Go.Proofs.Ythoiiccecneefaa
