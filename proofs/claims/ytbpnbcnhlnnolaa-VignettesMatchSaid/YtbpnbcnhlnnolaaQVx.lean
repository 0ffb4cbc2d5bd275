/-
  VignettesMatch: the law.
-/
import Derived.Test.YtbpnbcnhlnnolaaQVl
namespace Go.Proofs.Ytbpnbcnhlnnolaa
open Go.RowKit Go.Shelf
open Ieee (Datum Format signed)
attribute [local go_sem] run_store_float

/-- The boxes of the law. -/
structure LK (V : Nat → Nat) (x y a b : Int) (n c : Nat) (A : Option Addr) (gb : Nat) (gv : Array Value) (w : World) (wr : World) : Prop where
  f : Blk wr w.heap.size 26 #[.int .i64 x, .int .i64 y, .int .i64 a, .int .i64 b, .slice A n c]
  v : Blk wr (w.heap.size + 1) 86 (vigA V)
  g : Blk wr gb 26 gv
  be : Below w.heap.size w wr
abbrev LKC (V : Nat → Nat) (x y a b : Int) (n c : Nat) (A : Option Addr) (gb : Nat) (gv : Array Value) (w : World) (w' : World) : Prop := w'.cell? ⟨w.heap.size, 0, none⟩ = some (.int .i64 x) ∧ w'.cell? ⟨w.heap.size, 1, none⟩ = some (.int .i64 y) ∧ w'.cell? ⟨w.heap.size, 2, none⟩ = some (.int .i64 a) ∧ w'.cell? ⟨w.heap.size, 3, none⟩ = some (.int .i64 b) ∧ w'.cell? ⟨w.heap.size, 4, none⟩ = some (.slice A n c) ∧ w'.cell? ⟨w.heap.size + 1, 0, none⟩ = some (.float .f32 (V 0)) ∧ w'.cell? ⟨w.heap.size + 1, 1, none⟩ = some (.float .f32 (V 1)) ∧ w'.cell? ⟨w.heap.size + 1, 2, none⟩ = some (.float .f32 (V 2)) ∧ w'.cell? ⟨w.heap.size + 1, 3, none⟩ = some (.float .f32 (V 3)) ∧ w'.cell? ⟨w.heap.size + 1, 4, none⟩ = some (.float .f32 (V 4)) ∧ LK V x y a b n c A gb gv w w'
section
variable {V : Nat → Nat} {x y a b : Int} {n c : Nat} {A : Option Addr} {gb : Nat} {gv : Array Value} {w wr w1 : World}
theorem LK.held (h : LK V x y a b n c A gb gv w wr) : LKC V x y a b n c A gb gv w wr := ⟨h.f.cell 0, h.f.cell 1, h.f.cell 2, h.f.cell 3, h.f.cell 4, h.v.cell 0, h.v.cell 1, h.v.cell 2, h.v.cell 3, h.v.cell 4, h⟩
theorem LK.below (h : LK V x y a b n c A gb gv w wr) (hb : Below wr.heap.size wr w1) : LK V x y a b n c A gb gv w w1 := ⟨h.f.below hb h.f.lt, h.v.below hb h.v.lt, h.g.below hb h.g.lt, below_to h.be hb⟩
theorem LKC.on (hb : Below wr.heap.size wr w1) (h : LKC V x y a b n c A gb gv w wr) : LKC V x y a b n c A gb gv w w1 := (h.2.2.2.2.2.2.2.2.2.2.below hb).held
theorem LKC.alloc (h : LKC V x y a b n c A gb gv w wr) (o : Obj) : LKC V x y a b n c A gb gv w (wr.alloc o) := (h.2.2.2.2.2.2.2.2.2.2.below ((Below.refl _ _).alloc (Nat.le_refl _) o)).held
end

set_option maxRecDepth 100000 in
set_option maxHeartbeats 8000000 in
theorem vigLaw_frame (V : Nat → Nat) (x y a b : Int) (n c : Nat) (A : Option Addr) (w : World) (hE : ¬ frmE x y a b n = 0) :
    Calls Try.prog 9 #[frm x y a b A n c, vig V] w fun e w' => e = .returned (.bool true) ∧ Below w.heap.size w w' := by
  have HC := hid fun w1 => vig_frame V x y a b n c A w1 hE
  have z9 : (frmE x y a b n != 0) = true := by simp [hE]
  rw [vig_cells]
  go_enter Try.func9, Try.ntmps9
  go_wp2_with fail
  refine (HC.out _).mono ?_
  rintro e w1 ⟨rfl, hb1⟩
  have hk : LK V x y a b n c A w1.heap.size zfrm w (w1.alloc (.cells zfrm 26)) :=
    ⟨(((Blk.new_at _ _ _ rfl).alloc _).below hb1 (by simp; omega)).alloc _, ((Blk.new_at _ _ _ (by simp)).below hb1 (by simp)).alloc _, Blk.new_at _ _ _ rfl, ((((Below.refl _ _).alloc (Nat.le_refl _) _).alloc (by simp) _).trans (hb1.mono (by simp; omega))).alloc (by have := hb1.size; simp at this; omega) _⟩
  have HK0 := hid hk
  clear hb1 hk HC
  go_upto_region 2 with fail
  go_name_world wq hwq
  have HK : RowKit.Hid (LK V x y a b n c A w1.heap.size zfrm w wq.drew) := by
    show LK V x y a b n c A w1.heap.size zfrm w wq.drew
    rw [← hwq]
    exact HK0.out.below (Below.refl _ _).drew
  generalize w1.heap.size = gb at *
  clear hwq HK0
  go_region_held3 (fun w' => w'.cell? ⟨w.heap.size, 0, none⟩ = some (.int .i64 x) ∧ w'.cell? ⟨w.heap.size, 1, none⟩ = some (.int .i64 y) ∧ w'.cell? ⟨w.heap.size, 2, none⟩ = some (.int .i64 a) ∧ w'.cell? ⟨w.heap.size, 3, none⟩ = some (.int .i64 b) ∧ w'.cell? ⟨w.heap.size, 4, none⟩ = some (.slice A n c) ∧ w'.cell? ⟨w.heap.size + 1, 0, none⟩ = some (.float .f32 (V 0)) ∧ w'.cell? ⟨w.heap.size + 1, 1, none⟩ = some (.float .f32 (V 1)) ∧ w'.cell? ⟨w.heap.size + 1, 2, none⟩ = some (.float .f32 (V 2)) ∧ w'.cell? ⟨w.heap.size + 1, 3, none⟩ = some (.float .f32 (V 3)) ∧ w'.cell? ⟨w.heap.size + 1, 4, none⟩ = some (.float .f32 (V 4)) ∧ LK V x y a b n c A gb zfrm w w')
    (first | (with_reducible exact HK.out.held) | (with_reducible exact LKC.on (by assumption) (by assumption)) | (with_reducible exact LKC.alloc (by assumption) _) | (with_reducible assumption))
    (first
      | (go_at_call 32; refine (frameError_any _ _ _ _ _ _ _ _).mono ?_; rintro e w1 ⟨rfl, hb⟩)
      | (go_at_call 61; refine (vigError_any V _).mono ?_; rintro e w1 ⟨rfl, hb⟩)
      | (go_at_call 28; refine (first_any _ _ _ _ (Blk.new_at _ _ _ rfl)).mono ?_; rintro e w1 ⟨R2, rfl, hR3, hR4, rfl⟩; have HR2 := hid (And.intro hR3 hR4); clear hR3 hR4))
  all_goals
    rename_i hH
    have HZ := hid hH.2.2.2.2.2.2.2.2.2.2
    clear hH
    have hr2 := HR2.out
    have hR : R2 = frmE x y a b n := by exact hr2.1 hE
    subst hR
    have z0 := HZ.out.g.cell 0
    have z1 := HZ.out.g.cell 1
    have z2 := HZ.out.g.cell 2
    have z3 := HZ.out.g.cell 3
    have z4 := HZ.out.g.cell 4
    simp at z0 z1 z2 z3 z4
    clear hr2 HR2
    go_wp2_with (first | (go_at_call 26; refine (finishes_any _).mono ?_; rintro e w' ⟨rfl, n0, rfl⟩) | (go_at_call 33; refine (none_any _).mono ?_; rintro e w5 ⟨rfl, hb5⟩))
    go_ret
    exact ⟨rfl, below_to (below_drewN HZ.out.be _) hb5⟩

set_option maxRecDepth 100000 in
set_option maxHeartbeats 8000000 in
theorem vigLaw_vig (V : Nat → Nat) (x y a b : Int) (n c : Nat) (A : Option Addr) (w : World) (hE : frmE x y a b n = 0) (hV : ¬ vgE V = 0) (HCV : ∀ w1, Calls Try.prog 60 #[frm x y a b A n c, vig V] w1 (ErrOut w1 (vgE V))) :
    Calls Try.prog 9 #[frm x y a b A n c, vig V] w fun e w' => e = .returned (.bool true) ∧ Below w.heap.size w w' := by
  have HC := hid fun w1 => HCV w1
  have z9 : (vgE V != 0) = true := by simp [hV]
  clear HCV
  rw [vig_cells]
  go_enter Try.func9, Try.ntmps9
  go_wp2_with fail
  refine (HC.out _).mono ?_
  rintro e w1 ⟨rfl, hb1⟩
  have hk : LK V x y a b n c A w1.heap.size zfrm w (w1.alloc (.cells zfrm 26)) :=
    ⟨(((Blk.new_at _ _ _ rfl).alloc _).below hb1 (by simp; omega)).alloc _, ((Blk.new_at _ _ _ (by simp)).below hb1 (by simp)).alloc _, Blk.new_at _ _ _ rfl, ((((Below.refl _ _).alloc (Nat.le_refl _) _).alloc (by simp) _).trans (hb1.mono (by simp; omega))).alloc (by have := hb1.size; simp at this; omega) _⟩
  have HK0 := hid hk
  clear hb1 hk HC
  go_upto_region 2 with fail
  go_name_world wq hwq
  have HK : RowKit.Hid (LK V x y a b n c A w1.heap.size zfrm w wq.drew) := by
    show LK V x y a b n c A w1.heap.size zfrm w wq.drew
    rw [← hwq]
    exact HK0.out.below (Below.refl _ _).drew
  generalize w1.heap.size = gb at *
  clear hwq HK0
  go_region_held3 (fun w' => w'.cell? ⟨w.heap.size, 0, none⟩ = some (.int .i64 x) ∧ w'.cell? ⟨w.heap.size, 1, none⟩ = some (.int .i64 y) ∧ w'.cell? ⟨w.heap.size, 2, none⟩ = some (.int .i64 a) ∧ w'.cell? ⟨w.heap.size, 3, none⟩ = some (.int .i64 b) ∧ w'.cell? ⟨w.heap.size, 4, none⟩ = some (.slice A n c) ∧ w'.cell? ⟨w.heap.size + 1, 0, none⟩ = some (.float .f32 (V 0)) ∧ w'.cell? ⟨w.heap.size + 1, 1, none⟩ = some (.float .f32 (V 1)) ∧ w'.cell? ⟨w.heap.size + 1, 2, none⟩ = some (.float .f32 (V 2)) ∧ w'.cell? ⟨w.heap.size + 1, 3, none⟩ = some (.float .f32 (V 3)) ∧ w'.cell? ⟨w.heap.size + 1, 4, none⟩ = some (.float .f32 (V 4)) ∧ LK V x y a b n c A gb zfrm w w')
    (first | (with_reducible exact HK.out.held) | (with_reducible exact LKC.on (by assumption) (by assumption)) | (with_reducible exact LKC.alloc (by assumption) _) | (with_reducible assumption))
    (first
      | (go_at_call 32; refine (frameError_any _ _ _ _ _ _ _ _).mono ?_; rintro e w1 ⟨rfl, hb⟩)
      | (go_at_call 61; refine (vigError_any V _).mono ?_; rintro e w1 ⟨rfl, hb⟩)
      | (go_at_call 28; refine (first_any _ _ _ _ (Blk.new_at _ _ _ rfl)).mono ?_; rintro e w1 ⟨R2, rfl, hR3, hR4, rfl⟩; have HR2 := hid (And.intro hR3 hR4); clear hR3 hR4))
  all_goals
    rename_i hH
    have HZ := hid hH.2.2.2.2.2.2.2.2.2.2
    clear hH
    have hr2 := HR2.out
    have hR : R2 = vgE V := by first | exact hr2.2 hE | exact hr2.2 trivial
    subst hR
    have z0 := HZ.out.g.cell 0
    have z1 := HZ.out.g.cell 1
    have z2 := HZ.out.g.cell 2
    have z3 := HZ.out.g.cell 3
    have z4 := HZ.out.g.cell 4
    simp at z0 z1 z2 z3 z4
    clear hr2 HR2
    go_wp2_with (first | (go_at_call 26; refine (finishes_any _).mono ?_; rintro e w' ⟨rfl, n0, rfl⟩) | (go_at_call 33; refine (none_any _).mono ?_; rintro e w5 ⟨rfl, hb5⟩))
    go_ret
    exact ⟨rfl, below_to (below_drewN HZ.out.be _) hb5⟩

theorem vigErr_any (V : Nat → Nat) (x y a b : Int) (n c : Nat) (A : Option Addr) (hE : frmE x y a b n = 0) (hV : ¬ vgE V = 0) (w1 : World) : Calls Try.prog 60 #[frm x y a b A n c, vig V] w1 (ErrOut w1 (vgE V)) := by
  cases h1 : allB (fun k => fin (V k)) 5 with
  | false => rw [vgE_form h1]; exact vig_form V x y a b n c A w1 hE h1
  | true =>
    cases h2 : (FloatKind.f32.format.order (V 3) (V 2) == some .gt) with
    | false => rw [vgE_order h1 h2]; exact vig_order V x y a b n c A w1 hE h1 h2
    | true =>
      cases h3 : wiB (V 4) 0 1065353216 with
      | false => rw [vgE_range h1 h2 h3]; exact vig_range V x y a b n c A w1 hE h1 h2 h3
      | true => exact absurd (vgE_ok h1 h2 h3) hV

/-- The boxes of the law where all is well, and what its frames read as. -/
structure LM (V : Nat → Nat) (X Y : Int) (p q n c : Nat) (A : Option Addr) (F : Nat → Nat) (gb g d : Nat) (w : World) (wr : World) : Prop where
  k : LK V X Y p q n c A gb #[.int .i64 X, .int .i64 Y, .int .i64 p, .int .i64 q, .slice (some ⟨g, 0, none⟩) n d] w wr
  fa : Src wr A n F
  ga : Src wr (some ⟨g, 0, none⟩) n (gI (fun i j => vpx V (fun k => F (4 * (p * j + i) + k)) (X + i) (Y + j)) p)
abbrev LMC (V : Nat → Nat) (X Y : Int) (p q n c : Nat) (A : Option Addr) (F : Nat → Nat) (gb g d : Nat) (w : World) (w' : World) : Prop := w'.cell? ⟨w.heap.size, 0, none⟩ = some (.int .i64 X) ∧ w'.cell? ⟨w.heap.size, 1, none⟩ = some (.int .i64 Y) ∧ w'.cell? ⟨w.heap.size, 2, none⟩ = some (.int .i64 p) ∧ w'.cell? ⟨w.heap.size, 3, none⟩ = some (.int .i64 q) ∧ w'.cell? ⟨w.heap.size, 4, none⟩ = some (.slice A n c) ∧ w'.cell? ⟨gb, 0, none⟩ = some (.int .i64 X) ∧ w'.cell? ⟨gb, 1, none⟩ = some (.int .i64 Y) ∧ w'.cell? ⟨gb, 2, none⟩ = some (.int .i64 p) ∧ w'.cell? ⟨gb, 3, none⟩ = some (.int .i64 q) ∧ w'.cell? ⟨gb, 4, none⟩ = some (.slice (some ⟨g, 0, none⟩) n d) ∧ LM V X Y p q n c A F gb g d w w'
section
variable {V : Nat → Nat} {X Y : Int} {p q n c : Nat} {A : Option Addr} {F : Nat → Nat} {gb g d : Nat} {w wr w1 : World}
theorem LM.held (h : LM V X Y p q n c A F gb g d w wr) : LMC V X Y p q n c A F gb g d w wr := ⟨h.k.f.cell 0, h.k.f.cell 1, h.k.f.cell 2, h.k.f.cell 3, h.k.f.cell 4, h.k.g.cell 0, h.k.g.cell 1, h.k.g.cell 2, h.k.g.cell 3, h.k.g.cell 4, h⟩
theorem LM.below (h : LM V X Y p q n c A F gb g d w wr) (hb : Below wr.heap.size wr w1) : LM V X Y p q n c A F gb g d w w1 := ⟨h.k.below hb, h.fa.below hb, h.ga.below hb⟩
theorem LMC.on (hb : Below wr.heap.size wr w1) (h : LMC V X Y p q n c A F gb g d w wr) : LMC V X Y p q n c A F gb g d w w1 := (h.2.2.2.2.2.2.2.2.2.2.below hb).held
theorem LMC.alloc (h : LMC V X Y p q n c A F gb g d w wr) (o : Obj) : LMC V X Y p q n c A F gb g d w (wr.alloc o) := (h.2.2.2.2.2.2.2.2.2.2.below ((Below.refl _ _).alloc (Nat.le_refl _) o)).held
end

set_option linter.unusedSimpArgs false in
/-- The same, with the vignette's cells. -/
abbrev LKN (V : Nat → Nat) (X Y : Int) (p q n c : Nat) (A : Option Addr) (F : Nat → Nat) (gb g d : Nat) (w : World) (w' : World) : Prop := w'.cell? ⟨w.heap.size, 0, none⟩ = some (.int .i64 X) ∧ w'.cell? ⟨w.heap.size, 1, none⟩ = some (.int .i64 Y) ∧ w'.cell? ⟨w.heap.size, 2, none⟩ = some (.int .i64 p) ∧ w'.cell? ⟨w.heap.size, 3, none⟩ = some (.int .i64 q) ∧ w'.cell? ⟨w.heap.size, 4, none⟩ = some (.slice A n c) ∧ w'.cell? ⟨w.heap.size + 1, 0, none⟩ = some (.float .f32 (V 0)) ∧ w'.cell? ⟨w.heap.size + 1, 1, none⟩ = some (.float .f32 (V 1)) ∧ w'.cell? ⟨w.heap.size + 1, 2, none⟩ = some (.float .f32 (V 2)) ∧ w'.cell? ⟨w.heap.size + 1, 3, none⟩ = some (.float .f32 (V 3)) ∧ w'.cell? ⟨w.heap.size + 1, 4, none⟩ = some (.float .f32 (V 4)) ∧ LM V X Y p q n c A F gb g d w w'
section
variable {V : Nat → Nat} {X Y : Int} {p q n c : Nat} {A : Option Addr} {F : Nat → Nat} {gb g d : Nat} {w wr w1 : World}
theorem LKN.held (h : LM V X Y p q n c A F gb g d w wr) : LKN V X Y p q n c A F gb g d w wr := ⟨h.k.f.cell 0, h.k.f.cell 1, h.k.f.cell 2, h.k.f.cell 3, h.k.f.cell 4, h.k.v.cell 0, h.k.v.cell 1, h.k.v.cell 2, h.k.v.cell 3, h.k.v.cell 4, h⟩
theorem LKN.on (hb : Below wr.heap.size wr w1) (h : LKN V X Y p q n c A F gb g d w wr) : LKN V X Y p q n c A F gb g d w w1 := LKN.held (h.2.2.2.2.2.2.2.2.2.2.below hb)
theorem LKN.alloc (h : LKN V X Y p q n c A F gb g d w wr) (o : Obj) : LKN V X Y p q n c A F gb g d w (wr.alloc o) := LKN.held (h.2.2.2.2.2.2.2.2.2.2.below ((Below.refl _ _).alloc (Nat.le_refl _) o))
end

set_option linter.unusedSimpArgs false in
set_option maxRecDepth 100000 in
set_option maxHeartbeats 8000000 in
theorem vigLaw_ok (V : Nat → Nat) (X Y : Int) (p q n c : Nat) (A : Option Addr) (F : Nat → Nat) (w : World) (hE : frmE X Y p q n = 0) (hnc : n ≤ c) (hcm : c ≤ maxLen) (hF : Src w A n F) (h1 : allB (fun k => fin (V k)) 5 = true) (h2 : (FloatKind.f32.format.order (V 3) (V 2) == some .gt) = true) (h3 : wiB (V 4) 0 1065353216 = true) :
    Calls Try.prog 9 #[frm X Y p q A n c, vig V] w fun e w' => e = .returned (.bool true) ∧ Below w.heap.size w w' := by
  obtain ⟨hreg, hn4⟩ := frmE_zero hE
  obtain ⟨a1, a2, b1, b2, ab, x1, x2, y1, y2⟩ := regE_zero hreg
  have hn : n = 4 * (p * q) := by
    have e : 4 * (p : Int) * (q : Int) = ((4 * (p * q) : Nat) : Int) := by rw [Int.mul_assoc]; simp
    rw [e] at hn4
    exact_mod_cast hn4
  have hpq : p * q ≤ 16384 := by
    have e : (p : Int) * (q : Int) = ((p * q : Nat) : Int) := by simp
    rw [e] at ab
    omega
  have HVE := hid (vgE_ok h1 h2 h3)
  have HFE := hid hE
  have HC := hid fun w1 (hb : Below w.heap.size w w1) => vignette_ok V X Y p q n c A F w1 hE hnc hcm (hF.below hb) h1 h2 h3
  have HMD := hid fun (gb g d : Nat) (w1 : World) (hc : LMC V X Y p q n c A F gb g d w w1) => made_any 62 #[.pointer (some ⟨w.heap.size + 1, 0, none⟩), .pointer (some ⟨w.heap.size, 0, none⟩)] enters_vigLaw1 X Y p q n (fun i j => vpx V (fun k => F (4 * (p * j + i) + k)) (X + i) (Y + j)) w1 hn (by omega) (by omega) (by omega) (by omega) (by omega) (by omega) (by omega) (by omega) (by omega)
    (fun i j w2 hi hj hb => vigLaw1_any V X Y p q n c A F (w.heap.size + 1) w.heap.size i j w2 (vfin_of h1) hi hj hn hnc hcm (by omega) (by omega) (by omega) (by omega) (by omega) (by omega) (by omega) (hc.2.2.2.2.2.2.2.2.2.2.fa.below hb) (hc.2.2.2.2.2.2.2.2.2.2.k.v.below hb hc.2.2.2.2.2.2.2.2.2.2.k.v.lt) (hc.2.2.2.2.2.2.2.2.2.2.k.f.below hb hc.2.2.2.2.2.2.2.2.2.2.k.f.lt))
  have HSF := hid fun (gb g d b2 c2 : Nat) (w1 : World) (hc : LMC V X Y p q n c A F gb g d w w1) (hs : Src w1 (some ⟨b2, 0, none⟩) n (gI (fun i j => vpx V (fun k => F (4 * (p * j + i) + k)) (X + i) (Y + j)) p)) => sameFrame_any X Y p q n d c2 (some ⟨g, 0, none⟩) (some ⟨b2, 0, none⟩) (gI (fun i j => vpx V (fun k => F (4 * (p * j + i) + k)) (X + i) (Y + j)) p) (gI (fun i j => vpx V (fun k => F (4 * (p * j + i) + k)) (X + i) (Y + j)) p) w1 (by omega) hc.2.2.2.2.2.2.2.2.2.2.ga hs (fun _ _ => rfl)
  have HF := hid hF
  have hmf : ∀ (fn : Fn) (first cap : Array Value) (w : World), (Instr.makeFunc fn first cap).run Try.prog w = .ok (.func fn first cap) w := fun _ _ _ _ => rfl
  clear hreg hn4 hn hpq ab h1 h2 h3 hF hE
  rw [vig_cells]
  go_enter Try.func9, Try.ntmps9
  go_wp2_with fail
  refine (HC.out _ (((Below.refl _ _).alloc (Nat.le_refl _) _).alloc (by simp) _)).mono ?_
  rintro e w1 ⟨g, d, rfl, hs, hb1⟩
  have hk : LM V X Y p q n c A F w1.heap.size g d w (w1.alloc (.cells #[.int .i64 X, .int .i64 Y, .int .i64 p, .int .i64 q, .slice (some ⟨g, 0, none⟩) n d] 26)) :=
    have hbe : Below w.heap.size w w1 := (((Below.refl _ _).alloc (Nat.le_refl _) _).alloc (by simp) _).trans (hb1.mono (by simp; omega))
    ⟨⟨(((Blk.new_at _ _ _ rfl).alloc _).below hb1 (by simp; omega)).alloc _, ((Blk.new_at _ _ _ (by simp)).below hb1 (by simp)).alloc _, Blk.new_at _ _ _ rfl, hbe.alloc hbe.size _⟩, (HF.out.below hbe).below ((Below.refl _ _).alloc (Nat.le_refl _) _), hs.below ((Below.refl _ _).alloc (Nat.le_refl _) _)⟩
  have HK0 := hid hk
  clear hb1 hk HC hs
  go_upto_region 2 with fail
  go_name_world wq hwq
  have HK : RowKit.Hid (LM V X Y p q n c A F w1.heap.size g d w wq.drew) := by
    show LM V X Y p q n c A F w1.heap.size g d w wq.drew
    rw [← hwq]
    exact HK0.out.below (Below.refl _ _).drew
  generalize w1.heap.size = gb at *
  clear hwq HK0
  go_region_held3 (fun w' => w'.cell? ⟨w.heap.size, 0, none⟩ = some (.int .i64 X) ∧ w'.cell? ⟨w.heap.size, 1, none⟩ = some (.int .i64 Y) ∧ w'.cell? ⟨w.heap.size, 2, none⟩ = some (.int .i64 p) ∧ w'.cell? ⟨w.heap.size, 3, none⟩ = some (.int .i64 q) ∧ w'.cell? ⟨w.heap.size, 4, none⟩ = some (.slice A n c) ∧ w'.cell? ⟨w.heap.size + 1, 0, none⟩ = some (.float .f32 (V 0)) ∧ w'.cell? ⟨w.heap.size + 1, 1, none⟩ = some (.float .f32 (V 1)) ∧ w'.cell? ⟨w.heap.size + 1, 2, none⟩ = some (.float .f32 (V 2)) ∧ w'.cell? ⟨w.heap.size + 1, 3, none⟩ = some (.float .f32 (V 3)) ∧ w'.cell? ⟨w.heap.size + 1, 4, none⟩ = some (.float .f32 (V 4)) ∧ LM V X Y p q n c A F gb g d w w')
    (first | (with_reducible exact LKN.held HK.out) | (with_reducible exact LKN.on (by assumption) (by assumption)) | (with_reducible exact LKN.alloc (by assumption) _) | (with_reducible assumption))
    (first
      | (go_at_call 32; refine (frameError_any _ _ _ _ _ _ _ _).mono ?_; rintro e w1 ⟨rfl, hb⟩)
      | (go_at_call 61; refine (vigError_any V _).mono ?_; rintro e w1 ⟨rfl, hb⟩)
      | (go_at_call 28; refine (first_any _ _ _ _ (Blk.new_at _ _ _ rfl)).mono ?_; rintro e w1 ⟨R2, rfl, hR3, hR4, rfl⟩; have HR2 := hid (And.intro hR3 hR4); clear hR3 hR4))
  all_goals
    rename_i hH
    have HZ := hid hH.2.2.2.2.2.2.2.2.2.2
    clear hH
    have hr2 := HR2.out
    have hR : R2 = 0 := by
      have e1 := HFE.out
      have e2 := HVE.out
      first | exact (hr2.2 e1).trans e2 | exact (hr2.2 trivial).trans e2 | simp_all
    subst hR
    clear hr2 HR2 HK
    go_upto_region 5 with (go_at_call 26; refine (finishes_any _).mono ?_; rintro e w' ⟨rfl, n0, rfl⟩)
    go_name_world wz hwz
    have HK : RowKit.Hid (LM V X Y p q n c A F gb g d w wz.drew) := by
      show LM V X Y p q n c A F gb g d w wz.drew
      rw [← hwz]
      exact HZ.out.below ((below_drewN (Below.refl _ _) _).drew)
    clear hwz HZ
    by_cases h400 : n ≤ 400
    · have hfw : ∀ w1, Calls Try.prog 34 #[frm X Y p q A n c] w1 fun e w' => e = .returned (.bool true) ∧ Below w1.heap.size w1 w' := fun w1 => by
        have h := few_any X Y p q A n c w1
        rwa [decide_eq_true h400] at h
      clear h400
      go_region_held3 (fun w' => w'.cell? ⟨w.heap.size, 0, none⟩ = some (.int .i64 X) ∧ w'.cell? ⟨w.heap.size, 1, none⟩ = some (.int .i64 Y) ∧ w'.cell? ⟨w.heap.size, 2, none⟩ = some (.int .i64 p) ∧ w'.cell? ⟨w.heap.size, 3, none⟩ = some (.int .i64 q) ∧ w'.cell? ⟨w.heap.size, 4, none⟩ = some (.slice A n c) ∧ w'.cell? ⟨gb, 0, none⟩ = some (.int .i64 X) ∧ w'.cell? ⟨gb, 1, none⟩ = some (.int .i64 Y) ∧ w'.cell? ⟨gb, 2, none⟩ = some (.int .i64 p) ∧ w'.cell? ⟨gb, 3, none⟩ = some (.int .i64 q) ∧ w'.cell? ⟨gb, 4, none⟩ = some (.slice (some ⟨g, 0, none⟩) n d) ∧ LM V X Y p q n c A F gb g d w w')
        (first | (with_reducible exact HK.out.held) | (with_reducible exact LMC.on (by assumption) (by assumption)) | (with_reducible exact LMC.alloc (by assumption) _) | (with_reducible assumption))
        (first
          | (go_at_call 34; refine (hfw _).mono ?_; rintro e w3 ⟨rfl, hb⟩)
          | (go_at_call 36; refine (HMD.out gb g d _ (by first | assumption | (go_split_ands; assumption))).mono ?_; rintro e w3 ⟨b2, c2, rfl, _, _, _, hlt2, hrd, hb⟩; have hs2 := Src.of_rd hrd hlt2)
          | (go_at_call 35; refine (HSF.out gb g d _ _ _ (by first | assumption | (go_split_ands; assumption)) (by assumption)).mono ?_; rintro e w4 ⟨rfl, hb⟩))
      all_goals
        rename_i hH
        have HB := hid hH.2.2.2.2.2.2.2.2.2.2.k.be
        clear hH
        go_wp2_with fail
        go_ret
        exact ⟨rfl, HB.out⟩
    · have hfw : ∀ w1, Calls Try.prog 34 #[frm X Y p q A n c] w1 fun e w' => e = .returned (.bool false) ∧ Below w1.heap.size w1 w' := fun w1 => by
        have h := few_any X Y p q A n c w1
        rwa [decide_eq_false h400] at h
      clear h400
      refine wp_region_held_drew (S := fun w' => w'.cell? ⟨w.heap.size, 0, none⟩ = some (.int .i64 X) ∧ w'.cell? ⟨w.heap.size, 1, none⟩ = some (.int .i64 Y) ∧ w'.cell? ⟨w.heap.size, 2, none⟩ = some (.int .i64 p) ∧ w'.cell? ⟨w.heap.size, 3, none⟩ = some (.int .i64 q) ∧ w'.cell? ⟨w.heap.size, 4, none⟩ = some (.slice A n c) ∧ w'.cell? ⟨gb, 0, none⟩ = some (.int .i64 X) ∧ w'.cell? ⟨gb, 1, none⟩ = some (.int .i64 Y) ∧ w'.cell? ⟨gb, 2, none⟩ = some (.int .i64 p) ∧ w'.cell? ⟨gb, 3, none⟩ = some (.int .i64 q) ∧ w'.cell? ⟨gb, 4, none⟩ = some (.slice (some ⟨g, 0, none⟩) n d) ∧ LM V X Y p q n c A F gb g d w w') (by kernel_rfl) HK.out.held (fun hHeld => ?_)
      refine wpAnyH_take (i := 0) (v := .agg #[.int .i64 X, .int .i64 Y, .int .i64 p, .int .i64 q, .slice A n c]) rfl (by kernel_rfl) (by kernel_rfl) (by kernel_rfl) (fun _ _ _ h => h) (Or.inl ⟨rfl, ?_⟩) hHeld ?_
      · intro w2 hSw
        go_split_ands
        go_simp
      try simp only [Act.put, List.getElem_toArray, List.getElem_cons_zero, List.getElem_cons_succ, List.setIfInBounds_toArray, List.set_cons_zero, List.set_cons_succ]
      refine wpAnyH_ready (rs := [1]) (by kernel_rfl) (by simp) ?_
      refine AllReadyH.cons rfl (fun K hK => ?_) AllReadyH.nil
      go_simp
      (go_at_call 34; refine (hfw _).mono ?_; rintro e w3 ⟨rfl, hb⟩)
      refine hK.out _ _ (LMC.on hb hHeld) (fun hHeld2 => ?_)
      clear hK K hHeld
      try simp only [Act.put, List.getElem_toArray, List.getElem_cons_zero, List.getElem_cons_succ, List.setIfInBounds_toArray, List.set_cons_zero, List.set_cons_succ]
      refine wpAnyH_take (i := 2) (v := .bool true) rfl (by kernel_rfl) (by kernel_rfl) (by kernel_rfl) (fun _ _ _ h => h) (Or.inl ⟨by kernel_rfl, fun _ _ => rfl⟩) hHeld2 ?_
      try simp only [Act.put, List.getElem_toArray, List.getElem_cons_zero, List.getElem_cons_succ, List.setIfInBounds_toArray, List.set_cons_zero, List.set_cons_succ]
      refine wpAnyH_take (i := 3) (v := .bool true) rfl (by kernel_rfl) (by kernel_rfl) (by kernel_rfl) (fun _ _ _ h => h) (Or.inl ⟨by kernel_rfl, fun _ _ => rfl⟩) hHeld2 ?_
      try simp only [Act.put, List.getElem_toArray, List.getElem_cons_zero, List.getElem_cons_succ, List.setIfInBounds_toArray, List.set_cons_zero, List.set_cons_succ]
      refine wpAnyH_take (i := 4) (v := undef) rfl (by kernel_rfl) (by kernel_rfl) (by kernel_rfl) (fun _ _ _ h => h) (Or.inr ⟨by kernel_rfl, rfl⟩) hHeld2 ?_
      try simp only [Act.put, List.getElem_toArray, List.getElem_cons_zero, List.getElem_cons_succ, List.setIfInBounds_toArray, List.set_cons_zero, List.set_cons_succ]
      refine wpAnyH_take (i := 5) (v := undef) rfl (by kernel_rfl) (by kernel_rfl) (by kernel_rfl) (fun _ _ _ h => h) (Or.inr ⟨by kernel_rfl, rfl⟩) hHeld2 ?_
      try simp only [Act.put, List.getElem_toArray, List.getElem_cons_zero, List.getElem_cons_succ, List.setIfInBounds_toArray, List.set_cons_zero, List.set_cons_succ]
      refine wpAnyH_take (i := 6) (v := undef) rfl (by kernel_rfl) (by kernel_rfl) (by kernel_rfl) (fun _ _ _ h => h) (Or.inr ⟨by kernel_rfl, rfl⟩) hHeld2 ?_
      try simp only [Act.put, List.getElem_toArray, List.getElem_cons_zero, List.getElem_cons_succ, List.setIfInBounds_toArray, List.set_cons_zero, List.set_cons_succ]
      refine wpAnyH_take (i := 7) (v := undef) rfl (by kernel_rfl) (by kernel_rfl) (by kernel_rfl) (fun _ _ _ h => h) (Or.inr ⟨by kernel_rfl, rfl⟩) hHeld2 ?_
      try simp only [Act.put, List.getElem_toArray, List.getElem_cons_zero, List.getElem_cons_succ, List.setIfInBounds_toArray, List.set_cons_zero, List.set_cons_succ]
      refine wpAnyH_take (i := 8) (v := undef) rfl (by kernel_rfl) (by kernel_rfl) (by kernel_rfl) (fun _ _ _ h => h) (Or.inr ⟨by kernel_rfl, rfl⟩) hHeld2 ?_
      try simp only [Act.put, List.getElem_toArray, List.getElem_cons_zero, List.getElem_cons_succ, List.setIfInBounds_toArray, List.set_cons_zero, List.set_cons_succ]
      refine wpAnyH_take (i := 9) (v := undef) rfl (by kernel_rfl) (by kernel_rfl) (by kernel_rfl) (fun _ _ _ h => h) (Or.inr ⟨by kernel_rfl, rfl⟩) hHeld2 ?_
      try simp only [Act.put, List.getElem_toArray, List.getElem_cons_zero, List.getElem_cons_succ, List.setIfInBounds_toArray, List.set_cons_zero, List.set_cons_succ]
      refine wpAnyH_take (i := 10) (v := undef) rfl (by kernel_rfl) (by kernel_rfl) (by kernel_rfl) (fun _ _ _ h => h) (Or.inr ⟨by kernel_rfl, rfl⟩) hHeld2 ?_
      try simp only [Act.put, List.getElem_toArray, List.getElem_cons_zero, List.getElem_cons_succ, List.setIfInBounds_toArray, List.set_cons_zero, List.set_cons_succ]
      refine wpAnyH_take (i := 11) (v := undef) rfl (by kernel_rfl) (by kernel_rfl) (by kernel_rfl) (fun _ _ _ h => h) (Or.inr ⟨by kernel_rfl, rfl⟩) hHeld2 ?_
      try simp only [Act.put, List.getElem_toArray, List.getElem_cons_zero, List.getElem_cons_succ, List.setIfInBounds_toArray, List.set_cons_zero, List.set_cons_succ]
      refine wpAnyH_take (i := 12) (v := undef) rfl (by kernel_rfl) (by kernel_rfl) (by kernel_rfl) (fun _ _ _ h => h) (Or.inr ⟨by kernel_rfl, rfl⟩) hHeld2 ?_
      try simp only [Act.put, List.getElem_toArray, List.getElem_cons_zero, List.getElem_cons_succ, List.setIfInBounds_toArray, List.set_cons_zero, List.set_cons_succ]
      refine wpAnyH_take (i := 13) (v := undef) rfl (by kernel_rfl) (by kernel_rfl) (by kernel_rfl) (fun _ _ _ h => h) (Or.inr ⟨by kernel_rfl, rfl⟩) hHeld2 ?_
      try simp only [Act.put, List.getElem_toArray, List.getElem_cons_zero, List.getElem_cons_succ, List.setIfInBounds_toArray, List.set_cons_zero, List.set_cons_succ]
      refine wpAnyH_take (i := 14) (oi := { dst := some 50, op := Op.pick (Operand.tmp 39) (Operand.const (Value.bool true)) (Operand.tmp 49), type := 4, pos := "finish.go:125", after := #[{ on := 3, ground := Ground.data }, { on := 13, ground := Ground.data }], guard := none }) (v := .bool true) rfl (by kernel_rfl) (by kernel_rfl) (by kernel_rfl) (fun _ _ _ h => h) (Or.inl ⟨by kernel_rfl, ?_⟩) hHeld2 ?_
      · intro w2 hSw
        clear hSw
        go_simp
      try simp only [Act.put, List.getElem_toArray, List.getElem_cons_zero, List.getElem_cons_succ, List.setIfInBounds_toArray, List.set_cons_zero, List.set_cons_succ]
      refine wpAnyH_take (i := 15) (oi := { dst := some 4, op := Op.assign (Operand.tmp 50), type := 4, pos := "finish.go:125", after := #[{ on := 14, ground := Ground.data }, { on := 12, ground := Ground.chain }, { on := 0, ground := Ground.phase }, { on := 1, ground := Ground.phase }, { on := 2, ground := Ground.phase }, { on := 3, ground := Ground.phase }, { on := 4, ground := Ground.phase }, { on := 5, ground := Ground.phase }, { on := 6, ground := Ground.phase }, { on := 7, ground := Ground.phase }, { on := 8, ground := Ground.phase }, { on := 9, ground := Ground.phase }, { on := 10, ground := Ground.phase }, { on := 11, ground := Ground.phase }, { on := 12, ground := Ground.phase }, { on := 13, ground := Ground.phase }, { on := 14, ground := Ground.phase }], guard := none }) (v := .bool true) rfl (by kernel_rfl) (by kernel_rfl) (by kernel_rfl) (fun _ _ _ h => h) (Or.inl ⟨by kernel_rfl, ?_⟩) hHeld2 ?_
      · intro w2 hSw
        clear hSw
        go_simp
      try simp only [Act.put, List.getElem_toArray, List.getElem_cons_zero, List.getElem_cons_succ, List.setIfInBounds_toArray, List.set_cons_zero, List.set_cons_succ]
      refine wpAnyH_done (by kernel_rfl) ?_ _
      have HB := hid hHeld2.2.2.2.2.2.2.2.2.2.2.k.be
      clear hHeld2
      go_wp2_with fail
      go_ret
      exact ⟨rfl, HB.out⟩

theorem vignettesMatch_any (V : Nat → Nat) (x y a b : Int) (n c : Nat) (A : Option Addr) (F : Nat → Nat) (w : World) (hnc : n ≤ c) (hcm : c ≤ maxLen) (hF : Src w A n F) :
    Calls Try.prog 9 #[frm x y a b A n c, vig V] w fun e w' => e = .returned (.bool true) ∧ Below w.heap.size w w' := by
  by_cases hE : frmE x y a b n = 0
  · by_cases hV : vgE V = 0
    · obtain ⟨hreg, _⟩ := frmE_zero hE
      obtain ⟨a1, _, b1, _⟩ := regE_zero hreg
      obtain ⟨p, rfl⟩ : ∃ p : Nat, a = p := ⟨a.toNat, by omega⟩
      obtain ⟨q, rfl⟩ : ∃ q : Nat, b = q := ⟨b.toNat, by omega⟩
      cases h1 : allB (fun k => fin (V k)) 5 with
      | false => rw [vgE_form h1] at hV; cases hV
      | true =>
        cases h2 : (FloatKind.f32.format.order (V 3) (V 2) == some .gt) with
        | false => rw [vgE_order h1 h2] at hV; cases hV
        | true =>
          cases h3 : wiB (V 4) 0 1065353216 with
          | false => rw [vgE_range h1 h2 h3] at hV; cases hV
          | true => exact vigLaw_ok V x y p q n c A F w hE hnc hcm hF h1 h2 h3
    · exact vigLaw_vig V x y a b n c A w hE hV fun w1 => vigErr_any V x y a b n c A hE hV w1
  · exact vigLaw_frame V x y a b n c A w hE
end Go.Proofs.Ytbpnbcnhlnnolaa
