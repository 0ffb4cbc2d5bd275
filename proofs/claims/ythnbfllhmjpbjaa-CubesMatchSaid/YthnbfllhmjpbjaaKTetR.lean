/-
  Cubes in the reference: TetraOf.
-/
import Derived.Test.YthnbfllhmjpbjaaKTetS
import Derived.Deep.RegionHeld3
import Derived.Deep.RegionLaw
namespace Go.Proofs.Ythnbfllhmjpbjaa
open Go.RowKit Go.Shelf
attribute [local go_sem] run_store_float

set_option maxRecDepth 100000 in
set_option maxHeartbeats 2000000 in
theorem tetOf_broken (s L H n c : Nat) (A : Option Addr) (T p : Nat → Nat) (w : World) (hb : nan3 p = true) :
    Calls Try.prog 23 #[cub s L H A n c, pix p] w fun e w' => e = .returned (pix (lookC T p)) ∧ Below w.heap.size w w' := by
  have hv : pix (lookC T p) = .agg #[.float .f32 2143289344, .float .f32 2143289344, .float .f32 2143289344, .float .f32 (cl (p 3))] := by
    rw [pix_cells]; unfold lookC; simp [hb]
  rw [hv, pix_cells p]
  clear hv
  go_enter Try.func23, Try.ntmps23
  obtain ⟨W0, hW0⟩ : ∃ W0, ((w.alloc (.cells #[.int .i64 s, .float .f32 L, .float .f32 H, .slice A n c] 25)).alloc (.cells (pA p) 27)).alloc (.cells zpix 27) = W0 := ⟨_, rfl⟩
  have q := lo_new s L H n c A p w
  rw [hW0] at q
  have HW := hid hW0
  have Q := hid q
  have d0 := q.b1.cell 0
  have d1 := q.b1.cell 1
  have d2 := q.b1.cell 2
  have d3 := q.b1.cell 3
  simp at d0 d1 d2 d3
  clear hW0 q
  go_wp2_with (go_at_call 75; refine (theNaN_any _).mono ?_; rintro e w' ⟨rfl, rfl⟩)
  rw [HW.out]
  rw [← pix_cells p]
  refine (broken_any p _).mono ?_
  rintro e w1 ⟨rfl, hb1⟩
  rw [hb]
  have Q1 := hid (Q.out.below hb1)
  clear hb1 Q HW d0 d1 d2 d3
  have d3 := Q1.out.b1.cell 3
  have z0 := Q1.out.b2.cell 0
  have z1 := Q1.out.b2.cell 1
  have z2 := Q1.out.b2.cell 2
  have z3 := Q1.out.b2.cell 3
  have f0 := Q1.out.b2.frozen 0
  have f1 := Q1.out.b2.frozen 1
  have f2 := Q1.out.b2.frozen 2
  have f3 := Q1.out.b2.frozen 3
  simp at d3 z0 z1 z2 z3
  go_wp2_with (go_at_call 57; refine (fix_any _ _).mono ?_; rintro e w' ⟨rfl, rfl⟩)
  have hblk := Q1.out.b2.set4 (.float .f32 2143289344) (.float .f32 2143289344) (.float .f32 2143289344) (.float .f32 (cl (p 3)))
  have be := below_set4 Q1.out.be (g := w.heap.size + 1 + 1) (by omega) (.float .f32 2143289344) (.float .f32 2143289344) (.float .f32 2143289344) (.float .f32 (cl (p 3)))
  exact bodyPost_ret (v := .agg #[.float .f32 2143289344, .float .f32 2143289344, .float .f32 2143289344, .float .f32 (cl (p 3))]) (results_cell_row rfl _ _ _ _ _ _ _ rfl hblk Try.underlying27 rfl (by kernel_rfl)) rfl ⟨rfl, be⟩


abbrev i3A (d : Nat → Nat) : Array Value := #[.int .i64 (d 0 : Nat), .int .i64 (d 1 : Nat), .int .i64 (d 2 : Nat)]
theorem i3_cell {w : World} {b : Nat} {t : TypeId} {d : Nat → Nat} (h : Blk w b t (i3A d)) (i : Nat) (hi : i < 3) : w.cell? ⟨b, i, none⟩ = some (.int .i64 (d i : Nat)) := by
  have := Blk.cell h i
  have h3 : i = 0 ∨ i = 1 ∨ i = 2 := by omega
  rcases h3 with rfl | rfl | rfl <;> simpa using this
theorem i3_set {w : World} {b : Nat} {t : TypeId} {d : Nat → Nat} (h : Blk w b t (i3A d)) (i v : Nat) (hi : i < 3) : Blk (w.setCell ⟨b, i, none⟩ (.int .i64 (v : Nat))) b t (i3A fun j => if j = i then v else d j) := by
  have := Blk.set_ h i (.int .i64 (v : Nat))
  have h3 : i = 0 ∨ i = 1 ∨ i = 2 := by omega
  rcases h3 with rfl | rfl | rfl <;> simpa [i3A] using this
theorem f3_cell {w : World} {b : Nat} {t : TypeId} {d : Nat → Nat} (h : Blk w b t (arrA d)) (i : Nat) (hi : i < 3) : w.cell? ⟨b, i, none⟩ = some (.float .f32 (d i)) := by
  have := Blk.cell h i
  have h3 : i = 0 ∨ i = 1 ∨ i = 2 := by omega
  rcases h3 with rfl | rfl | rfl <;> simpa using this
theorem f3_set {w : World} {b : Nat} {t : TypeId} {d : Nat → Nat} (h : Blk w b t (arrA d)) (i v : Nat) (hi : i < 3) : Blk (w.setCell ⟨b, i, none⟩ (.float .f32 v)) b t (arrA fun j => if j = i then v else d j) := by
  have := Blk.set_ h i (.float .f32 v)
  have h3 : i = 0 ∨ i = 1 ∨ i = 2 := by omega
  rcases h3 with rfl | rfl | rfl <;> simpa [arrA] using this

/-- The first k, else 0. -/
def upk (F : Nat → Nat) (k j : Nat) : Nat := if j < k then F j else 0
theorem upk_step (F : Nat → Nat) (k : Nat) : (fun j => if j = k then F k else upk F k j) = upk F (k + 1) := by
  funext j
  unfold upk
  by_cases h : j = k
  · subst h; simp
  · by_cases h2 : j < k
    · rw [if_neg h, if_pos h2, if_pos (by omega)]
    · rw [if_neg h, if_neg h2, if_neg (by omega)]

/-- The relation of the loop over the axes. -/
structure TA (s L H n c : Nat) (A : Option Addr) (p : Nat → Nat) (w : World) (Ba Bx k : Nat) (wr : World) : Prop where
  lo : LO s L H n c A p w wr
  ba : Blk wr Ba 94 (i3A (upk (spN s L H p) k))
  bx : Blk wr Bx 30 (arrA (upk (spX s L H p) k))
theorem TA.below {s L H n c : Nat} {A : Option Addr} {p : Nat → Nat} {w wr w1 : World} {Ba Bx k : Nat} (h : TA s L H n c A p w Ba Bx k wr) (hb : Below wr.heap.size wr w1) : TA s L H n c A p w Ba Bx k w1 :=
  ⟨h.lo.below hb, h.ba.below hb h.ba.lt, h.bx.below hb h.bx.lt⟩
theorem TA.step {s L H n c : Nat} {A : Option Addr} {p : Nat → Nat} {w wr : World} {Ba Bx k : Nat} (h : TA s L H n c A p w Ba Bx k wr) (hk : k < 3) (hlo : w.heap.size + 1 + 1 < Ba) (hx : Ba < Bx) :
    TA s L H n c A p w Ba Bx (k + 1) ((wr.setCell ⟨Ba, k, none⟩ (.int .i64 (spN s L H p k : Nat))).setCell ⟨Bx, k, none⟩ (.float .f32 (spX s L H p k))) := by
  refine ⟨⟨(h.lo.b0.far (by simp; omega) _).far (by simp; omega) _, (h.lo.b1.far (by simp; omega) _).far (by simp; omega) _, (h.lo.b2.far (by simp; omega) _).far (by simp; omega) _, (h.lo.be.setCell (by simp; omega) _).setCell (by simp; omega) _⟩, ?_, ?_⟩
  · have := (i3_set h.ba k (spN s L H p k) hk).far (p := ⟨Bx, k, none⟩) (by simp; omega) (.float .f32 (spX s L H p k))
    rw [upk_step] at this; exact this
  · have := f3_set (h.bx.far (p := ⟨Ba, k, none⟩) (by simp; omega) (.int .i64 (spN s L H p k : Nat))) k (spX s L H p k) hk
    rw [upk_step] at this; exact this
theorem TA.step2 {s L H n c : Nat} {A : Option Addr} {p : Nat → Nat} {w wr : World} {Ba Bx k : Nat} (h : TA s L H n c A p w Ba Bx k wr) (hk : k < 3) (hlo : w.heap.size + 1 + 1 < Ba) (hx : Ba < Bx) :
    TA s L H n c A p w Ba Bx (k + 1) ((wr.setCell ⟨Bx, k, none⟩ (.float .f32 (spX s L H p k))).setCell ⟨Ba, k, none⟩ (.int .i64 (spN s L H p k : Nat))) := by
  refine ⟨⟨(h.lo.b0.far (by simp; omega) _).far (by simp; omega) _, (h.lo.b1.far (by simp; omega) _).far (by simp; omega) _, (h.lo.b2.far (by simp; omega) _).far (by simp; omega) _, (h.lo.be.setCell (by simp; omega) _).setCell (by simp; omega) _⟩, ?_, ?_⟩
  · have := i3_set (h.ba.far (p := ⟨Bx, k, none⟩) (by simp; omega) (.float .f32 (spX s L H p k))) k (spN s L H p k) hk
    rw [upk_step] at this; exact this
  · have := (f3_set h.bx k (spX s L H p k) hk).far (p := ⟨Ba, k, none⟩) (by simp; omega) (.int .i64 (spN s L H p k : Nat))
    rw [upk_step] at this; exact this
theorem pA_cell {w : World} {b : Nat} {t : TypeId} {d : Nat → Nat} (h : Blk w b t (pA d)) (i : Nat) (hi : i < 4) : w.cell? ⟨b, i, none⟩ = some (.float .f32 (d i)) := by
  have := Blk.cell h i
  have h3 : i = 0 ∨ i = 1 ∨ i = 2 ∨ i = 3 := by omega
  rcases h3 with rfl | rfl | rfl | rfl <;> simpa [pA] using this
theorem far_cell {w2 : World} {b j gb o : Nat} {u : Value} (h : w2.cell? ⟨b, j, none⟩ = some u) (hne : b ≠ gb) (v : Value) : (w2.setCell ⟨gb, o, none⟩ v).cell? ⟨b, j, none⟩ = some u := by
  rw [World.cell?_setCell_other w2 ⟨gb, o, none⟩ ⟨b, j, none⟩ v (fun e => hne (by injection e with e1; exact e1.symm))]
  exact h
/-- The cube's cells and one of the colour's. -/
abbrev S5 (w : World) (s L H n c : Nat) (A : Option Addr) (p : Nat → Nat) (k : Nat) (w' : World) : Prop :=
  w'.cell? ⟨w.heap.size, 0, none⟩ = some (.int .i64 s) ∧ w'.cell? ⟨w.heap.size, 1, none⟩ = some (.float .f32 L) ∧ w'.cell? ⟨w.heap.size, 2, none⟩ = some (.float .f32 H) ∧ w'.cell? ⟨w.heap.size, 3, none⟩ = some (.slice A n c) ∧ w'.cell? ⟨w.heap.size + 1, k, none⟩ = some (.float .f32 (p k))
theorem s5_far {w W : World} {s L H n c : Nat} {A : Option Addr} {p : Nat → Nat} {k b : Nat} (h : S5 w s L H n c A p k W) (hb : w.heap.size + 1 < b) (o : Nat) (v : Value) : S5 w s L H n c A p k (W.setCell ⟨b, o, none⟩ v) :=
  ⟨far_cell h.1 (by omega) v, far_cell h.2.1 (by omega) v, far_cell h.2.2.1 (by omega) v, far_cell h.2.2.2.1 (by omega) v, far_cell h.2.2.2.2 (by omega) v⟩
theorem TA.s5 {s L H n c : Nat} {A : Option Addr} {p : Nat → Nat} {w wr : World} {Ba Bx m : Nat} (h : TA s L H n c A p w Ba Bx m wr) (k : Nat) (hk : k < 4) : S5 w s L H n c A p k wr :=
  ⟨by rw [h.lo.b0.cell 0]; rfl, by rw [h.lo.b0.cell 1]; rfl, by rw [h.lo.b0.cell 2]; rfl, by rw [h.lo.b0.cell 3]; rfl, pA_cell h.lo.b1 k hk⟩
/-- What lies there behind the loop over the axes: the cells (a), the shares, the order (d). -/
structure TB (s L H n c : Nat) (A : Option Addr) (p : Nat → Nat) (w : World) (Ba Bx Bo : Nat) (a x d : Nat → Nat) (wr : World) : Prop where
  lo : LO s L H n c A p w wr
  ba : Blk wr Ba 94 (i3A a)
  bx : Blk wr Bx 30 (arrA x)
  bo : Blk wr Bo 3 (i3A d)
theorem TB.below {s L H n c : Nat} {A : Option Addr} {p : Nat → Nat} {w wr w1 : World} {Ba Bx Bo : Nat} {a x d : Nat → Nat} (h : TB s L H n c A p w Ba Bx Bo a x d wr) (hb : Below wr.heap.size wr w1) : TB s L H n c A p w Ba Bx Bo a x d w1 :=
  ⟨h.lo.below hb, h.ba.below hb h.ba.lt, h.bx.below hb h.bx.lt, h.bo.below hb h.bo.lt⟩
theorem TA.to {s L H n c : Nat} {A : Option Addr} {p : Nat → Nat} {w wr w1 : World} {Ba Bx Bo : Nat} {d : Nat → Nat} (h : TA s L H n c A p w Ba Bx 3 wr) (hb : Below wr.heap.size wr w1) (hbo : Blk w1 Bo 3 (i3A d)) : TB s L H n c A p w Ba Bx Bo (spN s L H p) (spX s L H p) d w1 := by
  have h1 := h.below hb
  exact ⟨h1.lo, h1.ba, h1.bx, hbo⟩
theorem i3A_swp (d : Nat → Nat) (i : Nat) (hi : i < 2) : (i3A fun j => if j = i + 1 then d i else if j = i then d (i + 1) else d j) = i3A (swp d i (i + 1)) := by
  have h : i = 0 ∨ i = 1 := by omega
  rcases h with rfl | rfl <;> simp [i3A, swp]
theorem i3A_swp2 (d : Nat → Nat) (i : Nat) (hi : i < 2) : (i3A fun j => if j = i then d (i + 1) else if j = i + 1 then d i else d j) = i3A (swp d i (i + 1)) := by
  have h : i = 0 ∨ i = 1 := by omega
  rcases h with rfl | rfl <;> simp [i3A, swp]
theorem TB.swap {s L H n c : Nat} {A : Option Addr} {p : Nat → Nat} {w wr : World} {Ba Bx Bo : Nat} {a x d : Nat → Nat} (h : TB s L H n c A p w Ba Bx Bo a x d wr) (i : Nat) (hi : i < 2) (hlo : w.heap.size + 1 + 1 < Ba) (h1 : Ba < Bx) (h2 : Bx < Bo) :
    TB s L H n c A p w Ba Bx Bo a x (swp d i (i + 1)) ((wr.setCell ⟨Bo, i, none⟩ (.int .i64 (d (i + 1) : Nat))).setCell ⟨Bo, i + 1, none⟩ (.int .i64 (d i : Nat))) ∧
    TB s L H n c A p w Ba Bx Bo a x (swp d i (i + 1)) ((wr.setCell ⟨Bo, i + 1, none⟩ (.int .i64 (d i : Nat))).setCell ⟨Bo, i, none⟩ (.int .i64 (d (i + 1) : Nat))) := by
  constructor
  · refine ⟨⟨(h.lo.b0.far (by simp; omega) _).far (by simp; omega) _, (h.lo.b1.far (by simp; omega) _).far (by simp; omega) _, (h.lo.b2.far (by simp; omega) _).far (by simp; omega) _, (h.lo.be.setCell (by simp; omega) _).setCell (by simp; omega) _⟩, (h.ba.far (by simp; omega) _).far (by simp; omega) _, (h.bx.far (by simp; omega) _).far (by simp; omega) _, ?_⟩
    have := i3_set (i3_set h.bo i (d (i + 1)) (by omega)) (i + 1) (d i) (by omega)
    rw [i3A_swp d i hi] at this; exact this
  · refine ⟨⟨(h.lo.b0.far (by simp; omega) _).far (by simp; omega) _, (h.lo.b1.far (by simp; omega) _).far (by simp; omega) _, (h.lo.b2.far (by simp; omega) _).far (by simp; omega) _, (h.lo.be.setCell (by simp; omega) _).setCell (by simp; omega) _⟩, (h.ba.far (by simp; omega) _).far (by simp; omega) _, (h.bx.far (by simp; omega) _).far (by simp; omega) _, ?_⟩
    have := i3_set (i3_set h.bo (i + 1) (d i) (by omega)) i (d (i + 1)) (by omega)
    rw [i3A_swp2 d i hi] at this; exact this
/-- Four rows of three. -/
abbrev c12A (e : Nat → Nat → Nat) : Array Value :=
  #[.float .f32 (e 0 0), .float .f32 (e 0 1), .float .f32 (e 0 2), .float .f32 (e 1 0), .float .f32 (e 1 1), .float .f32 (e 1 2), .float .f32 (e 2 0), .float .f32 (e 2 1), .float .f32 (e 2 2), .float .f32 (e 3 0), .float .f32 (e 3 1), .float .f32 (e 3 2)]
/-- The corners that have come. -/
def crk (E : Nat → Nat → Nat) (k m i : Nat) : Nat := if m ≤ k then E m i else 0
theorem c12_cell {w : World} {b : Nat} {t : TypeId} {e : Nat → Nat → Nat} (h : Blk w b t (c12A e)) (i : Nat) (hi : i < 3) :
    w.cell? ⟨b, i, none⟩ = some (.float .f32 (e 0 i)) ∧ w.cell? ⟨b, 3 + i, none⟩ = some (.float .f32 (e 1 i)) ∧ w.cell? ⟨b, 6 + i, none⟩ = some (.float .f32 (e 2 i)) ∧ w.cell? ⟨b, 9 + i, none⟩ = some (.float .f32 (e 3 i)) := by
  have h0 := Blk.cell h i
  have h1 := Blk.cell h (3 + i)
  have h2 := Blk.cell h (6 + i)
  have h4 := Blk.cell h (9 + i)
  have h3 : i = 0 ∨ i = 1 ∨ i = 2 := by omega
  rcases h3 with rfl | rfl | rfl <;> exact ⟨by simpa using h0, by simpa using h1, by simpa using h2, by simpa using h4⟩
theorem c12_set {w : World} {b : Nat} {t : TypeId} {E : Nat → Nat → Nat} {k : Nat} (h : Blk w b t (c12A (crk E k))) (hk : k < 3) :
    Blk (((w.setCell ⟨b, (k + 1) * 3, none⟩ (.float .f32 (E (k + 1) 0))).setCell ⟨b, (k + 1) * 3 + 1, none⟩ (.float .f32 (E (k + 1) 1))).setCell ⟨b, (k + 1) * 3 + 2, none⟩ (.float .f32 (E (k + 1) 2))) b t (c12A (crk E (k + 1))) := by
  have := ((Blk.set_ h ((k + 1) * 3) (.float .f32 (E (k + 1) 0))).set_ ((k + 1) * 3 + 1) (.float .f32 (E (k + 1) 1))).set_ ((k + 1) * 3 + 2) (.float .f32 (E (k + 1) 2))
  have h3 : k = 0 ∨ k = 1 ∨ k = 2 := by omega
  rcases h3 with rfl | rfl | rfl <;> simpa [c12A, crk] using this
/-- One cell on, along an axis. -/
theorem TB.walk {s L H n c : Nat} {A : Option Addr} {p : Nat → Nat} {w wr : World} {Ba Bx Bo : Nat} {a x d o : Nat → Nat} {m : Nat} (h : TB s L H n c A p w Ba Bx Bo (stp a o m) x d wr) (hm : o m < 3) (hlo : w.heap.size + 1 + 1 < Ba) (h1 : Ba < Bx) (h2 : Bx < Bo) :
    TB s L H n c A p w Ba Bx Bo (stp a o (m + 1)) x d (wr.setCell ⟨Ba, o m, none⟩ (.int .i64 (stp a o m (o m) + 1 : Nat))) := by
  refine ⟨⟨h.lo.b0.far (by simp; omega) _, h.lo.b1.far (by simp; omega) _, h.lo.b2.far (by simp; omega) _, h.lo.be.setCell (by simp; omega) _⟩, ?_, h.bx.far (by simp; omega) _, h.bo.far (by simp; omega) _⟩
  have := i3_set h.ba (o m) (stp a o m (o m) + 1) hm
  have e : (fun j => if j = o m then stp a o m (o m) + 1 else stp a o m j) = stp a o (m + 1) := by
    funext j
    show _ = if j = o m then stp a o m j + 1 else stp a o m j
    by_cases hj : j = o m
    · rw [if_pos hj, if_pos hj, hj]
    · rw [if_neg hj, if_neg hj]
  rw [e] at this
  exact this
theorem TB.far {s L H n c : Nat} {A : Option Addr} {p : Nat → Nat} {w wr : World} {Ba Bx Bo Bc : Nat} {a x d : Nat → Nat} (h : TB s L H n c A p w Ba Bx Bo a x d wr) (hlo : w.heap.size + 1 + 1 < Ba) (h1 : Ba < Bx) (h2 : Bx < Bo) (h3 : Bo < Bc) (o : Nat) (v : Value) : TB s L H n c A p w Ba Bx Bo a x d (wr.setCell ⟨Bc, o, none⟩ v) :=
  ⟨⟨h.lo.b0.far (by simp; omega) _, h.lo.b1.far (by simp; omega) _, h.lo.b2.far (by simp; omega) _, h.lo.be.setCell (by simp; omega) _⟩, h.ba.far (by simp; omega) _, h.bx.far (by simp; omega) _, h.bo.far (by simp; omega) _⟩
end Go.Proofs.Ythnbfllhmjpbjaa
