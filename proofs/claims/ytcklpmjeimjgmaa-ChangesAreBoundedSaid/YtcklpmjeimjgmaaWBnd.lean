/-
  The law ChangesAreBounded.
-/
import Derived.Test.YtcklpmjeimjgmaaWChg
import Derived.Test.YtcklpmjeimjgmaaFLike
import Derived.Test.YtcklpmjeimjgmaaFCom
import Derived.Test.YtcklpmjeimjgmaaFPix
import Derived.Deep.DeepCutAuto
import Derived.Deep.RegionWith
namespace Go.Proofs.Ytcklpmjeimjgmaa
open Go.RowKit Go.Shelf
attribute [local go_sem] run_store_float

/-- Two right frames of one region in the first boxes. -/
structure BS (X Y : Int) (p q n ga gb d : Nat) (F G : Nat → Nat) (w wr : World) : Prop where
  a : Blk wr w.heap.size 26 #[.int .i64 X, .int .i64 Y, .int .i64 p, .int .i64 q, .slice (some ⟨ga, 0, none⟩) n n]
  b : Blk wr (w.heap.size + 1) 26 #[.int .i64 X, .int .i64 Y, .int .i64 p, .int .i64 q, .slice (some ⟨gb, 0, none⟩) n d]
  fa : Src wr (some ⟨ga, 0, none⟩) n F
  fb : Src wr (some ⟨gb, 0, none⟩) n G
  la : w.heap.size + 1 < ga
  lb : w.heap.size + 1 < gb
  be : Below w.heap.size w wr
theorem BS.below {X Y : Int} {p q n ga gb d : Nat} {F G : Nat → Nat} {w wr w1 : World} (h : BS X Y p q n ga gb d F G w wr) (hb : Below wr.heap.size wr w1) : BS X Y p q n ga gb d F G w w1 :=
  ⟨h.a.below hb h.a.lt, h.b.below hb h.b.lt, h.fa.below hb, h.fb.below hb, h.la, h.lb, below_to h.be hb⟩
/-- The numbers of such frames. -/
structure BN (X Y : Int) (p q n d : Nat) : Prop where
  ok : frmE X Y p q n = 0
  n4 : n = 4 * (p * q)
  nl : n ≤ 256
  n0 : 0 < n
  nd : n ≤ d
  dl : d ≤ maxLen
  p1 : 0 < p
  p2 : p ≤ 8
  q1 : 0 < q
  q2 : q ≤ 8
  x1 : -1000 ≤ X
  x2 : X ≤ 1000
  y1 : -1000 ≤ Y
  y2 : Y ≤ 1000
/-- The first frame is right, the second one as it was given. -/
structure QS (X Y : Int) (p q n ga : Nat) (F : Nat → Nat) (xb yb pb qb : Int) (B0 : Option Addr) (nb cb : Nat) (w wr : World) : Prop where
  a : Blk wr w.heap.size 26 #[.int .i64 X, .int .i64 Y, .int .i64 p, .int .i64 q, .slice (some ⟨ga, 0, none⟩) n n]
  b : Blk wr (w.heap.size + 1) 26 #[.int .i64 xb, .int .i64 yb, .int .i64 pb, .int .i64 qb, .slice B0 nb cb]
  fa : Src wr (some ⟨ga, 0, none⟩) n F
  be : Below w.heap.size w wr
theorem QS.below {X Y : Int} {p q n ga : Nat} {F : Nat → Nat} {xb yb pb qb : Int} {B0 : Option Addr} {nb cb : Nat} {w wr w1 : World} (h : QS X Y p q n ga F xb yb pb qb B0 nb cb w wr) (hb : Below wr.heap.size wr w1) : QS X Y p q n ga F xb yb pb qb B0 nb cb w w1 :=
  ⟨h.a.below hb h.a.lt, h.b.below hb h.b.lt, h.fa.below hb, below_to h.be hb⟩
theorem QS.drew {X Y : Int} {p q n ga : Nat} {F : Nat → Nat} {xb yb pb qb : Int} {B0 : Option Addr} {nb cb : Nat} {w wr : World} (h : QS X Y p q n ga F xb yb pb qb B0 nb cb w wr) : QS X Y p q n ga F xb yb pb qb B0 nb cb w wr.drew :=
  ⟨h.a, h.b, h.fa, h.be.drew⟩
theorem below_cells {B : Nat} {a w : World} (h : Below B a w) : ∀ (b o : Nat), b < B → w.cell? ⟨b, o, none⟩ = a.cell? ⟨b, o, none⟩ := fun b o hb => h.cell (p := ⟨b, o, none⟩) hb
theorem below_frozens {B : Nat} {a w : World} (h : Below B a w) : ∀ (b o : Nat), b < B → w.frozen? ⟨b, o, none⟩ = a.frozen? ⟨b, o, none⟩ := fun b o hb => by
  unfold World.frozen?
  rw [h.block b hb]
theorem blkFar4 {w : World} {g g' : Nat} {t : TypeId} {cs : Array Value} (h : Blk w g t cs) (hg : g ≠ g') (u0 u1 u2 u3 : Value) : Blk ((((w.setCell ⟨g', 0, none⟩ u0).setCell ⟨g', 1, none⟩ u1).setCell ⟨g', 2, none⟩ u2).setCell ⟨g', 3, none⟩ u3) g t cs :=
  (((h.far (p := ⟨g', 0, none⟩) hg _).far (p := ⟨g', 1, none⟩) hg _).far (p := ⟨g', 2, none⟩) hg _).far (p := ⟨g', 3, none⟩) hg _
theorem sizeA1 {X w w4 : World} {o : Obj} (hb : Below X.heap.size X w4) (hX : X.heap = (w.alloc o).heap) : w.heap.size < w4.heap.size := Nat.lt_of_lt_of_le (by rw [hX]; simp) hb.size
theorem sizeA2 {X w w4 : World} {o o2 : Obj} (hb : Below X.heap.size X w4) (hX : X.heap = ((w.alloc o).alloc o2).heap) : w.heap.size + 1 < w4.heap.size := Nat.lt_of_lt_of_le (by rw [hX]; simp) hb.size
theorem blkX {X w w4 : World} {g : Nat} {t : TypeId} {cs : Array Value} (h : Blk w g t cs) (hb : Below X.heap.size X w4) (hX : X.heap = w.heap) : Blk w4 g t cs := by
  have h2 : Blk X g t cs := by unfold Blk; rw [hX]; exact h
  exact h2.below hb h2.lt
theorem blkA1 {X w w4 : World} {t : TypeId} {cs : Array Value} (hb : Below X.heap.size X w4) (hX : X.heap = (w.alloc (.cells cs t)).heap) : Blk w4 w.heap.size t cs := blkX (Blk.new_at w t cs rfl) hb hX
theorem blkA2 {X w w4 : World} {t : TypeId} {cs : Array Value} {o2 : Obj} (hb : Below X.heap.size X w4) (hX : X.heap = ((w.alloc (.cells cs t)).alloc o2).heap) : Blk w4 w.heap.size t cs := blkX ((Blk.new_at w t cs rfl).alloc o2) hb hX
theorem blkA3 {X w w4 : World} {t : TypeId} {cs : Array Value} {o : Obj} (hb : Below X.heap.size X w4) (hX : X.heap = ((w.alloc o).alloc (.cells cs t)).heap) : Blk w4 (w.heap.size + 1) t cs := blkX (Blk.new_at (w.alloc o) t cs (by simp)) hb hX
theorem blkC1 {X w w4 : World} {g : Nat} {t : TypeId} {cs : Array Value} {o : Obj} (h : Blk w g t cs) (hb : Below X.heap.size X w4) (hX : X.heap = (w.alloc o).heap) : Blk w4 g t cs := blkX (h.alloc o) hb hX
/-- Beside them, the region that has changes. -/
structure LS (X Y : Int) (p q n ga gb d : Nat) (F G : Nat → Nat) (gr : Nat) (r : R4) (w wr : World) : Prop where
  s : BS X Y p q n ga gb d F G w wr
  r : Blk wr gr 23 #[.int .i64 r.1, .int .i64 r.2.1, .int .i64 r.2.2.1, .int .i64 r.2.2.2]
theorem LS.below {X Y : Int} {p q n ga gb d gr : Nat} {F G : Nat → Nat} {r : R4} {w wr w1 : World} (h : LS X Y p q n ga gb d F G gr r w wr) (hb : Below wr.heap.size wr w1) : LS X Y p q n ga gb d F G gr r w w1 :=
  ⟨h.s.below hb, h.r.below hb h.r.lt⟩
theorem LS.drewN {X Y : Int} {p q n ga gb d gr : Nat} {F G : Nat → Nat} {r : R4} {w wr : World} (h : LS X Y p q n ga gb d F G gr r w wr) (k : Nat) : LS X Y p q n ga gb d F G gr r w (wr.drewN k) :=
  h.below (below_drewN (Below.refl _ _) k)
theorem LS.drew {X Y : Int} {p q n ga gb d gr : Nat} {F G : Nat → Nat} {r : R4} {w wr : World} (h : LS X Y p q n ga gb d F G gr r w wr) : LS X Y p q n ga gb d F G gr r w wr.drew :=
  h.below (Below.refl _ _).drew
theorem LS.alloc {X Y : Int} {p q n ga gb d gr : Nat} {F G : Nat → Nat} {r : R4} {w wr : World} (h : LS X Y p q n ga gb d F G gr r w wr) (o : Obj) : LS X Y p q n ga gb d F G gr r w (wr.alloc o) :=
  h.below ((Below.refl _ _).alloc (Nat.le_refl _) _)
/-- What is held while the two pixels are made. -/
structure LO (X Y : Int) (p q n ga gb d : Nat) (F G : Nat → Nat) (gr : Nat) (r : R4) (w : World) (L : Nat) (wr : World) : Prop where
  s : LS X Y p q n ga gb d F G gr r w wr
  l : L ≤ wr.heap.size
  lw : w.heap.size + 1 < L
  la : ga < L
  lb : gb < L
  lr : gr < L
abbrev LSC (X Y : Int) (p q n ga gb d : Nat) (F G : Nat → Nat) (gr : Nat) (r : R4) (w : World) (L : Nat) (w' : World) : Prop :=
  w'.cell? ⟨w.heap.size, 0, none⟩ = some (.int .i64 X) ∧ w'.cell? ⟨w.heap.size, 1, none⟩ = some (.int .i64 Y) ∧ w'.cell? ⟨w.heap.size, 2, none⟩ = some (.int .i64 p) ∧ w'.cell? ⟨w.heap.size, 3, none⟩ = some (.int .i64 q) ∧ w'.cell? ⟨w.heap.size, 4, none⟩ = some (.slice (some ⟨ga, 0, none⟩) n n) ∧
  w'.cell? ⟨w.heap.size + 1, 0, none⟩ = some (.int .i64 X) ∧ w'.cell? ⟨w.heap.size + 1, 1, none⟩ = some (.int .i64 Y) ∧ w'.cell? ⟨w.heap.size + 1, 2, none⟩ = some (.int .i64 p) ∧ w'.cell? ⟨w.heap.size + 1, 3, none⟩ = some (.int .i64 q) ∧ w'.cell? ⟨w.heap.size + 1, 4, none⟩ = some (.slice (some ⟨gb, 0, none⟩) n d) ∧
  LO X Y p q n ga gb d F G gr r w L w'
section
variable {X Y : Int} {p q n ga gb d gr L : Nat} {F G : Nat → Nat} {r : R4} {w wr w1 : World}
theorem LO.held (h : LO X Y p q n ga gb d F G gr r w L wr) : LSC X Y p q n ga gb d F G gr r w L wr :=
  ⟨h.s.s.a.cell 0, h.s.s.a.cell 1, h.s.s.a.cell 2, h.s.s.a.cell 3, h.s.s.a.cell 4, h.s.s.b.cell 0, h.s.s.b.cell 1, h.s.s.b.cell 2, h.s.s.b.cell 3, h.s.s.b.cell 4, h⟩
theorem LSC.lo (h : LSC X Y p q n ga gb d F G gr r w L wr) : LO X Y p q n ga gb d F G gr r w L wr := h.2.2.2.2.2.2.2.2.2.2
theorem LSC.on (hb : Below wr.heap.size wr w1) (h : LSC X Y p q n ga gb d F G gr r w L wr) : LSC X Y p q n ga gb d F G gr r w L w1 :=
  have k := h.lo
  LO.held ⟨k.s.below hb, Nat.le_trans k.l hb.size, k.lw, k.la, k.lb, k.lr⟩
theorem LSC.alloc (h : LSC X Y p q n ga gb d F G gr r w L wr) (o : Obj) : LSC X Y p q n ga gb d F G gr r w L (wr.alloc o) := h.on ((Below.refl _ _).alloc (Nat.le_refl _) _)
theorem LSC.drew (h : LSC X Y p q n ga gb d F G gr r w L wr) : LSC X Y p q n ga gb d F G gr r w L wr.drew := h.on (Below.refl _ _).drew
theorem LSC.set4 {g : Nat} (h : LSC X Y p q n ga gb d F G gr r w L wr) (hg : L ≤ g) (u0 u1 u2 u3 : Value) : LSC X Y p q n ga gb d F G gr r w L ((((wr.setCell ⟨g, 0, none⟩ u0).setCell ⟨g, 1, none⟩ u1).setCell ⟨g, 2, none⟩ u2).setCell ⟨g, 3, none⟩ u3) := by
  have k := h.lo
  obtain ⟨hs, hl, h1, h2, h3, h4⟩ := k
  obtain ⟨⟨a, b, fa, fb, la, lb, be⟩, hr⟩ := hs
  refine LO.held ⟨⟨⟨?_, ?_, ?_, ?_, la, lb, ?_⟩, ?_⟩, by simpa [World.setCell] using hl, h1, h2, h3, h4⟩
  · exact (((a.far (p := ⟨g, 0, none⟩) (by show w.heap.size ≠ g; omega) _).far (p := ⟨g, 1, none⟩) (by show w.heap.size ≠ g; omega) _).far (p := ⟨g, 2, none⟩) (by show w.heap.size ≠ g; omega) _).far (p := ⟨g, 3, none⟩) (by show w.heap.size ≠ g; omega) _
  · exact (((b.far (p := ⟨g, 0, none⟩) (by show w.heap.size + 1 ≠ g; omega) _).far (p := ⟨g, 1, none⟩) (by show w.heap.size + 1 ≠ g; omega) _).far (p := ⟨g, 2, none⟩) (by show w.heap.size + 1 ≠ g; omega) _).far (p := ⟨g, 3, none⟩) (by show w.heap.size + 1 ≠ g; omega) _
  · exact (((fa.far (G := g) (by omega) _ _).far (G := g) (by omega) _ _).far (G := g) (by omega) _ _).far (G := g) (by omega) _ _
  · exact (((fb.far (G := g) (by omega) _ _).far (G := g) (by omega) _ _).far (G := g) (by omega) _ _).far (G := g) (by omega) _ _
  · exact (((be.setCell (p := ⟨g, 0, none⟩) (by show w.heap.size ≤ g; omega) _).setCell (p := ⟨g, 1, none⟩) (by show w.heap.size ≤ g; omega) _).setCell (p := ⟨g, 2, none⟩) (by show w.heap.size ≤ g; omega) _).setCell (p := ⟨g, 3, none⟩) (by show w.heap.size ≤ g; omega) _
  · exact (((hr.far (p := ⟨g, 0, none⟩) (by show gr ≠ g; omega) _).far (p := ⟨g, 1, none⟩) (by show gr ≠ g; omega) _).far (p := ⟨g, 2, none⟩) (by show gr ≠ g; omega) _).far (p := ⟨g, 3, none⟩) (by show gr ≠ g; omega) _
end
/-- And the two pixels. -/
structure PS (X Y : Int) (p q n ga gb d : Nat) (F G : Nat → Nat) (gr : Nat) (r : R4) (t bp bq : Nat) (w wr : World) : Prop where
  l : LS X Y p q n ga gb d F G gr r w wr
  p : Blk wr bp 104 #[.float .f32 (F (4 * t)), .float .f32 (F (4 * t + 1)), .float .f32 (F (4 * t + 2)), .float .f32 (F (4 * t + 3))]
  q : Blk wr bq 104 #[.float .f32 (G (4 * t)), .float .f32 (G (4 * t + 1)), .float .f32 (G (4 * t + 2)), .float .f32 (G (4 * t + 3))]
theorem PS.drewN {X Y : Int} {p q n ga gb d gr t bp bq : Nat} {F G : Nat → Nat} {r : R4} {w wr : World} (h : PS X Y p q n ga gb d F G gr r t bp bq w wr) (k : Nat) : PS X Y p q n ga gb d F G gr r t bp bq w (wr.drewN k) :=
  ⟨h.l.drewN k, h.p, h.q⟩
def BReady (w wr : World) : Prop := ∃ (X Y : Int) (p q n ga gb d : Nat) (F G : Nat → Nat), BN X Y p q n d ∧ BS X Y p q n ga gb d F G w wr

set_option maxRecDepth 100000 in
set_option maxHeartbeats 16000000 in
theorem changesAreBounded_any (xa ya pa qa : Int) (A0 : Option Addr) (na ca : Nat) (FA : Nat → Nat) (xb yb pb qb : Int) (B0 : Option Addr) (nb cb : Nat) (FB : Nat → Nat) (w : World) (hA : Src w A0 na FA) (hB : Src w B0 nb FB) :
    Calls Try.prog 10 #[frm xa ya pa qa A0 na ca, frm xb yb pb qb B0 nb cb] w fun e w' => e = .returned (.bool true) ∧ Below w.heap.size w w' := by
  obtain ⟨wb, hwb⟩ : ∃ wb, wb = (w.alloc (.cells #[.int .i64 xa, .int .i64 ya, .int .i64 pa, .int .i64 qa, .slice A0 na ca] 26)).alloc (.cells #[.int .i64 xb, .int .i64 yb, .int .i64 pb, .int .i64 qb, .slice B0 nb cb] 26) := ⟨_, rfl⟩
  have hbe : Below w.heap.size w wb := by rw [hwb]; exact ((Below.refl _ _).alloc (Nat.le_refl _) _).alloc (by simp) _
  have HB0 : RowKit.Hid (Blk wb w.heap.size 26 #[.int .i64 xa, .int .i64 ya, .int .i64 pa, .int .i64 qa, .slice A0 na ca] ∧ Blk wb (w.heap.size + 1) 26 #[.int .i64 xb, .int .i64 yb, .int .i64 pb, .int .i64 qb, .slice B0 nb cb] ∧ Src wb A0 na FA ∧ Src wb B0 nb FB ∧ Below w.heap.size w wb) := by
    refine hid ⟨?_, ?_, hA.below hbe, hB.below hbe, hbe⟩
    · rw [hwb]; exact (Blk.new_at _ _ _ rfl).alloc _
    · rw [hwb]; exact Blk.new_at _ _ _ (by simp)
  have HWB := hid hwb
  have hsz : wb.heap.size = w.heap.size + 2 := by rw [hwb]; simp
  have HSZ := hid hsz
  have HB00 := hid hB
  clear hwb hbe hA hB hsz
  go_enter Try.func10, Try.ntmps10
  go_wp2_with fail
  rw [← HWB.out]
  refine (landed_any _).mono ?_
  rintro e w' ⟨rfl, rfl⟩
  clear HWB
  obtain ⟨ba, bb, hA, hB, hbe⟩ := HB0.out
  have a0 := ba.cell 0
  have a1 := ba.cell 1
  have a2 := ba.cell 2
  have a3 := ba.cell 3
  have a4 := ba.cell 4
  simp at a0 a1 a2 a3 a4
  have la := ba.lt
  have lb := bb.lt
  have fz0 := fun i => ba.frozen i
  clear ba bb hA hB hbe
  go_wp2_with fail
  refine (fit_any xa ya pa qa A0 na ca FA _ HB0.out.2.2.1).mono ?_
  rintro e w1 hfit
  obtain ⟨X, Y, p, q, N, ga, F, rfl, hok, hreg, hpq, hm0, hm2, p1, p2, q1, q2, x1, x2, y1, y2, hga, hgl, hrd, hb⟩ := fit_nat hfit
  have HF := hid (Src.of_rd hrd hgl)
  have HN : RowKit.Hid (BN X Y p q (4 * N) (4 * N)) := hid ⟨hok, by rw [hpq], by omega, by omega, Nat.le_refl _, by unfold maxLen; omega, p1, p2, q1, q2, x1, x2, y1, y2⟩
  have HBA := hid (HB0.out.1.below hb HB0.out.1.lt)
  have HBB := hid (HB0.out.2.1.below hb HB0.out.2.1.lt)
  have HSB := hid (HB0.out.2.2.2.1.below hb)
  have HBE := hid (below_to HB0.out.2.2.2.2 hb)
  have HGA : RowKit.Hid (w.heap.size + 1 < ga) := hid (by have := HSZ.out; omega)
  have s1 := HBA.out.lt
  have s2 := HBB.out.lt
  have fz1 := fun i => HBA.out.frozen i
  have c0 := HBA.out.cell 0
  have c1 := HBA.out.cell 1
  have c2 := HBA.out.cell 2
  have c3 := HBA.out.cell 3
  have c4 := HBA.out.cell 4
  simp at c0 c1 c2 c3 c4
  clear hfit hok hreg hpq hm0 hm2 p1 p2 q1 q2 x1 x2 y1 y2 hga hgl hrd hb HB0 a0 a1 a2 a3 a4 fz0
  go_wp2_with fail
  go_name_world wq hwq
  have HQ : RowKit.Hid (QS X Y p q (4 * N) ga F xb yb pb qb B0 nb cb w wq.drew) := by
    refine hid (QS.drew ?_)
    rw [← hwq]
    exact ⟨HBA.out.set5 _ _ _ _ _, HBB.out.far5 (by omega) _ _ _ _ _, HF.out.far5 (by have := HGA.out; omega) _ _ _ _ _, below_set5 HBE.out (Nat.le_refl _) _ _ _ _ _⟩
  have HFT : RowKit.Hid (∀ wz, QS X Y p q (4 * N) ga F xb yb pb qb B0 nb cb w wz → Calls Try.prog 21 #[frm xb yb pb qb B0 nb cb] wz fun e w2 => ∃ (X' Y' p' q' : Int) (n' gb : Nat) (G : Nat → Nat), e = .returned (frm X' Y' p' q' (some ⟨gb, 0, none⟩) n' n') ∧ 0 < n' ∧ Src w2 (some ⟨gb, 0, none⟩) n' G ∧ QS X Y p q (4 * N) ga F xb yb pb qb B0 nb cb w w2) :=
    hid fun wz hz => (fit_any xb yb pb qb B0 nb cb FB wz (HB00.out.below hz.be)).mono fun e w2 hfit => by
      obtain ⟨X', Y', p', q', N', gb, G, he, hok', hreg', hpq', hm0', hm2', p1', p2', q1', q2', x1', x2', y1', y2', hgb, hgl', hrd', hb⟩ := fit_nat hfit
      exact ⟨X', Y', p', q', 4 * N', gb, G, he, by omega, Src.of_rd hrd' hgl', hz.below hb⟩
  have HL : RowKit.Hid (∀ (x y a b : Int) (ga2 n2 c2 : Nat) (G2 : Nat → Nat) (wz : World), 0 < n2 → Src wz (some ⟨ga2, 0, none⟩) n2 G2 → QS X Y p q (4 * N) ga F xb yb pb qb B0 nb cb w wz →
      Calls Try.prog 44 #[frm x y a b (some ⟨ga2, 0, none⟩) n2 c2, reg X Y p q] wz fun e w3 => ∃ (gb d : Nat) (G : Nat → Nat), e = .returned (frm X Y p q (some ⟨gb, 0, none⟩) (4 * N : Nat) d) ∧ (4 * N ≤ d ∧ d ≤ maxLen ∧ w.heap.size + 1 < gb ∧ Src w3 (some ⟨gb, 0, none⟩) (4 * N) G) ∧ QS X Y p q (4 * N) ga F xb yb pb qb B0 nb cb w w3) :=
    hid fun x y a b ga2 n2 c2 G2 wz h0 h1 hz => (like_any X Y x y a b p q (4 * N) n2 c2 (some ⟨ga2, 0, none⟩) G2 wz h0 (by have := HN.out.n4; omega) HN.out.p2 HN.out.q2 h1).mono fun e w3 ⟨G, gb, d, he, r1, r2, r3, r4, r5, hb⟩ =>
      ⟨gb, d, G, he, ⟨r1, r2, by have := hz.b.lt; omega, Src.of_rd r5 r4⟩, hz.below hb⟩
  clear s1 s2 fz1 c0 c1 c2 c3 c4
  have s1 := HQ.out.a.lt
  have s2 := HQ.out.b.lt
  have fz1 := fun i => HQ.out.a.frozen i
  have fz2 := fun i => HQ.out.b.frozen i
  have c0 := HQ.out.a.cell 0
  have c1 := HQ.out.a.cell 1
  have c2 := HQ.out.a.cell 2
  have c3 := HQ.out.a.cell 3
  have d0 := HQ.out.b.cell 0
  have d1 := HQ.out.b.cell 1
  have d2 := HQ.out.b.cell 2
  have d3 := HQ.out.b.cell 3
  have d4 := HQ.out.b.cell 4
  simp at c0 c1 c2 c3 d0 d1 d2 d3 d4
  clear hwq HBA HBB HSB HBE HF HB00
  go_cut [] (fun wx => BReady w wx)
  case first =>
    go_region_with (first
      | (go_at_call 21; refine (HFT.out _ HQ.out).mono ?_; rintro e w2 ⟨X', Y', p', q', n', gb, G, rfl, hn0, hF2, hQ2⟩; have HQ2 := hid hQ2; have HF2 := hid hF2; have y0 := hQ2.a.cell 0; have y1 := hQ2.a.cell 1; have y2 := hQ2.a.cell 2; have y3 := hQ2.a.cell 3; simp at y0 y1 y2 y3; clear hF2 hQ2)
      | (go_at_call 44; refine (HL.out _ _ _ _ _ _ _ _ _ hn0 HF2.out HQ2.out).mono ?_; rintro e w3 ⟨gb3, d, G3, rfl, hR3, hQ3⟩; have HQ3 := hid hQ3; have HR3 := hid hR3; have s3 := hQ3.b.lt; have e0 := hQ3.b.cell 0; have e1 := hQ3.b.cell 1; have e2 := hQ3.b.cell 2; have e3 := hQ3.b.cell 3; have e4 := hQ3.b.cell 4; have fz3 := fun i => hQ3.b.frozen i; simp at e0 e1 e2 e3 e4; clear hR3 hQ3))
    all_goals
      go_wp2_with fail
      go_meet
      case rel =>
        obtain ⟨r1, r2, r3, r4⟩ := HR3.out
        have hN := HN.out
        have hga := HGA.out
        exact ⟨X, Y, p, q, 4 * N, ga, gb3, d, F, G3, ⟨hN.ok, hN.n4, hN.nl, hN.n0, r1, r2, hN.p1, hN.p2, hN.q1, hN.q2, hN.x1, hN.x2, hN.y1, hN.y2⟩,
          ⟨HQ3.out.a.far5 (by omega) _ _ _ _ _, HQ3.out.b.set5 _ _ _ _ _, HQ3.out.fa.far5 (by omega) _ _ _ _ _, r4.far5 (by omega) _ _ _ _ _, hga, r3, below_set5 HQ3.out.be (by omega) _ _ _ _ _⟩⟩
  case rest =>
    clear HQ HFT HL HN HGA
    clear la lb s1 s2 fz1 fz2 c0 c1 c2 c3 d0 d1 d2 d3 d4 HSZ
    obtain ⟨X, Y, p, q, n, ga, gb, d, F, G, hN, hS⟩ := hcut
    have HN := hid hN
    have HS := hid hS
    have c0 := hS.a.cell 0
    have c1 := hS.a.cell 1
    have c2 := hS.a.cell 2
    have c3 := hS.a.cell 3
    have c4 := hS.a.cell 4
    have d0 := hS.b.cell 0
    have d1 := hS.b.cell 1
    have d2 := hS.b.cell 2
    have d3 := hS.b.cell 3
    have d4 := hS.b.cell 4
    simp at c0 c1 c2 c3 c4 d0 d1 d2 d3 d4
    obtain ⟨ok, n4, nl, n0, nd, dl, p1, p2, q1, q2, x1, x2, y1, y2⟩ := hN
    obtain ⟨rr, hrr⟩ : ∃ rr, rr = chgR (difB F G) X Y p (p * q) := ⟨_, rfl⟩
    obtain ⟨mm, hmm⟩ : ∃ mm, mm = chgN (difB F G) (p * q) := ⟨_, rfl⟩
    have HCH : RowKit.Hid (∀ wz, BS X Y p q n ga gb d F G w wz → Calls Try.prog 49 #[frm X Y p q (some ⟨ga, 0, none⟩) n n, frm X Y p q (some ⟨gb, 0, none⟩) n d] wz fun e w' =>
        e = .returned (.tuple #[reg rr.1 rr.2.1 rr.2.2.1 rr.2.2.2, .int .i64 mm, .int .i64 0]) ∧ Below wz.heap.size wz w') :=
      hid fun wz hz => by
        rw [hrr, hmm]
        exact changed_any X Y p q n n d _ _ F G wz ok n4 (Nat.le_refl _) (by unfold maxLen; omega) nd dl (by omega) p1 (by omega) (by omega) (by omega) (by omega) (by omega) (by omega) hz.fa hz.fb
    have hmt := chgN_le (difB F G) (p * q)
    have hmm2 : mm ≤ 64 := by omega
    have HR : RowKit.Hid (rr = chgR (difB F G) X Y p (p * q) ∧ mm = chgN (difB F G) (p * q)) := hid ⟨hrr, hmm⟩
    clear hrr hmm hmt
    clear hS ok n4 dl
    go_wp2_with fail
    refine (HCH.out _ HS.out).mono ?_
    rintro e w2 ⟨rfl, hb⟩
    have hL : LS X Y p q n ga gb d F G w2.heap.size rr w (w2.alloc (.cells #[.int .i64 rr.1, .int .i64 rr.2.1, .int .i64 rr.2.2.1, .int .i64 rr.2.2.2] 23)) :=
      ⟨(HS.out.below hb).below ((Below.refl _ _).alloc (Nat.le_refl _) _), Blk.new_at _ _ _ rfl⟩
    have HL := hid hL
    have e0 := hL.s.a.cell 0
    have e1 := hL.s.a.cell 1
    have e2 := hL.s.a.cell 2
    have e3 := hL.s.a.cell 3
    simp at e0 e1 e2 e3
    clear hL hb c0 c1 c2 c3 c4 d0 d1 d2 d3 d4 HCH
    go_wp2_with fail
    go_loopw [8, 9] (fun v i wr => ∃ j : Nat, j ≤ q ∧ v = .int .i64 (chgN (difB F G) (p * j)) ∧ i = .int .i64 (Y + j) ∧ LS X Y p q n ga gb d F G w2.heap.size rr w wr) (fun _ i _ => (Y + q - intOf i).toNat)
    case atStart => exact ⟨0, Nat.zero_le _, rfl, by simp, HL.out⟩
    case round =>
      clear HL e0 e1 e2 e3
      obtain ⟨j, hj, rfl, rfl, hrel⟩ := hrel
      have HL := hid hrel
      have e0 := hrel.s.a.cell 0
      have e1 := hrel.s.a.cell 1
      have e2 := hrel.s.a.cell 2
      have e3 := hrel.s.a.cell 3
      simp at e0 e1 e2 e3
      clear hrel
      by_cases hjq : j < q
      · obtain ⟨wo, rfl⟩ : ∃ wo : World, wo = wr := ⟨_, rfl⟩
        go_wp2_with fail
        go_loopw [8, 10] (fun v i wr => ∃ i1 : Nat, i1 ≤ p ∧ v = .int .i64 (chgN (difB F G) (p * j + i1)) ∧ i = .int .i64 (X + i1) ∧ LS X Y p q n ga gb d F G w2.heap.size rr w wr) (fun _ i _ => (X + p - intOf i).toNat)
        case atStart => exact ⟨0, Nat.zero_le _, rfl, by simp, HL.out⟩
        case round =>
          clear HL e0 e1 e2 e3
          obtain ⟨i1, hi1, rfl, rfl, hrel⟩ := hrel
          have HL := hid hrel
          have ll := hrel.s.a.lt
          have lm := hrel.s.b.lt
          have e0 := hrel.s.a.cell 0
          have e1 := hrel.s.a.cell 1
          have e2 := hrel.s.a.cell 2
          have e3 := hrel.s.a.cell 3
          have e4 := hrel.s.a.cell 4
          have f0 := hrel.s.b.cell 0
          have f1 := hrel.s.b.cell 1
          have f2 := hrel.s.b.cell 2
          have f3 := hrel.s.b.cell 3
          have f4 := hrel.s.b.cell 4
          simp at e0 e1 e2 e3 e4 f0 f1 f2 f3 f4
          clear hrel
          by_cases hip : i1 < p
          · have hlt := idx_lt hip hjq
            obtain ⟨t, ht⟩ : ∃ t, t = p * j + i1 := ⟨_, rfl⟩
            have HP1 : RowKit.Hid (∀ wz, LS X Y p q n ga gb d F G w2.heap.size rr w wz → Calls Try.prog 58 #[frm X Y p q (some ⟨ga, 0, none⟩) n n, .int .i64 (X + i1), .int .i64 (Y + j)] wz fun e w' => e = .returned (.agg #[.float .f32 (F (4 * t)), .float .f32 (F (4 * t + 1)), .float .f32 (F (4 * t + 2)), .float .f32 (F (4 * t + 3))]) ∧ LS X Y p q n ga gb d F G w2.heap.size rr w w' ∧ Below wz.heap.size wz w') :=
              hid fun wz hz => by
                rw [ht]
                exact (pixelAt_any X Y p q n n i1 j _ F wz hip hjq HN.out.n4 (Nat.le_refl _) (by unfold maxLen; omega) (by omega) (by omega) (by omega) (by omega) (by omega) (by omega) (by omega) hz.s.fa).mono fun e w' h => ⟨h.1, hz.below h.2, h.2⟩
            have HP2 : RowKit.Hid (∀ wz, LS X Y p q n ga gb d F G w2.heap.size rr w wz → Calls Try.prog 58 #[frm X Y p q (some ⟨gb, 0, none⟩) n d, .int .i64 (X + i1), .int .i64 (Y + j)] wz fun e w' => e = .returned (.agg #[.float .f32 (G (4 * t)), .float .f32 (G (4 * t + 1)), .float .f32 (G (4 * t + 2)), .float .f32 (G (4 * t + 3))]) ∧ LS X Y p q n ga gb d F G w2.heap.size rr w w' ∧ Below wz.heap.size wz w') :=
              hid fun wz hz => by
                rw [ht]
                exact (pixelAt_any X Y p q n d i1 j _ G wz hip hjq HN.out.n4 nd HN.out.dl (by omega) (by omega) (by omega) (by omega) (by omega) (by omega) (by omega) hz.s.fb).mono fun e w' h => ⟨h.1, hz.below h.2, h.2⟩
            have HLW : RowKit.Hid (w.heap.size + 1 < wr.heap.size ∧ ga < wr.heap.size ∧ gb < wr.heap.size ∧ w2.heap.size < wr.heap.size) := by
              obtain ⟨b1, o1, k1, l1, _⟩ := HL.out.s.fa n0
              obtain ⟨b2, o2, k2, l2, _⟩ := HL.out.s.fb n0
              simp at k1 k2
              exact hid ⟨HL.out.s.b.lt, by omega, by omega, HL.out.r.lt⟩
            have HT : RowKit.Hid (t = p * j + i1) := hid ht
            have htl : t < 64 := by have := HN.out.n4; omega
            have hct := chgN_le (difB F G) t
            rw [← ht]
            have ht2 : t < p * q := by omega
            clear ht hlt
            go_wp2_with fail
            go_cut [11, 12] (fun v11 v12 wx => ∃ bp bq : Nat, v11 = .pointer (some ⟨bp, 0, none⟩) ∧ v12 = .pointer (some ⟨bq, 0, none⟩) ∧ PS X Y p q n ga gb d F G w2.heap.size rr t bp bq w wx)
            case first =>
              clear HN HS HR HT nl n0 nd p1 p2 q1 q2 hmm2 hj hjq hi1 hip htl hct ht2 x1 x2 y1 y2
              have HLO : RowKit.Hid (LSC X Y p q n ga gb d F G w2.heap.size rr w wr.heap.size wr.drew) := hid (LO.held ⟨HL.out.drew, Nat.le_refl _, HLW.out.1, HLW.out.2.1, HLW.out.2.2.1, HLW.out.2.2.2⟩)
              have HO0 : LO X Y p q n ga gb d F G w2.heap.size rr w wr.heap.size wr := ⟨HL.out, Nat.le_refl _, HLW.out.1, HLW.out.2.1, HLW.out.2.2.1, HLW.out.2.2.2⟩
              go_region_held3 (fun w' => w'.cell? ⟨w.heap.size, 0, none⟩ = some (.int .i64 X) ∧ w'.cell? ⟨w.heap.size, 1, none⟩ = some (.int .i64 Y) ∧ w'.cell? ⟨w.heap.size, 2, none⟩ = some (.int .i64 p) ∧ w'.cell? ⟨w.heap.size, 3, none⟩ = some (.int .i64 q) ∧ w'.cell? ⟨w.heap.size, 4, none⟩ = some (.slice (some ⟨ga, 0, none⟩) n n) ∧ w'.cell? ⟨w.heap.size + 1, 0, none⟩ = some (.int .i64 X) ∧ w'.cell? ⟨w.heap.size + 1, 1, none⟩ = some (.int .i64 Y) ∧ w'.cell? ⟨w.heap.size + 1, 2, none⟩ = some (.int .i64 p) ∧ w'.cell? ⟨w.heap.size + 1, 3, none⟩ = some (.int .i64 q) ∧ w'.cell? ⟨w.heap.size + 1, 4, none⟩ = some (.slice (some ⟨gb, 0, none⟩) n d) ∧ LO X Y p q n ga gb d F G w2.heap.size rr w wr.heap.size w')
                (with_reducible (repeat (first | assumption | exact HLO.out | exact LO.held (by assumption) | apply LSC.drew | refine LSC.alloc ?_ _ | refine LSC.set4 ?_ (by first | omega | (simp; omega)) _ _ _ _ | refine LSC.on (by assumption) ?_)))
                (first
                  | (go_at_call 58; with_reducible refine (HP1.out _ (LSC.lo (by first | assumption | (go_split_ands; assumption))).s).mono ?_; rintro e w3 ⟨rfl, hL3, hb⟩; clear hL3; have HO3 := (LSC.on hb (by first | assumption | (go_split_ands; assumption))).lo; have lz3 : wr.heap.size ≤ w3.heap.size := Nat.le_trans (LSC.lo (by first | assumption | (go_split_ands; assumption))).l hb.size; (try (have sz3 := sizeA1 hb rfl)); (try (have sy3 := sizeA2 hb rfl)); (try (have Hza3 := hid (blkA1 (t := 104) (cs := #[.float .f32 0, .float .f32 0, .float .f32 0, .float .f32 0]) hb rfl); have zax30 := Hza3.out.cell 0; have zax31 := Hza3.out.cell 1; have zax32 := Hza3.out.cell 2; have zax33 := Hza3.out.cell 3; simp at zax30 zax31 zax32 zax33; have zax3f := fun i => Hza3.out.frozen i; have zax3l := Hza3.out.lt)); (try (have Hzb3 := hid (blkA2 (t := 104) (cs := #[.float .f32 0, .float .f32 0, .float .f32 0, .float .f32 0]) hb rfl); have zbx30 := Hzb3.out.cell 0; have zbx31 := Hzb3.out.cell 1; have zbx32 := Hzb3.out.cell 2; have zbx33 := Hzb3.out.cell 3; simp at zbx30 zbx31 zbx32 zbx33; have zbx3f := fun i => Hzb3.out.frozen i; have zbx3l := Hzb3.out.lt)); (try (have Hzc3 := hid (blkA3 (t := 104) (cs := #[.float .f32 0, .float .f32 0, .float .f32 0, .float .f32 0]) hb rfl); have zcx30 := Hzc3.out.cell 0; have zcx31 := Hzc3.out.cell 1; have zcx32 := Hzc3.out.cell 2; have zcx33 := Hzc3.out.cell 3; simp at zcx30 zcx31 zcx32 zcx33; have zcx3f := fun i => Hzc3.out.frozen i; have zcx3l := Hzc3.out.lt)); skip)
                  | (go_at_call 58; with_reducible refine (HP2.out _ (LSC.lo (by first | assumption | (go_split_ands; assumption))).s).mono ?_; rintro e w4 ⟨rfl, hL4, hb⟩; clear hL4; have HO4 := (LSC.on hb (by first | assumption | (go_split_ands; assumption))).lo; have lz4 := HO4.l; (try (have sz4 := sizeA1 hb rfl)); (try (have sy4 := sizeA2 hb rfl)); (try (have Hza4 := hid (blkA1 (t := 104) (cs := #[.float .f32 0, .float .f32 0, .float .f32 0, .float .f32 0]) hb rfl); have zax40 := Hza4.out.cell 0; have zax41 := Hza4.out.cell 1; have zax42 := Hza4.out.cell 2; have zax43 := Hza4.out.cell 3; simp at zax40 zax41 zax42 zax43; have zax4f := fun i => Hza4.out.frozen i; have zax4l := Hza4.out.lt)); (try (have Hzb4 := hid (blkA2 (t := 104) (cs := #[.float .f32 0, .float .f32 0, .float .f32 0, .float .f32 0]) hb rfl); have zbx40 := Hzb4.out.cell 0; have zbx41 := Hzb4.out.cell 1; have zbx42 := Hzb4.out.cell 2; have zbx43 := Hzb4.out.cell 3; simp at zbx40 zbx41 zbx42 zbx43; have zbx4f := fun i => Hzb4.out.frozen i; have zbx4l := Hzb4.out.lt)); (try (have Hzc4 := hid (blkA3 (t := 104) (cs := #[.float .f32 0, .float .f32 0, .float .f32 0, .float .f32 0]) hb rfl); have zcx40 := Hzc4.out.cell 0; have zcx41 := Hzc4.out.cell 1; have zcx42 := Hzc4.out.cell 2; have zcx43 := Hzc4.out.cell 3; simp at zcx40 zcx41 zcx42 zcx43; have zcx4f := fun i => Hzc4.out.frozen i; have zcx4l := Hzc4.out.lt)); (try (have Hza5 := hid (blkX Hza3.out hb rfl); have zay0 := Hza5.out.cell 0; have zay1 := Hza5.out.cell 1; have zay2 := Hza5.out.cell 2; have zay3 := Hza5.out.cell 3; simp at zay0 zay1 zay2 zay3; have zayf := fun i => Hza5.out.frozen i; have zayl := Hza5.out.lt)); (try (have Hza5 := hid (blkC1 Hza3.out hb rfl); have zay0 := Hza5.out.cell 0; have zay1 := Hza5.out.cell 1; have zay2 := Hza5.out.cell 2; have zay3 := Hza5.out.cell 3; simp at zay0 zay1 zay2 zay3; have zayf := fun i => Hza5.out.frozen i; have zayl := Hza5.out.lt)); (try (have Hzb5 := hid (blkX Hzb3.out hb rfl); have zby0 := Hzb5.out.cell 0; have zby1 := Hzb5.out.cell 1; have zby2 := Hzb5.out.cell 2; have zby3 := Hzb5.out.cell 3; simp at zby0 zby1 zby2 zby3; have zbyf := fun i => Hzb5.out.frozen i; have zbyl := Hzb5.out.lt)); (try (have Hzb5 := hid (blkC1 Hzb3.out hb rfl); have zby0 := Hzb5.out.cell 0; have zby1 := Hzb5.out.cell 1; have zby2 := Hzb5.out.cell 2; have zby3 := Hzb5.out.cell 3; simp at zby0 zby1 zby2 zby3; have zbyf := fun i => Hzb5.out.frozen i; have zbyl := Hzb5.out.lt)); (try (have Hzc5 := hid (blkX Hzc3.out hb rfl); have zcy0 := Hzc5.out.cell 0; have zcy1 := Hzc5.out.cell 1; have zcy2 := Hzc5.out.cell 2; have zcy3 := Hzc5.out.cell 3; simp at zcy0 zcy1 zcy2 zcy3; have zcyf := fun i => Hzc5.out.frozen i; have zcyl := Hzc5.out.lt)); (try (have Hzc5 := hid (blkC1 Hzc3.out hb rfl); have zcy0 := Hzc5.out.cell 0; have zcy1 := Hzc5.out.cell 1; have zcy2 := Hzc5.out.cell 2; have zcy3 := Hzc5.out.cell 3; simp at zcy0 zcy1 zcy2 zcy3; have zcyf := fun i => Hzc5.out.frozen i; have zcyl := Hzc5.out.lt)); skip))
              all_goals
                rename_i hH
                have HH := hid (LSC.lo hH).s
                clear hH
                go_wp2_with fail
                go_meet
                case rel =>
                  refine ⟨_, _, rfl, rfl, HH.out, ?_, ?_⟩
                  all_goals
                    with_reducible
                      repeat
                        first
                          | exact Hza4.out | exact Hzb4.out | exact Hzc4.out | exact Hza5.out | exact Hzb5.out | exact Hzc5.out
                          | exact Blk.new_at _ _ _ (by simp; done)
                          | exact Blk.new_at _ _ _ rfl
                          | apply Blk.set4
                          | refine blkFar4 ?_ (by first | omega | (simp; omega)) _ _ _ _
                          | refine Blk.alloc ?_ _
            case rest =>
              obtain ⟨bp, bq, rfl, rfl, hP⟩ := hcut
              have HP := hid hP
              have HIN : RowKit.Hid (difB F G t = true → ∀ wz, Calls Try.prog 60 #[reg (X + i1) (Y + j) 1 1, reg rr.1 rr.2.1 rr.2.2.1 rr.2.2.2] wz fun e w' => e = .returned (.bool true) ∧ Below wz.heap.size wz w') := hid fun hd wz => by
                obtain ⟨k1, _⟩ := HR.out
                have g1 := chgR_fits (difB F G) X Y p q p1 (p * q) (Nat.le_refl _)
                have g2 := chgR_has (difB F G) X Y p q p1 (p * q) (Nat.le_refl _) t ht2 hd
                have em : t % p = i1 := by rw [HT.out, Nat.mul_add_mod, Nat.mod_eq_of_lt hip]
                have ed : t / p = j := by rw [HT.out, Nat.mul_add_div p1, Nat.div_eq_of_lt hip, Nat.add_zero]
                rw [em, ed] at g2
                rw [← k1] at g1 g2
                obtain ⟨a1, a2, a3, a4⟩ := g2
                rcases g1 with ⟨_, hn⟩ | ⟨f1, f2, f3, f4, f5, f6⟩
                · rw [hn t ht2] at hd; cases hd
                · refine (insider_any (X + i1) (Y + j) 1 1 rr.1 rr.2.1 rr.2.2.1 rr.2.2.2 ⟨by omega, by omega, by omega, by omega, by omega, by omega, by omega, by omega⟩ ⟨by omega, by omega, by omega, by omega, by omega, by omega, by omega, by omega⟩ wz).mono fun e w' h => ?_
                  rw [inB_true.2 ⟨a1, a2, a3, a4⟩] at h
                  exact h
              clear hP HP1 HP2 HL e0 e1 e2 e3 e4 f0 f1 f2 f3 f4
              go_wp2_with fail
              go_loopw [13, 69] (fun v i wr => ∃ k : Nat, k ≤ 4 ∧ v = .bool (difP F G t k) ∧ i = .int .i64 k ∧ PS X Y p q n ga gb d F G w2.heap.size rr t bp bq w wr) (fun _ i _ => 4 - (intOf i).toNat)
              case atStart => exact ⟨0, by omega, rfl, rfl, HP.out⟩
              case round =>
                obtain ⟨k, hk, rfl, rfl, hrel⟩ := hrel
                clear HP
                have HP := hid hrel
                have u0 := hrel.p.cell 0
                have u1 := hrel.p.cell 1
                have u2 := hrel.p.cell 2
                have u3 := hrel.p.cell 3
                have v0 := hrel.q.cell 0
                have v1 := hrel.q.cell 1
                have v2 := hrel.q.cell 2
                have v3 := hrel.q.cell 3
                simp at u0 u1 u2 u3 v0 v1 v2 v3
                clear hrel
                by_cases hk4 : k < 4
                · have hk5 : k = 0 ∨ k = 1 ∨ k = 2 ∨ k = 3 := by omega
                  have HD : RowKit.Hid (difP F G t (k + 1) = (difP F G t k || !(cl (F (4 * t + k)) == cl (G (4 * t + k))))) := hid rfl
                  generalize difP F G t k = dk at *
                  cases dk
                  · obtain rfl | rfl | rfl | rfl := hk5
                    all_goals
                      go_wp2_with fail
                      go_quiet ((go_at_call 59; exact Calls.quiet_of_same ((bit_any _ _ _).mono fun _ _ h => ⟨h.1, h.2.symm⟩)))
                      go_wp2_with fail
                      go_roundw
                      case rel =>
                        first
                          | exact ⟨0 + 1, by omega, by rw [HD.out]; rfl, rfl, HP.out.drewN _⟩
                          | exact ⟨1 + 1, by omega, by rw [HD.out]; rfl, rfl, HP.out.drewN _⟩
                          | exact ⟨2 + 1, by omega, by rw [HD.out]; rfl, rfl, HP.out.drewN _⟩
                          | exact ⟨3 + 1, by omega, by rw [HD.out]; rfl, rfl, HP.out.drewN _⟩
                      case measure => simp [intOf]
                  · clear hk5
                    go_wp2_with fail
                    go_quiet (fail)
                    go_wp2_with fail
                    go_roundw
                    case rel => exact ⟨k + 1, by omega, by rw [HD.out]; rfl, by go_num, HP.out.drewN _⟩
                    case measure => simp [intOf]; omega
                · obtain rfl : k = 4 := by omega
                  rw [difP_four]
                  cases hdb : difB F G t
                  · have HC : RowKit.Hid (chgN (difB F G) (t + 1) = chgN (difB F G) t) := hid (by show (if difB F G t = true then _ else _) = _; rw [hdb]; rfl)
                    clear hdb
                    go_wp2_with fail
                    go_roundw
                    case rel =>
                      refine ⟨i1 + 1, by omega, ?_, by congr 1; omega, HP.out.l⟩
                      rw [show p * j + (i1 + 1) = t + 1 by have := HT.out; omega, HC.out]
                    case measure => simp [intOf]; omega
                  · have HC : RowKit.Hid (chgN (difB F G) (t + 1) = chgN (difB F G) t + 1) := hid (by show (if difB F G t = true then _ else _) = _; rw [hdb]; rfl)
                    have HI2 := hid (HIN.out hdb)
                    have r0 := HP.out.l.r.cell 0
                    have r1 := HP.out.l.r.cell 1
                    have r2 := HP.out.l.r.cell 2
                    have r3 := HP.out.l.r.cell 3
                    simp at r0 r1 r2 r3
                    clear hdb HIN u0 u1 u2 u3 v0 v1 v2 v3
                    go_wp2_with fail
                    refine (HI2.out _).mono ?_
                    rintro e w5 ⟨rfl, hb5⟩
                    have HL5 := hid (HP.out.l.below hb5)
                    clear hb5
                    go_wp2_with fail
                    go_roundw
                    case rel =>
                      refine ⟨i1 + 1, by omega, ?_, by congr 1; omega, HL5.out⟩
                      rw [show p * j + (i1 + 1) = t + 1 by have := HT.out; omega, HC.out]
                      rfl
                    case measure => simp [intOf]; omega
          · obtain rfl : i1 = p := by omega
            go_wp2_with fail
            go_roundw
            case rel => exact ⟨j + 1, by omega, by rw [Nat.mul_succ], by congr 1; omega, HL.out⟩
            case measure => simp [intOf]; omega
      · obtain rfl : j = q := by omega
        have hmz : ((chgN (difB F G) (p * j) : Int) == (mm : Int)) = true := by rw [HR.out.2]; simp
        go_wp2_with fail
        go_ret
        exact ⟨rfl, HL.out.s.be⟩
end Go.Proofs.Ytcklpmjeimjgmaa
