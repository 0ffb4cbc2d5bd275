/-
  Cubes in the reference: LinearOf at a colour of numbers.
-/
import Derived.Test.YthnbfllhmjpbjaaKLinR
import Derived.Deep.RegionHeld3
namespace Go.Proofs.Ythnbfllhmjpbjaa
open Go.RowKit Go.Shelf
attribute [local go_sem] run_store_float

/-- What a cell holds. -/
def at1 (w : World) (a : Addr) : Value := (w.cell? a).getD undef
theorem at1_of {w : World} {a : Addr} {v : Value} (h : w.cell? a = some v) : w.cell? a = some (at1 w a) := by unfold at1; rw [h]; rfl

theorem set_same {w : World} {b i : Nat} {v u : Value} (h : (w.setCell ⟨b, i, none⟩ v).cell? ⟨b, i, none⟩ = some u) : u = v := by
  simp only [World.setCell, World.cell?, Array.getElem?_modify, ↓reduceIte] at h
  cases hb : w.heap[b]? with
  | none => rw [hb] at h; simp at h
  | some o =>
    rw [hb] at h
    cases o <;> simp at h
    rename_i c e f
    by_cases hi : i < c.size
    · simp [hi] at h; exact h.symm
    · simp [hi] at h
theorem pA_set (d : Nat → Nat) (k v : Nat) (hk : k < 3) : (pA d).setIfInBounds k (.float .f32 v) = pA (fun j => if j = k then v else d j) := by
  have : k = 0 ∨ k = 1 ∨ k = 2 := by omega
  rcases this with h | h | h <;> subst h <;> simp [pA]
theorem below_dd (w : World) (a b : Nat) : Below (w.drewN a).heap.size (w.drewN a) (w.drewN (a + b)) := by rw [← World.drewN_drewN]; exact below_drewN (Below.refl _ _) _

/-- What is made of the first k colours. -/
def linQ (T p : Nat → Nat) (k j : Nat) : Nat := if j < 3 then (if j < k then T j else 0) else cl (p 3)

/-- What lies there in the loop. -/
structure LQ (s : Int) (L H n c : Nat) (A : Option Addr) (p : Nat → Nat) (w : World) (Bi Bj Bk : Nat) (i j k x : Nat) (wr : World) : Prop where
  lo : LO s L H n c A p w wr
  bi : Blk wr Bi 3 #[.int .i64 i]
  bx : Blk wr (Bi + 1) 22 #[.float .f32 x]
  bj : Blk wr Bj 3 #[.int .i64 j]
  bk : Blk wr Bk 3 #[.int .i64 k]
theorem LQ.below {s : Int} {L H n c : Nat} {A : Option Addr} {p : Nat → Nat} {w wr w1 : World} {Bi Bj Bk i j k x : Nat} (h : LQ s L H n c A p w Bi Bj Bk i j k x wr) (hb : Below wr.heap.size wr w1) : LQ s L H n c A p w Bi Bj Bk i j k x w1 :=
  ⟨h.lo.below hb, h.bi.below hb h.bi.lt, h.bx.below hb h.bx.lt, h.bj.below hb h.bj.lt, h.bk.below hb h.bk.lt⟩

theorem LQ.far {s : Int} {L H n c : Nat} {A : Option Addr} {p : Nat → Nat} {w wr : World} {Bi Bj Bk Bq i j k x : Nat} (h : LQ s L H n c A p w Bi Bj Bk i j k x wr) (h1 : w.heap.size + 1 + 1 < Bi) (h2 : Bi + 1 < Bj) (h3 : Bj < Bk) (h4 : Bk < Bq) (r : Nat) (v : Value) : LQ s L H n c A p w Bi Bj Bk i j k x (wr.setCell ⟨Bq, r, none⟩ v) :=
  ⟨⟨h.lo.b0.far (by simp; omega) v, h.lo.b1.far (by simp; omega) v, h.lo.b2.far (by simp; omega) v, h.lo.be.setCell (by simp; omega) v⟩, h.bi.far (by simp; omega) v, h.bx.far (by simp; omega) v, h.bj.far (by simp; omega) v, h.bk.far (by simp; omega) v⟩

set_option maxRecDepth 100000 in
set_option maxHeartbeats 2000000 in
theorem linOf_ok (s L H n c : Nat) (A : Option Addr) (F p : Nat → Nat) (w : World) (hC : CubOk s L H n) (hF : Src w A n F) (hb : nan3 p = false) :
    Calls Try.prog 24 #[cub s L H A n c, pix p] w fun e w' => e = .returned (pix (linP s L H F p)) ∧ Below w.heap.size w w' := by
  have HC := hid hC
  have HF := hid hF
  clear hC hF
  rw [pix_cells p]
  go_enter Try.func24, Try.ntmps24
  obtain ⟨W0, hW0⟩ : ∃ W0, ((w.alloc (.cells #[.int .i64 s, .float .f32 L, .float .f32 H, .slice A n c] 25)).alloc (.cells (pA p) 27)).alloc (.cells zpix 27) = W0 := ⟨_, rfl⟩
  have q := lo_new s L H n c A p w
  rw [hW0] at q
  have HW := hid hW0
  have Q := hid q
  have d0 := q.b1.cell 0
  have d1 := q.b1.cell 1
  have d2 := q.b1.cell 2
  have d3 := q.b1.cell 3
  simp at d0 d1 d2 d3
  clear hW0 q
  go_wp2_with (go_at_call 75; refine (theNaN_any _).mono ?_; rintro e w' ⟨rfl, rfl⟩)
  rw [HW.out]
  rw [← pix_cells p]
  refine (broken_any p _).mono ?_
  rintro e w1 ⟨rfl, hb1⟩
  rw [hb]
  have Q1 := hid (Q.out.below hb1)
  clear hb1 Q HW d0 d1 d2 d3
  have c0 := Q1.out.b0.cell 0
  have c1 := Q1.out.b0.cell 1
  have c2 := Q1.out.b0.cell 2
  have c3 := Q1.out.b0.cell 3
  have d0 := Q1.out.b1.cell 0
  simp at c0 c1 c2 c3 d0
  rw [pix_cells p]
  go_wp2_with fail
  refine (onAxis_k s L H n c 0 A p _ HC.out).mono ?_
  rintro e w2 ⟨rfl, hb2⟩
  have Q2 := hid (Q1.out.below hb2)
  clear hb2 Q1 c0 c1 c2 c3 d0
  go_upto_region 5 with fail
  have q3 := (Q2.out.below ((Below.refl _ _).alloc (Nat.le_refl _) (.cells #[.int .i64 (spN s L H p 0 : Nat)] 3))).below ((Below.refl _ _).alloc (Nat.le_refl _) (.cells #[.float .f32 (spX s L H p 0)] 22))
  have bi : Blk ((w2.alloc (.cells #[.int .i64 (spN s L H p 0 : Nat)] 3)).alloc (.cells #[.float .f32 (spX s L H p 0)] 22)) w2.heap.size 3 #[.int .i64 (spN s L H p 0 : Nat)] := (Blk.new_at _ _ _ rfl).alloc _
  have bx : Blk ((w2.alloc (.cells #[.int .i64 (spN s L H p 0 : Nat)] 3)).alloc (.cells #[.float .f32 (spX s L H p 0)] 22)) (w2.heap.size + 1) 22 #[.float .f32 (spX s L H p 0)] := Blk.new_at _ _ _ (by simp)
  obtain ⟨W3, hW3⟩ : ∃ W3, (w2.alloc (.cells #[.int .i64 (spN s L H p 0 : Nat)] 3)).alloc (.cells #[.float .f32 (spX s L H p 0)] 22) = W3 := ⟨_, rfl⟩
  rw [hW3] at q3 bi bx ⊢
  have hlo3 : w.heap.size + 1 + 1 < w2.heap.size := Q2.out.b2.lt
  clear hW3 Q2
  obtain ⟨Bi, hBi⟩ : ∃ Bi, Bi = w2.heap.size := ⟨_, rfl⟩
  rw [← hBi] at bi bx hlo3 ⊢
  clear hBi
  have c0 := q3.b0.cell 0
  have c1 := q3.b0.cell 1
  have c2 := q3.b0.cell 2
  have c3 := q3.b0.cell 3
  have d1 := q3.b1.cell 1
  simp at c0 c1 c2 c3 d1
  have Q3 := hid (⟨q3, bi, bx⟩ : _ ∧ _ ∧ _)
  clear q3 bi bx
  go_wp2_with fail
  refine (onAxis_k s L H n c 1 A p _ HC.out).mono ?_
  rintro e w4 ⟨rfl, hb4⟩
  have Q4 : RowKit.Hid (LO s L H n c A p w w4 ∧ Blk w4 Bi 3 #[.int .i64 (spN s L H p 0 : Nat)] ∧ Blk w4 (Bi + 1) 22 #[.float .f32 (spX s L H p 0)]) := hid ⟨Q3.out.1.below hb4, Q3.out.2.1.below hb4 Q3.out.2.1.lt, Q3.out.2.2.below hb4 Q3.out.2.2.lt⟩
  clear hb4 Q3 c0 c1 c2 c3 d1
  go_upto_region 6 with fail
  have hb5 : Below w4.heap.size w4 (w4.alloc (.cells #[.int .i64 (spN s L H p 1 : Nat)] 3)) := (Below.refl _ _).alloc (Nat.le_refl _) _
  have bj : Blk (w4.alloc (.cells #[.int .i64 (spN s L H p 1 : Nat)] 3)) w4.heap.size 3 #[.int .i64 (spN s L H p 1 : Nat)] := Blk.new_at _ _ _ rfl
  have hlo5 : Bi + 1 < w4.heap.size := Q4.out.2.2.lt
  obtain ⟨W5, hW5⟩ : ∃ W5, w4.alloc (.cells #[.int .i64 (spN s L H p 1 : Nat)] 3) = W5 := ⟨_, rfl⟩
  rw [hW5] at hb5 bj ⊢
  have Q5 : RowKit.Hid (LO s L H n c A p w W5 ∧ Blk W5 Bi 3 #[.int .i64 (spN s L H p 0 : Nat)] ∧ Blk W5 (Bi + 1) 22 #[.float .f32 (spX s L H p 0)]) := hid ⟨Q4.out.1.below hb5, Q4.out.2.1.below hb5 Q4.out.2.1.lt, Q4.out.2.2.below hb5 Q4.out.2.2.lt⟩
  clear hW5 Q4 hb5
  obtain ⟨Bj, hBj⟩ : ∃ Bj, Bj = w4.heap.size := ⟨_, rfl⟩
  rw [← hBj] at bj hlo5 ⊢
  clear hBj
  have c0 := Q5.out.1.b0.cell 0
  have c1 := Q5.out.1.b0.cell 1
  have c2 := Q5.out.1.b0.cell 2
  have c3 := Q5.out.1.b0.cell 3
  have d2 := Q5.out.1.b1.cell 2
  simp at c0 c1 c2 c3 d2
  have HJ := hid bj
  clear bj
  go_wp2_with fail
  refine (onAxis_k s L H n c 2 A p _ HC.out).mono ?_
  rintro e w6 ⟨rfl, hb6⟩
  have Q6 : RowKit.Hid (LO s L H n c A p w w6 ∧ Blk w6 Bi 3 #[.int .i64 (spN s L H p 0 : Nat)] ∧ Blk w6 (Bi + 1) 22 #[.float .f32 (spX s L H p 0)] ∧ Blk w6 Bj 3 #[.int .i64 (spN s L H p 1 : Nat)]) := hid ⟨Q5.out.1.below hb6, Q5.out.2.1.below hb6 Q5.out.2.1.lt, Q5.out.2.2.below hb6 Q5.out.2.2.lt, HJ.out.below hb6 HJ.out.lt⟩
  clear hb6 Q5 HJ c0 c1 c2 c3 d2
  go_upto_region 7 with fail
  have hb7 : Below w6.heap.size w6 (w6.alloc (.cells #[.int .i64 (spN s L H p 2 : Nat)] 3)) := (Below.refl _ _).alloc (Nat.le_refl _) _
  have bk : Blk (w6.alloc (.cells #[.int .i64 (spN s L H p 2 : Nat)] 3)) w6.heap.size 3 #[.int .i64 (spN s L H p 2 : Nat)] := Blk.new_at _ _ _ rfl
  have hlo7 : Bj < w6.heap.size := Q6.out.2.2.2.lt
  obtain ⟨W7, hW7⟩ : ∃ W7, w6.alloc (.cells #[.int .i64 (spN s L H p 2 : Nat)] 3) = W7 := ⟨_, rfl⟩
  rw [hW7] at hb7 bk ⊢
  have Q7 : RowKit.Hid (LO s L H n c A p w W7 ∧ Blk W7 Bi 3 #[.int .i64 (spN s L H p 0 : Nat)] ∧ Blk W7 (Bi + 1) 22 #[.float .f32 (spX s L H p 0)] ∧ Blk W7 Bj 3 #[.int .i64 (spN s L H p 1 : Nat)]) := hid ⟨Q6.out.1.below hb7, Q6.out.2.1.below hb7 Q6.out.2.1.lt, Q6.out.2.2.1.below hb7 Q6.out.2.2.1.lt, Q6.out.2.2.2.below hb7 Q6.out.2.2.2.lt⟩
  clear hW7 Q6 hb7
  obtain ⟨Bk, hBk⟩ : ∃ Bk, Bk = w6.heap.size := ⟨_, rfl⟩
  rw [← hBk] at bk hlo7 ⊢
  clear hBk
  have d3 := Q7.out.1.b1.cell 3
  simp at d3
  have HK7 := hid bk
  clear bk
  go_wp2_with (go_at_call 57; refine (fix_any _ _).mono ?_; rintro e w' ⟨rfl, rfl⟩)
  have hs1 := sp_cell (L := L) (H := H) p HC.out.s1 HC.out.s2
  have hb8 : Below W7.heap.size W7 (W7.alloc (.cells #[.float .f32 0, .float .f32 0, .float .f32 0, .float .f32 (cl (p 3))] 27)) := (Below.refl _ _).alloc (Nat.le_refl _) _
  have bq : Blk (W7.alloc (.cells #[.float .f32 0, .float .f32 0, .float .f32 0, .float .f32 (cl (p 3))] 27)) W7.heap.size 27 (pA (linQ (linC s F (spN s L H p) (spX s L H p)) p 0)) := Blk.new_at _ _ _ rfl
  have hlo8 : Bk < W7.heap.size := HK7.out.lt
  obtain ⟨W8, hW8⟩ : ∃ W8, W7.alloc (.cells #[.float .f32 0, .float .f32 0, .float .f32 0, .float .f32 (cl (p 3))] 27) = W8 := ⟨_, rfl⟩
  rw [hW8] at hb8 bq ⊢
  have Q8 : RowKit.Hid (LQ s L H n c A p w Bi Bj Bk (spN s L H p 0) (spN s L H p 1) (spN s L H p 2) (spX s L H p 0) W8) := hid (LQ.below (wr := W7) ⟨Q7.out.1, Q7.out.2.1, Q7.out.2.2.1, Q7.out.2.2.2, HK7.out⟩ hb8)
  clear hW8 Q7 HK7 hb8 d3
  obtain ⟨Bq, hBq⟩ : ∃ Bq, Bq = W7.heap.size := ⟨_, rfl⟩
  rw [← hBq] at bq hlo8 ⊢
  clear hBq
  have HB8 := hid bq
  clear bq
  go_loopw [50] (fun v wr => ∃ k : Nat, k ≤ 3 ∧ v = .int .i64 k ∧ LQ s L H n c A p w Bi Bj Bk (spN s L H p 0) (spN s L H p 1) (spN s L H p 2) (spX s L H p 0) wr ∧ Blk wr Bq 27 (pA (linQ (linC s F (spN s L H p) (spX s L H p)) p k))) (fun v _ => 3 - (intOf v).toNat)
  case atStart => exact ⟨0, by omega, rfl, Q8.out, HB8.out⟩
  case round =>
    clear Q8 HB8
    obtain ⟨k, hk, rfl, hq, hbq⟩ := hrel
    have HQ := hid hq
    have HBQ := hid hbq
    clear hq hbq
    by_cases hlk : k < 3
    · have k1 : (0 : Int) ≤ (k : Int) := by omega
      have k2 : (k : Int) < 3 := by omega
      go_upto_region 12 with fail
      have hbv : Below wr.heap.size wr (wr.alloc (.cells #[.int .i64 k] 3)) := (Below.refl _ _).alloc (Nat.le_refl _) _
      have bm : Blk (wr.alloc (.cells #[.int .i64 k] 3)) wr.heap.size 3 #[.int .i64 k] := Blk.new_at _ _ _ rfl
      have hlm : Bq < wr.heap.size := HBQ.out.lt
      obtain ⟨V, hV⟩ : ∃ V, wr.alloc (.cells #[.int .i64 k] 3) = V := ⟨_, rfl⟩
      rw [hV] at hbv bm ⊢
      have HQV := hid (HQ.out.below hbv)
      have HBV := hid (HBQ.out.below hbv HBQ.out.lt)
      clear hV hbv HQ HBQ
      obtain ⟨Bm, hBm⟩ : ∃ Bm, Bm = wr.heap.size := ⟨_, rfl⟩
      rw [← hBm] at bm hlm ⊢
      clear hBm
      obtain ⟨O, HO⟩ : ∃ O : World → Prop, RowKit.Hid (∀ W, O W ↔ (LQ s L H n c A p w Bi Bj Bk (spN s L H p 0) (spN s L H p 1) (spN s L H p 2) (spX s L H p 0) W ∧ Blk W Bm 3 #[.int .i64 k] ∧ ∃ d : Nat → Nat, Blk W Bq 27 (pA d) ∧ ∀ j, j ≠ k → d j = linQ (linC s F (spN s L H p) (spX s L H p)) p k j)) := ⟨_, hid fun _ => Iff.rfl⟩
      have hk4 : k = 0 ∨ k = 1 ∨ k = 2 := by omega
      have HS0 : RowKit.Hid (V.drew.cell? ⟨Bm, 0, none⟩ = some (.int .i64 k) ∧ V.drew.cell? ⟨Bq, k, none⟩ = some (at1 V.drew ⟨Bq, k, none⟩) ∧ V.drew.frozen? ⟨Bq, k, none⟩ = false ∧ O V.drew) := hid ⟨by have := bm.cell 0; simpa using this, at1_of (v := .float .f32 (linQ (linC s F (spN s L H p) (spX s L H p)) p k k)) (by have h := HBV.out.cell k; rcases hk4 with h1 | h1 | h1 <;> subst h1 <;> simpa using h), HBV.out.frozen k, (HO.out _).2 ⟨HQV.out.below (Below.refl _ _).drew, bm, _, HBV.out, fun _ _ => rfl⟩⟩
      have HKP : RowKit.Hid (∀ W W', (W.cell? ⟨Bm, 0, none⟩ = some (.int .i64 k) ∧ W.cell? ⟨Bq, k, none⟩ = some (at1 W ⟨Bq, k, none⟩) ∧ W.frozen? ⟨Bq, k, none⟩ = false ∧ O W) → Below W.heap.size W W' → (W'.cell? ⟨Bm, 0, none⟩ = some (.int .i64 k) ∧ W'.cell? ⟨Bq, k, none⟩ = some (at1 W' ⟨Bq, k, none⟩) ∧ W'.frozen? ⟨Bq, k, none⟩ = false ∧ O W')) := hid (by
        rintro W W' ⟨a0, a1, a2, a3⟩ hbw
        obtain ⟨o1, o2, d, o3, o4⟩ := (HO.out _).1 a3
        exact ⟨cell_to hbw a0, at1_of (cell_to hbw a1), (o3.below hbw o3.lt).frozen k, (HO.out _).2 ⟨o1.below hbw, o2.below hbw o2.lt, d, o3.below hbw o3.lt, o4⟩⟩)
      have HTP : RowKit.Hid (∀ W v, (W.cell? ⟨Bm, 0, none⟩ = some (.int .i64 k) ∧ W.cell? ⟨Bq, k, none⟩ = some (at1 W ⟨Bq, k, none⟩) ∧ W.frozen? ⟨Bq, k, none⟩ = false ∧ O W) → ((W.setCell ⟨Bq, k, none⟩ (.float .f32 v)).cell? ⟨Bm, 0, none⟩ = some (.int .i64 k) ∧ (W.setCell ⟨Bq, k, none⟩ (.float .f32 v)).cell? ⟨Bq, k, none⟩ = some (at1 (W.setCell ⟨Bq, k, none⟩ (.float .f32 v)) ⟨Bq, k, none⟩) ∧ (W.setCell ⟨Bq, k, none⟩ (.float .f32 v)).frozen? ⟨Bq, k, none⟩ = false ∧ O (W.setCell ⟨Bq, k, none⟩ (.float .f32 v)))) := hid (by
        rintro W v ⟨a0, a1, a2, a3⟩
        obtain ⟨o1, o2, d, o3, o4⟩ := (HO.out _).1 a3
        have hd := o3.set_ k (.float .f32 v)
        rw [pA_set d k v hlk] at hd
        exact ⟨by rw [World.cell?_setCell_far _ _ _ _ (by simp; omega)]; exact a0, at1_of (World.cell?_setCell_same' _ _ (.float .f32 v) (by rw [a1]; rfl)), hd.frozen k, (HO.out _).2 ⟨o1.far hlo3 hlo5 hlo7 hlo8 k _, o2.far (by simp; omega) _, _, hd, fun j hj => by rw [if_neg hj]; exact o4 j hj⟩⟩)
      have h00 : ∀ W, (W.cell? ⟨Bm, 0, none⟩ = some (.int .i64 k) ∧ W.cell? ⟨Bq, k, none⟩ = some (at1 W ⟨Bq, k, none⟩) ∧ W.frozen? ⟨Bq, k, none⟩ = false ∧ O W) → Calls Try.prog 77 #[.int .i64 0, .int .i64 0, .pointer (some ⟨w.heap.size, 0, none⟩), .pointer (some ⟨Bi, 0, none⟩), .pointer (some ⟨Bj, 0, none⟩), .pointer (some ⟨Bk, 0, none⟩), .pointer (some ⟨Bm, 0, none⟩), .pointer (some ⟨Bi + 1, 0, none⟩)] W fun e w' => e = .returned (.float .f32 (lerpC (cl (F (eIx s (spN s L H p 0) (spN s L H p 1 + 0) (spN s L H p 2 + 0) + k))) (cl (F (eIx s (spN s L H p 0 + 1) (spN s L H p 1 + 0) (spN s L H p 2 + 0) + k))) (spX s L H p 0))) ∧ Below W.heap.size W w' := fun W hS => by
        have h := (HO.out W).1 hS.2.2.2
        have hs0 := hs1 0 (by omega)
        have hs2 := hs1 1 (by omega)
        have hs3 := hs1 2 (by omega)
        exact red_any s L H n c (spN s L H p 0) (spN s L H p 1) (spN s L H p 2) 0 0 k (spX s L H p 0) w.heap.size Bi Bj Bk Bm (Bi + 1) A F W HC.out (by omega) (by omega) (by omega) hlk (HF.out.below h.1.lo.be)
          (by rw [h.1.lo.b0.cell 0]; rfl) (by rw [h.1.lo.b0.cell 1]; rfl) (by rw [h.1.lo.b0.cell 2]; rfl) (by rw [h.1.lo.b0.cell 3]; rfl) (by rw [h.1.bi.cell 0]; rfl) (by rw [h.1.bj.cell 0]; rfl) (by rw [h.1.bk.cell 0]; rfl) hS.1 (by rw [h.1.bx.cell 0]; rfl)
      have h10 : ∀ W, (W.cell? ⟨Bm, 0, none⟩ = some (.int .i64 k) ∧ W.cell? ⟨Bq, k, none⟩ = some (at1 W ⟨Bq, k, none⟩) ∧ W.frozen? ⟨Bq, k, none⟩ = false ∧ O W) → Calls Try.prog 77 #[.int .i64 1, .int .i64 0, .pointer (some ⟨w.heap.size, 0, none⟩), .pointer (some ⟨Bi, 0, none⟩), .pointer (some ⟨Bj, 0, none⟩), .pointer (some ⟨Bk, 0, none⟩), .pointer (some ⟨Bm, 0, none⟩), .pointer (some ⟨Bi + 1, 0, none⟩)] W fun e w' => e = .returned (.float .f32 (lerpC (cl (F (eIx s (spN s L H p 0) (spN s L H p 1 + 1) (spN s L H p 2 + 0) + k))) (cl (F (eIx s (spN s L H p 0 + 1) (spN s L H p 1 + 1) (spN s L H p 2 + 0) + k))) (spX s L H p 0))) ∧ Below W.heap.size W w' := fun W hS => by
        have h := (HO.out W).1 hS.2.2.2
        have hs0 := hs1 0 (by omega)
        have hs2 := hs1 1 (by omega)
        have hs3 := hs1 2 (by omega)
        exact red_any s L H n c (spN s L H p 0) (spN s L H p 1) (spN s L H p 2) 1 0 k (spX s L H p 0) w.heap.size Bi Bj Bk Bm (Bi + 1) A F W HC.out (by omega) (by omega) (by omega) hlk (HF.out.below h.1.lo.be)
          (by rw [h.1.lo.b0.cell 0]; rfl) (by rw [h.1.lo.b0.cell 1]; rfl) (by rw [h.1.lo.b0.cell 2]; rfl) (by rw [h.1.lo.b0.cell 3]; rfl) (by rw [h.1.bi.cell 0]; rfl) (by rw [h.1.bj.cell 0]; rfl) (by rw [h.1.bk.cell 0]; rfl) hS.1 (by rw [h.1.bx.cell 0]; rfl)
      have h01 : ∀ W, (W.cell? ⟨Bm, 0, none⟩ = some (.int .i64 k) ∧ W.cell? ⟨Bq, k, none⟩ = some (at1 W ⟨Bq, k, none⟩) ∧ W.frozen? ⟨Bq, k, none⟩ = false ∧ O W) → Calls Try.prog 77 #[.int .i64 0, .int .i64 1, .pointer (some ⟨w.heap.size, 0, none⟩), .pointer (some ⟨Bi, 0, none⟩), .pointer (some ⟨Bj, 0, none⟩), .pointer (some ⟨Bk, 0, none⟩), .pointer (some ⟨Bm, 0, none⟩), .pointer (some ⟨Bi + 1, 0, none⟩)] W fun e w' => e = .returned (.float .f32 (lerpC (cl (F (eIx s (spN s L H p 0) (spN s L H p 1 + 0) (spN s L H p 2 + 1) + k))) (cl (F (eIx s (spN s L H p 0 + 1) (spN s L H p 1 + 0) (spN s L H p 2 + 1) + k))) (spX s L H p 0))) ∧ Below W.heap.size W w' := fun W hS => by
        have h := (HO.out W).1 hS.2.2.2
        have hs0 := hs1 0 (by omega)
        have hs2 := hs1 1 (by omega)
        have hs3 := hs1 2 (by omega)
        exact red_any s L H n c (spN s L H p 0) (spN s L H p 1) (spN s L H p 2) 0 1 k (spX s L H p 0) w.heap.size Bi Bj Bk Bm (Bi + 1) A F W HC.out (by omega) (by omega) (by omega) hlk (HF.out.below h.1.lo.be)
          (by rw [h.1.lo.b0.cell 0]; rfl) (by rw [h.1.lo.b0.cell 1]; rfl) (by rw [h.1.lo.b0.cell 2]; rfl) (by rw [h.1.lo.b0.cell 3]; rfl) (by rw [h.1.bi.cell 0]; rfl) (by rw [h.1.bj.cell 0]; rfl) (by rw [h.1.bk.cell 0]; rfl) hS.1 (by rw [h.1.bx.cell 0]; rfl)
      have h11 : ∀ W, (W.cell? ⟨Bm, 0, none⟩ = some (.int .i64 k) ∧ W.cell? ⟨Bq, k, none⟩ = some (at1 W ⟨Bq, k, none⟩) ∧ W.frozen? ⟨Bq, k, none⟩ = false ∧ O W) → Calls Try.prog 77 #[.int .i64 1, .int .i64 1, .pointer (some ⟨w.heap.size, 0, none⟩), .pointer (some ⟨Bi, 0, none⟩), .pointer (some ⟨Bj, 0, none⟩), .pointer (some ⟨Bk, 0, none⟩), .pointer (some ⟨Bm, 0, none⟩), .pointer (some ⟨Bi + 1, 0, none⟩)] W fun e w' => e = .returned (.float .f32 (lerpC (cl (F (eIx s (spN s L H p 0) (spN s L H p 1 + 1) (spN s L H p 2 + 1) + k))) (cl (F (eIx s (spN s L H p 0 + 1) (spN s L H p 1 + 1) (spN s L H p 2 + 1) + k))) (spX s L H p 0))) ∧ Below W.heap.size W w' := fun W hS => by
        have h := (HO.out W).1 hS.2.2.2
        have hs0 := hs1 0 (by omega)
        have hs2 := hs1 1 (by omega)
        have hs3 := hs1 2 (by omega)
        exact red_any s L H n c (spN s L H p 0) (spN s L H p 1) (spN s L H p 2) 1 1 k (spX s L H p 0) w.heap.size Bi Bj Bk Bm (Bi + 1) A F W HC.out (by omega) (by omega) (by omega) hlk (HF.out.below h.1.lo.be)
          (by rw [h.1.lo.b0.cell 0]; rfl) (by rw [h.1.lo.b0.cell 1]; rfl) (by rw [h.1.lo.b0.cell 2]; rfl) (by rw [h.1.lo.b0.cell 3]; rfl) (by rw [h.1.bi.cell 0]; rfl) (by rw [h.1.bj.cell 0]; rfl) (by rw [h.1.bk.cell 0]; rfl) hS.1 (by rw [h.1.bx.cell 0]; rfl)
      have HFN : RowKit.Hid (∀ X v, ((World.setCell X ⟨Bq, k, none⟩ (.float .f32 v)).cell? ⟨Bm, 0, none⟩ = some (.int .i64 k) ∧ (World.setCell X ⟨Bq, k, none⟩ (.float .f32 v)).cell? ⟨Bq, k, none⟩ = some (at1 (World.setCell X ⟨Bq, k, none⟩ (.float .f32 v)) ⟨Bq, k, none⟩) ∧ (World.setCell X ⟨Bq, k, none⟩ (.float .f32 v)).frozen? ⟨Bq, k, none⟩ = false ∧ O (World.setCell X ⟨Bq, k, none⟩ (.float .f32 v))) → v = (linC s F (spN s L H p) (spX s L H p)) k → Blk (World.setCell X ⟨Bq, k, none⟩ (.float .f32 v)) Bq 27 (pA (linQ (linC s F (spN s L H p) (spX s L H p)) p (k + 1)))) := hid (by
        rintro X v ⟨a0, a1, a2, a3⟩ hv
        obtain ⟨_, _, d, o3, o4⟩ := (HO.out _).1 a3
        have hd : Value.float .f32 (d k) = .float .f32 v := set_same (by
          rw [o3.cell k]
          rcases hk4 with h1 | h1 | h1 <;> subst h1 <;> rfl)
        have hd2 : d k = v := by cases hd; rfl
        have he : ∀ j, d j = linQ (linC s F (spN s L H p) (spX s L H p)) p (k + 1) j := fun j => by
          by_cases hj : j = k
          · subst hj; rw [hd2, hv]; unfold linQ; rw [if_pos hlk, if_pos (by omega)]
          · rw [o4 j hj]; unfold linQ
            by_cases h3 : j < 3
            · rw [if_pos h3, if_pos h3]
              by_cases h4 : j < k
              · rw [if_pos h4, if_pos (by omega)]
              · rw [if_neg h4, if_neg (by omega)]
            · rw [if_neg h3, if_neg h3]
        have hp : pA d = pA (linQ (linC s F (spN s L H p) (spX s L H p)) p (k + 1)) := by simp only [pA]; rw [he 0, he 1, he 2, he 3]
        rw [hp] at o3
        exact o3)
      have k3 : (k : Int) < 4 := by omega
      clear HQV HBV bm hs1
      go_region_held3 (fun W => W.cell? ⟨Bm, 0, none⟩ = some (.int .i64 k) ∧ W.cell? ⟨Bq, k, none⟩ = some (at1 W ⟨Bq, k, none⟩) ∧ W.frozen? ⟨Bq, k, none⟩ = false ∧ O W)
        (first | exact HS0.out | assumption | exact HKP.out _ _ (by assumption) (by assumption) | exact HKP.out _ _ (by assumption) (below_drewN (Below.refl _ _) _) | exact HKP.out _ _ (by assumption) (below_dd _ _ _) | exact HTP.out _ _ (by assumption))
        (first | (go_at_call 77; refine (h00 _ (by assumption)).mono ?_; clear h00; rintro e w' ⟨rfl, hb⟩) | (go_at_call 77; refine (h10 _ (by assumption)).mono ?_; clear h10; rintro e w' ⟨rfl, hb⟩) | (go_at_call 77; refine (h01 _ (by assumption)).mono ?_; clear h01; rintro e w' ⟨rfl, hb⟩) | (go_at_call 77; refine (h11 _ (by assumption)).mono ?_; clear h11; rintro e w' ⟨rfl, hb⟩) | (go_at_call 48; refine (lerpr_any _ _ _ _).mono ?_; rintro e w' ⟨rfl, nn, rfl⟩))
      all_goals
        go_wp2_with fail
        go_roundw
        case rel => exact ⟨k + 1, by omega, by go_num, ((HO.out _).1 (by go_split_ands; assumption)).1, HFN.out _ _ (by assumption) (by simp only [lerpC_cl]; rfl)⟩
        case measure => simp [intOf]; omega
    · obtain rfl : k = 3 := by omega
      have q0 := HBQ.out.cell 0
      have q1 := HBQ.out.cell 1
      have q2 := HBQ.out.cell 2
      have q3 := HBQ.out.cell 3
      have z0 := HQ.out.lo.b2.cell 0
      have z1 := HQ.out.lo.b2.cell 1
      have z2 := HQ.out.lo.b2.cell 2
      have z3 := HQ.out.lo.b2.cell 3
      have f0 := HQ.out.lo.b2.frozen 0
      have f1 := HQ.out.lo.b2.frozen 1
      have f2 := HQ.out.lo.b2.frozen 2
      have f3 := HQ.out.lo.b2.frozen 3
      simp at q0 q1 q2 q3 z0 z1 z2 z3
      go_wp2_with fail
      have e : pix (linP s L H F p) = pix (linQ (linC s F (spN s L H p) (spX s L H p)) p 3) := by rw [pix_cells, pix_cells]; simp [linP, lookC, linQ, hb]
      have hblk := HQ.out.lo.b2.set4 (.float .f32 (linQ (linC s F (spN s L H p) (spX s L H p)) p 3 0)) (.float .f32 (linQ (linC s F (spN s L H p) (spX s L H p)) p 3 1)) (.float .f32 (linQ (linC s F (spN s L H p) (spX s L H p)) p 3 2)) (.float .f32 (linQ (linC s F (spN s L H p) (spX s L H p)) p 3 3))
      have be := below_set4 HQ.out.lo.be (g := w.heap.size + 1 + 1) (by omega) (.float .f32 (linQ (linC s F (spN s L H p) (spX s L H p)) p 3 0)) (.float .f32 (linQ (linC s F (spN s L H p) (spX s L H p)) p 3 1)) (.float .f32 (linQ (linC s F (spN s L H p) (spX s L H p)) p 3 2)) (.float .f32 (linQ (linC s F (spN s L H p) (spX s L H p)) p 3 3))
      rw [e]
      exact bodyPost_ret (v := pix (linQ (linC s F (spN s L H p) (spX s L H p)) p 3)) (results_cell_row rfl _ _ _ _ _ _ _ rfl hblk Try.underlying27 rfl (by kernel_rfl)) rfl ⟨rfl, be⟩

end Go.Proofs.Ythnbfllhmjpbjaa
