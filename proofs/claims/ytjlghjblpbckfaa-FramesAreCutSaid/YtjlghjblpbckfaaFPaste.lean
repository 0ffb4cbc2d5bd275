/-
  Paste, in the program.
-/
import Derived.Test.YtjlghjblpbckfaaFCut
namespace Go.Proofs.Ytjlghjblpbckfaa
open Go.RowKit Go.Shelf

/-- The boxes of Paste. -/
structure PaSt (w : World) (X Y p q : Int) (n c : Nat) (A : Option Addr) (X' Y' p' q' : Int) (n' c' : Nat) (B : Option Addr) (wr : World) : Prop where
  f : Blk wr w.heap.size 39 #[.int .i64 X, .int .i64 Y, .int .i64 p, .int .i64 q, .slice A n c]
  g : Blk wr (w.heap.size + 1) 39 #[.int .i64 X', .int .i64 Y', .int .i64 p', .int .i64 q', .slice B n' c']
  z : Blk wr (w.heap.size + 2) 39 zfrm
  be : Below w.heap.size w wr
section
variable {w wr w1 : World} {X Y p q X' Y' p' q' : Int} {n c n' c' : Nat} {A B : Option Addr}
theorem PaSt.below (h : PaSt w X Y p q n c A X' Y' p' q' n' c' B wr) (hb : Below wr.heap.size wr w1) : PaSt w X Y p q n c A X' Y' p' q' n' c' B w1 := ⟨h.f.below hb h.f.lt, h.g.below hb h.g.lt, h.z.below hb h.z.lt, below_to h.be hb⟩
theorem PaSt.grown {S : Nat} (hS : w.heap.size + 2 < S) (h : PaSt w X Y p q n c A X' Y' p' q' n' c' B wr) (hg : wr.grownBy w1 (some S)) : PaSt w X Y p q n c A X' Y' p' q' n' c' B w1 :=
  ⟨h.f.grown hg (by simp; omega), h.g.grown hg (by simp; omega), h.z.grown hg (by simp; omega), h.be.grown hg (by have := h.be.size; omega) (by intro k hk; injection hk with hk; omega)⟩
theorem PaSt.start (w : World) (X Y p q : Int) (n c : Nat) (A : Option Addr) (X' Y' p' q' : Int) (n' c' : Nat) (B : Option Addr) : PaSt w X Y p q n c A X' Y' p' q' n' c' B (((w.alloc (.cells #[.int .i64 X, .int .i64 Y, .int .i64 p, .int .i64 q, .slice A n c] 39)).alloc (.cells #[.int .i64 X', .int .i64 Y', .int .i64 p', .int .i64 q', .slice B n' c'] 39)).alloc (.cells zfrm 39)) :=
  ⟨((Blk.new_at _ _ _ rfl).alloc _).alloc _, (Blk.new_at _ _ _ (by simp)).alloc _, Blk.new_at _ _ _ (by simp), (((Below.refl _ _).alloc (Nat.le_refl _) _).alloc (by simp) _).alloc (by simp; omega) _⟩
end

set_option maxRecDepth 100000 in
set_option maxHeartbeats 2000000 in
theorem paste_apart (X Y p q X' Y' p' q' : Int) (n c n' c' : Nat) (A B : Option Addr) (w : World) (h1 : frmE X Y p q n = 0) (h2 : frmE X' Y' p' q' n' = 0) (hno : ¬ (max X X' < min (X + p) (X' + p') ∧ max Y Y' < min (Y + q) (Y' + q'))) :
    Calls Try.prog 35 #[frm X Y p q A n c, frm X' Y' p' q' B n' c'] w (ErrOut w 5) := by
  have HC := hid (And.intro h1 h2)
  have HNO := hid (common_no X Y p q X' Y' p' q' (small_of (frmE_zero h1).1) (small_of (frmE_zero h2).1) hno)
  clear h1 h2 hno
  have HS0 := hid (PaSt.start w X Y p q n c A X' Y' p' q' n' c' B)
  go_enter Try.func35, Try.ntmps35
  go_wp2_with fail
  refine (checkBoth_ok X Y p q X' Y' p' q' n c n' c' A B _ HC.out.1 HC.out.2).mono ?_
  rintro e w1 ⟨rfl, hb⟩
  have HS1 := hid (HS0.out.below hb)
  have c0 := HS1.out.f.cell 0
  have c1 := HS1.out.f.cell 1
  have c2 := HS1.out.f.cell 2
  have c3 := HS1.out.f.cell 3
  have c4 := HS1.out.f.cell 4
  have d0 := HS1.out.g.cell 0
  have d1 := HS1.out.g.cell 1
  have d2 := HS1.out.g.cell 2
  have d3 := HS1.out.g.cell 3
  have d4 := HS1.out.g.cell 4
  simp at c0 c1 c2 c3 c4 d0 d1 d2 d3 d4
  clear hb HS0
  go_wp2_with fail
  refine (HNO.out _).mono ?_
  rintro e w2 ⟨rfl, hb⟩
  have HS2 := hid (HS1.out.below hb)
  clear c0 c1 c2 c3 c4 d0 d1 d2 d3 d4 hb HS1
  have hal : Below w2.heap.size w2 (w2.alloc (.cells #[.int .i64 0, .int .i64 0, .int .i64 0, .int .i64 0] 23)) := (Below.refl _ _).alloc (Nat.le_refl _) _
  have HS3 := hid (HS2.out.below hal)
  have z0 := HS2.out.z.cell 0
  have z1 := HS2.out.z.cell 1
  have z2 := HS2.out.z.cell 2
  have z3 := HS2.out.z.cell 3
  have z4 := HS2.out.z.cell 4
  have fz := fun i => HS2.out.z.frozen i
  simp at z0 z1 z2 z3 z4
  have lz := HS2.out.z.lt
  clear hal
  have HBK := hid ((HS2.out.z.set5 (.int .i64 0) (.int .i64 0) (.int .i64 0) (.int .i64 0) (.slice none 0 0)).alloc (.cells #[.int .i64 0, .int .i64 0, .int .i64 0, .int .i64 0] 23))
  go_wp2_with fail
  refine bodyPost_ret (v := .tuple #[.agg zfrm, .int .i64 5]) (results_row_tmp rfl _ _ _ _ _ _ rfl rfl HBK.out Try.underlying39 rfl (by kernel_rfl)) rfl ?_
  exact ⟨rfl, (below_set5 HS2.out.be (by omega) _ _ _ _ _).alloc (by rw [size_set5]; exact HS2.out.be.size) _⟩

set_option maxRecDepth 100000 in
set_option maxHeartbeats 2000000 in
theorem paste_ok (X Y X' Y' U V : Int) (p q n c p' q' n' c' a b di dj ei ej : Nat) (A B : Option Addr) (F G : Nat → Nat) (w : World) (h1 : frmE X Y p q n = 0) (h2 : frmE X' Y' p' q' n' = 0)
    (hU : U = X + di) (hU' : U = X' + ei) (hV : V = Y + dj) (hV' : V = Y' + ej) (ha0 : 0 < a) (hia : di + a ≤ p) (hjb : dj + b ≤ q) (hia' : ei + a ≤ p') (hjb' : ej + b ≤ q') (hmU : max X X' = U) (hmV : max Y Y' = V) (hma : min (X + p) (X' + p') - U = a) (hmb : min (Y + q) (Y' + q') - V = b) (hb0 : 0 < b)
    (hnc' : n' ≤ c') (hcm' : c' ≤ maxLen) (hF : Src w A n F) (hG : Src w B n' G) :
    Calls Try.prog 35 #[frm X Y p q A n c, frm X' Y' p' q' B n' c'] w (FramedOk w X Y p q n (trF (fun t => cl (F t)) G p p' di dj ei ej a b)) := by
  have HC := hid (And.intro h1 h2)
  have HYES : RowKit.Hid (∀ w, Calls Try.prog 17 #[reg X Y p q, reg X' Y' p' q'] w (Tup w (reg U V a b) true)) := hid fun w => by
    have := common_yes X Y p q X' Y' p' q' (small_of (frmE_zero h1).1) (small_of (frmE_zero h2).1) (by omega) (by omega) w
    rw [hmU, hmV, hma, hmb] at this
    exact this
  obtain ⟨hr1, hn4⟩ := frmE_zero h1
  obtain ⟨hr2, hn4'⟩ := frmE_zero h2
  obtain ⟨p1, p2, q1, q2, pq, x1, x2, y1, y2⟩ := regE_zero hr1
  obtain ⟨p1', p2', q1', q2', pq', x1', x2', y1', y2'⟩ := regE_zero hr2
  have hn : n = 4 * (p * q) := by
    rw [Int.mul_assoc] at hn4
    have : ((4 * (p * q) : Nat) : Int) = 4 * ((p : Int) * (q : Int)) := by push_cast; rfl
    omega
  have hn' : n' = 4 * (p' * q') := by
    rw [Int.mul_assoc] at hn4'
    have : ((4 * (p' * q') : Nat) : Int) = 4 * ((p' : Int) * (q' : Int)) := by push_cast; rfl
    omega
  have hn2 : n ≤ 65536 := by
    rw [Int.mul_assoc] at hn4
    omega
  obtain ⟨g, o, rfl, hlt, hrd⟩ := hG (by have : 0 < p' * q' := Nat.mul_pos (by omega) (by omega); omega)
  have HRD : RowKit.Hid (∀ wr, Below w.heap.size w wr → Rd wr g o n' G) := hid fun wr h => hrd.below h hlt
  have HFF : RowKit.Hid (∀ wr, Below w.heap.size w wr → Src wr A n F) := hid fun wr h => hF.below h
  have HN := hid (And.intro hn (And.intro hn' (And.intro hn2 (And.intro hnc' hcm'))))
  have HE := hid (And.intro hU (And.intro hU' (And.intro hV (And.intro hV' (And.intro ha0 (And.intro hia (And.intro hjb (And.intro hia' hjb'))))))))
  have HB := hid (show p ≤ 256 ∧ q ≤ 256 ∧ p' ≤ 256 ∧ q' ≤ 256 ∧ -1048576 ≤ X ∧ X ≤ 1048576 ∧ -1048576 ≤ X' ∧ X' ≤ 1048576 ∧ -1048576 ≤ Y ∧ Y ≤ 1048576 from ⟨by omega, by omega, by omega, by omega, by omega, by omega, by omega, by omega, by omega, by omega⟩)
  clear h1 h2 hU hU' hV hV' ha0 hia hjb hia' hjb' hmU hmV hma hmb hb0 hnc' hcm' hF hG hr1 hr2 hn4 hn4' p1 p2 q1 q2 pq x1 x2 y1 y2 p1' p2' q1' q2' pq' x1' x2' y1' y2' hn hn' hn2 hrd
  have HS0 := hid (PaSt.start w X Y p q n c A X' Y' p' q' n' c' (some ⟨g, o, none⟩))
  go_enter Try.func35, Try.ntmps35
  go_wp2_with fail
  refine (checkBoth_ok X Y p q X' Y' p' q' n c n' c' A (some ⟨g, o, none⟩) _ HC.out.1 HC.out.2).mono ?_
  rintro e w1 ⟨rfl, hb⟩
  have HS1 := hid (HS0.out.below hb)
  have c0 := HS1.out.f.cell 0
  have c1 := HS1.out.f.cell 1
  have c2 := HS1.out.f.cell 2
  have c3 := HS1.out.f.cell 3
  have c4 := HS1.out.f.cell 4
  have d0 := HS1.out.g.cell 0
  have d1 := HS1.out.g.cell 1
  have d2 := HS1.out.g.cell 2
  have d3 := HS1.out.g.cell 3
  have d4 := HS1.out.g.cell 4
  simp at c0 c1 c2 c3 c4 d0 d1 d2 d3 d4
  clear hb HS0
  go_wp2_with fail
  refine (HYES.out _).mono ?_
  rintro e w2 ⟨rfl, hb⟩
  have HS2 := hid (HS1.out.below hb)
  clear c0 c1 c2 c3 c4 d0 d1 d2 d3 d4 hb HS1
  have hal : Below w2.heap.size w2 (w2.alloc (.cells #[.int .i64 U, .int .i64 V, .int .i64 a, .int .i64 b] 23)) := (Below.refl _ _).alloc (Nat.le_refl _) _
  have hbt : Blk (w2.alloc (.cells #[.int .i64 U, .int .i64 V, .int .i64 a, .int .i64 b] 23)) w2.heap.size 23 #[.int .i64 U, .int .i64 V, .int .i64 a, .int .i64 b] := Blk.new_at _ _ _ rfl
  have HS3 := hid (HS2.out.below hal)
  have HBT := hid hbt
  have HAL := hid hal
  have c0 := HS2.out.f.cell 0
  have c1 := HS2.out.f.cell 1
  have c2 := HS2.out.f.cell 2
  have c3 := HS2.out.f.cell 3
  have c4 := HS2.out.f.cell 4
  simp at c0 c1 c2 c3 c4
  have lf := HS2.out.f.lt
  clear hal hbt
  go_wp2_with fail
  refine (cleaned_any X Y p q n c A F _ HN.out.2.2.1 (HFF.out _ HS3.out.be)).mono ?_
  rintro e w4 ⟨S, rfl, s1, hrow, hb⟩
  have HS4 := hid (HS3.out.below hb)
  have hbt4 := HBT.out.below hb HBT.out.lt
  have HBT4 := hid hbt4
  have HROW := hid hrow
  have HS1' := hid s1
  have hsz2 := HBT.out.lt
  clear c0 c1 c2 c3 c4 lf hb s1 hrow
  have c0 := HS4.out.g.cell 0
  have c1 := HS4.out.g.cell 1
  have c2 := HS4.out.g.cell 2
  have c3 := HS4.out.g.cell 3
  have c4 := HS4.out.g.cell 4
  have d0 := hbt4.cell 0
  have d1 := hbt4.cell 1
  have d2 := hbt4.cell 2
  have d3 := hbt4.cell 3
  simp at c0 c1 c2 c3 c4 d0 d1 d2 d3
  have lg := HS4.out.g.lt
  have lb := hbt4.lt
  clear hbt4
  go_wp2_with fail
  obtain ⟨e1, e2, e3, e4, e5⟩ := HN.out
  obtain ⟨f1, f2, f3, f4, f5, f6, f7, f8, f9⟩ := HE.out
  obtain ⟨i1, i2, i3, i4, i5, i6, i7, i8, i9, i10⟩ := HB.out
  have k1 := HS1'.out
  have k2 := HS3.out.z.lt
  have hal : Below w4.heap.size w4 (w4.alloc (.cells #[.int .i64 X, .int .i64 Y, .int .i64 p, .int .i64 q, .slice (some ⟨S, 0, none⟩) n n] 39)) := (Below.refl _ _).alloc (Nat.le_refl _) _
  have hpt : Blk (w4.alloc (.cells #[.int .i64 X, .int .i64 Y, .int .i64 p, .int .i64 q, .slice (some ⟨S, 0, none⟩) n n] 39)) w4.heap.size 39 #[.int .i64 X, .int .i64 Y, .int .i64 p, .int .i64 q, .slice (some ⟨S, 0, none⟩) n n] := Blk.new_at _ _ _ rfl
  have hSl := HROW.out.lt
  refine (transfer_any X Y X' Y' U V p q n n S p' q' n' c' g o di dj ei ej a b (fun t => cl (F t)) G _ f1 f2 f3 f4 f5 f6 f7 f8 f9 e1 (Nat.le_refl _) (by unfold maxLen; omega) e2 e4 e5 i1 i2 i3 i4 i5 i6 i7 i8 i9 i10 (by simp; omega) (by omega) (rowIs_below HROW.out hal hSl) (HRD.out _ (below_to HS4.out.be hal))).mono ?_
  rintro e w5 ⟨rfl, hrow5, hgr⟩
  have hs5 := (HS4.out.below hal).grown (by omega) hgr
  have HP5 := hid (hpt.grown hgr (by simp; omega))
  have HS5 := hid hs5
  have HROW5 := hid hrow5
  clear c0 c1 c2 c3 c4 d0 d1 d2 d3 lg lb hal hpt hgr hrow5 hs5 HROW HS4 e1 e2 e4 e5 f1 f2 f3 f4 f5 f6 f7 f8 f9
  have c0 := HP5.out.cell 0
  have c1 := HP5.out.cell 1
  have c2 := HP5.out.cell 2
  have c3 := HP5.out.cell 3
  have c4 := HP5.out.cell 4
  have z0 := HS5.out.z.cell 0
  have z1 := HS5.out.z.cell 1
  have z2 := HS5.out.z.cell 2
  have z3 := HS5.out.z.cell 3
  have z4 := HS5.out.z.cell 4
  simp at c0 c1 c2 c3 c4 z0 z1 z2 z3 z4
  have fz := fun i => HS5.out.z.frozen i
  have HBK := hid (HS5.out.z.set5 (.int .i64 X) (.int .i64 Y) (.int .i64 p) (.int .i64 q) (.slice (some ⟨S, 0, none⟩) n n))
  go_wp2_with fail
  refine bodyPost_ret (v := .tuple #[frm X Y p q (some ⟨S, 0, none⟩) n n, .int .i64 0]) (results_row_tmp rfl _ _ _ _ _ _ rfl rfl HBK.out Try.underlying39 rfl (by kernel_rfl)) rfl ?_
  have hl5 := HROW5.out.lt
  refine ⟨S, n, rfl, Nat.le_refl _, by unfold maxLen; omega, by omega, by rw [size_set5]; exact hl5, ?_, below_set5 HS5.out.be (by omega) _ _ _ _ _⟩
  intro i hi
  have hrd : Rd w5 S 0 n (trF (fun t => cl (F t)) G p p' di dj ei ej a b) := fun t ht => by
    rw [Nat.zero_add, HROW5.out.cell ht]
  exact hrd.far5 (by omega) _ _ _ _ _ i hi
end Go.Proofs.Ytjlghjblpbckfaa
