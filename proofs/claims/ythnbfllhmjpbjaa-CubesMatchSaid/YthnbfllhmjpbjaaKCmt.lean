/-
  Cubes: the law of CubesMatch.
-/
import Derived.Test.YthnbfllhmjpbjaaKTetO
import Derived.Test.YthnbfllhmjpbjaaKBad
import Derived.Test.YthnbfllhmjpbjaaKEntry
import Derived.Test.YthnbfllhmjpbjaaKCubes
import Derived.Test.YthnbfllhmjpbjaaKSame
import Derived.Deep.RegionHeld3
import Derived.Deep.DeepCutAuto
import Derived.Deep.CutBlock
namespace Go.Proofs.Ythnbfllhmjpbjaa
open Go.RowKit Go.Shelf
attribute [local go_sem] run_store_float

theorem tetOf_any (s L H n c : Nat) (A : Option Addr) (F p : Nat → Nat) (w : World) (hC : CubOk s L H n) (hF : Src w A n F) :
    Calls Try.prog 23 #[cub s L H A n c, pix p] w fun e w' => e = .returned (pix (tetP s L H F p)) ∧ Below w.heap.size w w' := by
  cases h : nan3 p
  · exact tetOf_ok s L H n c A F p w hC hF h
  · exact tetOf_broken s L H n c A _ p w h
theorem linOf_any (s L H n c : Nat) (A : Option Addr) (F p : Nat → Nat) (w : World) (hC : CubOk s L H n) (hF : Src w A n F) :
    Calls Try.prog 24 #[cub s L H A n c, pix p] w fun e w' => e = .returned (pix (linP s L H F p)) ∧ Below w.heap.size w w' := by
  cases h : nan3 p
  · exact linOf_ok s L H n c A F p w hC hF h
  · exact linOf_broken s L H n c A _ p w h

/-- The cube and the colour of the law. -/
structure LC (S : Int) (L H n c : Nat) (A : Option Addr) (p : Nat → Nat) (w wr : World) : Prop where
  b0 : Blk wr w.heap.size 25 #[.int .i64 S, .float .f32 L, .float .f32 H, .slice A n c]
  b1 : Blk wr (w.heap.size + 1) 27 (pA p)
  be : Below w.heap.size w wr
theorem LC.below {S : Int} {L H n c : Nat} {A : Option Addr} {p : Nat → Nat} {w wr w1 : World} (h : LC S L H n c A p w wr) (hb : Below wr.heap.size wr w1) : LC S L H n c A p w w1 :=
  ⟨h.b0.below hb h.b0.lt, h.b1.below hb h.b1.lt, below_to h.be hb⟩
theorem lc_new (S : Int) (L H n c : Nat) (A : Option Addr) (p : Nat → Nat) (w : World) : LC S L H n c A p w ((w.alloc (.cells #[.int .i64 S, .float .f32 L, .float .f32 H, .slice A n c] 25)).alloc (.cells (pA p) 27)) :=
  ⟨(Blk.new_at _ _ _ rfl).alloc _, Blk.new_at _ _ _ (by simp), ((Below.refl _ _).alloc (Nat.le_refl _) _).alloc (by simp) _⟩

/-- With the answers of the program. -/
structure LM (S : Int) (L H n c : Nat) (A : Option Addr) (p : Nat → Nat) (w : World) (m Bx Bt By : Nat) (X T Y : Nat → Nat) (wr : World) : Prop where
  lc : LC S L H n c A p w wr
  bx : 1 ≤ m → Blk wr Bx 30 (arrA X)
  bt : 2 ≤ m → Blk wr Bt 27 (pA T)
  bl : 3 ≤ m → Blk wr By 27 (pA Y)
theorem eq_zpix (w : World) : (Op.equalIn 10000 27 (.agg zpix) (.agg zpix)).run Try.prog w = .ok true w := by
  kernel_rfl
theorem eq_zarr (w : World) : (Op.equalIn 10000 30 (.agg zarr) (.agg zarr)).run Try.prog w = .ok true w := by
  kernel_rfl
theorem LM.below {S : Int} {L H n c : Nat} {A : Option Addr} {p : Nat → Nat} {w wr w1 : World} {m Bx Bt By : Nat} {X T Y : Nat → Nat} (h : LM S L H n c A p w m Bx Bt By X T Y wr) (hb : Below wr.heap.size wr w1) : LM S L H n c A p w m Bx Bt By X T Y w1 :=
  ⟨h.lc.below hb, fun hm => (h.bx hm).below hb (h.bx hm).lt, fun hm => (h.bt hm).below hb (h.bt hm).lt, fun hm => (h.bl hm).below hb (h.bl hm).lt⟩

set_option maxRecDepth 100000 in
set_option maxHeartbeats 4000000 in
theorem cm_core (S i j k : Int) (L H n c : Nat) (A : Option Addr) (p X T Y : Nat → Nat) (ex et ey N : Int) (U : Nat) (w : World)
    (hE : ∀ W, Below w.heap.size w W → Calls Try.prog 11 #[cub S L H A n c, .int .i64 i, .int .i64 j, .int .i64 k] W (EntR X ex W))
    (hT : ∀ W, Below w.heap.size w W → Calls Try.prog 12 #[cub S L H A n c, pix p] W (PixE T et W))
    (hY : ∀ W, Below w.heap.size w W → Calls Try.prog 13 #[cub S L H A n c, pix p] W (PixE Y ey W))
    (hP : ∀ W, Calls Try.prog 14 #[cub S L H A n c, .float .f32 (p 0)] W (PlS N U W))
    (hbad : (cubE S L H n != 0) = true → X = (fun _ => 0) ∧ T = (fun _ => 0) ∧ Y = (fun _ => 0) ∧ ex = cubE S L H n ∧ et = cubE S L H n ∧ ey = cubE S L H n ∧ N = 0 ∧ U = 0)
    (hok : (cubE S L H n != 0) = false → 2 ≤ S ∧ S ≤ 17 ∧ et = 0 ∧ ey = 0 ∧ ((inB i 0 (S - 1) && inB j 0 (S - 1) && inB k 0 (S - 1)) = true → ex = 0 ∧ ∀ W, Below w.heap.size w W → Calls Try.prog 19 #[cub S L H A n c, .int .i64 i, .int .i64 j, .int .i64 k] W fun e w' => e = .returned (arr X) ∧ Below W.heap.size W w') ∧
      ((inB i 0 (S - 1) && inB j 0 (S - 1) && inB k 0 (S - 1)) = false → X = (fun _ => 0) ∧ ex = 5) ∧
      (∀ W, Calls Try.prog 20 #[cub S L H A n c, .float .f32 (p 0)] W (PlS N U W)) ∧
      (∀ W, Below w.heap.size w W → Calls Try.prog 23 #[cub S L H A n c, pix p] W fun e w' => e = .returned (pix T) ∧ Below W.heap.size W w') ∧
      (∀ W, Below w.heap.size w W → Calls Try.prog 24 #[cub S L H A n c, pix p] W fun e w' => e = .returned (pix Y) ∧ Below W.heap.size W w')) :
    Calls Try.prog 3 #[cub S L H A n c, .int .i64 i, .int .i64 j, .int .i64 k, pix p] w fun e w' => e = .returned (.bool true) ∧ Below w.heap.size w w' := by
  have HE := hid hE
  have HT := hid hT
  have HY := hid hY
  have HP := hid hP
  have HBAD := hid hbad
  have HOK := hid hok
  clear hE hT hY hP hbad hok
  rw [pix_cells p]
  go_enter Try.func3, Try.ntmps3
  obtain ⟨W0, hW0⟩ : ∃ W0, (w.alloc (.cells #[.int .i64 S, .float .f32 L, .float .f32 H, .slice A n c] 25)).alloc (.cells (pA p) 27) = W0 := ⟨_, rfl⟩
  have q := lc_new S L H n c A p w
  rw [hW0] at q
  have HW := hid hW0
  have Q0 : RowKit.Hid (LM S L H n c A p w 0 0 0 0 X T Y W0) := hid ⟨q, fun h => absurd h (by omega), fun h => absurd h (by omega), fun h => absurd h (by omega)⟩
  clear hW0 q
  go_wp2_with fail
  rw [HW.out]
  refine (cubeError_any S L H A n c _).mono ?_
  rintro e w1 ⟨rfl, hb⟩
  have Q1 := hid (Q0.out.below hb)
  clear hb Q0 HW
  have c0 := Q1.out.lc.b0.cell 0
  have c1 := Q1.out.lc.b0.cell 1
  have c2 := Q1.out.lc.b0.cell 2
  have c3 := Q1.out.lc.b0.cell 3
  simp at c0 c1 c2 c3
  go_wp2_with fail
  refine (HE.out _ Q1.out.lc.be).mono ?_
  rintro e w2 ⟨rfl, hb⟩
  have Q2 := hid (Q1.out.below hb)
  clear hb Q1
  clear c0 c1 c2 c3
  go_upto_region 3 with fail
  obtain ⟨Bx, hBx⟩ : ∃ Bx, Bx = w2.heap.size := ⟨_, rfl⟩
  obtain ⟨w3, hw3⟩ : ∃ w3, w3 = w2.alloc (.cells (arrA X) 30) := ⟨_, rfl⟩
  rw [← hw3, ← hBx]
  have Q3 : RowKit.Hid (LM S L H n c A p w 1 Bx 0 0 X T Y w3) := hid (by
    have hal : Below w2.heap.size w2 w3 := by rw [hw3]; exact (Below.refl _ _).alloc (Nat.le_refl _) _
    refine ⟨Q2.out.lc.below hal, fun _ => ?_, fun h => absurd h (by omega), fun h => absurd h (by omega)⟩
    rw [hw3, hBx]; exact Blk.new_at _ _ _ rfl)
  clear Q2 hw3 hBx
  have c0 := Q3.out.lc.b0.cell 0
  have c1 := Q3.out.lc.b0.cell 1
  have c2 := Q3.out.lc.b0.cell 2
  have c3 := Q3.out.lc.b0.cell 3
  have d0 := Q3.out.lc.b1.cell 0
  have d1 := Q3.out.lc.b1.cell 1
  have d2 := Q3.out.lc.b1.cell 2
  have d3 := Q3.out.lc.b1.cell 3
  simp at c0 c1 c2 c3 d0 d1 d2 d3
  go_wp2_with fail
  rw [← pix_cells p]
  refine (HT.out _ Q3.out.lc.be).mono ?_
  rintro e w4 ⟨rfl, hb⟩
  have Q4 := hid (Q3.out.below hb)
  clear hb Q3
  clear c0 c1 c2 c3 d0 d1 d2 d3
  rw [pix_cells p, pix_cells T]
  go_upto_region 4 with fail
  obtain ⟨Bt, hBt⟩ : ∃ Bt, Bt = w4.heap.size := ⟨_, rfl⟩
  obtain ⟨w5, hw5⟩ : ∃ w5, w5 = w4.alloc (.cells (pA T) 27) := ⟨_, rfl⟩
  rw [← hw5, ← hBt]
  have Q5 : RowKit.Hid (LM S L H n c A p w 2 Bx Bt 0 X T Y w5) := hid (by
    have hal : Below w4.heap.size w4 w5 := by rw [hw5]; exact (Below.refl _ _).alloc (Nat.le_refl _) _
    have hn : Blk w5 Bt 27 (pA T) := by rw [hw5, hBt]; exact Blk.new_at _ _ _ rfl
    have h := Q4.out.below hal
    exact ⟨h.lc, fun _ => h.bx (by omega), fun _ => hn, fun h => absurd h (by omega)⟩)
  clear Q4 hw5 hBt
  have c0 := Q5.out.lc.b0.cell 0
  have c1 := Q5.out.lc.b0.cell 1
  have c2 := Q5.out.lc.b0.cell 2
  have c3 := Q5.out.lc.b0.cell 3
  have d0 := Q5.out.lc.b1.cell 0
  have d1 := Q5.out.lc.b1.cell 1
  have d2 := Q5.out.lc.b1.cell 2
  have d3 := Q5.out.lc.b1.cell 3
  simp at c0 c1 c2 c3 d0 d1 d2 d3
  go_wp2_with fail
  rw [← pix_cells p]
  refine (HY.out _ Q5.out.lc.be).mono ?_
  rintro e w6 ⟨rfl, hb⟩
  have Q6 := hid (Q5.out.below hb)
  clear hb Q5
  clear c0 c1 c2 c3 d0 d1 d2 d3
  rw [pix_cells p, pix_cells Y]
  go_upto_region 5 with fail
  obtain ⟨By, hBy⟩ : ∃ By, By = w6.heap.size := ⟨_, rfl⟩
  obtain ⟨w7, hw7⟩ : ∃ w7, w7 = w6.alloc (.cells (pA Y) 27) := ⟨_, rfl⟩
  rw [← hw7, ← hBy]
  have Q7 : RowKit.Hid (LM S L H n c A p w 3 Bx Bt By X T Y w7) := hid (by
    have hal : Below w6.heap.size w6 w7 := by rw [hw7]; exact (Below.refl _ _).alloc (Nat.le_refl _) _
    have hn : Blk w7 By 27 (pA Y) := by rw [hw7, hBy]; exact Blk.new_at _ _ _ rfl
    have h := Q6.out.below hal
    exact ⟨h.lc, fun _ => h.bx (by omega), fun _ => h.bt (by omega), fun _ => hn⟩)
  clear Q6 hw7 hBy
  have c0 := Q7.out.lc.b0.cell 0
  have c1 := Q7.out.lc.b0.cell 1
  have c2 := Q7.out.lc.b0.cell 2
  have c3 := Q7.out.lc.b0.cell 3
  have d0 := Q7.out.lc.b1.cell 0
  have d1 := Q7.out.lc.b1.cell 1
  have d2 := Q7.out.lc.b1.cell 2
  have d3 := Q7.out.lc.b1.cell 3
  simp at c0 c1 c2 c3 d0 d1 d2 d3
  go_wp2_with fail
  refine (HP.out _).mono ?_
  rintro e w8 ⟨rfl, hb⟩
  have Q8 := hid (Q7.out.below hb)
  clear hb Q7
  clear c0 c1 c2 c3 d0 d1 d2 d3
  go_wp2_with fail
  refine (cubes_any _).mono ?_
  rintro e w9 ⟨rfl, hb⟩
  have Q9 := hid (Q8.out.below hb)
  clear hb Q8
  have c0 := Q9.out.lc.b0.cell 0
  have c1 := Q9.out.lc.b0.cell 1
  have c2 := Q9.out.lc.b0.cell 2
  have c3 := Q9.out.lc.b0.cell 3
  simp at c0 c1 c2 c3
  go_wp2_with fail
  refine (check_any S L H A n c _).mono ?_
  rintro e w10 ⟨rfl, hb⟩
  have Q10 := hid (Q9.out.below hb)
  clear hb Q9
  clear c0 c1 c2 c3
  cases hz : cubE S L H n != 0
  case true =>
    have HZ := hid (HBAD.out hz)
    go_wp2_with fail
    refine (cubes_any _).mono ?_
    rintro e w11 ⟨rfl, hb⟩
    have Q11 := hid (Q10.out.below hb)
    clear hb Q10
    have c0 := Q11.out.lc.b0.cell 0
    have c1 := Q11.out.lc.b0.cell 1
    have c2 := Q11.out.lc.b0.cell 2
    have c3 := Q11.out.lc.b0.cell 3
    simp at c0 c1 c2 c3
    go_wp2_with fail
    refine (check_any S L H A n c _).mono ?_
    rintro e w12 ⟨rfl, hb⟩
    have Q12 := hid (Q11.out.below hb)
    clear hb Q11 c0 c1 c2 c3
    obtain ⟨rfl, rfl, rfl, rfl, rfl, rfl, rfl, rfl⟩ := HZ.out
    have x0 := (Q12.out.bx (by omega)).cell 0
    have x1 := (Q12.out.bx (by omega)).cell 1
    have x2 := (Q12.out.bx (by omega)).cell 2
    have t0 := (Q12.out.bt (by omega)).cell 0
    have t1 := (Q12.out.bt (by omega)).cell 1
    have t2 := (Q12.out.bt (by omega)).cell 2
    have t3 := (Q12.out.bt (by omega)).cell 3
    have y0 := (Q12.out.bl (by omega)).cell 0
    have y1 := (Q12.out.bl (by omega)).cell 1
    have y2 := (Q12.out.bl (by omega)).cell 2
    have y3 := (Q12.out.bl (by omega)).cell 3
    simp at x0 x1 x2 t0 t1 t2 t3 y0 y1 y2 y3
    have ez := eq_zpix
    have ea := eq_zarr
    go_wp2_with fail
    go_ret
    exact ⟨rfl, Q12.out.lc.be⟩
  case false =>
    have HZ := hid (HOK.out hz)
    have wS : IntKind.i64.wrap (S - 1) = S - 1 := by
      have h1 := HZ.out.1
      have h2 := HZ.out.2.1
      rw [IntKind.wrap_i64]; omega
    clear HBAD HOK
    obtain ⟨O, HO⟩ : ∃ O : World → Prop, RowKit.Hid (∀ W, O W ↔ LM S L H n c A p w 3 Bx Bt By X T Y W) := ⟨_, hid fun _ => Iff.rfl⟩
    have HK : RowKit.Hid (∀ W, O W → (W.cell? ⟨w.heap.size, 0, none⟩ = some (.int .i64 S) ∧ W.cell? ⟨w.heap.size, 1, none⟩ = some (.float .f32 L) ∧ W.cell? ⟨w.heap.size, 2, none⟩ = some (.float .f32 H) ∧ W.cell? ⟨w.heap.size, 3, none⟩ = some (.slice A n c) ∧ W.cell? ⟨w.heap.size + 1, 0, none⟩ = some (.float .f32 (p 0)) ∧ W.cell? ⟨w.heap.size + 1, 1, none⟩ = some (.float .f32 (p 1)) ∧ W.cell? ⟨w.heap.size + 1, 2, none⟩ = some (.float .f32 (p 2)) ∧ W.cell? ⟨w.heap.size + 1, 3, none⟩ = some (.float .f32 (p 3)) ∧ W.cell? ⟨Bt, 0, none⟩ = some (.float .f32 (T 0)) ∧ W.cell? ⟨Bt, 1, none⟩ = some (.float .f32 (T 1)) ∧ W.cell? ⟨Bt, 2, none⟩ = some (.float .f32 (T 2)) ∧ W.cell? ⟨Bt, 3, none⟩ = some (.float .f32 (T 3)) ∧ W.cell? ⟨By, 0, none⟩ = some (.float .f32 (Y 0)) ∧ W.cell? ⟨By, 1, none⟩ = some (.float .f32 (Y 1)) ∧ W.cell? ⟨By, 2, none⟩ = some (.float .f32 (Y 2)) ∧ W.cell? ⟨By, 3, none⟩ = some (.float .f32 (Y 3)) ∧ O W)) := hid (fun W h => by
      have q := (HO.out W).1 h
      refine ⟨?_, ?_, ?_, ?_, ?_, ?_, ?_, ?_, ?_, ?_, ?_, ?_, ?_, ?_, ?_, ?_, h⟩
      · rw [q.lc.b0.cell 0]; rfl
      · rw [q.lc.b0.cell 1]; rfl
      · rw [q.lc.b0.cell 2]; rfl
      · rw [q.lc.b0.cell 3]; rfl
      · rw [q.lc.b1.cell 0]; rfl
      · rw [q.lc.b1.cell 1]; rfl
      · rw [q.lc.b1.cell 2]; rfl
      · rw [q.lc.b1.cell 3]; rfl
      · rw [(q.bt (by omega)).cell 0]; rfl
      · rw [(q.bt (by omega)).cell 1]; rfl
      · rw [(q.bt (by omega)).cell 2]; rfl
      · rw [(q.bt (by omega)).cell 3]; rfl
      · rw [(q.bl (by omega)).cell 0]; rfl
      · rw [(q.bl (by omega)).cell 1]; rfl
      · rw [(q.bl (by omega)).cell 2]; rfl
      · rw [(q.bl (by omega)).cell 3]; rfl)
    have HK2 : RowKit.Hid (∀ W, O W → (W.cell? ⟨w.heap.size, 0, none⟩ = some (.int .i64 S) ∧ W.cell? ⟨w.heap.size, 1, none⟩ = some (.float .f32 L) ∧ W.cell? ⟨w.heap.size, 2, none⟩ = some (.float .f32 H) ∧ W.cell? ⟨w.heap.size, 3, none⟩ = some (.slice A n c) ∧ W.cell? ⟨Bx, 0, none⟩ = some (.float .f32 (X 0)) ∧ W.cell? ⟨Bx, 1, none⟩ = some (.float .f32 (X 1)) ∧ W.cell? ⟨Bx, 2, none⟩ = some (.float .f32 (X 2)) ∧ O W)) := hid (fun W h => by
      have q := (HO.out W).1 h
      refine ⟨?_, ?_, ?_, ?_, ?_, ?_, ?_, h⟩
      · rw [q.lc.b0.cell 0]; rfl
      · rw [q.lc.b0.cell 1]; rfl
      · rw [q.lc.b0.cell 2]; rfl
      · rw [q.lc.b0.cell 3]; rfl
      · rw [(q.bx (by omega)).cell 0]; rfl
      · rw [(q.bx (by omega)).cell 1]; rfl
      · rw [(q.bx (by omega)).cell 2]; rfl)
    have HOB : RowKit.Hid (∀ W W', O W → Below W.heap.size W W' → O W') := hid fun W W' h hb => (HO.out W').2 (((HO.out W).1 h).below hb)
    have c0 := Q10.out.lc.b0.cell 0
    simp at c0
    go_upto_region 8 with fail
    cases hi : inB i 0 (S - 1)
    case' true =>
      cases hj : inB j 0 (S - 1)
      case' true =>
        cases hk : inB k 0 (S - 1)
    case false | true.false | true.true.false =>
      have hF : (inB i 0 (S - 1) && inB j 0 (S - 1) && inB k 0 (S - 1)) = false := by first | (rw [hi]; rfl) | (rw [hi, hj]; rfl) | (rw [hi, hj, hk]; rfl)
      obtain ⟨e1, e2⟩ := HZ.out.2.2.2.2.2.1 hF
      subst e1 e2
      clear hF
      have x0 := (Q10.out.bx (by omega)).cell 0
      have x1 := (Q10.out.bx (by omega)).cell 1
      have x2 := (Q10.out.bx (by omega)).cell 2
      simp at x0 x1 x2
      have ea := eq_zarr
      have c1 := Q10.out.lc.b0.cell 1
      have c2 := Q10.out.lc.b0.cell 2
      have c3 := Q10.out.lc.b0.cell 3
      have d0 := Q10.out.lc.b1.cell 0
      simp at c1 c2 c3 d0
      go_wp2_with (go_at_call 17; refine (in_any _ _ _ _).mono ?_; rintro e w5 ⟨rfl, rfl⟩)
      refine (HZ.out.2.2.2.2.2.2.1 _).mono ?_
      rintro e w11 ⟨rfl, hb⟩
      have HO11 := hid ((HO.out _).2 (Q10.out.below hb))
      clear hb c0 c1 c2 c3 d0
      go_upto_region 14 with fail
      clear Q10
      have HS0 : RowKit.Hid ((fun W : World => W.cell? ⟨w.heap.size, 0, none⟩ = some (.int .i64 S) ∧ W.cell? ⟨w.heap.size, 1, none⟩ = some (.float .f32 L) ∧ W.cell? ⟨w.heap.size, 2, none⟩ = some (.float .f32 H) ∧ W.cell? ⟨w.heap.size, 3, none⟩ = some (.slice A n c) ∧ W.cell? ⟨w.heap.size + 1, 0, none⟩ = some (.float .f32 (p 0)) ∧ W.cell? ⟨w.heap.size + 1, 1, none⟩ = some (.float .f32 (p 1)) ∧ W.cell? ⟨w.heap.size + 1, 2, none⟩ = some (.float .f32 (p 2)) ∧ W.cell? ⟨w.heap.size + 1, 3, none⟩ = some (.float .f32 (p 3)) ∧ W.cell? ⟨Bt, 0, none⟩ = some (.float .f32 (T 0)) ∧ W.cell? ⟨Bt, 1, none⟩ = some (.float .f32 (T 1)) ∧ W.cell? ⟨Bt, 2, none⟩ = some (.float .f32 (T 2)) ∧ W.cell? ⟨Bt, 3, none⟩ = some (.float .f32 (T 3)) ∧ W.cell? ⟨By, 0, none⟩ = some (.float .f32 (Y 0)) ∧ W.cell? ⟨By, 1, none⟩ = some (.float .f32 (Y 1)) ∧ W.cell? ⟨By, 2, none⟩ = some (.float .f32 (Y 2)) ∧ W.cell? ⟨By, 3, none⟩ = some (.float .f32 (Y 3)) ∧ O W) w11.drew) := hid (HK.out _ (HOB.out _ _ HO11.out (Below.refl _ _).drew))
      clear HO11
      have kT : ∀ W, (W.cell? ⟨w.heap.size, 0, none⟩ = some (.int .i64 S) ∧ W.cell? ⟨w.heap.size, 1, none⟩ = some (.float .f32 L) ∧ W.cell? ⟨w.heap.size, 2, none⟩ = some (.float .f32 H) ∧ W.cell? ⟨w.heap.size, 3, none⟩ = some (.slice A n c) ∧ W.cell? ⟨w.heap.size + 1, 0, none⟩ = some (.float .f32 (p 0)) ∧ W.cell? ⟨w.heap.size + 1, 1, none⟩ = some (.float .f32 (p 1)) ∧ W.cell? ⟨w.heap.size + 1, 2, none⟩ = some (.float .f32 (p 2)) ∧ W.cell? ⟨w.heap.size + 1, 3, none⟩ = some (.float .f32 (p 3)) ∧ W.cell? ⟨Bt, 0, none⟩ = some (.float .f32 (T 0)) ∧ W.cell? ⟨Bt, 1, none⟩ = some (.float .f32 (T 1)) ∧ W.cell? ⟨Bt, 2, none⟩ = some (.float .f32 (T 2)) ∧ W.cell? ⟨Bt, 3, none⟩ = some (.float .f32 (T 3)) ∧ W.cell? ⟨By, 0, none⟩ = some (.float .f32 (Y 0)) ∧ W.cell? ⟨By, 1, none⟩ = some (.float .f32 (Y 1)) ∧ W.cell? ⟨By, 2, none⟩ = some (.float .f32 (Y 2)) ∧ W.cell? ⟨By, 3, none⟩ = some (.float .f32 (Y 3)) ∧ O W) → Calls Try.prog 23 #[cub S L H A n c, .agg #[.float .f32 (p 0), .float .f32 (p 1), .float .f32 (p 2), .float .f32 (p 3)]] W fun e w' => e = .returned (.agg #[.float .f32 (T 0), .float .f32 (T 1), .float .f32 (T 2), .float .f32 (T 3)]) ∧ Below W.heap.size W w' := fun W hS => by
        have := HZ.out.2.2.2.2.2.2.2.1 W ((HO.out W).1 hS.2.2.2.2.2.2.2.2.2.2.2.2.2.2.2.2).lc.be
        rw [pix_cells p, pix_cells T] at this; exact this
      have kY : ∀ W, (W.cell? ⟨w.heap.size, 0, none⟩ = some (.int .i64 S) ∧ W.cell? ⟨w.heap.size, 1, none⟩ = some (.float .f32 L) ∧ W.cell? ⟨w.heap.size, 2, none⟩ = some (.float .f32 H) ∧ W.cell? ⟨w.heap.size, 3, none⟩ = some (.slice A n c) ∧ W.cell? ⟨w.heap.size + 1, 0, none⟩ = some (.float .f32 (p 0)) ∧ W.cell? ⟨w.heap.size + 1, 1, none⟩ = some (.float .f32 (p 1)) ∧ W.cell? ⟨w.heap.size + 1, 2, none⟩ = some (.float .f32 (p 2)) ∧ W.cell? ⟨w.heap.size + 1, 3, none⟩ = some (.float .f32 (p 3)) ∧ W.cell? ⟨Bt, 0, none⟩ = some (.float .f32 (T 0)) ∧ W.cell? ⟨Bt, 1, none⟩ = some (.float .f32 (T 1)) ∧ W.cell? ⟨Bt, 2, none⟩ = some (.float .f32 (T 2)) ∧ W.cell? ⟨Bt, 3, none⟩ = some (.float .f32 (T 3)) ∧ W.cell? ⟨By, 0, none⟩ = some (.float .f32 (Y 0)) ∧ W.cell? ⟨By, 1, none⟩ = some (.float .f32 (Y 1)) ∧ W.cell? ⟨By, 2, none⟩ = some (.float .f32 (Y 2)) ∧ W.cell? ⟨By, 3, none⟩ = some (.float .f32 (Y 3)) ∧ O W) → Calls Try.prog 24 #[cub S L H A n c, .agg #[.float .f32 (p 0), .float .f32 (p 1), .float .f32 (p 2), .float .f32 (p 3)]] W fun e w' => e = .returned (.agg #[.float .f32 (Y 0), .float .f32 (Y 1), .float .f32 (Y 2), .float .f32 (Y 3)]) ∧ Below W.heap.size W w' := fun W hS => by
        have := HZ.out.2.2.2.2.2.2.2.2 W ((HO.out W).1 hS.2.2.2.2.2.2.2.2.2.2.2.2.2.2.2.2).lc.be
        rw [pix_cells p, pix_cells Y] at this; exact this
      have kTT : ∀ W, Calls Try.prog 22 #[.agg #[.float .f32 (T 0), .float .f32 (T 1), .float .f32 (T 2), .float .f32 (T 3)], .agg #[.float .f32 (T 0), .float .f32 (T 1), .float .f32 (T 2), .float .f32 (T 3)]] W fun e w' => e = .returned (.bool true) ∧ Below W.heap.size W w' := fun W => by
        have := samePix_any T T (fun _ _ => rfl) W
        rw [pix_cells T] at this; exact this
      have kYY : ∀ W, Calls Try.prog 22 #[.agg #[.float .f32 (Y 0), .float .f32 (Y 1), .float .f32 (Y 2), .float .f32 (Y 3)], .agg #[.float .f32 (Y 0), .float .f32 (Y 1), .float .f32 (Y 2), .float .f32 (Y 3)]] W fun e w' => e = .returned (.bool true) ∧ Below W.heap.size W w' := fun W => by
        have := samePix_any Y Y (fun _ _ => rfl) W
        rw [pix_cells Y] at this; exact this
      have HKP : RowKit.Hid (∀ W W', (W.cell? ⟨w.heap.size, 0, none⟩ = some (.int .i64 S) ∧ W.cell? ⟨w.heap.size, 1, none⟩ = some (.float .f32 L) ∧ W.cell? ⟨w.heap.size, 2, none⟩ = some (.float .f32 H) ∧ W.cell? ⟨w.heap.size, 3, none⟩ = some (.slice A n c) ∧ W.cell? ⟨w.heap.size + 1, 0, none⟩ = some (.float .f32 (p 0)) ∧ W.cell? ⟨w.heap.size + 1, 1, none⟩ = some (.float .f32 (p 1)) ∧ W.cell? ⟨w.heap.size + 1, 2, none⟩ = some (.float .f32 (p 2)) ∧ W.cell? ⟨w.heap.size + 1, 3, none⟩ = some (.float .f32 (p 3)) ∧ W.cell? ⟨Bt, 0, none⟩ = some (.float .f32 (T 0)) ∧ W.cell? ⟨Bt, 1, none⟩ = some (.float .f32 (T 1)) ∧ W.cell? ⟨Bt, 2, none⟩ = some (.float .f32 (T 2)) ∧ W.cell? ⟨Bt, 3, none⟩ = some (.float .f32 (T 3)) ∧ W.cell? ⟨By, 0, none⟩ = some (.float .f32 (Y 0)) ∧ W.cell? ⟨By, 1, none⟩ = some (.float .f32 (Y 1)) ∧ W.cell? ⟨By, 2, none⟩ = some (.float .f32 (Y 2)) ∧ W.cell? ⟨By, 3, none⟩ = some (.float .f32 (Y 3)) ∧ O W) → Below W.heap.size W W' → (fun W : World => W.cell? ⟨w.heap.size, 0, none⟩ = some (.int .i64 S) ∧ W.cell? ⟨w.heap.size, 1, none⟩ = some (.float .f32 L) ∧ W.cell? ⟨w.heap.size, 2, none⟩ = some (.float .f32 H) ∧ W.cell? ⟨w.heap.size, 3, none⟩ = some (.slice A n c) ∧ W.cell? ⟨w.heap.size + 1, 0, none⟩ = some (.float .f32 (p 0)) ∧ W.cell? ⟨w.heap.size + 1, 1, none⟩ = some (.float .f32 (p 1)) ∧ W.cell? ⟨w.heap.size + 1, 2, none⟩ = some (.float .f32 (p 2)) ∧ W.cell? ⟨w.heap.size + 1, 3, none⟩ = some (.float .f32 (p 3)) ∧ W.cell? ⟨Bt, 0, none⟩ = some (.float .f32 (T 0)) ∧ W.cell? ⟨Bt, 1, none⟩ = some (.float .f32 (T 1)) ∧ W.cell? ⟨Bt, 2, none⟩ = some (.float .f32 (T 2)) ∧ W.cell? ⟨Bt, 3, none⟩ = some (.float .f32 (T 3)) ∧ W.cell? ⟨By, 0, none⟩ = some (.float .f32 (Y 0)) ∧ W.cell? ⟨By, 1, none⟩ = some (.float .f32 (Y 1)) ∧ W.cell? ⟨By, 2, none⟩ = some (.float .f32 (Y 2)) ∧ W.cell? ⟨By, 3, none⟩ = some (.float .f32 (Y 3)) ∧ O W) W') := hid fun W W' h hb => HK.out _ (HOB.out _ _ h.2.2.2.2.2.2.2.2.2.2.2.2.2.2.2.2 hb)
      have HEND : RowKit.Hid (∀ W, O W → Below w.heap.size w W) := hid fun W h => ((HO.out W).1 h).lc.be
      obtain ⟨e1, e2⟩ : et = 0 ∧ ey = 0 := ⟨HZ.out.2.2.1, HZ.out.2.2.2.1⟩
      subst e1 e2
      clear HZ
      go_region_held3 (fun W => W.cell? ⟨w.heap.size, 0, none⟩ = some (.int .i64 S) ∧ W.cell? ⟨w.heap.size, 1, none⟩ = some (.float .f32 L) ∧ W.cell? ⟨w.heap.size, 2, none⟩ = some (.float .f32 H) ∧ W.cell? ⟨w.heap.size, 3, none⟩ = some (.slice A n c) ∧ W.cell? ⟨w.heap.size + 1, 0, none⟩ = some (.float .f32 (p 0)) ∧ W.cell? ⟨w.heap.size + 1, 1, none⟩ = some (.float .f32 (p 1)) ∧ W.cell? ⟨w.heap.size + 1, 2, none⟩ = some (.float .f32 (p 2)) ∧ W.cell? ⟨w.heap.size + 1, 3, none⟩ = some (.float .f32 (p 3)) ∧ W.cell? ⟨Bt, 0, none⟩ = some (.float .f32 (T 0)) ∧ W.cell? ⟨Bt, 1, none⟩ = some (.float .f32 (T 1)) ∧ W.cell? ⟨Bt, 2, none⟩ = some (.float .f32 (T 2)) ∧ W.cell? ⟨Bt, 3, none⟩ = some (.float .f32 (T 3)) ∧ W.cell? ⟨By, 0, none⟩ = some (.float .f32 (Y 0)) ∧ W.cell? ⟨By, 1, none⟩ = some (.float .f32 (Y 1)) ∧ W.cell? ⟨By, 2, none⟩ = some (.float .f32 (Y 2)) ∧ W.cell? ⟨By, 3, none⟩ = some (.float .f32 (Y 3)) ∧ O W)
        (first | exact HS0.out | assumption | exact HKP.out _ _ (by assumption) (by assumption) | exact HKP.out _ _ (by assumption) (Below.refl _ _).drew)
        (first | (go_at_call 21; refine (same_yes _ _ rfl _).mono ?_; rintro e w5 ⟨rfl, rfl⟩) | (go_at_call 23; refine (kT _ (by first | assumption | (go_split_ands; assumption))).mono ?_; clear kT; rintro e w5 ⟨rfl, hb⟩) | (go_at_call 24; refine (kY _ (by first | assumption | (go_split_ands; assumption))).mono ?_; clear kY; rintro e w5 ⟨rfl, hb⟩) | (go_at_call 22; refine (kTT _).mono ?_; clear kTT; rintro e w5 ⟨rfl, hb⟩) | (go_at_call 22; refine (kYY _).mono ?_; clear kYY; rintro e w5 ⟨rfl, hb⟩))
      all_goals
        go_wp2_with fail
        go_ret
        exact ⟨rfl, HEND.out _ (by go_split_ands; assumption)⟩

    case true.true.true =>
      have hF : (inB i 0 (S - 1) && inB j 0 (S - 1) && inB k 0 (S - 1)) = true := by rw [hi, hj, hk]; rfl
      obtain ⟨e1, hEO⟩ := HZ.out.2.2.2.2.1 hF
      subst e1
      have HEO := hid hEO
      clear hF hEO
      go_upto_region 11 with (go_at_call 17; refine (in_any _ _ _ _).mono ?_; rintro e w5 ⟨rfl, rfl⟩)
      have HS0 : RowKit.Hid ((fun W : World => W.cell? ⟨w.heap.size, 0, none⟩ = some (.int .i64 S) ∧ W.cell? ⟨w.heap.size, 1, none⟩ = some (.float .f32 L) ∧ W.cell? ⟨w.heap.size, 2, none⟩ = some (.float .f32 H) ∧ W.cell? ⟨w.heap.size, 3, none⟩ = some (.slice A n c) ∧ W.cell? ⟨Bx, 0, none⟩ = some (.float .f32 (X 0)) ∧ W.cell? ⟨Bx, 1, none⟩ = some (.float .f32 (X 1)) ∧ W.cell? ⟨Bx, 2, none⟩ = some (.float .f32 (X 2)) ∧ O W) w10.drew) := hid (HK2.out _ ((HO.out _).2 (Q10.out.below (Below.refl _ _).drew)))
      have kE : ∀ W, (W.cell? ⟨w.heap.size, 0, none⟩ = some (.int .i64 S) ∧ W.cell? ⟨w.heap.size, 1, none⟩ = some (.float .f32 L) ∧ W.cell? ⟨w.heap.size, 2, none⟩ = some (.float .f32 H) ∧ W.cell? ⟨w.heap.size, 3, none⟩ = some (.slice A n c) ∧ W.cell? ⟨Bx, 0, none⟩ = some (.float .f32 (X 0)) ∧ W.cell? ⟨Bx, 1, none⟩ = some (.float .f32 (X 1)) ∧ W.cell? ⟨Bx, 2, none⟩ = some (.float .f32 (X 2)) ∧ O W) → Calls Try.prog 19 #[cub S L H A n c, .int .i64 i, .int .i64 j, .int .i64 k] W fun e w' => e = .returned (.agg #[.float .f32 (X 0), .float .f32 (X 1), .float .f32 (X 2)]) ∧ Below W.heap.size W w' := fun W hS => HEO.out W ((HO.out W).1 hS.2.2.2.2.2.2.2).lc.be
      have kXX : ∀ W, Calls Try.prog 18 #[.agg #[.float .f32 (X 0), .float .f32 (X 1), .float .f32 (X 2)], .agg #[.float .f32 (X 0), .float .f32 (X 1), .float .f32 (X 2)]] W fun e w' => e = .returned (.bool true) ∧ Below W.heap.size W w' := fun W => sameThree_any X X (fun _ _ => rfl) W
      have HKP2 : RowKit.Hid (∀ W W', (W.cell? ⟨w.heap.size, 0, none⟩ = some (.int .i64 S) ∧ W.cell? ⟨w.heap.size, 1, none⟩ = some (.float .f32 L) ∧ W.cell? ⟨w.heap.size, 2, none⟩ = some (.float .f32 H) ∧ W.cell? ⟨w.heap.size, 3, none⟩ = some (.slice A n c) ∧ W.cell? ⟨Bx, 0, none⟩ = some (.float .f32 (X 0)) ∧ W.cell? ⟨Bx, 1, none⟩ = some (.float .f32 (X 1)) ∧ W.cell? ⟨Bx, 2, none⟩ = some (.float .f32 (X 2)) ∧ O W) → Below W.heap.size W W' → (fun W : World => W.cell? ⟨w.heap.size, 0, none⟩ = some (.int .i64 S) ∧ W.cell? ⟨w.heap.size, 1, none⟩ = some (.float .f32 L) ∧ W.cell? ⟨w.heap.size, 2, none⟩ = some (.float .f32 H) ∧ W.cell? ⟨w.heap.size, 3, none⟩ = some (.slice A n c) ∧ W.cell? ⟨Bx, 0, none⟩ = some (.float .f32 (X 0)) ∧ W.cell? ⟨Bx, 1, none⟩ = some (.float .f32 (X 1)) ∧ W.cell? ⟨Bx, 2, none⟩ = some (.float .f32 (X 2)) ∧ O W) W') := hid fun W W' h hb => HK2.out _ (HOB.out _ _ h.2.2.2.2.2.2.2 hb)
      clear HEO c0
      go_region_held3 (fun W => W.cell? ⟨w.heap.size, 0, none⟩ = some (.int .i64 S) ∧ W.cell? ⟨w.heap.size, 1, none⟩ = some (.float .f32 L) ∧ W.cell? ⟨w.heap.size, 2, none⟩ = some (.float .f32 H) ∧ W.cell? ⟨w.heap.size, 3, none⟩ = some (.slice A n c) ∧ W.cell? ⟨Bx, 0, none⟩ = some (.float .f32 (X 0)) ∧ W.cell? ⟨Bx, 1, none⟩ = some (.float .f32 (X 1)) ∧ W.cell? ⟨Bx, 2, none⟩ = some (.float .f32 (X 2)) ∧ O W)
        (first | exact HS0.out | assumption | exact HKP2.out _ _ (by assumption) (by assumption) | exact HKP2.out _ _ (by assumption) (Below.refl _ _).drew)
        (first | (go_at_call 19; refine (kE _ (by first | assumption | (go_split_ands; assumption))).mono ?_; clear kE; rintro e w5 ⟨rfl, hb⟩) | (go_at_call 18; refine (kXX _).mono ?_; clear kXX; rintro e w5 ⟨rfl, hb⟩))
      rename_i hH
      have QW := hid ((HO.out _).1 hH.2.2.2.2.2.2.2)
      clear hH HS0 HKP2
      have c0 := QW.out.lc.b0.cell 0
      simp at c0
      have c1 := QW.out.lc.b0.cell 1
      have c2 := QW.out.lc.b0.cell 2
      have c3 := QW.out.lc.b0.cell 3
      have d0 := QW.out.lc.b1.cell 0
      simp at c1 c2 c3 d0
      go_wp2_with (go_at_call 17; refine (in_any _ _ _ _).mono ?_; rintro e w5 ⟨rfl, rfl⟩)
      refine (HZ.out.2.2.2.2.2.2.1 _).mono ?_
      rintro e w11 ⟨rfl, hb⟩
      have HO11 := hid ((HO.out _).2 (QW.out.below hb))
      clear hb c0 c1 c2 c3 d0
      go_upto_region 14 with fail
      clear QW
      have HS0 : RowKit.Hid ((fun W : World => W.cell? ⟨w.heap.size, 0, none⟩ = some (.int .i64 S) ∧ W.cell? ⟨w.heap.size, 1, none⟩ = some (.float .f32 L) ∧ W.cell? ⟨w.heap.size, 2, none⟩ = some (.float .f32 H) ∧ W.cell? ⟨w.heap.size, 3, none⟩ = some (.slice A n c) ∧ W.cell? ⟨w.heap.size + 1, 0, none⟩ = some (.float .f32 (p 0)) ∧ W.cell? ⟨w.heap.size + 1, 1, none⟩ = some (.float .f32 (p 1)) ∧ W.cell? ⟨w.heap.size + 1, 2, none⟩ = some (.float .f32 (p 2)) ∧ W.cell? ⟨w.heap.size + 1, 3, none⟩ = some (.float .f32 (p 3)) ∧ W.cell? ⟨Bt, 0, none⟩ = some (.float .f32 (T 0)) ∧ W.cell? ⟨Bt, 1, none⟩ = some (.float .f32 (T 1)) ∧ W.cell? ⟨Bt, 2, none⟩ = some (.float .f32 (T 2)) ∧ W.cell? ⟨Bt, 3, none⟩ = some (.float .f32 (T 3)) ∧ W.cell? ⟨By, 0, none⟩ = some (.float .f32 (Y 0)) ∧ W.cell? ⟨By, 1, none⟩ = some (.float .f32 (Y 1)) ∧ W.cell? ⟨By, 2, none⟩ = some (.float .f32 (Y 2)) ∧ W.cell? ⟨By, 3, none⟩ = some (.float .f32 (Y 3)) ∧ O W) w11.drew) := hid (HK.out _ (HOB.out _ _ HO11.out (Below.refl _ _).drew))
      clear HO11
      have kT : ∀ W, (W.cell? ⟨w.heap.size, 0, none⟩ = some (.int .i64 S) ∧ W.cell? ⟨w.heap.size, 1, none⟩ = some (.float .f32 L) ∧ W.cell? ⟨w.heap.size, 2, none⟩ = some (.float .f32 H) ∧ W.cell? ⟨w.heap.size, 3, none⟩ = some (.slice A n c) ∧ W.cell? ⟨w.heap.size + 1, 0, none⟩ = some (.float .f32 (p 0)) ∧ W.cell? ⟨w.heap.size + 1, 1, none⟩ = some (.float .f32 (p 1)) ∧ W.cell? ⟨w.heap.size + 1, 2, none⟩ = some (.float .f32 (p 2)) ∧ W.cell? ⟨w.heap.size + 1, 3, none⟩ = some (.float .f32 (p 3)) ∧ W.cell? ⟨Bt, 0, none⟩ = some (.float .f32 (T 0)) ∧ W.cell? ⟨Bt, 1, none⟩ = some (.float .f32 (T 1)) ∧ W.cell? ⟨Bt, 2, none⟩ = some (.float .f32 (T 2)) ∧ W.cell? ⟨Bt, 3, none⟩ = some (.float .f32 (T 3)) ∧ W.cell? ⟨By, 0, none⟩ = some (.float .f32 (Y 0)) ∧ W.cell? ⟨By, 1, none⟩ = some (.float .f32 (Y 1)) ∧ W.cell? ⟨By, 2, none⟩ = some (.float .f32 (Y 2)) ∧ W.cell? ⟨By, 3, none⟩ = some (.float .f32 (Y 3)) ∧ O W) → Calls Try.prog 23 #[cub S L H A n c, .agg #[.float .f32 (p 0), .float .f32 (p 1), .float .f32 (p 2), .float .f32 (p 3)]] W fun e w' => e = .returned (.agg #[.float .f32 (T 0), .float .f32 (T 1), .float .f32 (T 2), .float .f32 (T 3)]) ∧ Below W.heap.size W w' := fun W hS => by
        have := HZ.out.2.2.2.2.2.2.2.1 W ((HO.out W).1 hS.2.2.2.2.2.2.2.2.2.2.2.2.2.2.2.2).lc.be
        rw [pix_cells p, pix_cells T] at this; exact this
      have kY : ∀ W, (W.cell? ⟨w.heap.size, 0, none⟩ = some (.int .i64 S) ∧ W.cell? ⟨w.heap.size, 1, none⟩ = some (.float .f32 L) ∧ W.cell? ⟨w.heap.size, 2, none⟩ = some (.float .f32 H) ∧ W.cell? ⟨w.heap.size, 3, none⟩ = some (.slice A n c) ∧ W.cell? ⟨w.heap.size + 1, 0, none⟩ = some (.float .f32 (p 0)) ∧ W.cell? ⟨w.heap.size + 1, 1, none⟩ = some (.float .f32 (p 1)) ∧ W.cell? ⟨w.heap.size + 1, 2, none⟩ = some (.float .f32 (p 2)) ∧ W.cell? ⟨w.heap.size + 1, 3, none⟩ = some (.float .f32 (p 3)) ∧ W.cell? ⟨Bt, 0, none⟩ = some (.float .f32 (T 0)) ∧ W.cell? ⟨Bt, 1, none⟩ = some (.float .f32 (T 1)) ∧ W.cell? ⟨Bt, 2, none⟩ = some (.float .f32 (T 2)) ∧ W.cell? ⟨Bt, 3, none⟩ = some (.float .f32 (T 3)) ∧ W.cell? ⟨By, 0, none⟩ = some (.float .f32 (Y 0)) ∧ W.cell? ⟨By, 1, none⟩ = some (.float .f32 (Y 1)) ∧ W.cell? ⟨By, 2, none⟩ = some (.float .f32 (Y 2)) ∧ W.cell? ⟨By, 3, none⟩ = some (.float .f32 (Y 3)) ∧ O W) → Calls Try.prog 24 #[cub S L H A n c, .agg #[.float .f32 (p 0), .float .f32 (p 1), .float .f32 (p 2), .float .f32 (p 3)]] W fun e w' => e = .returned (.agg #[.float .f32 (Y 0), .float .f32 (Y 1), .float .f32 (Y 2), .float .f32 (Y 3)]) ∧ Below W.heap.size W w' := fun W hS => by
        have := HZ.out.2.2.2.2.2.2.2.2 W ((HO.out W).1 hS.2.2.2.2.2.2.2.2.2.2.2.2.2.2.2.2).lc.be
        rw [pix_cells p, pix_cells Y] at this; exact this
      have kTT : ∀ W, Calls Try.prog 22 #[.agg #[.float .f32 (T 0), .float .f32 (T 1), .float .f32 (T 2), .float .f32 (T 3)], .agg #[.float .f32 (T 0), .float .f32 (T 1), .float .f32 (T 2), .float .f32 (T 3)]] W fun e w' => e = .returned (.bool true) ∧ Below W.heap.size W w' := fun W => by
        have := samePix_any T T (fun _ _ => rfl) W
        rw [pix_cells T] at this; exact this
      have kYY : ∀ W, Calls Try.prog 22 #[.agg #[.float .f32 (Y 0), .float .f32 (Y 1), .float .f32 (Y 2), .float .f32 (Y 3)], .agg #[.float .f32 (Y 0), .float .f32 (Y 1), .float .f32 (Y 2), .float .f32 (Y 3)]] W fun e w' => e = .returned (.bool true) ∧ Below W.heap.size W w' := fun W => by
        have := samePix_any Y Y (fun _ _ => rfl) W
        rw [pix_cells Y] at this; exact this
      have HKP : RowKit.Hid (∀ W W', (W.cell? ⟨w.heap.size, 0, none⟩ = some (.int .i64 S) ∧ W.cell? ⟨w.heap.size, 1, none⟩ = some (.float .f32 L) ∧ W.cell? ⟨w.heap.size, 2, none⟩ = some (.float .f32 H) ∧ W.cell? ⟨w.heap.size, 3, none⟩ = some (.slice A n c) ∧ W.cell? ⟨w.heap.size + 1, 0, none⟩ = some (.float .f32 (p 0)) ∧ W.cell? ⟨w.heap.size + 1, 1, none⟩ = some (.float .f32 (p 1)) ∧ W.cell? ⟨w.heap.size + 1, 2, none⟩ = some (.float .f32 (p 2)) ∧ W.cell? ⟨w.heap.size + 1, 3, none⟩ = some (.float .f32 (p 3)) ∧ W.cell? ⟨Bt, 0, none⟩ = some (.float .f32 (T 0)) ∧ W.cell? ⟨Bt, 1, none⟩ = some (.float .f32 (T 1)) ∧ W.cell? ⟨Bt, 2, none⟩ = some (.float .f32 (T 2)) ∧ W.cell? ⟨Bt, 3, none⟩ = some (.float .f32 (T 3)) ∧ W.cell? ⟨By, 0, none⟩ = some (.float .f32 (Y 0)) ∧ W.cell? ⟨By, 1, none⟩ = some (.float .f32 (Y 1)) ∧ W.cell? ⟨By, 2, none⟩ = some (.float .f32 (Y 2)) ∧ W.cell? ⟨By, 3, none⟩ = some (.float .f32 (Y 3)) ∧ O W) → Below W.heap.size W W' → (fun W : World => W.cell? ⟨w.heap.size, 0, none⟩ = some (.int .i64 S) ∧ W.cell? ⟨w.heap.size, 1, none⟩ = some (.float .f32 L) ∧ W.cell? ⟨w.heap.size, 2, none⟩ = some (.float .f32 H) ∧ W.cell? ⟨w.heap.size, 3, none⟩ = some (.slice A n c) ∧ W.cell? ⟨w.heap.size + 1, 0, none⟩ = some (.float .f32 (p 0)) ∧ W.cell? ⟨w.heap.size + 1, 1, none⟩ = some (.float .f32 (p 1)) ∧ W.cell? ⟨w.heap.size + 1, 2, none⟩ = some (.float .f32 (p 2)) ∧ W.cell? ⟨w.heap.size + 1, 3, none⟩ = some (.float .f32 (p 3)) ∧ W.cell? ⟨Bt, 0, none⟩ = some (.float .f32 (T 0)) ∧ W.cell? ⟨Bt, 1, none⟩ = some (.float .f32 (T 1)) ∧ W.cell? ⟨Bt, 2, none⟩ = some (.float .f32 (T 2)) ∧ W.cell? ⟨Bt, 3, none⟩ = some (.float .f32 (T 3)) ∧ W.cell? ⟨By, 0, none⟩ = some (.float .f32 (Y 0)) ∧ W.cell? ⟨By, 1, none⟩ = some (.float .f32 (Y 1)) ∧ W.cell? ⟨By, 2, none⟩ = some (.float .f32 (Y 2)) ∧ W.cell? ⟨By, 3, none⟩ = some (.float .f32 (Y 3)) ∧ O W) W') := hid fun W W' h hb => HK.out _ (HOB.out _ _ h.2.2.2.2.2.2.2.2.2.2.2.2.2.2.2.2 hb)
      have HEND : RowKit.Hid (∀ W, O W → Below w.heap.size w W) := hid fun W h => ((HO.out W).1 h).lc.be
      obtain ⟨e1, e2⟩ : et = 0 ∧ ey = 0 := ⟨HZ.out.2.2.1, HZ.out.2.2.2.1⟩
      subst e1 e2
      clear HZ
      go_region_held3 (fun W => W.cell? ⟨w.heap.size, 0, none⟩ = some (.int .i64 S) ∧ W.cell? ⟨w.heap.size, 1, none⟩ = some (.float .f32 L) ∧ W.cell? ⟨w.heap.size, 2, none⟩ = some (.float .f32 H) ∧ W.cell? ⟨w.heap.size, 3, none⟩ = some (.slice A n c) ∧ W.cell? ⟨w.heap.size + 1, 0, none⟩ = some (.float .f32 (p 0)) ∧ W.cell? ⟨w.heap.size + 1, 1, none⟩ = some (.float .f32 (p 1)) ∧ W.cell? ⟨w.heap.size + 1, 2, none⟩ = some (.float .f32 (p 2)) ∧ W.cell? ⟨w.heap.size + 1, 3, none⟩ = some (.float .f32 (p 3)) ∧ W.cell? ⟨Bt, 0, none⟩ = some (.float .f32 (T 0)) ∧ W.cell? ⟨Bt, 1, none⟩ = some (.float .f32 (T 1)) ∧ W.cell? ⟨Bt, 2, none⟩ = some (.float .f32 (T 2)) ∧ W.cell? ⟨Bt, 3, none⟩ = some (.float .f32 (T 3)) ∧ W.cell? ⟨By, 0, none⟩ = some (.float .f32 (Y 0)) ∧ W.cell? ⟨By, 1, none⟩ = some (.float .f32 (Y 1)) ∧ W.cell? ⟨By, 2, none⟩ = some (.float .f32 (Y 2)) ∧ W.cell? ⟨By, 3, none⟩ = some (.float .f32 (Y 3)) ∧ O W)
        (first | exact HS0.out | assumption | exact HKP.out _ _ (by assumption) (by assumption) | exact HKP.out _ _ (by assumption) (Below.refl _ _).drew)
        (first | (go_at_call 21; refine (same_yes _ _ rfl _).mono ?_; rintro e w5 ⟨rfl, rfl⟩) | (go_at_call 23; refine (kT _ (by first | assumption | (go_split_ands; assumption))).mono ?_; clear kT; rintro e w5 ⟨rfl, hb⟩) | (go_at_call 24; refine (kY _ (by first | assumption | (go_split_ands; assumption))).mono ?_; clear kY; rintro e w5 ⟨rfl, hb⟩) | (go_at_call 22; refine (kTT _).mono ?_; clear kTT; rintro e w5 ⟨rfl, hb⟩) | (go_at_call 22; refine (kYY _).mono ?_; clear kYY; rintro e w5 ⟨rfl, hb⟩))
      all_goals
        go_wp2_with fail
        go_ret
        exact ⟨rfl, HEND.out _ (by go_split_ands; assumption)⟩
end Go.Proofs.Ythnbfllhmjpbjaa
