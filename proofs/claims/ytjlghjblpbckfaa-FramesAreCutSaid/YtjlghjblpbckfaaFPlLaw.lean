/-
  The law of planes.
-/
import Derived.Test.YtjlghjblpbckfaaFFrom
import Derived.Test.YtjlghjblpbckfaaFFit
namespace Go.Proofs.Ytjlghjblpbckfaa
open Go.RowKit Go.Shelf
attribute [local go_sem] run_store_float
attribute [local go_sem ↓] Go.wp_at_zero Go.wp_at_succ

/-- What fit made, sides as natural numbers. -/
theorem fit_nat {w w' : World} {e : Ending} (h : Fitted w e w') : ∃ (X Y : Int) (p q m gb : Nat) (g : Nat → Nat), e = .returned (frm X Y p q (some ⟨gb, 0, none⟩) (4 * m) (4 * m)) ∧ frmE X Y p q (4 * m) = 0 ∧ regE X Y p q = 0 ∧ m = p * q ∧ 0 < m ∧ m ≤ 64 ∧ 0 < p ∧ p ≤ 8 ∧ 0 < q ∧ q ≤ 8 ∧
    -1000 ≤ X ∧ X ≤ 1000 ∧ -1000 ≤ Y ∧ Y ≤ 1000 ∧ w.heap.size ≤ gb ∧ gb < w'.heap.size ∧ Rd w' gb 0 (4 * m) g ∧ Below w.heap.size w w' := by
  obtain ⟨X, Y, p, q, gb, N, g, rfl, x1, x2, y1, y2, p1, p2, q1, q2, hN, h1, h2, h3, h4⟩ := h
  obtain ⟨p', rfl⟩ := Int.eq_ofNat_of_zero_le (show 0 ≤ p by omega)
  obtain ⟨q', rfl⟩ := Int.eq_ofNat_of_zero_le (show 0 ≤ q by omega)
  have e1 : (N : Int) = ((4 * (p' * q') : Nat) : Int) := by rw [hN, Int.mul_assoc]; simp
  have e2 : N = 4 * (p' * q') := by omega
  subst e2
  have hpos : 0 < p' * q' := Nat.mul_pos (by omega) (by omega)
  have hle : p' * q' ≤ 8 * 8 := Nat.mul_le_mul (by omega) (by omega)
  have u : (p' : Int) * (q' : Int) ≤ 64 := by have := Int.mul_le_mul p2 q2 (by omega) (by omega); omega
  have hr : regE X Y p' q' = 0 := regE_ok (sideB_true.2 ⟨p1, by omega⟩) (sideB_true.2 ⟨q1, by omega⟩) (by omega) (atB_true.2 ⟨by omega, by omega⟩) (atB_true.2 ⟨by omega, by omega⟩)
  exact ⟨X, Y, p', q', p' * q', gb, g, rfl, frmE_ok hr hN, hr, rfl, hpos, hle, by omega, by omega, by omega, by omega, x1, x2, y1, y2, h1, h2, h3, h4⟩

theorem Src.far {w : World} {b off n : Nat} {F : Nat → Nat} (h : Src w (some ⟨b, off, none⟩) n F) {G : Nat} (hG : b ≠ G) (o : Nat) (u : Value) : Src (w.setCell ⟨G, o, none⟩ u) (some ⟨b, off, none⟩) n F := fun hn => by
  obtain ⟨b', off', e, hlt, hr⟩ := h hn
  simp at e
  obtain ⟨rfl, rfl⟩ := e
  refine ⟨b, off, rfl, by simpa [World.setCell] using hlt, fun i hi => ?_⟩
  rw [World.cell?_setCell_other w ⟨G, o, none⟩ ⟨b, off + i, none⟩ u (fun e => hG (by injection e with e1; exact e1.symm))]
  exact hr i hi
theorem Src.far5 {w : World} {b off n : Nat} {F : Nat → Nat} (h : Src w (some ⟨b, off, none⟩) n F) {G : Nat} (hG : b ≠ G) (u0 u1 u2 u3 u4 : Value) :
    Src (((((w.setCell ⟨G, 0, none⟩ u0).setCell ⟨G, 1, none⟩ u1).setCell ⟨G, 2, none⟩ u2).setCell ⟨G, 3, none⟩ u3).setCell ⟨G, 4, none⟩ u4) (some ⟨b, off, none⟩) n F :=
  ((((h.far hG 0 u0).far hG 1 u1).far hG 2 u2).far hG 3 u3).far hG 4 u4
theorem Src.lt {w : World} {b off n : Nat} {F : Nat → Nat} (h : Src w (some ⟨b, off, none⟩) n F) (hn : 0 < n) : b < w.heap.size := by
  obtain ⟨b', off', e, hlt, _⟩ := h hn
  simp at e
  obtain ⟨rfl, rfl⟩ := e
  exact hlt
theorem Blk.far5 {w : World} {g : Nat} {t : TypeId} {cs : Array Value} (h : Blk w g t cs) {G : Nat} (hG : g ≠ G) (u0 u1 u2 u3 u4 : Value) :
    Blk (((((w.setCell ⟨G, 0, none⟩ u0).setCell ⟨G, 1, none⟩ u1).setCell ⟨G, 2, none⟩ u2).setCell ⟨G, 3, none⟩ u3).setCell ⟨G, 4, none⟩ u4) g t cs :=
  ((((h.far (p := ⟨G, 0, none⟩) hG u0).far (p := ⟨G, 1, none⟩) hG u1).far (p := ⟨G, 2, none⟩) hG u2).far (p := ⟨G, 3, none⟩) hG u3).far (p := ⟨G, 4, none⟩) hG u4

set_option maxRecDepth 100000 in
/-- FromPlanes of whatever planes. -/
theorem fromPlanes_any (x y a b : Int) (A : Nat → Option Addr) (n c : Nat → Nat) (F : Nat → Nat → Nat) (w : World) (hF : ∀ k, k < 4 → Src w (A k) (n k) (F k)) :
    Calls Try.prog 46 #[reg x y a b, .agg (pls A n c)] w (FromSome w (plK x y a b n 4)) := by
  by_cases h : regE x y a b = 0
  · by_cases h2 : ∀ j, j < 4 → (n j : Int) = a * b
    · obtain ⟨a1, a2, b1, b2, ab, _⟩ := regE_zero h
      obtain ⟨p, rfl⟩ := Int.eq_ofNat_of_zero_le (show 0 ≤ a by omega)
      obtain ⟨q, rfl⟩ := Int.eq_ofNat_of_zero_le (show 0 ≤ b by omega)
      have e : ∀ j, j < 4 → n j = p * q := fun j hj => by
        have := h2 j hj
        have e2 : ((n j : Nat) : Int) = ((p * q : Nat) : Int) := by rw [this]; simp
        omega
      have ep : pls A n c = pls A (fun _ => p * q) c := by unfold pls; rw [e 0 (by omega), e 1 (by omega), e 2 (by omega), e 3 (by omega)]
      rw [ep]
      refine (fromPlanes_ok x y p q (p * q) A c F w h rfl (fun k hk => by rw [← e k hk]; exact hF k hk)).mono ?_
      rintro e1 w1 ⟨fb, fc, rfl, r1, r2, r3, r4, r5, r6⟩
      rw [plK_ok h h2]
      exact ⟨x, y, p, q, _, _, _, rfl, fun hh => absurd rfl hh, r6⟩
    · exact fromPlanes_form x y a b A n c w h h2
  · exact fromPlanes_bad x y a b A n c w h

/-- The boxes of the law: the fitted frame, the region, the planes. -/
def PSt (w : World) (X Y : Int) (p q gb N : Nat) (g : Nat → Nat) (x y a b : Int) (A : Nat → Option Addr) (n c : Nat → Nat) (w2 : World) : Prop :=
  Blk w2 w.heap.size 39 #[.int .i64 X, .int .i64 Y, .int .i64 p, .int .i64 q, .slice (some ⟨gb, 0, none⟩) N N] ∧ Blk w2 (w.heap.size + 1) 23 #[.int .i64 x, .int .i64 y, .int .i64 a, .int .i64 b] ∧
    Blk w2 (w.heap.size + 1 + 1) 65 (pls A n c) ∧ Src w2 (some ⟨gb, 0, none⟩) N g ∧ Below w.heap.size w w2
section
variable {w w2 w3 : World} {X Y : Int} {p q gb N : Nat} {g : Nat → Nat} {x y a b : Int} {A : Nat → Option Addr} {n c : Nat → Nat}
theorem PSt.below (h : PSt w X Y p q gb N g x y a b A n c w2) (hb : Below w2.heap.size w2 w3) : PSt w X Y p q gb N g x y a b A n c w3 :=
  ⟨h.1.below hb h.1.lt, h.2.1.below hb h.2.1.lt, h.2.2.1.below hb h.2.2.1.lt, h.2.2.2.1.below hb, below_to h.2.2.2.2 hb⟩
theorem PSt.far (h : PSt w X Y p q gb N g x y a b A n c w2) {G : Nat} (hG : w.heap.size + 3 ≤ G) (hgb : gb ≠ G) (o : Nat) (u : Value) : PSt w X Y p q gb N g x y a b A n c (w2.setCell ⟨G, o, none⟩ u) :=
  ⟨h.1.far (by simp; omega) _, h.2.1.far (by simp; omega) _, h.2.2.1.far (by simp; omega) _, h.2.2.2.1.far hgb _ _, h.2.2.2.2.setCell (by simp; omega) _⟩
theorem PSt.far5 (h : PSt w X Y p q gb N g x y a b A n c w2) {G : Nat} (hG : w.heap.size + 3 ≤ G) (hgb : gb ≠ G) (u0 u1 u2 u3 u4 : Value) : PSt w X Y p q gb N g x y a b A n c (((((w2.setCell ⟨G, 0, none⟩ u0).setCell ⟨G, 1, none⟩ u1).setCell ⟨G, 2, none⟩ u2).setCell ⟨G, 3, none⟩ u3).setCell ⟨G, 4, none⟩ u4) :=
  ((((h.far hG hgb 0 u0).far hG hgb 1 u1).far hG hgb 2 u2).far hG hgb 3 u3).far hG hgb 4 u4
theorem PSt.alloc (h : PSt w X Y p q gb N g x y a b A n c w2) (o : Obj) : PSt w X Y p q gb N g x y a b A n c (w2.alloc o) := h.below ((Below.refl _ _).alloc (Nat.le_refl _) o)
theorem PSt.drewN (h : PSt w X Y p q gb N g x y a b A n c w2) (k : Nat) : PSt w X Y p q gb N g x y a b A n c (w2.drewN k) := h.below (below_drewN (Below.refl _ _) k)
end

set_option maxRecDepth 100000 in
set_option maxHeartbeats 4000000 in
theorem planes_any (x0 y0 a0 b0 : Int) (A0 : Option Addr) (n0 c0 : Nat) (F0 : Nat → Nat) (ch : Int) (x y a b : Int) (A : Nat → Option Addr) (n c : Nat → Nat) (F : Nat → Nat → Nat) (w : World) (hF0 : Src w A0 n0 F0) (hF : ∀ k, k < 4 → Src w (A k) (n k) (F k)) :
    Calls Try.prog 6 #[frm x0 y0 a0 b0 A0 n0 c0, .int .i64 ch, reg x y a b, .agg (pls A n c)] w fun e w' => e = .returned (.bool true) ∧ Below w.heap.size w w' := by
  obtain ⟨wb, hwb⟩ : ∃ wb, wb = (((w.alloc (.cells #[.int .i64 x0, .int .i64 y0, .int .i64 a0, .int .i64 b0, .slice A0 n0 c0] 39)).alloc (.cells #[.int .i64 x, .int .i64 y, .int .i64 a, .int .i64 b] 23)).alloc (.cells (pls A n c) 65)) := ⟨_, rfl⟩
  have b0' : Blk wb w.heap.size 39 #[.int .i64 x0, .int .i64 y0, .int .i64 a0, .int .i64 b0, .slice A0 n0 c0] := by rw [hwb]; exact ((Blk.new_at _ _ _ rfl).alloc _).alloc _
  have b1' : Blk wb (w.heap.size + 1) 23 #[.int .i64 x, .int .i64 y, .int .i64 a, .int .i64 b] := by rw [hwb]; exact (Blk.new_at _ _ _ (by simp)).alloc _
  have b2' : Blk wb (w.heap.size + 1 + 1) 65 (pls A n c) := by rw [hwb]; exact Blk.new_at _ _ _ (by simp)
  have hbel : Below w.heap.size w wb := by rw [hwb]; exact (((Below.refl _ _).alloc (Nat.le_refl _) _).alloc (by simp) _).alloc (by simp; omega) _
  have hsz : wb.heap.size = w.heap.size + 3 := by rw [hwb]; simp
  have HWB := hid hwb
  have HB0 := hid b0'
  have HB1 := hid b1'
  have HB2 := hid b2'
  have HBE := hid hbel
  have HF0 := hid (hF0.below hbel)
  have HF : RowKit.Hid (∀ w2, Below w.heap.size w w2 → ∀ k, k < 4 → Src w2 (A k) (n k) (F k)) := hid fun w2 hb k hk => (hF k hk).below hb
  have HSZ := hid hsz
  clear hwb b0' b1' b2' hbel hF0 hF hsz
  go_enter Try.func6, Try.ntmps6
  go_wp2_with fail
  rw [← HWB.out]
  refine (landed_any _).mono ?_
  rintro e w' ⟨rfl, rfl⟩
  have e0 := HB0.out.cell 0
  have e1 := HB0.out.cell 1
  have e2 := HB0.out.cell 2
  have e3 := HB0.out.cell 3
  have e4 := HB0.out.cell 4
  simp at e0 e1 e2 e3 e4
  go_wp2_with fail
  refine (fit_any _ _ _ _ _ _ _ F0 _ HF0.out).mono ?_
  rintro e w1 hfit
  obtain ⟨X, Y, p, q, m, gb, g, rfl, hok, hreg, hpq, hm0, hm2, p1, p2, q1, q2, x1, x2, y1, y2, hgb, hgl, hrd, hb1⟩ := fit_nat hfit
  clear hfit e0 e1 e2 e3 e4
  have HOK := hid hok
  have HREG := hid hreg
  have HPQ := hid hpq
  have HB10 := hid (HB0.out.below hb1 HB0.out.lt)
  have e0 := HB10.out.cell 0
  have e1 := HB10.out.cell 1
  have e2 := HB10.out.cell 2
  have e3 := HB10.out.cell 3
  have e4 := HB10.out.cell 4
  have f0 := fun i => HB10.out.frozen i
  simp at e0 e1 e2 e3 e4
  have hgw : w.heap.size + 3 ≤ gb := by have := HSZ.out; omega
  have HST : RowKit.Hid (PSt w X Y p q gb (4 * m) g x y a b A n c (((((w1.setCell ⟨w.heap.size, 0, none⟩ (.int .i64 X)).setCell ⟨w.heap.size, 1, none⟩ (.int .i64 Y)).setCell ⟨w.heap.size, 2, none⟩ (.int .i64 p)).setCell ⟨w.heap.size, 3, none⟩ (.int .i64 q)).setCell ⟨w.heap.size, 4, none⟩ (.slice (some ⟨gb, 0, none⟩) (4 * m) (4 * m)))) := by
    refine ⟨HB10.out.set5 _ _ _ _ _, ?_, ?_, Src.of_rd (hrd.far5 (by omega) _ _ _ _ _) (by rw [size_set5]; exact hgl), below_set5 (below_to HBE.out hb1) (Nat.le_refl _) _ _ _ _ _⟩
    · exact ((((((HB1.out.below hb1 HB1.out.lt).far (by simp) _).far (by simp) _).far (by simp) _).far (by simp) _).far (by simp) _)
    · exact ((((((HB2.out.below hb1 HB2.out.lt).far (by simp; omega) _).far (by simp; omega) _).far (by simp; omega) _).far (by simp; omega) _).far (by simp; omega) _)
  clear hok hreg hpq hrd hb1 hgl HWB HB0 HB1 HB2 HBE HF0 HSZ
  go_wp2_with fail
  generalize (((((w1.setCell ⟨w.heap.size, 0, none⟩ (.int .i64 X)).setCell ⟨w.heap.size, 1, none⟩ (.int .i64 Y)).setCell ⟨w.heap.size, 2, none⟩ (.int .i64 p)).setCell ⟨w.heap.size, 3, none⟩ (.int .i64 q)).setCell ⟨w.heap.size, 4, none⟩ (.slice (some ⟨gb, 0, none⟩) (4 * m) (4 * m))) = w2 at HST ⊢
  clear HB10 e0 e1 e2 e3 e4 f0
  have HPL : RowKit.Hid (∀ (w3 : World) (k : Nat), PSt w X Y p q gb (4 * m) g x y a b A n c w3 → k < 4 → Calls Try.prog 43 #[frm X Y p q (some ⟨gb, 0, none⟩) (4 * m) (4 * m), .int .i64 k] w3 (PlanedOk w3 m fun j => cl (g (k + 4 * j)))) :=
    hid fun w3 k h hk => plane_yes X Y p q _ _ _ k m g w3 HOK.out (by rw [HPQ.out]; simp) hm0 rfl (by omega) hk h.2.2.2.1
  by_cases hch : ch < 0 ∨ 3 < ch
  case' pos =>
    refine (plane_no X Y p q _ _ _ ch _ HOK.out hch).mono ?_
    rintro e w3 ⟨rfl, hb3⟩
    have HS3 := hid (HST.out.below hb3)
    clear hb3
    rcases hch with hch | hch
  case' neg =>
    obtain ⟨cn, rfl⟩ := Int.eq_ofNat_of_zero_le (show 0 ≤ ch by omega)
    have hc4 : cn < 4 := by omega
    have t1 : decide ((cn : Int) < 0) = false := by simp
    have t2 : decide (3 < (cn : Int)) = false := by simp; omega
    clear hch
    refine (HPL.out _ cn HST.out hc4).mono ?_
    rintro e w3a ⟨pb, pc, rfl, r1, r2, r3, r4, r5, r6⟩
    have HS3a := hid (HST.out.below r6)
    have hx := HS3a.out.1
    have e0 := hx.cell 0
    have e1 := hx.cell 1
    have e2 := hx.cell 2
    have e3 := hx.cell 3
    have e4 := hx.cell 4
    simp at e0 e1 e2 e3 e4
    have HRL := hid (Src.of_rd r5 r4)
    clear r1 r2 r3 r4 r5 r6 hx
    go_wp2_with fail
    refine (planer_any X Y p q _ _ _ cn m g _ hm0 rfl (by omega) hc4 HS3a.out.2.2.2.1).mono ?_
    rintro e w3 ⟨pb2, pc2, rfl, r1, r2, r3, r4, r5, r6⟩
    have HS3 := hid (HS3a.out.below r6)
    have HEQ := hid (equalFunc_yes m pc pc2 (some ⟨pb, 0, none⟩) (some ⟨pb2, 0, none⟩) (fun j => cl (g (cn + 4 * j))) (fun j => cl (g (cn + 4 * j))) w3 (by omega) (HRL.out.below r6) (Src.of_rd r5 r4) (fun _ _ => rfl))
    clear r1 r2 r3 r4 r5 r6 HRL HS3a e0 e1 e2 e3 e4
    go_wp2_with fail
    refine HEQ.out.mono ?_
    rintro e w' ⟨rfl, rfl⟩
    clear HEQ
  all_goals
    clear HST
    have hgb3 : gb ≠ w3.heap.size := by have := HS3.out.2.2.2.1.lt (by omega); omega
    have hz3 : w.heap.size + 3 ≤ w3.heap.size := HS3.out.2.2.1.lt
    go_wp2
    go_loopw [50] (fun i wr => ∃ (k : Nat) (bs cs : Nat → Nat), k ≤ 4 ∧ i = .int .i64 k ∧ PSt w X Y p q gb (4 * m) g x y a b A n c wr ∧ wr.rowIs w3.heap.size 65 4 (fun j => if j < k then .slice (some ⟨bs j, 0, none⟩) m (cs j) else .slice none 0 0) ∧
        (∀ j, j < k → Src wr (some ⟨bs j, 0, none⟩) m (fun i => cl (g (j + 4 * i)))) ∧ ∀ j, j < k → w3.heap.size < bs j) (fun i _ => 4 - (intOf i).toNat)
    case atStart =>
      refine ⟨0, fun _ => 0, fun _ => 0, by omega, rfl, HS3.out.alloc _, ?_, fun j hj => absurd hj (by omega), fun j hj => absurd hj (by omega)⟩
      refine World.rowIs.congr (f := fun _ => .slice none 0 0) ?_ (fun i _ => by simp)
      exact row4_of_blk (f := fun _ => .slice none 0 0) (Blk.new_at _ _ _ rfl)
    case round =>
      obtain ⟨k, bs, cs, hk, rfl, hst, hrow, hsrc, hbs⟩ := hrel
      have HBS := hid hbs
      have HST := hid hst
      have HROW := hid hrow
      have HSRC := hid hsrc
      have e0 := hst.1.cell 0
      have e1 := hst.1.cell 1
      have e2 := hst.1.cell 2
      have e3 := hst.1.cell 3
      have e4 := hst.1.cell 4
      simp at e0 e1 e2 e3 e4
      by_cases hk4 : k < 4
      · clear hst hrow hsrc hbs
        go_wp2_with fail
        refine (HPL.out _ k HST.out hk4).mono ?_
        rintro e w4 ⟨pb, pc, rfl, r1, r2, r3, r4, r5, r6⟩
        have HST4 := hid (HST.out.below r6)
        have hrow4 := rowIs_below HROW.out r6 HROW.out.lt
        have HROW4 := hid hrow4
        have HB4 := hid r6
        have HSP := hid (Src.of_rd r5 r4)
        have cc := hrow4.cell hk4
        have fr := hrow4.frozen k
        simp at cc
        have hw3 := HROW.out.lt
        have hpb : w3.heap.size < pb := by omega
        clear r1 r2 r3 r4 r5 r6 hrow4
        go_wp2
        go_roundw
        case rel =>
          refine ⟨k + 1, fun j => if j = k then pb else bs j, fun j => if j = k then pc else cs j, by omega, by go_num, HST4.out.far hz3 hgb3 _ _, ?_, ?_, ?_⟩
          · refine World.rowIs.congr (HROW4.out.set k _) (fun i _ => ?_)
            by_cases hik : i = k
            · subst hik; simp
            · by_cases h : i < k
              · simp [hik, h, show i < k + 1 by omega]
              · simp [hik, h, show ¬ i < k + 1 by omega]
          · intro j hj
            by_cases hjk : j = k
            · subst hjk
              simp only [if_true]
              exact HSP.out.far (by omega) _ _
            · have hj2 : j < k := by omega
              simp only [if_neg hjk]
              exact ((HSRC.out j hj2).below HB4.out).far (by have := HBS.out j hj2; omega) _ _
          · intro j hj
            by_cases hjk : j = k
            · subst hjk
              simp only [if_true]
              exact hpb
            · have hj2 : j < k := by omega
              simp only [if_neg hjk]
              exact HBS.out j hj2
        case measure => simp [intOf]; omega
      · have hk5 : k = 4 := by omega
        subst hk5
        have d0 := hrow.cell (i := 0) (by omega)
        have d1 := hrow.cell (i := 1) (by omega)
        have d2 := hrow.cell (i := 2) (by omega)
        have d3 := hrow.cell (i := 3) (by omega)
        simp at d0 d1 d2 d3
        have HFP := hid (fromPlanes_ok X Y p q m (fun j => some ⟨bs j, 0, none⟩) cs (fun k i => cl (g (k + 4 * i))) wr HREG.out HPQ.out hsrc)
        clear hst hrow hsrc hbs
        go_wp2_with fail
        refine HFP.out.mono ?_
        rintro e w5 ⟨fb, fc, rfl, r1, r2, r3, r4, r5, r6⟩
        have HST5 := hid (HST.out.below r6)
        have HFR := hid (Src.of_rd r5 r4)
        have hst5 := HST5.out
        have e0 := hst5.1.cell 0
        have e1 := hst5.1.cell 1
        have e2 := hst5.1.cell 2
        have e3 := hst5.1.cell 3
        have e4 := hst5.1.cell 4
        simp at e0 e1 e2 e3 e4
        have hl5 := hst5.2.2.1.lt
        clear hst5 r1 r3 r4 r5 r6 HFP d0 d1 d2 d3 HST HROW HSRC HBS
        have HCL : RowKit.Hid (∀ w7, PSt w X Y p q gb (4 * m) g x y a b A n c w7 → Calls Try.prog 42 #[frm X Y p q (some ⟨gb, 0, none⟩) (4 * m) (4 * m)] w7 (Framed w7 X Y p q (4 * m) fun t => cl (g t))) :=
          hid fun w7 h => cleanr_any X Y p q (4 * m) (4 * m) _ g w7 (by rw [HPQ.out]) (Nat.le_refl _) (by unfold maxLen; omega) (by omega) p1 q1 (by omega) (by omega) (by omega) (by omega) (by omega) (by omega) h.2.2.2.1
        have HST6 : RowKit.Hid (∀ o, PSt w X Y p q gb (4 * m) g x y a b A n c (w5.alloc o).drew) := hid fun o => (HST5.out.alloc o).drewN 1
        have HBK6 : RowKit.Hid (Blk (w5.alloc (.cells #[.int .i64 X, .int .i64 Y, .int .i64 p, .int .i64 q, .slice (some ⟨fb, 0, none⟩) (4 * m) fc] 39)) w5.heap.size 39 #[.int .i64 X, .int .i64 Y, .int .i64 p, .int .i64 q, .slice (some ⟨fb, 0, none⟩) (4 * m) fc]) := Blk.new_at _ _ _ rfl
        have HFR6 : RowKit.Hid (∀ o, Src (w5.alloc o).drew (some ⟨fb, 0, none⟩) (4 * m) (fun t => cl (cl (g (t % 4 + 4 * (t / 4)))))) := hid fun o => HFR.out.below (((Below.refl _ _).alloc (Nat.le_refl _) o).drew)
        have hl6 : w.heap.size < w5.heap.size := by omega
        have hgb5 : gb ≠ w5.heap.size := by have := HST5.out.2.2.2.1.lt (by omega); omega
        have dd0 := fun o => (World.cell?_alloc_lt w5 o ⟨w.heap.size, 0, none⟩ hl6).trans e0
        have dd1 := fun o => (World.cell?_alloc_lt w5 o ⟨w.heap.size, 1, none⟩ hl6).trans e1
        have dd2 := fun o => (World.cell?_alloc_lt w5 o ⟨w.heap.size, 2, none⟩ hl6).trans e2
        have dd3 := fun o => (World.cell?_alloc_lt w5 o ⟨w.heap.size, 3, none⟩ hl6).trans e3
        have dd4 := fun o => (World.cell?_alloc_lt w5 o ⟨w.heap.size, 4, none⟩ hl6).trans e4
        have HSEQ : RowKit.Hid (∀ t, t < 4 * m → cl (cl (g (t % 4 + 4 * (t / 4)))) = cl (g t)) := hid fun t _ => by rw [cl_cl, Nat.add_comm, Nat.div_add_mod]
        go_wp2
        go_region_with (first
          | (go_at_call 42; refine (HCL.out _ (HST6.out _)).mono ?_; rintro e w7 ⟨cb, cc, rfl, s1, s2, s3, s4, s5, s6⟩
             have HST7 := hid ((HST6.out _).below s6)
             have hbk7 : Blk w7 w5.heap.size 39 #[.int .i64 X, .int .i64 Y, .int .i64 p, .int .i64 q, .slice (some ⟨fb, 0, none⟩) (4 * m) fc] := (s6.block _ (by show w5.heap.size < (World.alloc _ _).heap.size; simp)).trans HBK6.out
             have HFR7 := hid ((HFR6.out _).below s6)
             have HCB7 := hid (Src.of_rd s5 s4)
             have HBK7 := hid hbk7
             have h0 := hbk7.cell 0
             have h1 := hbk7.cell 1
             have h2 := hbk7.cell 2
             have h3 := hbk7.cell 3
             have h4 := hbk7.cell 4
             simp at h0 h1 h2 h3 h4
             clear s1 s2 s3 s4 s5 s6 hbk7)
          | (go_at_call 23; refine (sameFrame_any X Y p q (4 * m) fc cc (some ⟨fb, 0, none⟩) (some ⟨cb, 0, none⟩) _ _ _ (by omega) HFR7.out HCB7.out HSEQ.out).mono ?_; rintro e w8 ⟨rfl, hb8⟩
             have HST8 := hid (HST7.out.below hb8)
             have HBK8 := hid (HBK7.out.below hb8 HBK7.out.lt)
             clear hb8))
        all_goals
          have hst8 := HST8.out
          have q0 : w8.cell? ⟨w.heap.size + 1, 0, none⟩ = some (.int .i64 x) := hst8.2.1.cell 0
          have q1 : w8.cell? ⟨w.heap.size + 1, 1, none⟩ = some (.int .i64 y) := hst8.2.1.cell 1
          have q2 : w8.cell? ⟨w.heap.size + 1, 2, none⟩ = some (.int .i64 a) := hst8.2.1.cell 2
          have q3 : w8.cell? ⟨w.heap.size + 1, 3, none⟩ = some (.int .i64 b) := hst8.2.1.cell 3
          have t0 : w8.cell? ⟨w.heap.size + 1 + 1, 0, none⟩ = some (.slice (A 0) (n 0) (c 0)) := hst8.2.2.1.cell 0
          have t1' : w8.cell? ⟨w.heap.size + 1 + 1, 1, none⟩ = some (.slice (A 1) (n 1) (c 1)) := hst8.2.2.1.cell 1
          have t2' : w8.cell? ⟨w.heap.size + 1 + 1, 2, none⟩ = some (.slice (A 2) (n 2) (c 2)) := hst8.2.2.1.cell 2
          have t3 : w8.cell? ⟨w.heap.size + 1 + 1, 3, none⟩ = some (.slice (A 3) (n 3) (c 3)) := hst8.2.2.1.cell 3
          clear hst8 e0 e1 e2 e3 e4 dd0 dd1 dd2 dd3 dd4 h0 h1 h2 h3 h4
          clear HST7 HFR7 HCB7 HBK7 HST6 HBK6 HFR6 HSEQ HST5 HFR HCL HPL HS3
          go_wp2_with fail
          refine (fromPlanes_any x y a b A n c F w8 (HF.out _ HST8.out.2.2.2.2)).mono ?_
          rintro e w9 ⟨x9, y9, a9, b9, A9, n9, c9, rfl, hn9, hb9⟩
          have HST9 := hid (HST8.out.below hb9)
          have HBK9 := hid (HBK8.out.below hb9 HBK8.out.lt)
          have HN9 := hid hn9
          have k0 : w9.cell? ⟨w5.heap.size, 0, none⟩ = some (.int .i64 X) := HBK9.out.cell 0
          have k1 : w9.cell? ⟨w5.heap.size, 1, none⟩ = some (.int .i64 Y) := HBK9.out.cell 1
          have k2 : w9.cell? ⟨w5.heap.size, 2, none⟩ = some (.int .i64 p) := HBK9.out.cell 2
          have k3 : w9.cell? ⟨w5.heap.size, 3, none⟩ = some (.int .i64 q) := HBK9.out.cell 3
          have k4 : w9.cell? ⟨w5.heap.size, 4, none⟩ = some (.slice (some ⟨fb, 0, none⟩) (4 * m) fc) := HBK9.out.cell 4
          have kf := fun i => HBK9.out.frozen i
          have hst10 := HST9.out.far5 (G := w5.heap.size) (by omega) hgb5 (.int .i64 x9) (.int .i64 y9) (.int .i64 a9) (.int .i64 b9) (.slice A9 n9 c9)
          have HBK10 := hid (HBK9.out.set5 (.int .i64 x9) (.int .i64 y9) (.int .i64 a9) (.int .i64 b9) (.slice A9 n9 c9))
          have HST10 := hid hst10
          have s0 : _ = some (Value.int .i64 x) := hst10.2.1.cell 0
          have s1 : _ = some (Value.int .i64 y) := hst10.2.1.cell 1
          have s2 : _ = some (Value.int .i64 a) := hst10.2.1.cell 2
          have s3 : _ = some (Value.int .i64 b) := hst10.2.1.cell 3
          clear hb9 hn9 hst10 q0 q1 q2 q3 t0 t1' t2' t3 HST8 HBK8
          go_wp2_with fail
          generalize (((((w9.setCell ⟨w5.heap.size, 0, none⟩ (.int .i64 x9)).setCell ⟨w5.heap.size, 1, none⟩ (.int .i64 y9)).setCell ⟨w5.heap.size, 2, none⟩ (.int .i64 a9)).setCell ⟨w5.heap.size, 3, none⟩ (.int .i64 b9)).setCell ⟨w5.heap.size, 4, none⟩ (.slice A9 n9 c9)) = w10 at HST10 HBK10 ⊢
          clear s0 s1 s2 s3 k0 k1 k2 k3 k4 kf HST9 HBK9
          refine (regionError_any _ _ _ _ _).mono ?_
          rintro e w11 ⟨rfl, hb11⟩
          have HST11 := hid (HST10.out.below hb11)
          have HBK11 := hid (HBK10.out.below hb11 HBK10.out.lt)
          have t0 : w11.cell? ⟨w.heap.size + 1 + 1, 0, none⟩ = some (.slice (A 0) (n 0) (c 0)) := HST11.out.2.2.1.cell 0
          have t1' : w11.cell? ⟨w.heap.size + 1 + 1, 1, none⟩ = some (.slice (A 1) (n 1) (c 1)) := HST11.out.2.2.1.cell 1
          have t2' : w11.cell? ⟨w.heap.size + 1 + 1, 2, none⟩ = some (.slice (A 2) (n 2) (c 2)) := HST11.out.2.2.1.cell 2
          have t3 : w11.cell? ⟨w.heap.size + 1 + 1, 3, none⟩ = some (.slice (A 3) (n 3) (c 3)) := HST11.out.2.2.1.cell 3
          have q2 : w11.cell? ⟨w.heap.size + 1, 2, none⟩ = some (.int .i64 a) := HST11.out.2.1.cell 2
          have q3 : w11.cell? ⟨w.heap.size + 1, 3, none⟩ = some (.int .i64 b) := HST11.out.2.1.cell 3
          have k4 : w11.cell? ⟨w5.heap.size, 4, none⟩ = some (.slice A9 n9 c9) := HBK11.out.cell 4
          clear hb11 HST10 HBK10
          go_wp2
          go_loop [14, 87] (fun v i => ∃ k : Nat, k ≤ 4 ∧ i = .int .i64 k ∧ v = .int .i64 (plK x y a b n k)) (fun _ i => 4 - (intOf i).toNat)
          case atStart => exact ⟨0, by omega, rfl, by rw [plK_zero]⟩
          case round =>
            obtain ⟨k, hk, rfl, rfl⟩ := hrel
            by_cases hk4 : k < 4
            · have hidx := run_index_sl (fun i => .slice (A i) (n i) (c i)) k hk4
              by_cases hz : plK x y a b n k = 0
              · obtain ⟨a1, a2, b1, b2, ab, _⟩ := regE_zero (plK_of_zero hz).1
                obtain ⟨g1, g2⟩ := prod_le a1 a2 b1 b2
                have zz1 : (plK x y a b n k == 0) = true := by simp [hz]
                by_cases hnk : (n k : Int) = a * b
                · have zz2 : ((n k : Int) != a * b) = false := by simp [hnk]
                  have HZ := hid (plK_step_yes hz hnk)
                  have HZ0 := hid hz
                  clear hz hnk
                  go_wp2
                  go_round
                  case rel => exact ⟨k + 1, by omega, by go_num, by rw [HZ.out, HZ0.out]⟩
                  case measure => simp [intOf]; omega
                · have zz2 : ((n k : Int) != a * b) = true := by simp [hnk]
                  have HZ := hid (plK_step_no hz hnk)
                  clear hz hnk
                  go_wp2
                  go_round
                  case rel => exact ⟨k + 1, by omega, by go_num, by rw [HZ.out]⟩
                  case measure => simp [intOf]; omega
              · have zz1 : (plK x y a b n k == 0) = false := by simp [hz]
                have HZ := hid (plK_step_off hz)
                clear hz
                go_wp2
                go_round
                case rel => exact ⟨k + 1, by omega, by go_num, by rw [HZ.out]⟩
                case measure => simp [intOf]; omega
            · have hk5 : k = 4 := by omega
              subst hk5
              by_cases hz : plK x y a b n 4 = 0
              · have zz1 : (plK x y a b n 4 == 0) = true := by simp [hz]
                clear hz
                go_wp2
                go_ret
                exact ⟨rfl, HST11.out.2.2.2.2⟩
              · have zz1 : (plK x y a b n 4 == 0) = false := by simp [hz]
                have hn9 := HN9.out hz
                subst hn9
                clear hz
                go_wp2
                go_ret
                exact ⟨rfl, HST11.out.2.2.2.2⟩
end Go.Proofs.Ytjlghjblpbckfaa
