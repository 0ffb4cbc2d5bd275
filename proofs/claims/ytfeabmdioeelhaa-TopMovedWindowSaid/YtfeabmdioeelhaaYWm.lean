/-
  Windows: WindowMatte of the program.
-/
import Derived.Test.YtfeabmdioeelhaaYRow
namespace Go.Proofs.Ytfeabmdioeelhaa
open Go.RowKit Go.Shelf
attribute [local go_sem] run_store_float

abbrev mat (x y a b : Int) (A : Option Addr) (n c : Nat) : Value := .agg #[.int .i64 x, .int .i64 y, .int .i64 a, .int .i64 b, .slice A n c]
abbrev matA (x y a b : Int) (A : Option Addr) (n c : Nat) : Array Value := #[.int .i64 x, .int .i64 y, .int .i64 a, .int .i64 b, .slice A n c]
abbrev zmat : Array Value := #[.int .i64 0, .int .i64 0, .int .i64 0, .int .i64 0, .slice none 0 0]
abbrev regA (x y a b : Int) : Array Value := #[.int .i64 x, .int .i64 y, .int .i64 a, .int .i64 b]

/-- What lies there when WindowMatte has looked at its window. -/
structure WmIn (w : World) (K : Int) (X Y W H S : Nat) (A : Option Addr) (n c : Nat) (o : Bool) (rx ry ra rb : Int) (w1 : World) : Prop where
  wb : Blk w1 w.heap.size 25 (winA K X Y W H S A n c o)
  rg : Blk w1 (w.heap.size + 1) 27 (regA rx ry ra rb)
  rs : Blk w1 (w.heap.size + 2) 31 zmat
  be : Below w.heap.size w w1
theorem WmIn.below {w w1 w2 : World} {K : Int} {X Y W H S : Nat} {A : Option Addr} {n c : Nat} {o : Bool} {rx ry ra rb : Int} (h : WmIn w K X Y W H S A n c o rx ry ra rb w1) (hb : Below w1.heap.size w1 w2) : WmIn w K X Y W H S A n c o rx ry ra rb w2 :=
  ⟨h.wb.below hb h.wb.lt, h.rg.below hb h.rg.lt, h.rs.below hb h.rs.lt, below_to h.be hb⟩
theorem wmIn_new (w : World) (K : Int) (X Y W H S : Nat) (A : Option Addr) (n c : Nat) (o : Bool) (rx ry ra rb : Int) :
    WmIn w K X Y W H S A n c o rx ry ra rb (((w.alloc (.cells (winA K X Y W H S A n c o) 25)).alloc (.cells (regA rx ry ra rb) 27)).alloc (.cells zmat 31)) :=
  ⟨((Blk.new_at _ _ _ rfl).alloc _).alloc _, (Blk.new_at _ _ _ (by simp)).alloc _, Blk.new_at _ _ _ (by simp), (((Below.refl _ _).alloc (Nat.le_refl _) _).alloc (by simp) _).alloc (by simp; omega) _⟩

def WmErr (E : Int) (e : Ending) : Prop := e = .returned (.tuple #[.agg zmat, .int .i64 E])

set_option maxRecDepth 100000 in
set_option maxHeartbeats 1000000 in
theorem wm_win (K : Int) (X Y W H S : Nat) (A : Option Addr) (n c : Nat) (o : Bool) (P Q : Nat → Int) (rx ry ra rb : Int) (w : World) (hP : Pts w A n P Q) (h0 : winE K X Y W H S n P Q ≠ 0) :
    Calls Try.prog 14 #[win K X Y W H S A n c o, reg rx ry ra rb] w fun e w' => WmErr (winE K X Y W H S n P Q) e ∧ Below w.heap.size w w' := by
  have HP := hid hP
  clear hP
  have HN := hid (wmIn_new w K X Y W H S A n c o rx ry ra rb)
  go_enter Try.func14, Try.ntmps14
  go_wp2_with fail
  refine (checkWin_any K X Y W H S A n c o P Q _ (HP.out.below HN.out.be)).mono ?_
  rintro e w1 ⟨rfl, hb⟩
  have hw := HN.out.below hb
  have HW := hid hw
  have d0 := hw.rs.cell 0
  have d1 := hw.rs.cell 1
  have d2 := hw.rs.cell 2
  have d3 := hw.rs.cell 3
  have d4 := hw.rs.cell 4
  have fz := fun i => hw.rs.frozen i
  have l2 := hw.rs.lt
  simp at d0 d1 d2 d3 d4
  obtain ⟨E, hE⟩ : ∃ E, E = winE K X Y W H S n P Q := ⟨_, rfl⟩
  rw [← hE] at h0 ⊢
  have h0' : (E != 0) = true := by simpa using h0
  have HE := hid hE
  clear hw hb hE h0
  go_wp2_with fail
  have hblk := HW.out.rs.set5 (.int .i64 0) (.int .i64 0) (.int .i64 0) (.int .i64 0) (.slice none 0 0)
  refine bodyPost_ret (v := .tuple #[.agg zmat, .int .i64 E]) (results_row_tmp rfl _ _ _ _ _ _ rfl rfl hblk Try.underlying31 rfl (by kernel_rfl)) rfl ?_
  exact ⟨by rw [← HE.out]; rfl, below_set5 HW.out.be (by omega) _ _ _ _ _⟩

set_option maxRecDepth 100000 in
set_option maxHeartbeats 1000000 in
theorem wm_reg (K : Int) (X Y W H S : Nat) (A : Option Addr) (n c : Nat) (o : Bool) (P Q : Nat → Int) (rx ry ra rb : Int) (w : World) (hP : Pts w A n P Q) (h0 : winE K X Y W H S n P Q = 0) (h1 : regE rx ry ra rb ≠ 0) :
    Calls Try.prog 14 #[win K X Y W H S A n c o, reg rx ry ra rb] w fun e w' => WmErr (regE rx ry ra rb) e ∧ Below w.heap.size w w' := by
  have HP := hid hP
  have H0 := hid h0
  clear hP h0
  have HN := hid (wmIn_new w K X Y W H S A n c o rx ry ra rb)
  go_enter Try.func14, Try.ntmps14
  go_wp2_with fail
  refine (checkWin_any K X Y W H S A n c o P Q _ (HP.out.below HN.out.be)).mono ?_
  rintro e w1 ⟨rfl, hb⟩
  rw [H0.out]
  have hw := HN.out.below hb
  have HW := hid hw
  have d0 := hw.rg.cell 0
  have d1 := hw.rg.cell 1
  have d2 := hw.rg.cell 2
  have d3 := hw.rg.cell 3
  have l1 := hw.rg.lt
  simp at d0 d1 d2 d3
  clear hw hb
  go_wp2_with fail
  refine (checkRegion_any rx ry ra rb _).mono ?_
  rintro e w2 ⟨rfl, hb⟩
  have hw := HW.out.below hb
  have HW2 := hid hw
  clear d0 d1 d2 d3 l1
  have d0 := hw.rs.cell 0
  have d1 := hw.rs.cell 1
  have d2 := hw.rs.cell 2
  have d3 := hw.rs.cell 3
  have d4 := hw.rs.cell 4
  have fz := fun i => hw.rs.frozen i
  have l2 := hw.rs.lt
  simp at d0 d1 d2 d3 d4
  obtain ⟨E, hE⟩ : ∃ E, E = regE rx ry ra rb := ⟨_, rfl⟩
  rw [← hE] at h1 ⊢
  have h1' : (E != 0) = true := by simpa using h1
  have HE := hid hE
  clear hw hb hE h1
  go_wp2_with fail
  have hblk := HW2.out.rs.set5 (.int .i64 0) (.int .i64 0) (.int .i64 0) (.int .i64 0) (.slice none 0 0)
  refine bodyPost_ret (v := .tuple #[.agg zmat, .int .i64 E]) (results_row_tmp rfl _ _ _ _ _ _ rfl rfl hblk Try.underlying31 rfl (by kernel_rfl)) rfl ?_
  exact ⟨by rw [← HE.out]; rfl, below_set5 HW2.out.be (by omega) _ _ _ _ _⟩

/-- The relation of the loops of WindowMatte: t singles have come. -/
structure WmRel (w3 : World) (rx ry ra rb : Int) (D : Nat → Nat) (B t : Nat) (v : Value) (wr : World) : Prop where
  b3 : Below w3.heap.size w3 wr
  own : ∃ F : Nat → Nat, wr.ownsRow w3.heap.size 22 1 v t (rowL F t) ∧ ∀ i, i < t → cl (F i) = D i
  mb : Blk wr B 31 #[.int .i64 rx, .int .i64 ry, .int .i64 ra, .int .i64 rb, v]
  lo : w3.heap.size ≤ B
theorem grownBy_setCell_at (W : World) (b i : Nat) (v : Value) : W.grownBy (W.setCell ⟨b, i, none⟩ v) (some b) :=
  ⟨rfl, rfl, rfl, by simp [World.setCell], fun k _ hk => Below.heap_setCell _ _ _ k (fun e => hk (by rw [e]))⟩
section
variable {w3 wr w1 w2 : World} {rx ry ra rb : Int} {D : Nat → Nat} {B t : Nat} {v v' : Value}
theorem WmRel.below (h : WmRel w3 rx ry ra rb D B t v wr) (hb : Below wr.heap.size wr w1) : WmRel w3 rx ry ra rb D B t v w1 := by
  obtain ⟨F, h1, h2⟩ := h.own
  exact ⟨below_to h.b3 hb, ⟨F, own_below h1 hb, h2⟩, h.mb.below hb h.mb.lt, h.lo⟩
theorem WmRel.step {o : Obj} {b g cap : Nat} {F : Nat → Nat} (h : WmRel w3 rx ry ra rb D B t v wr) (hown : wr.ownsRow w3.heap.size 22 1 v t (rowL F t)) (hF : ∀ i, i < t → cl (F i) = D i) (hb : cl b = D t)
    (ho : w2.ownsRow w3.heap.size 22 1 (.slice (some ⟨g, 0, none⟩) (t + 1) cap) (t + 1) (rowL F t ++ [.float .f32 b])) (hg : (wr.alloc o).grownBy w2 v.ownBlock) :
    WmRel w3 rx ry ra rb D B (t + 1) (.slice (some ⟨g, 0, none⟩) (t + 1) cap) (w2.setCell ⟨B, 4, none⟩ (.slice (some ⟨g, 0, none⟩) (t + 1) cap)) := by
  have hlo := h.lo
  have hmb := (h.mb.alloc o).grown hg (own_blk_ne (hown.alloc o) (h.mb.alloc o) (by decide))
  refine ⟨(below_grown h.b3 h.b3.size (Nat.le_refl _) hown hg).setCell (by show w3.heap.size ≤ B; omega) _, ⟨fun i => if i = t then b else F i, ?_, fun i hi => ?_⟩, ?_, hlo⟩
  · have e : rowL F t ++ [.float .f32 b] = rowL (fun i => if i = t then b else F i) (t + 1) := by
      rw [rowL_succ, rowL_congr (F := fun i => if i = t then b else F i) (G := F) (fun i hi => by rw [if_neg (by omega)])]
      simp
    rw [← e]
    refine ho.kept (grownBy_setCell_at w2 B 4 _) ?_
    have := own_blk_ne ho hmb (by decide)
    exact .inr fun e => this e.symm
  · by_cases e : i = t
    · subst e; simpa using hb
    · simp only [e, if_false]; exact hF i (by omega)
  · simpa using hmb.set_ 4 (.slice (some ⟨g, 0, none⟩) (t + 1) cap)
theorem WmIn.to {w : World} {K : Int} {X Y W H S : Nat} {A : Option Addr} {n c : Nat} {o : Bool} (h : WmIn w K X Y W H S A n c o rx ry ra rb w3) (hr : WmRel w3 rx ry ra rb D B t v wr) : WmIn w K X Y W H S A n c o rx ry ra rb wr := h.below hr.b3
end

/-- A matte that reads, cleaned, as D. -/
def WmGot (rx ry : Int) (p q m : Nat) (D : Nat → Nat) (e : Ending) (w' : World) : Prop :=
  ∃ g c, e = .returned (.tuple #[mat rx ry p q (some ⟨g, 0, none⟩) m c, .int .i64 0]) ∧ m ≤ c ∧ g < w'.heap.size ∧ ∃ F, Rd w' g 0 m F ∧ ∀ i, i < m → cl (F i) = D i

/-- What C gives at the places of a region, by their numbers. -/
def byNum (C : Int → Int → Nat) (rx ry : Int) (p i : Nat) : Nat := C (rx + (i % p : Nat)) (ry + (i / p : Nat))

set_option maxRecDepth 100000 in
set_option maxHeartbeats 4000000 in
theorem wm_ok (K : Int) (X Y W H S : Nat) (A : Option Addr) (n c : Nat) (o : Bool) (P Q : Nat → Int) (rx ry : Int) (p q m : Nat) (w : World) (hP : Pts w A n P Q) (h0 : winE K X Y W H S n P Q = 0) (h1 : regE rx ry p q = 0) (hm : m = p * q) :
    Calls Try.prog 14 #[win K X Y W H S A n c o, reg rx ry p q] w fun e w' => WmGot rx ry p q m (byNum (covC o K X Y W H S n P Q) rx ry p) e w' ∧ Below w.heap.size w w' := by
  have HOK := hid (winE_ok h0)
  have HP := hid hP
  have H0 := hid h0
  have H1 := hid h1
  have hz := regE_zero h1
  have p1 : 1 ≤ p := by omega
  have p2 : p ≤ 256 := by omega
  have q1 : 1 ≤ q := by omega
  have q2 : q ≤ 256 := by omega
  have x1 : -1048576 ≤ rx := by omega
  have x2 : rx ≤ 1048576 - p := by omega
  have y1 : -1048576 ≤ ry := by omega
  have y2 : ry ≤ 1048576 - q := by omega
  have hm2 : (p : Int) * (q : Int) = (m : Int) := by rw [hm]; simp
  have m1 : m ≤ 16384 := by omega
  have m0 : 0 < m := by rw [hm]; exact Nat.mul_pos p1 q1
  have HM := hid hm
  have hw1 : IntKind.i64.wrap ((p : Int) * (q : Int)) = (m : Int) := by rw [hm2, IntKind.wrap_i64]; omega
  have hw2 : IntKind.i64.wrap (m : Int) = (m : Int) := by rw [IntKind.wrap_i64]; omega
  obtain ⟨i0, hi, hz0, hz1, hz2⟩ := info_parts info_f32
  have hmk := run_make_cap (P := Try.prog) 29 22 i0 (.float .f32 0) Try.underlying29 hi hz0 hz1 rfl .i64 .i64 m (by rw [hz2]; omega) (by omega)
  clear hP h0 h1 hz hm hm2
  have HN := hid (wmIn_new w K X Y W H S A n c o rx ry p q)
  go_enter Try.func14, Try.ntmps14
  go_wp2_with fail
  refine (checkWin_any K X Y W H S A n c o P Q _ (HP.out.below HN.out.be)).mono ?_
  rintro e w1 ⟨rfl, hb⟩
  rw [H0.out]
  have hw := HN.out.below hb
  have HW := hid hw
  have d0 := hw.rg.cell 0
  have d1 := hw.rg.cell 1
  have d2 := hw.rg.cell 2
  have d3 := hw.rg.cell 3
  have l1 := hw.rg.lt
  simp at d0 d1 d2 d3
  clear hw hb
  go_wp2_with fail
  refine (checkRegion_any rx ry p q _).mono ?_
  rintro e w2 ⟨rfl, hb⟩
  rw [H1.out]
  have hw := HW.out.below hb
  have HW2 := hid hw
  clear d0 d1 d2 d3 l1
  have g0 := hw.wb.cell 0
  have g1 := hw.wb.cell 1
  have g2 := hw.wb.cell 2
  have g3 := hw.wb.cell 3
  have g4 := hw.wb.cell 4
  have g5 := hw.wb.cell 5
  have g6 := hw.wb.cell 6
  have g7 := hw.wb.cell 7
  have l0 := hw.wb.lt
  simp at g0 g1 g2 g3 g4 g5 g6 g7
  clear hw hb
  go_wp2_with fail
  refine (coverOf_any K X Y W H S A n c o P Q _ HOK.out (HP.out.below HW2.out.be)).mono ?_
  rintro e w3 ⟨G, caps, rfl, eG, hcov, hb⟩
  have hw := HW2.out.below hb
  have HW3 := hid hw
  have HCV := hid hcov
  clear g0 g1 g2 g3 g4 g5 g6 g7 l0
  have e0 := hw.rg.cell 0
  have e1 := hw.rg.cell 1
  have e2 := hw.rg.cell 2
  have e3 := hw.rg.cell 3
  simp at e0 e1 e2 e3
  clear hw hb hcov
  go_wp2_with fail
  go_region_held3 (fun w' => w'.cell? ⟨w.heap.size + 1, 0, none⟩ = some (.int .i64 rx) ∧ w'.cell? ⟨w.heap.size + 1, 1, none⟩ = some (.int .i64 ry) ∧ w'.cell? ⟨w.heap.size + 1, 2, none⟩ = some (.int .i64 p) ∧ w'.cell? ⟨w.heap.size + 1, 3, none⟩ = some (.int .i64 q)) (go_keep) (fail)
  all_goals
    rename_i hH
    clear hH e0 e1 e2 e3
    generalize hwz : World.drew _ = wz
    first
      | (have hz : ∃ B, w3.heap.size + 1 = B ∧ WmRel w3 rx ry p q (byNum (covC o K X Y W H S n P Q) rx ry p) B 0 (.slice (some ⟨w3.heap.size, 0, none⟩) 0 m) wz := by
           have s1 := HW3.out.rs.lt
           refine ⟨_, rfl, ?_⟩
           subst hwz
           have hal : ∀ o1 o2, Below w3.heap.size w3 ((w3.alloc o1).alloc o2).drew := fun o1 o2 => (((Below.refl _ _).alloc (Nat.le_refl _) _).alloc (by simp) _).drew
           refine ⟨hal _ _, ⟨fun _ => 0, ?_, fun i hi => absurd hi (by omega)⟩, ?_, by omega⟩
           · exact (World.ownsRow_made w3 (madeCells #[.float .f32 0] m) m (by omega) (by unfold maxLen; omega) (by rw [size_madeCells]; simp)).alloc _
           · exact Blk.new_at _ _ _ (by simp))
      | (have hz : ∃ B, w3.heap.size = B ∧ WmRel w3 rx ry p q (byNum (covC o K X Y W H S n P Q) rx ry p) B 0 (.slice (some ⟨w3.heap.size + 1, 0, none⟩) 0 m) wz := by
           have s1 := HW3.out.rs.lt
           refine ⟨_, rfl, ?_⟩
           subst hwz
           have hal : ∀ o1 o2, Below w3.heap.size w3 ((w3.alloc o1).alloc o2).drew := fun o1 o2 => (((Below.refl _ _).alloc (Nat.le_refl _) _).alloc (by simp) _).drew
           refine ⟨hal _ _, ⟨fun _ => 0, ?_, fun i hi => absurd hi (by omega)⟩, ?_, by omega⟩
           · have := World.ownsRow_made (base := w3.heap.size) (e := 22) (size := 1) (w3.alloc (.cells (matA rx ry p q (some ⟨w3.heap.size + 1, 0, none⟩) 0 m) 31)) (madeCells #[.float .f32 0] m) m (by simp <;> omega) (by unfold maxLen; omega) (by rw [size_madeCells]; simp)
             rw [show (w3.alloc (.cells (matA rx ry p q (some ⟨w3.heap.size + 1, 0, none⟩) 0 m) 31)).heap.size = w3.heap.size + 1 by simp] at this
             exact this
           · exact (Blk.new_at _ _ _ rfl).alloc _)
    obtain ⟨B, hB, hz⟩ := hz
    rw [hB]
    have HZ := hid hz
    have c1 := (HW3.out.to hz).rg.cell 1
    simp at c1
    clear hB hz hwz hmk hw1 hw2
    go_wp2_with fail
    go_loopw [10] (fun yv wr => ∃ (j : Nat) (A' : Option Addr) (c' : Nat), j ≤ q ∧ yv = .int .i64 (ry + j) ∧ WmRel w3 rx ry p q (byNum (covC o K X Y W H S n P Q) rx ry p) B (p * j) (.slice A' (p * j) c') wr) (fun yv _ => (ry + q - intOf yv).toNat)
    case atStart => exact ⟨0, _, _, Nat.zero_le _, by simp, HZ.out⟩
    case round =>
      clear HZ c1
      obtain ⟨j, A', c', hj, rfl, hrel⟩ := hrel
      have HL := hid hrel
      have c0 := (HW3.out.to hrel).rg.cell 0
      have c1 := (HW3.out.to hrel).rg.cell 1
      have c2 := (HW3.out.to hrel).rg.cell 2
      have c3 := (HW3.out.to hrel).rg.cell 3
      simp at c0 c1 c2 c3
      by_cases hjq : j < q
      · clear hrel
        obtain ⟨wo, rfl⟩ : ∃ wo : World, wo = wr := ⟨_, rfl⟩
        go_wp2_with fail
        go_loopw [11] (fun xv wr => ∃ (i1 : Nat) (A' : Option Addr) (c' : Nat), i1 ≤ p ∧ xv = .int .i64 (rx + i1) ∧ WmRel w3 rx ry p q (byNum (covC o K X Y W H S n P Q) rx ry p) B (p * j + i1) (.slice A' (p * j + i1) c') wr) (fun xv _ => (rx + p - intOf xv).toNat)
        case atStart => exact ⟨0, A', c', Nat.zero_le _, by simp, HL.out⟩
        case round =>
          clear HL c0 c1 c2 c3
          obtain ⟨i1, A', c', hi1, rfl, hrel⟩ := hrel
          have HL := hid hrel
          have c0 := (HW3.out.to hrel).rg.cell 0
          have c1 := (HW3.out.to hrel).rg.cell 1
          have c2 := (HW3.out.to hrel).rg.cell 2
          have c3 := (HW3.out.to hrel).rg.cell 3
          simp at c0 c1 c2 c3
          by_cases hip : i1 < p
          · obtain ⟨wo2, rfl⟩ : ∃ wo2 : World, wo2 = wr := ⟨_, rfl⟩
            have hD : byNum (covC o K X Y W H S n P Q) rx ry p (p * j + i1) = covC o K X Y W H S n P Q (rx + i1) (ry + j) := by
              unfold byNum
              rw [Nat.mul_add_mod, Nat.mod_eq_of_lt hip, Nat.mul_add_div (by omega), Nat.div_eq_of_lt hip, Nat.add_zero]
            have htm : p * j + i1 < m := by
              rw [HM.out]
              have : p * (j + 1) ≤ p * q := Nat.mul_le_mul_left p hjq
              rw [Nat.mul_succ] at this
              omega
            obtain ⟨t, ht⟩ : ∃ t, t = p * j + i1 := ⟨_, rfl⟩
            rw [← ht] at hrel HL hD htm
            have HT := hid ht
            have HD := hid hD
            have HC := hid (HCV.out (rx + i1) (ry + j) wo2.drew (by omega) (by omega) (by omega) (by omega) hrel.b3.drew)
            obtain ⟨F, hown, hF⟩ := hrel.own
            have HF := hid hF
            have HOW := hid hown
            clear hrel hF hD hown ht
            have f0 : wo2.cell? ⟨B, 4, none⟩ = some (.slice A' t c') := HL.out.mb.cell 4
            have e1 : wo2.cell? ⟨w.heap.size + 1, 0, none⟩ = some (.int .i64 rx) := c0
            have lB := HL.out.mb.lt
            have lrg := HW3.out.rg.lt
            have nB : w.heap.size + 1 ≠ B := by have := HL.out.lo; omega
            go_wp2_with fail
            rw [show Op.load 29 (Operand.tmp 56) = ldOp 29 (Operand.tmp 56) from rfl]
            go_region_held3 (fun w' => w'.cell? ⟨w.heap.size + 1, 0, none⟩ = some (.int .i64 rx)) (first | exact e1 | exact e4 _ | assumption | go_keep)
              (first
                | (refine HC.out.mono ?_; rintro e w1 ⟨b, rfl, hv, hb⟩; have HV := hid hv; have hb0 : Below wo2.heap.size wo2 w1 := (Below.refl _ _).drew.trans hb; have HL1 := hid (HL.out.below hb0); have HO1 := hid (own_below HOW.out hb0); have f4 : w1.cell? ⟨B, 4, none⟩ = some (.slice A' t c') := HL1.out.mb.cell 4; have f5 : ∀ o, (w1.alloc o).cell? ⟨B, 4, none⟩ = some (.slice A' t c') := fun o => (World.cell?_alloc_lt w1 o ⟨B, 4, none⟩ HL1.out.mb.lt).trans f4; have e2 : w1.cell? ⟨w.heap.size + 1, 0, none⟩ = some (.int .i64 rx) := (HW3.out.to HL1.out).rg.cell 0; clear hv hb)
                | ((refine step_append_lies _ (by rfl) (.tmp 57) (.tmp 62) 29 (by rfl) w3.heap.size 22 i0 (.float .f32 0) 1 4 Try.underlying29 hi hz0 hz1 hz2 rfl (by decide) (.slice A' t c') t (rowL F t) (by rfl) (HO1.out.alloc _) ⟨w1.heap.size, 0, none⟩ 1 1 [.float .f32 b] (by rfl) rfl (World.news_of_block (heap_alloc_new _ _)) (by intro u hu; simp at hu; subst hu; rfl) (by decide) (by unfold maxLen; omega) (by omega) (by have := HL1.out.b3.size; simp; omega) (w1.heap.size + 1) (by simp) ?_; intro g cap w2 hown2 hgrow hat hlt2; have hmb2 := (HL1.out.mb.alloc (.cells #[.float .f32 b] 22)).grown hgrow (own_blk_ne (HO1.out.alloc (.cells #[.float .f32 b] 22)) (HL1.out.mb.alloc (.cells #[.float .f32 b] 22)) (by decide)); have d42 : w2.cell? ⟨B, 4, none⟩ = some (.slice A' t c') := hmb2.cell 4; have fz2 : ∀ i, w2.frozen? ⟨B, i, none⟩ = false := fun i => hmb2.frozen i; have R := HL1.out.step HO1.out HF.out (by rw [HV.out, HD.out]) hown2 hgrow; have HR := hid R; have e3 : w2.cell? ⟨w.heap.size + 1, 0, none⟩ = some (.int .i64 rx) := (blk_grown (HW3.out.to HL1.out).rg lrg HO1.out hgrow).cell 0; have e4 : ∀ v, (w2.setCell ⟨B, 4, none⟩ v).cell? ⟨w.heap.size + 1, 0, none⟩ = some (.int .i64 rx) := fun v => far_cell e3 nB v; clear hmb2 R hown2 hgrow)))
            all_goals
              rename_i hH
              clear hH
              go_wp2_with fail
              go_roundw
              case rel => exact ⟨i1 + 1, _, _, by omega, by congr 1; omega, by have := HT.out; rw [show p * j + (i1 + 1) = t + 1 by omega]; exact HR.out⟩
              case measure => simp [intOf]; omega
          · have hip5 : i1 = p := by omega
            subst hip5
            clear hrel
            go_wp2_with fail
            go_roundw
            case rel => exact ⟨j + 1, A', c', by omega, by congr 1; omega, by rw [Nat.mul_succ]; exact HL.out⟩
            case measure => simp [intOf]; omega
      · have hj5 : j = q := by omega
        subst hj5
        have e4 : p * j = m := HM.out.symm
        rw [e4] at hrel HL
        obtain ⟨F, hown, hF⟩ := hrel.own
        obtain ⟨g, cap, hv, hbg, hgl⟩ := hown.form m0
        simp at hv
        obtain ⟨rfl, rfl⟩ := hv
        have hw := HW3.out.to hrel
        have HWL := hid hw
        have v0 := hrel.mb.cell 0
        have v1 := hrel.mb.cell 1
        have v2 := hrel.mb.cell 2
        have v3 := hrel.mb.cell 3
        have v4 := hrel.mb.cell 4
        have z0 := hw.rs.cell 0
        have z1 := hw.rs.cell 1
        have z2 := hw.rs.cell 2
        have z3 := hw.rs.cell 3
        have z4 := hw.rs.cell 4
        have fz := fun i => hw.rs.frozen i
        have l2 := hw.rs.lt
        simp at v0 v1 v2 v3 v4 z0 z1 z2 z3 z4
        have hblk := hw.rs.set5 (.int .i64 rx) (.int .i64 ry) (.int .i64 p) (.int .i64 j) (.slice (some ⟨g, 0, none⟩) m c')
        have HBK := hid hblk
        have HOW := hid hown
        have HF := hid hF
        have hgb : w.heap.size + 2 < g := by have := HW3.out.rs.lt; omega
        clear hblk hrel hw hown hF
        go_wp2_with fail
        refine bodyPost_ret (v := .tuple #[mat rx ry p j (some ⟨g, 0, none⟩) m c', .int .i64 0]) (results_row_tmp rfl _ _ _ _ _ _ rfl rfl HBK.out Try.underlying31 rfl (by kernel_rfl)) rfl ?_
        obtain ⟨b, cc, he, q1, _, _, q4, q5, _⟩ := Planed.of_own (w := w3) m0 (Nat.le_refl _) HOW.out HL.out.b3
        simp at he
        obtain ⟨rfl, rfl⟩ := he
        exact ⟨⟨g, c', rfl, q1, by rw [size_set5]; exact q4, F, q5.far5 (by omega) _ _ _ _ _, HF.out⟩, below_set5 HWL.out.be (by omega) _ _ _ _ _⟩
end Go.Proofs.Ytfeabmdioeelhaa
