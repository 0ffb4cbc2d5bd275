/-
  Windows: Moved of the program, where nothing is wrong with the window and the way.
-/
import Derived.Test.YtfeabmdioeelhaaYInt
import Derived.Laws.Cover3
import Derived.Deep.DeepCutAuto
import Derived.Deep.CutBlock
namespace Go.Proofs.Ytfeabmdioeelhaa
open Go.RowKit Go.Shelf
attribute [local go_sem] run_store_float

theorem results_row_tmp {P : Program} {fn : Func} {p u : Tmp} {ty : TypeId} (h : fn.results = #[.cell p ty, .tmp u]) (tmps : Array Value) (w : World) (g : Nat) (t : TypeId) (cs : Array Value) (d : TypeDesc)
    (hp : tmps.getD p undef = .pointer (some ⟨g, 0, none⟩)) {v2 : Value} (hv : tmps.getD u undef = v2) (hg : Blk w g t cs)
    (hu : P.underlying ty = some d) (hd : (match d with | .struct _ | .array _ _ => true | _ => false) = true) (hi : (P.info? ty).map (·.size) = some cs.size) :
    (results fn tmps).run P w = .ok (.tuple #[.agg cs, v2]) w := by
  subst hv
  rw [results_cell_tmp h, hp]
  simp [asAddr, run_loadVar_row (P := P) w g t ty cs (0, 0) d hg hu hd hi]

/-- The first k moved. -/
def shf (P : Nat → Int) (d : Int) (k i : Nat) : Int := if i < k then P i + d else P i
theorem shf_zero (P : Nat → Int) (d : Int) : shf P d 0 = P := by funext i; simp [shf]
theorem shf_at (P : Nat → Int) (d : Int) (k : Nat) : shf P d k k = P k := by simp [shf]
theorem shf_lt {P : Nat → Int} {d : Int} {k i : Nat} (h : i < k) : shf P d k i = P i + d := by simp [shf, h]

theorem PRow.put {w : World} {g n k : Nat} {P Q : Nat → Int} {dx dy x y : Int} (h : PRow w g n (shf P dx k) (shf Q dy k)) (_ : k < n) (hx : x = P k + dx) (hy : y = Q k + dy) :
    PRow ((w.setCell ⟨g, k * 2, none⟩ (.int .i64 x)).setCell ⟨g, k * 2 + 1, none⟩ (.int .i64 y)) g n (shf P dx (k + 1)) (shf Q dy (k + 1)) := by
  have e : ∀ (w : World) (o o' : Nat) (u : Value), o ≠ o' → (w.setCell ⟨g, o, none⟩ u).cell? ⟨g, o', none⟩ = w.cell? ⟨g, o', none⟩ := fun w o o' u hne => World.cell?_setCell_other w ⟨g, o, none⟩ ⟨g, o', none⟩ u (fun e => hne (by injection e))
  have hk : k * 2 ≠ k * 2 + 1 := by omega
  refine ⟨by simpa [World.setCell] using h.lt, fun i hi => ?_, fun o => ?_⟩
  · have hr := h.rd i hi
    rw [Nat.zero_add] at hr ⊢
    by_cases hik : i = k
    · subst hik
      refine ⟨?_, ?_⟩
      · rw [e _ _ _ _ (by omega), World.cell?_setCell_same' _ _ _ (by rw [hr.1]; rfl), shf_lt (by omega), hx]
      · rw [World.cell?_setCell_same' _ _ _ (by rw [e _ _ _ _ hk, hr.2]; rfl), shf_lt (by omega), hy]
    · rw [e _ _ _ _ (by omega), e _ _ _ _ (by omega), e _ _ _ _ (by omega), e _ _ _ _ (by omega)]
      have p1 : shf P dx (k + 1) i = shf P dx k i := by unfold shf; by_cases hlt : i < k <;> simp [hlt] <;> omega
      have p2 : shf Q dy (k + 1) i = shf Q dy k i := by unfold shf; by_cases hlt : i < k <;> simp [hlt] <;> omega
      rw [p1, p2]; exact hr
  · rw [World.frozen?_setCell, World.frozen?_setCell]; exact h.fz o

structure MvRel (w : World) (K : Int) (X Y W H S : Nat) (A' : Option Addr) (n c : Nat) (o : Bool) (P Q : Nat → Int) (dx dy : Int) (k : Nat) (wr : World) : Prop where
  bx : Blk wr w.heap.size 25 (winA K X Y W H S A' n c o)
  rb : Blk wr (w.heap.size + 1) 25 zwin
  be : Below w.heap.size w wr
  pr : 0 < n → ∃ g, A' = some ⟨g, 0, none⟩ ∧ w.heap.size + 2 ≤ g ∧ PRow wr g n (shf P dx k) (shf Q dy k)

/-- A coordinate of a window, moved. -/
def mvC (K : Int) (X : Nat) (d : Int) : Nat := if K = 3 then X else cop .add .f32 X (floatOfInt .f32 d)

theorem moved_round {w wr : World} {K : Int} {X Y W H S : Nat} {n c : Nat} {o : Bool} {P Q : Nat → Int} {dx dy x y : Int} {k g : Nat} {cs : Array Value} {t : TypeId}
    (h : MvRel w K X Y W H S (some ⟨g, 0, none⟩) n c o P Q dx dy k wr) (hk : k < n) (hg : w.heap.size + 2 ≤ g) (hp : PRow wr g n (shf P dx k) (shf Q dy k)) (hx : x = P k + dx) (hy : y = Q k + dy) :
    MvRel w K X Y W H S (some ⟨g, 0, none⟩) n c o P Q dx dy (k + 1) (((wr.setCell ⟨g, k * 2, none⟩ (.int .i64 x)).setCell ⟨g, k * 2 + 1, none⟩ (.int .i64 y)).alloc (.cells cs t)) := by
  have hl := h.rb.lt
  refine ⟨((h.bx.far (by show w.heap.size ≠ g; omega) _).far (by show w.heap.size ≠ g; omega) _).alloc _, ((h.rb.far (by show w.heap.size + 1 ≠ g; omega) _).far (by show w.heap.size + 1 ≠ g; omega) _).alloc _, ?_, fun _ => ⟨g, rfl, hg, (hp.put hk hx hy).below ((Below.refl _ _).alloc (Nat.le_refl _) _)⟩⟩
  exact ((h.be.setCell (by show w.heap.size ≤ g; omega) _).setCell (by show w.heap.size ≤ g; omega) _).alloc (by simp [World.setCell]; omega) _

theorem allB_congr {p q : Nat → Bool} : ∀ {n}, (∀ i, i < n → p i = q i) → allB p n = allB q n
  | 0, _ => rfl
  | n + 1, h => by unfold allB; rw [allB_congr fun i hi => h i (by omega), h n (by omega)]
theorem winE_congr {K : Int} {X Y W H S n : Nat} {P Q P' Q' : Nat → Int} (h : ∀ i, i < n → P i = P' i ∧ Q i = Q' i) : winE K X Y W H S n P Q = winE K X Y W H S n P' Q' := by
  have : allB (ptB P Q) n = allB (ptB P' Q') n := allB_congr fun i hi => by unfold ptB; rw [(h i hi).1, (h i hi).2]
  unfold winE; rw [this]
theorem winE_bd {K : Int} {X Y W H S n : Nat} {P Q : Nat → Int} : 0 ≤ winE K X Y W H S n P Q ∧ winE K X Y W H S n P Q ≤ 12 := by
  unfold winE; repeat' split
  all_goals omega

/-- What Moved answers where nothing is wrong with the window and the way. -/
def MovedP (K : Int) (X Y W H S n : Nat) (o : Bool) (P Q : Nat → Int) (dx dy : Int) (w : World) (e : Ending) (w' : World) : Prop :=
  ∃ A' c', e = .returned (.tuple #[if winE K (mvC K X dx) (mvC K Y dy) W H S n (fun i => P i + dx) (fun i => Q i + dy) = 0 then win K (mvC K X dx) (mvC K Y dy) W H S A' n c' o else .agg zwin, .int .i64 (winE K (mvC K X dx) (mvC K Y dy) W H S n (fun i => P i + dx) (fun i => Q i + dy))]) ∧
    NewP w w' A' n (fun i => P i + dx) (fun i => Q i + dy)

set_option maxRecDepth 100000 in
set_option maxHeartbeats 4000000 in
theorem moved_ok (K : Int) (X Y W H S : Nat) (A : Option Addr) (n c : Nat) (o : Bool) (P Q : Nat → Int) (dx dy : Int) (w : World) (hP : Pts w A n P Q) (h0 : winE K X Y W H S n P Q = 0) (hx : plB dx = true) (hy : plB dy = true) (hn : n ≤ 32)
    (hX : ∃ q, Fv .f32 X q) (hY : ∃ q, Fv .f32 Y q) (hpl : ∀ i, i < n → -1048576 ≤ P i ∧ P i ≤ 1048576 ∧ -1048576 ≤ Q i ∧ Q i ≤ 1048576) :
    Calls Try.prog 15 #[win K X Y W H S A n c o, .int .i64 dx, .int .i64 dy] w fun e w' =>
      MovedP K X Y W H S n o P Q dx dy w e w' ∧ Below w.heap.size w w' := by
  obtain ⟨x1, x2⟩ := plB_true.1 hx
  obtain ⟨y1, y2⟩ := plB_true.1 hy
  obtain ⟨qx, hX⟩ := hX
  obtain ⟨qy, hY⟩ := hY
  have ax := add_some hX (ofInt_fv (n := dx) (by omega))
  have ay := add_some hY (ofInt_fv (n := dy) (by omega))
  have a1 := fopv ax
  have a2 := fdrv ax
  have b1 := fopv ay
  have b2 := fdrv ay
  have HP := hid hP
  have HPL := hid hpl
  have hpp : (plB dx && plB dy) = true := by rw [hx, hy]; rfl
  clear hP hX hY ax ay hpl hx hy
  have HE0 := hid h0
  clear h0
  go_enter Try.func15, Try.ntmps15
  go_wp2_with fail
  have hb0 : Below w.heap.size w ((w.alloc (.cells (winA K X Y W H S A n c o) 25)).alloc (.cells zwin 25)) := ((Below.refl _ _).alloc (Nat.le_refl _) _).alloc (by simp) _
  refine (checkWin_any K X Y W H S A n c o P Q _ (HP.out.below hb0)).mono ?_
  rintro e w1 ⟨rfl, hb⟩
  rw [HE0.out]
  have B1 : Blk w1 w.heap.size 25 (winA K X Y W H S A n c o) := ((Blk.new_at w 25 (winA K X Y W H S A n c o) rfl).alloc (.cells zwin 25)).below hb (by simp <;> omega)
  have B2 : Blk w1 (w.heap.size + 1) 25 zwin := (Blk.new_at (w.alloc (.cells (winA K X Y W H S A n c o) 25)) 25 zwin (by simp)).below hb (by simp <;> omega)
  have be1 : Below w.heap.size w w1 := hb0.trans (hb.mono (by simp; omega))
  have H1 := hid B1
  have H2 := hid B2
  have HB := hid be1
  have l1 := B1.lt
  have l2 := B2.lt
  have c0 := B1.cell 0
  have c1 := B1.cell 1
  have c2 := B1.cell 2
  have c3 := B1.cell 3
  have c4 := B1.cell 4
  have c5 := B1.cell 5
  have c6 := B1.cell 6
  have c7 := B1.cell 7
  have f1 := fun i => B1.frozen i
  simp at c0 c1 c2 c3 c4 c5 c6 c7
  clear B1 B2 hb be1 hb0
  go_wp2_with (go_at_call 72; (with_reducible refine (isPlace_any _ _ _).mono ?_); rintro e w' ⟨rfl, rfl⟩)
  refine (copied_any K X Y W H S A n c o P Q _ hn (HP.out.below HB.out)).mono ?_
  rintro e w2 ⟨A', c', rfl, hN, hb⟩
  have B1 := H1.out.below hb l1
  have B2 := H2.out.below hb l2
  have m1 := B1.lt
  have m2 := B2.lt
  have g0 := B1.cell 0
  have g1 := B1.cell 1
  have g2 := B1.cell 2
  have g3 := B1.cell 3
  have g4 := B1.cell 4
  have g5 := B1.cell 5
  have g6 := B1.cell 6
  have g7 := B1.cell 7
  have f2 := fun i => B1.frozen i
  simp at g0 g1 g2 g3 g4 g5 g6 g7
  have R0 : MvRel w K X Y W H S A' n c' o P Q dx dy 0 ((((((((w2.setCell ⟨w.heap.size, 0, none⟩ (.int .i64 K)).setCell ⟨w.heap.size, 1, none⟩ (.float .f32 X)).setCell ⟨w.heap.size, 2, none⟩ (.float .f32 Y)).setCell ⟨w.heap.size, 3, none⟩ (.float .f32 W)).setCell ⟨w.heap.size, 4, none⟩ (.float .f32 H)).setCell ⟨w.heap.size, 5, none⟩ (.float .f32 S)).setCell ⟨w.heap.size, 6, none⟩ (.slice A' n c')).setCell ⟨w.heap.size, 7, none⟩ (.bool o)) := by
    refine ⟨B1.set8 _ _ _ _ _ _ _ _, ?_, below_set8 (below_to HB.out hb) (Nat.le_refl _) _ _ _ _ _ _ _ _, fun hn0 => ?_⟩
    · have s : w.heap.size + 1 ≠ w.heap.size := by omega
      exact (((((((B2.far (p := ⟨w.heap.size, 0, none⟩) s _).far (p := ⟨w.heap.size, 1, none⟩) s _).far (p := ⟨w.heap.size, 2, none⟩) s _).far (p := ⟨w.heap.size, 3, none⟩) s _).far (p := ⟨w.heap.size, 4, none⟩) s _).far (p := ⟨w.heap.size, 5, none⟩) s _).far (p := ⟨w.heap.size, 6, none⟩) s _).far (p := ⟨w.heap.size, 7, none⟩) s _
    · obtain ⟨g, e, hg, hr⟩ := hN hn0
      refine ⟨g, e, by omega, ?_⟩
      rw [shf_zero, shf_zero]
      exact hr.far8 (by omega) _ _ _ _ _ _ _ _
  have HR0 := hid R0
  clear hN hb B1 B2 H1 H2 R0 c0 c1 c2 c3 c4 c5 c6 c7 f1 l1 l2
  go_upto_region 7 with fail
  generalize ((((((((w2.setCell ⟨w.heap.size, 0, none⟩ (.int .i64 K)).setCell ⟨w.heap.size, 1, none⟩ (.float .f32 X)).setCell ⟨w.heap.size, 2, none⟩ (.float .f32 Y)).setCell ⟨w.heap.size, 3, none⟩ (.float .f32 W)).setCell ⟨w.heap.size, 4, none⟩ (.float .f32 H)).setCell ⟨w.heap.size, 5, none⟩ (.float .f32 S)).setCell ⟨w.heap.size, 6, none⟩ (.slice A' n c')).setCell ⟨w.heap.size, 7, none⟩ (.bool o)) = w3 at *
  clear g0 g1 g2 g3 g4 g5 g6 g7 f2 m1 m2
  have g0 := HR0.out.bx.cell 0
  have g1 := HR0.out.bx.cell 1
  have g2 := HR0.out.bx.cell 2
  have g6 := HR0.out.bx.cell 6
  have f2 := fun i => HR0.out.bx.frozen i
  have m1 := HR0.out.bx.lt
  simp at g0 g1 g2 g6
  by_cases hK : K = 3
  · have eX : mvC K X dx = X := by simp [mvC, hK]
    have eY : mvC K Y dy = Y := by simp [mvC, hK]
    have R1 : MvRel w K (mvC K X dx) (mvC K Y dy) W H S A' n c' o P Q dx dy 0 w3 := by rw [eX, eY]; exact HR0.out
    clear eX eY
    have hK' : (K != 3) = false := by simp [hK]
    clear hK g1 g2 f2
    go_upto_region 10 with fail
    clear hK' g0 g6
    obtain ⟨X', EX⟩ : ∃ X', RowKit.Hid (mvC K X dx = X') := ⟨_, hid rfl⟩
    obtain ⟨Y', EY⟩ : ∃ Y', RowKit.Hid (mvC K Y dy = Y') := ⟨_, hid rfl⟩
    rw [EX.out, EY.out] at R1
    have HR1 := hid R1
    clear HR0 R1
    have g6 := HR1.out.bx.cell 6
    have f2 := fun i => HR1.out.bx.frozen i
    have m1 := HR1.out.bx.lt
    simp at g6
    go_wp2_with fail
    go_loopw [43] (fun i wr => ∃ k : Nat, k ≤ n ∧ i = .int .i64 k ∧ MvRel w K X' Y' W H S A' n c' o P Q dx dy k wr) (fun i _ => n - (intOf i).toNat)
    case atStart => exact ⟨0, Nat.zero_le _, rfl, HR1.out⟩
    case round =>
      clear HR1 g6 f2 m1
      obtain ⟨k, hk, rfl, hrel⟩ := hrel
      have HL := hid hrel
      have g0 := hrel.bx.cell 0
      have g1 := hrel.bx.cell 1
      have g2 := hrel.bx.cell 2
      have g3 := hrel.bx.cell 3
      have g4 := hrel.bx.cell 4
      have g5 := hrel.bx.cell 5
      have g6 := hrel.bx.cell 6
      have g7 := hrel.bx.cell 7
      have f2 := fun i => hrel.bx.frozen i
      have m1 := hrel.bx.lt
      simp at g0 g1 g2 g3 g4 g5 g6 g7
      by_cases hlt : k < n
      · clear g0 g1 g2 g3 g4 g5 g7
        obtain ⟨g, rfl, hg, hp⟩ := hrel.pr (by omega)
        have s1 := (hp.rd k hlt).1
        have s2 := (hp.rd k hlt).2
        rw [shf_at, Nat.zero_add] at s1 s2
        have z := fun o => hp.fz o
        have gl := hp.lt
        obtain ⟨p1, p2, p3, p4⟩ := HPL.out k hlt
        have HPR := hid hp
        clear hrel hp
        go_wp2_with fail
        go_roundw
        case rel => exact ⟨k + 1, by omega, by go_num, moved_round HL.out hlt hg HPR.out rfl rfl⟩
        case measure => simp [intOf]; omega
      · obtain rfl : k = n := by omega
        have hpt : Pts wr A' k (fun i => P i + dx) (fun i => Q i + dy) := fun hk0 => by
          obtain ⟨g, e, hg, hp⟩ := hrel.pr hk0
          refine ⟨g, 0, e, hp.lt, fun i hi => ?_⟩
          have := hp.rd i hi
          rw [shf_lt hi, shf_lt hi] at this
          exact this
        have HPT := hid hpt
        have d0 := hrel.rb.cell 0
        have d1 := hrel.rb.cell 1
        have d2 := hrel.rb.cell 2
        have d3 := hrel.rb.cell 3
        have d4 := hrel.rb.cell 4
        have d5 := hrel.rb.cell 5
        have d6 := hrel.rb.cell 6
        have d7 := hrel.rb.cell 7
        have m2 := hrel.rb.lt
        simp at d0 d1 d2 d3 d4 d5 d6 d7
        clear hpt hrel hlt hk
        go_wp2_with fail
        refine (checkWin_any K X' Y' W H S A' k c' o (fun i => P i + dx) (fun i => Q i + dy) _ HPT.out).mono ?_
        rintro e w5 ⟨rfl, hb⟩
        have HB5 := hid hb
        have B1 := HL.out.bx.below hb m1
        have B2 := HL.out.rb.below hb m2
        clear hb d0 d1 d2 d3 d4 d5 d6 d7 g0 g1 g2 g3 g4 g5 g6 g7 f2
        have g0 := B1.cell 0
        have g1 := B1.cell 1
        have g2 := B1.cell 2
        have g3 := B1.cell 3
        have g4 := B1.cell 4
        have g5 := B1.cell 5
        have g6 := B1.cell 6
        have g7 := B1.cell 7
        have d0 := B2.cell 0
        have d1 := B2.cell 1
        have d2 := B2.cell 2
        have d3 := B2.cell 3
        have d4 := B2.cell 4
        have d5 := B2.cell 5
        have d6 := B2.cell 6
        have d7 := B2.cell 7
        have f3 := fun i => B2.frozen i
        have n2 := B2.lt
        simp at g0 g1 g2 g3 g4 g5 g6 g7 d0 d1 d2 d3 d4 d5 d6 d7
        have HB2 := hid B2
        have hbe : Below w.heap.size w w5 := below_to HL.out.be HB5.out
        have HBE := hid hbe
        have HNP : RowKit.Hid (0 < k → ∃ g, A' = some ⟨g, 0, none⟩ ∧ w.heap.size + 2 ≤ g ∧ PRow w5 g k (fun i => P i + dx) (fun i => Q i + dy)) := hid fun hk0 => by
          obtain ⟨g, e, hg, hp⟩ := HL.out.pr hk0
          refine ⟨g, e, hg, ?_⟩
          have := hp.below HB5.out
          refine ⟨this.lt, fun i hi => ?_, this.fz⟩
          have := this.rd i hi
          rw [shf_lt hi, shf_lt hi] at this
          exact this
        clear B1 B2 hbe m1 m2
        by_cases hE : winE K X' Y' W H S k (fun i => P i + dx) (fun i => Q i + dy) = 0
        · have HE := hid hE
          rw [hE]
          clear hE
          go_wp2_with fail
          have hblk := HB2.out.set8 (.int .i64 K) (.float .f32 X') (.float .f32 Y') (.float .f32 W) (.float .f32 H) (.float .f32 S) (.slice A' k c') (.bool o)
          refine bodyPost_ret (v := .tuple #[win K X' Y' W H S A' k c' o, .int .i64 0]) (results_row_tmp rfl _ _ _ _ _ _ rfl rfl hblk Try.underlying25 rfl (by kernel_rfl)) rfl ?_
          refine ⟨⟨A', c', by rw [EX.out, EY.out, HE.out]; rfl, fun hk0 => ?_⟩, below_set8 HBE.out (by omega) _ _ _ _ _ _ _ _⟩
          obtain ⟨g, e, hg, hp⟩ := HNP.out hk0
          exact ⟨g, e, by omega, hp.far8 (by omega) _ _ _ _ _ _ _ _⟩
        · obtain ⟨E, hEE⟩ : ∃ E, E = winE K X' Y' W H S k (fun i => P i + dx) (fun i => Q i + dy) := ⟨_, rfl⟩
          rw [← hEE] at hE ⊢
          have HE := hid hEE
          have hE' : (E != 0) = true := by simpa using hE
          have HE0 := hid hE
          clear hE hEE
          go_wp2_with fail
          have hblk := HB2.out.set8 (.int .i64 0) (.float .f32 0) (.float .f32 0) (.float .f32 0) (.float .f32 0) (.float .f32 0) (.slice none 0 0) (.bool false)
          refine bodyPost_ret (v := .tuple #[.agg zwin, .int .i64 E]) (results_row_tmp rfl _ _ _ _ _ _ rfl rfl hblk Try.underlying25 rfl (by kernel_rfl)) rfl ?_
          refine ⟨⟨A', c', by rw [EX.out, EY.out, ← HE.out, if_neg HE0.out], fun hk0 => ?_⟩, below_set8 HBE.out (by omega) _ _ _ _ _ _ _ _⟩
          obtain ⟨g, e, hg, hp⟩ := HNP.out hk0
          exact ⟨g, e, by omega, hp.far8 (by omega) _ _ _ _ _ _ _ _⟩
  · have eX : mvC K X dx = cop .add .f32 X (floatOfInt .f32 dx) := by simp [mvC, hK]
    have eY : mvC K Y dy = cop .add .f32 Y (floatOfInt .f32 dy) := by simp [mvC, hK]
    have R1 : MvRel w K (mvC K X dx) (mvC K Y dy) W H S A' n c' o P Q dx dy 0 ((w3.setCell ⟨w.heap.size, 1, none⟩ (.float .f32 (mvC K X dx))).setCell ⟨w.heap.size, 2, none⟩ (.float .f32 (mvC K Y dy))) := by
      have h := HR0.out
      refine ⟨?_, (h.rb.far (by show w.heap.size + 1 ≠ w.heap.size; omega) _).far (by show w.heap.size + 1 ≠ w.heap.size; omega) _, (h.be.setCell (Nat.le_refl _) _).setCell (Nat.le_refl _) _, fun hn0 => ?_⟩
      · simpa using (h.bx.set_ 1 (.float .f32 (mvC K X dx))).set_ 2 (.float .f32 (mvC K Y dy))
      · obtain ⟨g, e, hg, hp⟩ := h.pr hn0
        exact ⟨g, e, hg, (hp.far (by show g ≠ w.heap.size; omega) _).far (by show g ≠ w.heap.size; omega) _⟩
    have hK' : (K != 3) = true := by simp [hK]
    clear hK
    rw [← eX] at a1
    rw [← eY] at b1
    clear eX eY
    go_upto_region 10 with fail
    clear hK' g0 g1 g2 g6 f2 m1
    generalize (w3.setCell ⟨w.heap.size, 1, none⟩ (.float .f32 (mvC K X dx))).setCell ⟨w.heap.size, 2, none⟩ (.float .f32 (mvC K Y dy)) = w4 at *
    clear a1 a2 b1 b2
    obtain ⟨X', EX⟩ : ∃ X', RowKit.Hid (mvC K X dx = X') := ⟨_, hid rfl⟩
    obtain ⟨Y', EY⟩ : ∃ Y', RowKit.Hid (mvC K Y dy = Y') := ⟨_, hid rfl⟩
    rw [EX.out, EY.out] at R1
    have HR1 := hid R1
    clear HR0 R1
    have g6 := HR1.out.bx.cell 6
    have f2 := fun i => HR1.out.bx.frozen i
    have m1 := HR1.out.bx.lt
    simp at g6
    go_wp2_with fail
    go_loopw [43] (fun i wr => ∃ k : Nat, k ≤ n ∧ i = .int .i64 k ∧ MvRel w K X' Y' W H S A' n c' o P Q dx dy k wr) (fun i _ => n - (intOf i).toNat)
    case atStart => exact ⟨0, Nat.zero_le _, rfl, HR1.out⟩
    case round =>
      clear HR1 g6 f2 m1
      obtain ⟨k, hk, rfl, hrel⟩ := hrel
      have HL := hid hrel
      have g0 := hrel.bx.cell 0
      have g1 := hrel.bx.cell 1
      have g2 := hrel.bx.cell 2
      have g3 := hrel.bx.cell 3
      have g4 := hrel.bx.cell 4
      have g5 := hrel.bx.cell 5
      have g6 := hrel.bx.cell 6
      have g7 := hrel.bx.cell 7
      have f2 := fun i => hrel.bx.frozen i
      have m1 := hrel.bx.lt
      simp at g0 g1 g2 g3 g4 g5 g6 g7
      by_cases hlt : k < n
      · clear g0 g1 g2 g3 g4 g5 g7
        obtain ⟨g, rfl, hg, hp⟩ := hrel.pr (by omega)
        have s1 := (hp.rd k hlt).1
        have s2 := (hp.rd k hlt).2
        rw [shf_at, Nat.zero_add] at s1 s2
        have z := fun o => hp.fz o
        have gl := hp.lt
        obtain ⟨p1, p2, p3, p4⟩ := HPL.out k hlt
        have HPR := hid hp
        clear hrel hp
        go_wp2_with fail
        go_roundw
        case rel => exact ⟨k + 1, by omega, by go_num, moved_round HL.out hlt hg HPR.out rfl rfl⟩
        case measure => simp [intOf]; omega
      · obtain rfl : k = n := by omega
        have hpt : Pts wr A' k (fun i => P i + dx) (fun i => Q i + dy) := fun hk0 => by
          obtain ⟨g, e, hg, hp⟩ := hrel.pr hk0
          refine ⟨g, 0, e, hp.lt, fun i hi => ?_⟩
          have := hp.rd i hi
          rw [shf_lt hi, shf_lt hi] at this
          exact this
        have HPT := hid hpt
        have d0 := hrel.rb.cell 0
        have d1 := hrel.rb.cell 1
        have d2 := hrel.rb.cell 2
        have d3 := hrel.rb.cell 3
        have d4 := hrel.rb.cell 4
        have d5 := hrel.rb.cell 5
        have d6 := hrel.rb.cell 6
        have d7 := hrel.rb.cell 7
        have m2 := hrel.rb.lt
        simp at d0 d1 d2 d3 d4 d5 d6 d7
        clear hpt hrel hlt hk
        go_wp2_with fail
        refine (checkWin_any K X' Y' W H S A' k c' o (fun i => P i + dx) (fun i => Q i + dy) _ HPT.out).mono ?_
        rintro e w5 ⟨rfl, hb⟩
        have HB5 := hid hb
        have B1 := HL.out.bx.below hb m1
        have B2 := HL.out.rb.below hb m2
        clear hb d0 d1 d2 d3 d4 d5 d6 d7 g0 g1 g2 g3 g4 g5 g6 g7 f2
        have g0 := B1.cell 0
        have g1 := B1.cell 1
        have g2 := B1.cell 2
        have g3 := B1.cell 3
        have g4 := B1.cell 4
        have g5 := B1.cell 5
        have g6 := B1.cell 6
        have g7 := B1.cell 7
        have d0 := B2.cell 0
        have d1 := B2.cell 1
        have d2 := B2.cell 2
        have d3 := B2.cell 3
        have d4 := B2.cell 4
        have d5 := B2.cell 5
        have d6 := B2.cell 6
        have d7 := B2.cell 7
        have f3 := fun i => B2.frozen i
        have n2 := B2.lt
        simp at g0 g1 g2 g3 g4 g5 g6 g7 d0 d1 d2 d3 d4 d5 d6 d7
        have HB2 := hid B2
        have hbe : Below w.heap.size w w5 := below_to HL.out.be HB5.out
        have HBE := hid hbe
        have HNP : RowKit.Hid (0 < k → ∃ g, A' = some ⟨g, 0, none⟩ ∧ w.heap.size + 2 ≤ g ∧ PRow w5 g k (fun i => P i + dx) (fun i => Q i + dy)) := hid fun hk0 => by
          obtain ⟨g, e, hg, hp⟩ := HL.out.pr hk0
          refine ⟨g, e, hg, ?_⟩
          have := hp.below HB5.out
          refine ⟨this.lt, fun i hi => ?_, this.fz⟩
          have := this.rd i hi
          rw [shf_lt hi, shf_lt hi] at this
          exact this
        clear B1 B2 hbe m1 m2
        by_cases hE : winE K X' Y' W H S k (fun i => P i + dx) (fun i => Q i + dy) = 0
        · have HE := hid hE
          rw [hE]
          clear hE
          go_wp2_with fail
          have hblk := HB2.out.set8 (.int .i64 K) (.float .f32 X') (.float .f32 Y') (.float .f32 W) (.float .f32 H) (.float .f32 S) (.slice A' k c') (.bool o)
          refine bodyPost_ret (v := .tuple #[win K X' Y' W H S A' k c' o, .int .i64 0]) (results_row_tmp rfl _ _ _ _ _ _ rfl rfl hblk Try.underlying25 rfl (by kernel_rfl)) rfl ?_
          refine ⟨⟨A', c', by rw [EX.out, EY.out, HE.out]; rfl, fun hk0 => ?_⟩, below_set8 HBE.out (by omega) _ _ _ _ _ _ _ _⟩
          obtain ⟨g, e, hg, hp⟩ := HNP.out hk0
          exact ⟨g, e, by omega, hp.far8 (by omega) _ _ _ _ _ _ _ _⟩
        · obtain ⟨E, hEE⟩ : ∃ E, E = winE K X' Y' W H S k (fun i => P i + dx) (fun i => Q i + dy) := ⟨_, rfl⟩
          rw [← hEE] at hE ⊢
          have HE := hid hEE
          have hE' : (E != 0) = true := by simpa using hE
          have HE0 := hid hE
          clear hE hEE
          go_wp2_with fail
          have hblk := HB2.out.set8 (.int .i64 0) (.float .f32 0) (.float .f32 0) (.float .f32 0) (.float .f32 0) (.float .f32 0) (.slice none 0 0) (.bool false)
          refine bodyPost_ret (v := .tuple #[.agg zwin, .int .i64 E]) (results_row_tmp rfl _ _ _ _ _ _ rfl rfl hblk Try.underlying25 rfl (by kernel_rfl)) rfl ?_
          refine ⟨⟨A', c', by rw [EX.out, EY.out, ← HE.out, if_neg HE0.out], fun hk0 => ?_⟩, below_set8 HBE.out (by omega) _ _ _ _ _ _ _ _⟩
          obtain ⟨g, e, hg, hp⟩ := HNP.out hk0
          exact ⟨g, e, by omega, hp.far8 (by omega) _ _ _ _ _ _ _ _⟩
end Go.Proofs.Ytfeabmdioeelhaa
