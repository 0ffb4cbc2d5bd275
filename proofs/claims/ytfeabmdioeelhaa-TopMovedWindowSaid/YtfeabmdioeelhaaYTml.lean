/-
  The law of moved windows: the walk.
-/
import Derived.Test.YtfeabmdioeelhaaYTmw
namespace Go.Proofs.Ytfeabmdioeelhaa
open Go.RowKit Go.Shelf
attribute [local go_sem] run_store_float

/-- What lies there ahead of the first matte: the window, the region. -/
structure TIn (w : World) (K : Int) (X Y W H S : Nat) (A : Option Addr) (n c : Nat) (o : Bool) (rx ry : Int) (p q : Nat) (w1 : World) : Prop where
  wb : Blk w1 w.heap.size 25 (winA K X Y W H S A n c o)
  rg : Blk w1 (w.heap.size + 1) 27 (regA rx ry p q)
  be : Below w.heap.size w w1
theorem TIn.below {w w1 w2 : World} {K : Int} {X Y W H S : Nat} {A : Option Addr} {n c : Nat} {o : Bool} {rx ry : Int} {p q : Nat} (h : TIn w K X Y W H S A n c o rx ry p q w1) (hb : Below w1.heap.size w1 w2) : TIn w K X Y W H S A n c o rx ry p q w2 :=
  ⟨h.wb.below hb h.wb.lt, h.rg.below hb h.rg.lt, below_to h.be hb⟩

theorem Rd.far {w : World} {b off n : Nat} {F : Nat → Nat} (h : Rd w b off n F) {p : Addr} (hp : b ≠ p.block) (u : Value) : Rd (w.setCell p u) b off n F :=
  fun i hi => (World.cell?_setCell_other w p ⟨b, off + i, none⟩ u (fun e => hp (by rw [e]))).trans (h i hi)
theorem RdP.far {w : World} {b off n : Nat} {P Q : Nat → Int} (h : RdP w b off n P Q) {p : Addr} (hp : b ≠ p.block) (u : Value) : RdP (w.setCell p u) b off n P Q :=
  fun i hi => ⟨(World.cell?_setCell_other w p ⟨b, off + i * 2, none⟩ u (fun e => hp (by rw [e]))).trans (h i hi).1, (World.cell?_setCell_other w p ⟨b, off + i * 2 + 1, none⟩ u (fun e => hp (by rw [e]))).trans (h i hi).2⟩
/-- A region elsewhere: right, or at the wrong place. -/
theorem regE_moved {x y a b x' y' : Int} (h : regE x y a b = 0) : regE x' y' a b = 0 ∨ regE x' y' a b = 5 := by
  unfold regE at h ⊢
  split at h
  · cases h
  rename_i h1
  split at h
  · cases h
  rename_i h2
  rw [if_neg h1, if_neg h2]
  split
  · exact .inr rfl
  · exact .inl rfl

set_option maxRecDepth 100000 in
set_option maxHeartbeats 4000000 in
theorem tmw_any (K : Int) (X Y W H S : Nat) (A : Option Addr) (n c : Nat) (o : Bool) (P Q : Nat → Int) (rx ry rw rh dx0 dy0 : Int) (w : World) (hP : Pts w A n P Q) :
    Calls Try.prog 3 #[win K X Y W H S A n c o, reg rx ry rw rh, .int .i64 dx0, .int .i64 dy0] w fun e w' => e = .returned (.bool true) ∧ Below w.heap.size w w' := by
  obtain ⟨aw, haw⟩ : ∃ aw : Nat, bits .and .i64 rw 15 = (aw : Int) := ⟨(bits .and .i64 rw 15).toNat, by have := and15 rw; omega⟩
  obtain ⟨ah, hah⟩ : ∃ ah : Nat, bits .and .i64 rh 15 = (ah : Int) := ⟨(bits .and .i64 rh 15).toNat, by have := and15 rh; omega⟩
  have aw1 : aw ≤ 15 := by have := and15 rw; omega
  have ah1 : ah ≤ 15 := by have := and15 rh; omega
  obtain ⟨p, hp⟩ : ∃ p : Nat, (1 : Int) + (aw : Int) = (p : Int) := ⟨aw + 1, by omega⟩
  obtain ⟨q, hq⟩ : ∃ q : Nat, (1 : Int) + (ah : Int) = (q : Int) := ⟨ah + 1, by omega⟩
  obtain ⟨dx, hdx⟩ : ∃ dx : Int, dx0.tmod 1000 = dx := ⟨_, rfl⟩
  obtain ⟨dy, hdy⟩ : ∃ dy : Int, dy0.tmod 1000 = dy := ⟨_, rfl⟩
  have dx1 : -1000 < dx ∧ dx < 1000 := by rw [← hdx]; have h1 := Int.natAbs_tmod dx0 1000; have h2 := Nat.mod_lt dx0.natAbs (show 1000 > 0 by decide); have h3 : (1000 : Int).natAbs = 1000 := rfl; rw [h3] at h1; omega
  have dy1 : -1000 < dy ∧ dy < 1000 := by rw [← hdy]; have h1 := Int.natAbs_tmod dy0 1000; have h2 := Nat.mod_lt dy0.natAbs (show 1000 > 0 by decide); have h3 : (1000 : Int).natAbs = 1000 := rfl; rw [h3] at h1; omega
  obtain ⟨dx1, dx2⟩ := dx1
  obtain ⟨dy1, dy2⟩ := dy1
  have p1 : 1 ≤ p ∧ p ≤ 16 := by omega
  have q1 : 1 ≤ q ∧ q ≤ 16 := by omega
  obtain ⟨p1, p2⟩ := p1
  obtain ⟨q1, q2⟩ := q1
  have HP := hid hP
  clear hP
  go_enter Try.func3, Try.ntmps3
  go_wp2_with (go_at_call 13; (with_reducible refine (landed_any _).mono ?_); rintro e w' ⟨rfl, rfl⟩)
  obtain ⟨w0, hw0⟩ : ∃ w0, w0 = ((w.alloc (.cells (winA K X Y W H S A n c o) 25)).alloc (.cells (regA rx ry p q) 27)).alloc (.cells #[.float .f32 X, .float .f32 Y] 22) := ⟨_, rfl⟩
  rw [← hw0]
  have hT : TIn w K X Y W H S A n c o rx ry p q w0 := by
    rw [hw0]
    exact ⟨((Blk.new_at _ _ _ rfl).alloc _).alloc _, (Blk.new_at _ _ _ (by simp)).alloc _, (((Below.refl _ _).alloc (Nat.le_refl _) _).alloc (by simp) _).alloc (by simp; omega) _⟩
  have hR : Rd w0 (w.heap.size + 1 + 1) 0 2 (two X Y) := by rw [hw0]; exact rd_two _ X Y _ (by simp)
  have HT := hid hT
  have HR := hid hR
  clear hw0 hT hR haw hah hp hq hdx hdy
  go_loop [40] (fun i => ∃ k : Nat, k ≤ 2 ∧ i = .int .i64 k ∧ (0 < k → WholeF X) ∧ (1 < k → WholeF Y)) (fun i => 2 - (intOf i).toNat)
  case atStart => exact ⟨0, Nat.zero_le _, rfl, fun h => absurd h (by omega), fun h => absurd h (by omega)⟩
  case round =>
    obtain ⟨k, hk, rfl, hx, hy⟩ := hrel
    have HX := hid hx
    have HY := hid hy
    clear hx hy
    by_cases hlt : k < 2
    · have hc : w0.cell? ⟨w.heap.size + 1 + 1, k, none⟩ = some (.float .f32 (two X Y k)) := by have := HR.out k hlt; rwa [Nat.zero_add] at this
      have HV : RowKit.Hid (two X Y 0 = X ∧ two X Y 1 = Y) := hid ⟨rfl, rfl⟩
      obtain ⟨v, hv⟩ : ∃ v, v = two X Y k := ⟨_, rfl⟩
      rw [← hv] at hc
      have HVE := hid hv
      clear hv
      cases hin : inB 3351465984 1203982336 v
      · have h3 := inB_no hin
        clear hin
        rcases h3 with (h3 | h3) | ⟨h3 | h3, h4 | h4⟩
        all_goals
          go_wp2
          go_ret
          exact ⟨rfl, HT.out.be⟩
      · obtain ⟨qv, fv, v1, v2⟩ := in_num hin
        obtain ⟨z, hz, z1⟩ := to_whole fv v1 v2
        have hci : ∀ w, (convert 22 3 (.float .f32 v)).run Try.prog w = .ok (.int .i64 z) w := fun w => run_convert_float_int w _ _ _ _ _ _ (by rw [Try.underlying22]; rfl) Try.underlying3 hz
        have HFV := hid fv
        have h3 := inB_yes hin
        clear hz hin v1 v2 fv
        cases hq : FloatKind.f32.format.order v (floatOfInt .f32 z) == some .eq
        · have hq2 : (FloatKind.f32.format.order v (floatOfInt .f32 z) != some .eq) = true := by unfold bne; rw [hq]; rfl
          rcases h3 with ⟨h3 | h3, h4 | h4⟩
          all_goals
            go_wp2
            go_ret
            exact ⟨rfl, HT.out.be⟩
        · have hq2 : (FloatKind.f32.format.order v (floatOfInt .f32 z) != some .eq) = false := by unfold bne; rw [hq]; rfl
          have HW := hid (whole_of HFV.out z1 hq)
          rcases h3 with ⟨h3 | h3, h4 | h4⟩
          all_goals
            go_wp2
            go_round
            case rel =>
              refine ⟨k + 1, by omega, by go_num, fun _ => ?_, fun h => ?_⟩
              · by_cases h0 : k = 0
                · subst h0; have := HW.out; rw [HVE.out] at this; exact this
                · exact HX.out (by omega)
              · have h1 : k = 1 := by omega
                subst h1; have := HW.out; rw [HVE.out] at this; exact this
            case measure => simp [intOf]; omega
    · obtain rfl : k = 2 := by omega
      have HWX := hid (HX.out (by omega))
      have HWY := hid (HY.out (by omega))
      clear HX HY HR
      have g0 := HT.out.wb.cell 0
      have g1 := HT.out.wb.cell 1
      have g2 := HT.out.wb.cell 2
      have g3 := HT.out.wb.cell 3
      have g4 := HT.out.wb.cell 4
      have g5 := HT.out.wb.cell 5
      have g6 := HT.out.wb.cell 6
      have g7 := HT.out.wb.cell 7
      have d0 := HT.out.rg.cell 0
      have d1 := HT.out.rg.cell 1
      have d2 := HT.out.rg.cell 2
      have d3 := HT.out.rg.cell 3
      have l0 := HT.out.wb.lt
      have l1 := HT.out.rg.lt
      simp at g0 g1 g2 g3 g4 g5 g6 g7 d0 d1 d2 d3
      by_cases hE : winE K X Y W H S n P Q = 0
      · have HE := hid hE
        clear hE
        by_cases hG : regE rx ry p q = 0
        · have HG := hid hG
          clear hG
          go_wp2_with fail
          obtain ⟨m, hm⟩ : ∃ m, m = p * q := ⟨_, rfl⟩
          refine (wm_ok K X Y W H S A n c o P Q rx ry p q m _ (HP.out.below HT.out.be) HE.out HG.out hm).mono ?_
          rintro e w1 ⟨⟨g, cc, rfl, hcc, hgl, F, hRd, hF⟩, hb⟩
          have HM := hid hm
          clear hm
          have HT1 := hid (HT.out.below hb)
          have HRD := hid hRd
          have HF := hid hF
          clear g0 g1 g2 g3 g4 g5 g6 g7 d0 d1 d2 d3 l0 l1 hb hRd hF
          have hok := winE_ok HE.out
          have HOK := hid hok
          clear hok
          obtain ⟨w2, hw2⟩ : ∃ w2, w2 = w1.alloc (.cells (matA rx ry p q (some ⟨g, 0, none⟩) m cc) 31) := ⟨_, rfl⟩
          have hal : Below w1.heap.size w1 w2 := by rw [hw2]; exact (Below.refl _ _).alloc (Nat.le_refl _) _
          have HT2 := hid (HT1.out.below hal)
          have HMB := hid (show Blk w2 w1.heap.size 31 (matA rx ry p q (some ⟨g, 0, none⟩) m cc) by rw [hw2]; exact Blk.new_at _ _ _ rfl)
          have HRD2 := hid (HRD.out.below hal hgl)
          obtain ⟨bm, hbm⟩ : ∃ bm, bm = w1.heap.size := ⟨_, rfl⟩
          have hgl2 : g < w2.heap.size := Nat.lt_of_lt_of_le hgl hal.size
          have hT := HT2.out
          have g0 := hT.wb.cell 0
          have g1 := hT.wb.cell 1
          have g2 := hT.wb.cell 2
          have g3 := hT.wb.cell 3
          have g4 := hT.wb.cell 4
          have g5 := hT.wb.cell 5
          have g6 := hT.wb.cell 6
          have g7 := hT.wb.cell 7
          have l0 := hT.wb.lt
          simp at g0 g1 g2 g3 g4 g5 g6 g7
          clear hT hal
          go_upto_region 12 with fail
          rw [← hw2]
          rw [← hbm] at HMB ⊢
          clear hw2 hbm
          go_wp2_with fail
          refine (moved_ok K X Y W H S A n c o P Q dx dy _ (HP.out.below HT2.out.be) HE.out (plB_true.2 ⟨by omega, by omega⟩) (plB_true.2 ⟨by omega, by omega⟩) HOK.out.n32 (by obtain ⟨q, h, _⟩ := HOK.out.fx; exact ⟨q, h⟩) (by obtain ⟨q, h, _⟩ := HOK.out.fy; exact ⟨q, h⟩) HOK.out.pts).mono ?_
          rintro e w3 ⟨⟨A', c', rfl, hN⟩, hb⟩
          have HT3 := hid (HT2.out.below hb)
          have HMB3 := hid (HMB.out.below hb HMB.out.lt)
          have HRD3 := hid (HRD2.out.below hb hgl2)
          have HN := hid hN
          have HB3 := hid hb
          clear g0 g1 g2 g3 g4 g5 g6 g7 l0 hN hb
          by_cases hE2 : winE K (mvC K X dx) (mvC K Y dy) W H S n (fun i => P i + dx) (fun i => Q i + dy) = 0
          · rw [if_pos hE2, hE2]
            have HE2 := hid hE2
            clear hE2
            obtain ⟨X', hX'⟩ : ∃ X', X' = mvC K X dx := ⟨_, rfl⟩
            obtain ⟨Y', hY'⟩ : ∃ Y', Y' = mvC K Y dy := ⟨_, rfl⟩
            rw [← hX', ← hY'] at HE2 ⊢
            have HX' := hid hX'
            have HY' := hid hY'
            clear hX' hY'
            have hreg := regE_zero HG.out
            have r1 : -1048576 ≤ rx ∧ rx ≤ 1048576 - p ∧ -1048576 ≤ ry ∧ ry ≤ 1048576 - q := by omega
            obtain ⟨r1, r2, r3, r4⟩ := r1
            clear hreg
            have hT := HT3.out
            have d0 := hT.rg.cell 0
            have d1 := hT.rg.cell 1
            have d2 := hT.rg.cell 2
            have d3 := hT.rg.cell 3
            have l1 := hT.rg.lt
            simp at d0 d1 d2 d3
            clear hT
            go_upto_region 18 with fail
            obtain ⟨w4, hw4⟩ : ∃ w4, w4 = (w3.alloc (.cells (winA K X' Y' W H S A' n c' o) 25)).alloc (.cells (regA rx ry p q) 27) := ⟨_, rfl⟩
            rw [← hw4]
            have hal : Below w3.heap.size w3 w4 := by rw [hw4]; exact ((Below.refl _ _).alloc (Nat.le_refl _) _).alloc (by simp) _
            have hw : Blk w4 w3.heap.size 25 (winA K X' Y' W H S A' n c' o) := by rw [hw4]; exact (Blk.new_at _ _ _ rfl).alloc _
            have hs : Blk w4 (w3.heap.size + 1) 27 (regA rx ry p q) := by rw [hw4]; exact Blk.new_at _ _ _ (by simp)
            have HT4 := hid (HT3.out.below hal)
            have HMB4 := hid (HMB3.out.below hal HMB3.out.lt)
            have HRD4 := hid (HRD3.out.below hal (Nat.lt_of_lt_of_le hgl2 HB3.out.size))
            have HP4 : RowKit.Hid (Pts w4 A' n (fun i => P i + dx) (fun i => Q i + dy)) := hid fun hn0 => by
              obtain ⟨g', e, hg', hr⟩ := HN.out hn0
              have hr4 := hr.below hal
              exact ⟨g', 0, e, hr4.lt, hr4.rd⟩
            obtain ⟨bw, hbw⟩ : ∃ bw, bw = w3.heap.size := ⟨_, rfl⟩
            obtain ⟨bs, hbs⟩ : ∃ bs, bs = w3.heap.size + 1 := ⟨_, rfl⟩
            have hne : bw ≠ bs ∧ w.heap.size + 1 < bs ∧ w.heap.size < bs ∧ bm < bs := by have h1 := HT3.out.rg.lt; have h2 := HMB3.out.lt; omega
            have hgs : g < bs := by have := Nat.lt_of_lt_of_le hgl2 HB3.out.size; omega
            have hps : RowKit.Hid (0 < n → ∃ g', A' = some ⟨g', 0, none⟩ ∧ g' < bs) := hid fun hn0 => by
              obtain ⟨g', e, hg', hr⟩ := HN.out hn0
              exact ⟨g', e, by have := hr.lt; omega⟩
            rw [← hbs] at hs ⊢
            rw [← hbw] at hw ⊢
            have HW4 := hid hw
            have HS4 := hid hs
            have hT := HT4.out
            clear d0 d1 d2 d3 l1 hw4 hal hw hs hbw hbs
            have d0 := hT.rg.cell 0
            have d1 := hT.rg.cell 1
            simp at d0 d1
            have s0 := HS4.out.cell 0
            have s1 := HS4.out.cell 1
            simp at s0 s1
            have sf := fun i => HS4.out.frozen i
            have wx : IntKind.i64.wrap (rx + dx) = rx + dx := by rw [IntKind.wrap_i64]; omega
            have wy : IntKind.i64.wrap (ry + dy) = ry + dy := by rw [IntKind.wrap_i64]; omega
            have n1 : w.heap.size + 1 ≠ bs := by omega
            have t1 : ∀ (j : Nat) (v : Value), (w4.setCell ⟨bs, j, none⟩ v).cell? ⟨w.heap.size + 1, 0, none⟩ = some (.int .i64 rx) ∧ (w4.setCell ⟨bs, j, none⟩ v).cell? ⟨w.heap.size + 1, 1, none⟩ = some (.int .i64 ry) := fun j v => ⟨far_cell d0 n1 _, far_cell d1 n1 _⟩
            have t2 : ∀ (j k : Nat) (v u : Value), ((w4.setCell ⟨bs, j, none⟩ v).setCell ⟨bs, k, none⟩ u).cell? ⟨w.heap.size + 1, 0, none⟩ = some (.int .i64 rx) ∧ ((w4.setCell ⟨bs, j, none⟩ v).setCell ⟨bs, k, none⟩ u).cell? ⟨w.heap.size + 1, 1, none⟩ = some (.int .i64 ry) := fun j k v u => ⟨far_cell (t1 j v).1 n1 _, far_cell (t1 j v).2 n1 _⟩
            have T1 := hid t1
            have T2 := hid t2
            clear hT t1 t2
            go_region_held3 (fun w' => w'.cell? ⟨w.heap.size + 1, 0, none⟩ = some (.int .i64 rx) ∧ w'.cell? ⟨w.heap.size + 1, 1, none⟩ = some (.int .i64 ry)) (first | exact T1.out _ _ | exact T2.out _ _ _ _ | go_keep) (fail)
            all_goals
              rename_i hH
              clear hH d0 d1 s0 s1 sf wx wy T1 T2
              generalize hw5 : World.drew _ = w5
              have hs5 : Blk w5 bs 27 (regA (rx + dx) (ry + dy) p q) := by
                rw [← hw5]
                have := ((HS4.out.set_ 0 (.int .i64 (rx + dx))).set_ 1 (.int .i64 (ry + dy)))
                simp at this
                exact this
              have hww5 : Blk w5 bw 25 (winA K X' Y' W H S A' n c' o) := by
                rw [← hw5]
                exact (HW4.out.far (p := ⟨bs, 0, none⟩) hne.1 _).far (p := ⟨bs, 1, none⟩) hne.1 _
              have hmb5 : Blk w5 bm 31 (matA rx ry p q (some ⟨g, 0, none⟩) m cc) := by
                rw [← hw5]
                have h : bm ≠ bs := by omega
                exact (HMB4.out.far (p := ⟨bs, 0, none⟩) h _).far (p := ⟨bs, 1, none⟩) h _
              have hrd5 : Rd w5 g 0 m F := by
                rw [← hw5]
                have h : g ≠ bs := by omega
                exact (HRD4.out.far (p := ⟨bs, 0, none⟩) h _).far (p := ⟨bs, 1, none⟩) h _
              have hp5 : Pts w5 A' n (fun i => P i + dx) (fun i => Q i + dy) := fun hn0 => by
                obtain ⟨g', e, hlt⟩ := hps.out hn0
                obtain ⟨b', off', e', hb', hr'⟩ := HP4.out hn0
                rw [e] at e'
                cases e'
                refine ⟨g', 0, e, ?_, ?_⟩
                · rw [← hw5]; simpa [World.setCell] using hb'
                · rw [← hw5]
                  have h : g' ≠ bs := by omega
                  exact (hr'.far (p := ⟨bs, 0, none⟩) h _).far (p := ⟨bs, 1, none⟩) h _
              have hbe5 : Below w.heap.size w w5 := by
                rw [← hw5]
                have h : w.heap.size ≤ bs := by omega
                exact ((HT4.out.be.setCell (p := ⟨bs, 0, none⟩) h _).setCell (p := ⟨bs, 1, none⟩) h _).drew
              have hg5 : g < w5.heap.size := by
                rw [← hw5]
                have h1 := HS4.out.lt
                have : g < w4.heap.size := by omega
                simpa [World.setCell] using this
              have HS5 := hid hs5
              have HW5 := hid hww5
              have HMB5 := hid hmb5
              have HRD5 := hid hrd5
              have HP5 := hid hp5
              have HBE5 := hid hbe5
              clear hw5 hs5 hww5 hmb5 hrd5 hp5 hbe5 HS4 HW4 HMB4 HRD4 HP4 HT4 hps
              have g0 := HW5.out.cell 0
              have g1 := HW5.out.cell 1
              have g2 := HW5.out.cell 2
              have g3 := HW5.out.cell 3
              have g4 := HW5.out.cell 4
              have g5 := HW5.out.cell 5
              have g6 := HW5.out.cell 6
              have g7 := HW5.out.cell 7
              have l0 := HW5.out.lt
              have d0 := HS5.out.cell 0
              have d1 := HS5.out.cell 1
              have d2 := HS5.out.cell 2
              have d3 := HS5.out.cell 3
              have l1 := HS5.out.lt
              simp at g0 g1 g2 g3 g4 g5 g6 g7 d0 d1 d2 d3
              have hr2 := regE_moved (x' := rx + dx) (y' := ry + dy) HG.out
              rcases hr2 with hr2 | hr2
              · have HR2 := hid hr2
                clear hr2
                go_wp2_with fail
                refine (wm_ok K X' Y' W H S A' n c' o (fun i => P i + dx) (fun i => Q i + dy) (rx + dx) (ry + dy) p q m _ HP5.out HE2.out HR2.out HM.out).mono ?_
                rintro e w6 ⟨⟨g', c2, rfl, hcc2, hgl3, G, hRd, hF⟩, hb⟩
                have HRD' := hid hRd
                have HF' := hid hF
                have HMB6 := hid (HMB5.out.below hb HMB5.out.lt)
                have HRD6 := hid (HRD5.out.below hb hg5)
                have HBE6 := hid (below_to HBE5.out hb)
                have hg6 : g < w6.heap.size := Nat.lt_of_lt_of_le hg5 hb.size
                clear hb hRd hF g0 g1 g2 g3 g4 g5 g6 g7 d0 d1 d2 d3 l0 l1
                have HFG : RowKit.Hid (∀ k, k < m → F k = G k ∧ isN .f32 (F k) = false) := hid fun k hk => by
                  have hkq : k / p < q := by
                    rw [Nat.div_lt_iff_lt_mul (by omega)]
                    have := HM.out
                    rw [Nat.mul_comm] at this
                    omega
                  have hkp : k % p < p := Nat.mod_lt _ (by omega)
                  obtain ⟨zx, fx, bx⟩ := HWX.out
                  obtain ⟨zy, fy, by'⟩ := HWY.out
                  have e1 := HF.out k hk
                  have e2 := HF'.out k hk
                  unfold byNum at e1 e2
                  generalize k % p = a at *
                  generalize k / p = b at *
                  have e3 := cov_moved o K X Y W H S n P Q (rx + (a : Int)) (ry + (b : Int)) dx dy zx zy fx fy (by omega) (by omega) (by omega) (by omega) (by omega) (by omega) bx by'
                  rw [← HX'.out, ← HY'.out, show rx + (a : Int) + dx = rx + dx + (a : Int) by omega, show ry + (b : Int) + dy = ry + dy + (b : Int) by omega] at e3
                  rw [e3, ← e1] at e2
                  have nF : isN .f32 (F k) = false := by rw [← isN_cl, e1]; exact covC_num ..
                  have nG : isN .f32 (G k) = false := by rw [← isN_cl, e2, isN_cl]; exact nF
                  unfold cl at e2
                  rw [cn_of_not nF, cn_of_not nG] at e2
                  exact ⟨e2.symm, nF⟩
                have mb : m ≤ 256 := by have h1 := Nat.mul_le_mul p2 q2; have h2 := HM.out; omega
                have b4 := HMB6.out.cell 4
                have lb := HMB6.out.lt
                simp at b4
                go_wp2_with fail
                obtain ⟨w7, hw7⟩ : ∃ w7, w7 = w6.alloc (.cells (matA (rx + dx) (ry + dy) p q (some ⟨g', 0, none⟩) m c2) 31) := ⟨_, rfl⟩
                rw [← hw7]
                have hal : Below w6.heap.size w6 w7 := by rw [hw7]; exact (Below.refl _ _).alloc (Nat.le_refl _) _
                have HRD7 := hid (HRD6.out.below hal hg6)
                have HRE7 := hid (HRD'.out.below hal hgl3)
                have HBE7 := hid (below_to HBE6.out hal)
                have n4 : w7.cell? ⟨w6.heap.size, 4, none⟩ = some (.slice (some ⟨g', 0, none⟩) m c2) := by rw [hw7]; exact (Blk.new_at w6 31 (matA (rx + dx) (ry + dy) p q (some ⟨g', 0, none⟩) m c2) rfl).cell 4
                have b4' : w7.cell? ⟨bm, 4, none⟩ = some (.slice (some ⟨g, 0, none⟩) m cc) := (hal.cell (p := ⟨bm, 4, none⟩) lb).trans b4
                clear hw7 hal b4 lb
                go_loop [100] (fun i => ∃ k : Nat, k ≤ m ∧ i = .int .i64 k) (fun i => m - (intOf i).toNat)
                case atStart => exact ⟨0, Nat.zero_le _, rfl⟩
                case round =>
                  obtain ⟨k, hk, rfl⟩ := hrel
                  by_cases hlt : k < m
                  · obtain ⟨hfg, hn⟩ := HFG.out k hlt
                    have c1 : w7.cell? ⟨g, k, none⟩ = some (.float .f32 (F k)) := by have := HRD7.out k hlt; rwa [Nat.zero_add] at this
                    have c2 : w7.cell? ⟨g', k, none⟩ = some (.float .f32 (F k)) := by have := HRE7.out k hlt; rw [Nat.zero_add, ← hfg] at this; exact this
                    have hs := ne_self .f32 (F k)
                    rw [hn] at hs
                    clear hfg hn
                    go_wp2_with fail
                    go_round
                    case rel => exact ⟨k + 1, by omega, by go_num⟩
                    case measure => simp [intOf]; omega
                  · obtain rfl : k = m := by omega
                    go_wp2_with fail
                    go_ret
                    exact ⟨rfl, HBE7.out⟩
              · have HR2 := hid hr2
                clear hr2
                go_wp2_with fail
                refine (wm_reg K X' Y' W H S A' n c' o (fun i => P i + dx) (fun i => Q i + dy) (rx + dx) (ry + dy) p q _ HP5.out HE2.out (by rw [HR2.out]; decide)).mono ?_
                rintro e w6 ⟨he, hb⟩
                rw [HR2.out] at he
                obtain rfl : e = .returned (.tuple #[.agg zmat, .int .i64 5]) := he
                have HB6 := hid hb
                clear hb g0 g1 g2 g3 g4 g5 g6 g7 d0 d1 d2 d3 l0 l1
                go_wp2_with fail
                go_ret
                exact ⟨rfl, (below_to HBE5.out HB6.out).alloc (by have := HBE5.out.size; have := HB6.out.size; omega) _⟩
          · rw [if_neg hE2]
            obtain ⟨E, hEE⟩ : ∃ E, E = winE K (mvC K X dx) (mvC K Y dy) W H S n (fun i => P i + dx) (fun i => Q i + dy) := ⟨_, rfl⟩
            rw [← hEE] at hE2 ⊢
            have hE2' : (E != 0) = true := by simpa using hE2
            clear hEE hE2
            go_wp2_with fail
            go_ret
            exact ⟨rfl, HT3.out.be.alloc HT3.out.be.size _⟩
        · obtain ⟨E, hEE⟩ : ∃ E, E = regE rx ry p q := ⟨_, rfl⟩
          rw [← hEE] at hG
          have hG' : (E != 0) = true := by simpa using hG
          have HEE := hid hEE
          have HG := hid hG
          clear hEE hG
          go_wp2_with fail
          refine (wm_reg K X Y W H S A n c o P Q rx ry p q _ (HP.out.below HT.out.be) HE.out (by rw [← HEE.out]; exact HG.out)).mono ?_
          rintro e w1 ⟨he, hb⟩
          rw [← HEE.out] at he
          obtain rfl : e = .returned (.tuple #[.agg zmat, .int .i64 E]) := he
          have HB := hid hb
          clear hb g0 g1 g2 g3 g4 g5 g6 g7 d0 d1 d2 d3 l0 l1
          go_wp2_with fail
          go_ret
          exact ⟨rfl, (below_to HT.out.be HB.out).alloc (by have := HT.out.be.size; have := HB.out.size; omega) _⟩
      · obtain ⟨E, hEE⟩ : ∃ E, E = winE K X Y W H S n P Q := ⟨_, rfl⟩
        rw [← hEE] at hE
        have hE' : (E != 0) = true := by simpa using hE
        have HEE := hid hEE
        have HE := hid hE
        clear hEE hE
        go_wp2_with fail
        refine (wm_win K X Y W H S A n c o P Q rx ry p q _ (HP.out.below HT.out.be) (by rw [← HEE.out]; exact HE.out)).mono ?_
        rintro e w1 ⟨he, hb⟩
        rw [← HEE.out] at he
        obtain rfl : e = .returned (.tuple #[.agg zmat, .int .i64 E]) := he
        have HB := hid hb
        clear hb g0 g1 g2 g3 g4 g5 g6 g7 d0 d1 d2 d3 l0 l1
        go_wp2_with fail
        go_ret
        exact ⟨rfl, (below_to HT.out.be HB.out).alloc (by have := HT.out.be.size; have := HB.out.size; omega) _⟩
end Go.Proofs.Ytfeabmdioeelhaa
